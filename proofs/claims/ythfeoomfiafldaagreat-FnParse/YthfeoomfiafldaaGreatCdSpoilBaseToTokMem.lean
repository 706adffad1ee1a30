/-
  What spec.l1Spoil tells: the walk.
  What the specification's draw of a program's text tells: some text,not a long one: the walk.
  A row of tokens in memory,and appending one. No program is spoken of.
-/
import Derived.Test.YthfeoomfiafldaaGreatCdDrawBaseToDrawText
namespace Go.Proofs.YthfeoomfiafldaaGreat
set_option maxHeartbeats 6400000
set_option maxRecDepth 100000
open Go.RowKit Go.PlainAid
theorem znH {S:Src} {q:Nat×Int} {s:ByteArray} (h:s.size=0):zbm S q s=(strOfNums (tx S q 3).1,(tx S q 3).2):=by rw[zbm,if_pos h]
theorem znI {S:Src} {q:Nat×Int} {s:ByteArray} {k:Nat} (h:s.size≠0) (j:(bw S q s.size).1=k) (o:(bw S (bw S q s.size).2 4).1=0):zbm S q s=(s.extract 0 k++s.extract (k+1) s.size,(bw S (bw S q s.size).2 4).2):=by
 rw[zbm,if_neg h,if_pos o,j];rfl
theorem znJ {S:Src} {q:Nat×Int} {s:ByteArray} {k:Nat} (h:s.size≠0) (j:(bw S q s.size).1=k) (o:(bw S (bw S q s.size).2 4).1=1):zbm S q s=(s.extract 0 k++strOfNums [(cb S (bw S (bw S q s.size).2 4).2).1]++s.extract k s.size,(cb S (bw S (bw S q s.size).2 4).2).2):=by
 rw[zbm,if_neg h,if_neg (by omega),if_pos o,j];rfl
theorem znK {S:Src} {q:Nat×Int} {s:ByteArray} {k:Nat} (h:s.size≠0) (j:(bw S q s.size).1=k) (o:(bw S (bw S q s.size).2 4).1=2):zbm S q s=(s.extract 0 k,(bw S (bw S q s.size).2 4).2):=by
 rw[zbm,if_neg h,if_neg (by omega),if_neg (by omega),if_pos o,j];rfl
theorem znL {S:Src} {q:Nat×Int} {s:ByteArray} {k:Nat} (h:s.size≠0) (j:(bw S q s.size).1=k) (o:(bw S (bw S q s.size).2 4).1≠0) (z:(bw S (bw S q s.size).2 4).1≠1) (D:(bw S (bw S q s.size).2 4).1≠2):
  zbm S q s=(s.extract 0 k++strOfNums [IntKind.u8.wrap (bits .xor .i64 (bt s k) (1+(bw S (bw S (bw S q s.size).2 4).2 255).1))]++s.extract (k+1) s.size,(bw S (bw S (bw S q s.size).2 4).2 255).2):=by
 rw[zbm,if_neg h,if_neg o,if_neg z,if_neg D,j];rfl
theorem znM (S:Src) (K:S.ok) (g:Nat) (q:Nat×Int) (s:ByteArray) (w:World) (hc:zae 83 S w g q) (hs:s.size≤100000):
  Calls Tryz.prog 33 #[.pointer (some ⟨g,0,none⟩),.string s] w fun e w'=>e= .returned (.string (zbm S q s).1)∧zae 83 S w' g (zbm S q s).2∧w.grownBy w' (some g):=by
 by_cases L:s.size=0
 ·have H:Hid (zbm S q s=(strOfNums (tx S q 3).1,(tx S q 3).2)):=znH L
  have hq:((s.size:Int)==0)=true:=by rw[L];rfl
  clear L
  go_enter Tryz.func33,Tryz.ntmps33
  go_wp2_with fail
  refine (znG S K g q 3 _ hc (by omega) (by omega)).mono ?_
  rintro e w1 ⟨rfl,j,o⟩
  go_wp2
  go_ret
  exact⟨zdF (by rw[H.out]),by rw[H.out];exact j,o⟩
 ·have hq:((s.size:Int)==0)=false:=beq_eq_false_iff_ne.2 (by omega)
  have aa:=zcB S q s.size (by omega)
  obtain⟨k,M⟩: ∃k:Nat,(bw S q s.size).1=k:=⟨(bw S q s.size).1.toNat,by omega⟩
  have HK:Hid ((bw S q s.size).1=k):=M
  have ag:k<s.size:=by omega
  have af:=zcB S (bw S q s.size).2 4 (by omega)
  have hb:=get_bt s
  have ac:=bt_nonneg s k
  have ad:=bt_le s k
  have e1:IntKind.i64.wrap ((k:Int)+1)=(k:Int)+1:=IntWalk.i64_in _ ⟨by omega,by omega⟩
  have e2:IntKind.i64.wrap (bt s k)=bt s k:=IntWalk.i64_in _ ⟨by omega,by omega⟩
  have l1:(0:Int)≤(k:Int):=by omega
  have l2:(k:Int)≤s.size:=by omega
  have l3:(0:Int)≤(k:Int)+1:=by omega
  have l4:(k:Int)+1≤s.size:=by omega
  have z1:(s.extract 0 k).size≤100000:=by simp;omega
  have z2:(s.extract (k+1) s.size).size≤100000:=by simp;omega
  have z3:(s.extract k s.size).size≤100000:=by simp;omega
  have ae:=fun (w:World) (x:Int)=>zhx (P:=Tryz.prog) (src:=22) (dst:=9) Tryz.underlying22 Tryz.underlying5 Tryz.underlying9 w x
  have ab:=fun x=>strOfNums_size [x]
  have y1: ¬(9223372036854775807<min k s.size+1):=by omega
  have y2: ¬(9223372036854775807<min k s.size+1+(s.size-k)):=by omega
  have y3: ¬(9223372036854775807<min k s.size+1+(s.size-(k+1))):=by omega
  clear aa
  by_cases O:(bw S (bw S q s.size).2 4).1=0
  ·have H:Hid (zbm S q s=(s.extract 0 k++s.extract (k+1) s.size,(bw S (bw S q s.size).2 4).2)):=znI L M O
   have q0:((bw S (bw S q s.size).2 4).1==0)=true:=by simpa using O
   clear M O L
   go_enter Tryz.func33,Tryz.ntmps33
   go_wp2_with fail
   refine (zbI S K g q s.size _ hc (by omega)).mono ?_
   rintro e w1 ⟨rfl,j,o⟩
   rw[HK.out]
   go_wp2_with fail
   refine (zbI S K g _ 4 _ j (by omega)).mono ?_
   rintro e Q ⟨rfl,D,z⟩
   go_wp2
   go_quiet (fail)
   go_wp2
   go_ret
   exact⟨zdF (by rw[H.out]),by rw[H.out];exact zgs D _,zeH (zN o z) _⟩
  ·have q0:((bw S (bw S q s.size).2 4).1==0)=false:=by simpa using O
   by_cases X:(bw S (bw S q s.size).2 4).1=1
   ·have H:Hid (zbm S q s=(s.extract 0 k++strOfNums [(cb S (bw S (bw S q s.size).2 4).2).1]++s.extract k s.size,(cb S (bw S (bw S q s.size).2 4).2).2)):=znJ L M X
    have q1:((bw S (bw S q s.size).2 4).1==1)=true:=by simpa using X
    have Z:=zdV S (bw S (bw S q s.size).2 4).2
    have e3:IntKind.u8.wrap (cb S (bw S (bw S q s.size).2 4).2).1=(cb S (bw S (bw S q s.size).2 4).2).1:=IntWalk.u8_in _ Z
    have z4:(s.extract 0 k++strOfNums [(cb S (bw S (bw S q s.size).2 4).2).1]).size≤100001:=by rw[ByteArray.size_append,strOfNums_size];simp;omega
    clear M O X L
    go_enter Tryz.func33,Tryz.ntmps33
    go_wp2_with fail
    refine (zbI S K g q s.size _ hc (by omega)).mono ?_
    rintro e w1 ⟨rfl,j,o⟩
    rw[HK.out]
    go_wp2_with fail
    refine (zbI S K g _ 4 _ j (by omega)).mono ?_
    rintro e Q ⟨rfl,D,z⟩
    go_wp2
    have J:zae 83 S Q.drew g (bw S (bw S q s.size).2 4).2:=zgr D fun _ _=>rfl
    have I:w.grownBy Q.drew (some g):=zeH (zN o z) 1
    have V:=zdW J
    go_region_law (go_simp;go_wp2_with (go_at_call 77;refine (zdu S K g _ _ J).mono ?_;rintro e N ⟨rfl,U,E⟩))
    all_goals
     go_wp2
     go_ret
     refine⟨zdF (by rw[H.out]),?_,zdH (zN I E) ((Below.refl N.heap.size N).alloc (Nat.le_refl _) _) (Nat.le_trans I.size E.size)⟩
     rw[H.out]
     exact zdt U ((Below.refl N.heap.size N).alloc (Nat.le_refl _) _) (Nat.lt_of_lt_of_le V E.size)
   ·have q1:((bw S (bw S q s.size).2 4).1==1)=false:=by simpa using X
    by_cases Y:(bw S (bw S q s.size).2 4).1=2
    ·have H:Hid (zbm S q s=(s.extract 0 k,(bw S (bw S q s.size).2 4).2)):=znK L M Y
     have q2:((bw S (bw S q s.size).2 4).1==2)=true:=by simpa using Y
     clear M O X Y L
     go_enter Tryz.func33,Tryz.ntmps33
     go_wp2_with fail
     refine (zbI S K g q s.size _ hc (by omega)).mono ?_
     rintro e w1 ⟨rfl,j,o⟩
     rw[HK.out]
     go_wp2_with fail
     refine (zbI S K g _ 4 _ j (by omega)).mono ?_
     rintro e Q ⟨rfl,D,z⟩
     go_wp2
     go_ret
     exact⟨zdF (by rw[H.out]),by rw[H.out];exact D,zN o z⟩
    ·have q2:((bw S (bw S q s.size).2 4).1==2)=false:=by simpa using Y
     have H:Hid (zbm S q s=(s.extract 0 k++strOfNums [IntKind.u8.wrap (bits .xor .i64 (bt s k) (1+(bw S (bw S (bw S q s.size).2 4).2 255).1))]++s.extract (k+1) s.size,(bw S (bw S (bw S q s.size).2 4).2 255).2)):=znL L M O X Y
     have Z:=zcB S (bw S (bw S q s.size).2 4).2 255 (by omega)
     have e3:IntKind.i64.wrap (1+(bw S (bw S (bw S q s.size).2 4).2 255).1)=1+(bw S (bw S (bw S q s.size).2 4).2 255).1:=IntWalk.i64_in _ ⟨by omega,by omega⟩
     have z4:(s.extract 0 k++strOfNums [IntKind.u8.wrap (bits .xor .i64 (bt s k) (1+(bw S (bw S (bw S q s.size).2 4).2 255).1))]).size≤100001:=by rw[ByteArray.size_append,strOfNums_size];simp;omega
     clear M O X Y L
     go_enter Tryz.func33,Tryz.ntmps33
     go_wp2_with fail
     refine (zbI S K g q s.size _ hc (by omega)).mono ?_
     rintro e w1 ⟨rfl,j,o⟩
     rw[HK.out]
     go_wp2_with fail
     refine (zbI S K g _ 4 _ j (by omega)).mono ?_
     rintro e Q ⟨rfl,D,z⟩
     go_wp2
     have J:zae 83 S Q.drew g (bw S (bw S q s.size).2 4).2:=zgr D fun _ _=>rfl
     have I:w.grownBy Q.drew (some g):=zeH (zN o z) 1
     have V:=zdW J
     go_region_law (go_simp;go_wp2_with (go_at_call 31;refine (zbI S K g _ 255 _ J (by omega)).mono ?_;rintro e N ⟨rfl,U,E⟩))
     all_goals
      go_wp2
      go_ret
      refine⟨zdF (by rw[H.out]),?_,zdH (zN I E) ((Below.refl N.heap.size N).alloc (Nat.le_refl _) _) (Nat.le_trans I.size E.size)⟩
      rw[H.out]
      exact zdt U ((Below.refl N.heap.size N).alloc (Nat.le_refl _) _) (Nat.lt_of_lt_of_le V E.size)
theorem znN (S:Src) (q:Nat×Int) (s:ByteArray):(zbm S q s).1.size≤s.size+4:=by
 have j:=zna S q 3 (by omega)
 unfold zbm
 split
 ·simp only[strOfNums_size];omega
 ·split
  ·simp only[ByteArray.size_append,ByteArray.size_extract];omega
  ·split
   ·simp only[ByteArray.size_append,ByteArray.size_extract,strOfNums_size,List.length_cons,List.length_nil];omega
   ·split
    ·simp only[ByteArray.size_extract];omega
    ·simp only[ByteArray.size_append,ByteArray.size_extract,strOfNums_size,List.length_cons,List.length_nil];omega
theorem znO (S:Src) (z:S.len≤9223372036854775807) (j:Int) (D:2≤j) (E:j≤1000) (w:World):
  Calls Tryz.prog 17 #[.slice S.a S.len S.cap,.int .i64 j] w fun e o=>(∃r:Nat,e= .returned (.int .i64 (r:Int))∧(r:Int)≤j)∧o=w:=by
 go_enter Tryz.func17,Tryz.ntmps17
 by_cases h:j<2+(S.len:Int)/20
 ·go_wp2
  go_ret
  exact⟨⟨j.toNat,by rw[Int.toNat_of_nonneg (by omega)];rfl,by omega⟩,rfl⟩
 ·go_wp2
  go_ret
  exact⟨⟨(2+(S.len:Int)/20).toNat,by rw[Int.toNat_of_nonneg (by omega)];rfl,by omega⟩,rfl⟩
theorem znP (S:Src) (N:S.ok) (g:Nat) (o:Nat) (hm:o≤10) (scr:Bool) (O:Nat×Int) (w0:World) (j:zae 83 S w0 g O):
  Calls Tryz.prog 16 #[.pointer (some ⟨g,0,none⟩),.int .i64 (o:Int),.bool scr] w0 (zdM S g 20000 w0):=by
 have Z:=zc j
 have ab:Hid (w0.grownBy w0 (some g)):=⟨rfl,rfl,rfl,Nat.le_refl _,fun _ _ _=>rfl⟩
 clear j
 go_enter Tryz.func16,Tryz.ntmps16
 go_wp2_with fail
 refine (zbI S N g O ((o:Int)+1) _ Z.out (by omega)).mono ?_
 rintro e w1 ⟨rfl,j,z⟩
 have U:=zcB S O ((o:Int)+1) (by omega)
 obtain⟨k1,hk⟩: ∃k:Nat,(bw S O ((o:Int)+1)).1=k:=⟨(bw S O ((o:Int)+1)).1.toNat,by omega⟩
 obtain⟨q1,L⟩: ∃Q,(bw S O ((o:Int)+1)).2=Q:=⟨_,rfl⟩
 rw[hk] at U ⊢
 rw[L] at j
 have E:=zc j
 have D:=zc (zN ab.out z)
 have kb:k1≤10:=by omega
 clear j z U hk L
 go_wp2
 go_loopg [7,8] k1 (fun k sv nv wr=>∃(x:ByteArray) (q:Nat×Int),nv= .int .i64 (k:Int)∧sv= .string x∧k≤10∧x.size+1501*k≤15010∧zae 83 S wr g q∧w0.grownBy wr (some g))
 case atStart=>exact⟨_,q1,rfl,rfl,kb,by have:({data:=#[]}:ByteArray).size=0:=rfl;omega,E.out,D.out⟩
 case round=>
  obtain⟨x,q,rfl,rfl,hk,hx,V,X⟩:=hrel
  clear E D
  have E:=zc V
  have D:=zc X
  clear V X
  by_cases ae:0<gk
  ·have ad:0<(gk:Int):=by omega
   go_wp2_with fail
   refine (znE S N g scr q _ E.out).mono ?_
   rintro e w2 ⟨Y,M,rfl,z2,j,z⟩
   have K:=zc j
   have I:=zc (zN D.out z)
   clear j z
   have hz:(x++Y++({data:=#[10]}:ByteArray)).size=x.size+Y.size+1:=by rw[ByteArray.size_append,ByteArray.size_append];rfl
   have af:(x++Y).size=x.size+Y.size:=ByteArray.size_append
   have ek:(gk:Int)-1=((gk-1:Nat):Int):=by omega
   go_wp2
   go_roundg (gk-1)
   case rel=>exact⟨_,M,rfl,rfl,by omega,by omega,K.out,I.out⟩
   case measure=>omega
  ·have ad: ¬0<(gk:Int):=by omega
   go_wp2_with fail
   refine (zdv S N g _ 6 _ E.out (by omega)).mono ?_
   rintro e w2 ⟨rfl,j,z⟩
   obtain⟨M,L⟩: ∃Q,(bw S q 6).2=Q:=⟨_,rfl⟩
   rw[L] at j
   have K:=zc j
   have I:=zc (zN D.out z)
   clear j z L
   generalize ((bw S q 6).1==0)=b
   cases b with
   |true=>
    go_wp2_with fail
    refine (znM S N g M x _ K.out (by omega)).mono ?_
    rintro e w3 ⟨rfl,j,z⟩
    have hs:=znN S M x
    have H:=zc j
    have J:=zc (zN I.out z)
    clear j z
    generalize zbm S M x=y at*
    go_wp2
    go_ret
    exact⟨y.1,y.2,rfl,by omega,H.out,J.out⟩
   |false=>
    go_wp2_with fail
    refine (zdv S N g _ 15 _ K.out (by omega)).mono ?_
    rintro e w3 ⟨rfl,j,z⟩
    obtain⟨q3,L⟩: ∃Q,(bw S M 15).2=Q:=⟨_,rfl⟩
    rw[L] at j
    have H:=zc j
    have J:=zc (zN I.out z)
    clear j z L
    generalize ((bw S M 15).1==0)=b
    cases b with
    |true=>
     go_wp2_with fail
     refine (zbR S N g _ 100 [{data:=#[105,109,112,111,114,116,32,100,101,102,97,117,108,116,32,102,114,111,109,32,34,120,34,59]},{data:=#[101,120,112,111,114,116,32,123,32,100,101,102,97,117,108,116,32,125,59]},{data:=#[105,109,112,111,114,116,32,123,32,100,101,102,97,117,108,116,32,125,32,102,114,111,109,32,34,120,34,59]},{data:=#[108,101,116,32,108,101,116,32,61,32,49,59]},{data:=#[112,114,105,110,116,40,49,59]},{data:=#[97,32,61,32,59]},{data:=#[101,120,112,111,114,116]},{data:=#[102,97,105,108,32,49,59]},{data:=#[108,101,116,32,117,110,100,101,102,32,61,32,49,59]},{data:=#[105,109,112,111,114,116,32,123,32,97,32,97,115,32,100,101,102,97,117,108,116,32,125,32,102,114,111,109,32,34,120,34,59]},{data:=#[112,114,105,110,116,40,40,40,40,40,40,40,40,40,40,40,40,40,40,40,40,40,40,40,40,40,40,49,41,41,41,41,41,41,41,41,41,41,41,41,41,41,41,41,41,41,41,41,41,41,59]}] _ H.out (by simp) (by simp) (by intro x hx;simp only[List.mem_cons,List.not_mem_nil,or_false] at hx;rcases hx with rfl|rfl|rfl|rfl|rfl|rfl|rfl|rfl|rfl|rfl|rfl<;>decide)).mono ?_
     rintro e w4 ⟨x4,q4,rfl,z4,j,z⟩
     have ac:=zc j
     have aa:=zc (zN J.out z)
     clear j z
     have hz:(x++x4).size=x.size+x4.size:=ByteArray.size_append
     go_wp2
     go_ret
     exact⟨_,q4,rfl,by omega,ac.out,aa.out⟩
    |false=>
     go_wp2
     go_ret
     exact⟨x,q3,rfl,by omega,H.out,J.out⟩
def tkL (t:Tk):List Value:=[.int .i64 t.kind,.string t.text,.int .i64 t.num,.int .i64 t.pos]
def OwnT (w:World) (base:Nat) (e:TypeId) (g n cap:Nat) (ts:List Tk):Prop:=w.ownsRow base e 4 (.slice (some ⟨g,0,none⟩) n cap) n (ts.flatMap tkL)∧n=ts.length
theorem zan {w:World} {j g n o:Nat} {e:TypeId} {E:List Tk} (h:OwnT w j e g n o E):g<w.heap.size∧j≤g∧n≤o:=by
 rcases h.1.2 with ⟨z,_⟩|⟨L,D,K,z,J,I,H,_⟩
 ·simp at z
 ·simp only[Value.slice.injEq,Option.some.injEq,Addr.mk.injEq,and_true,true_and] at z
  obtain⟨rfl,rfl⟩:=z
  exact⟨(Array.getElem?_eq_some_iff.1 I).1,J,H⟩
theorem zcn {w W:World} {j g n o:Nat} {e:TypeId} {H:List Tk} (h:OwnT w j e g n o H) (M:Below w.heap.size w W):OwnT W j e g n o H:=by
 have D:=(zan h).1
 refine⟨⟨h.1.1,?_⟩,h.2⟩
 rcases h.1.2 with k|⟨N,I,E,J,z,L,K⟩
 ·exact .inl k
 ·simp only[Value.slice.injEq,Option.some.injEq,Addr.mk.injEq,and_true,true_and] at J
  obtain⟨rfl,rfl⟩:=J
  exact .inr ⟨g,o,E,rfl,z,(M.block g D).trans L,K⟩
theorem zhG (w:World) (e:TypeId) (j:Nat) (o:j≤w.heap.size):OwnT (w.alloc (.cells #[] e)) j e w.heap.size 0 0 []:=
 ⟨World.ownsRow_lit w #[] 0 o (by unfold maxLen;omega) rfl,rfl⟩
theorem znQ {P:Program} (w:World) {N:Array Oper} {rest:List Oper} {o:Oper} {a:Act} {Q:Exit→Act→World→Prop} (Y:o.guard=none) (s x:Operand) (t:TypeId)
  (ho:o.op= .call {callee:=.builtin .append,args:=#[s,x],argTypes:=#[t,t]})
  (D:Nat) (e:TypeId) (i:TypeInfo) (z:Value) (ht:P.underlying t=some (.slice e)) (hi:P.info? e=some i) (hz:i.zero=some z) (J:i.size=4) (V:i.bytes=40) (Z:z.cells.size=4)
  (g n M:Nat) (ts:List Tk) (hs:a.eval s= .slice (some ⟨g,0,none⟩) n M) (I:OwnT w D e g n M ts)
  (b:Tk) (gx:Nat) (X:gx=w.heap.size) (hx:a.eval x= .slice (some ⟨gx,0,none⟩) 1 1) (hn:n+1≤1000000) (K:D≤w.heap.size)
  (h: ∀O H L,OwnT L D e O (n+1) H (ts++[b])→Below D w L→wpList P N Q rest (a.put o.dst (.slice (some ⟨O,0,none⟩) (n+1) H)) L):
  wpList P N Q (o::rest) a (w.alloc (.cells #[.int .i64 b.kind,.string b.text,.int .i64 b.num,.int .i64 b.pos] e)):=by
 subst X
 refine wpList_append_own _ Y s x t ho D e i z 4 40 ht hi hz J V Z (by decide) _ n _ hs (I.1.alloc _) ⟨w.heap.size,0,none⟩ 1 1 (tkL b) hx rfl ?_ ?_ ?_ ?_ ?_ ?_
 ·intro j u E
  match j,E with
  |0,E=>simp[tkL] at E;subst E;simp[Addr.add]
  |1,E=>simp[tkL] at E;subst E;simp[Addr.add]
  |2,E=>simp[tkL] at E;subst E;simp[Addr.add]
  |3,E=>simp[tkL] at E;subst E;simp[Addr.add]
  |j+4,E=>simp[tkL] at E
 ·intro u hu
  simp[tkL] at hu
  rcases hu with rfl|rfl|rfl|rfl<;>rfl
 ·unfold maxLen;omega
 ·omega
 ·simp;omega
 ·intro v' L h1 h2 h3
  have hb:Below D w L:=((Below.refl D w).alloc K _).grown h2 (by simp;omega) (zgp I.1)
  rcases h1.2 with ⟨hv,_⟩|⟨O,H,aa,rfl,U⟩
  ·have:=(h3.1 hv).1
   simp at this
  ·refine h O H L ⟨?_,by rw[List.length_append];have:=I.2;simp;omega⟩ hb
   rw[List.flatMap_append]
   simpa using h1
end Go.Proofs.YthfeoomfiafldaaGreat
