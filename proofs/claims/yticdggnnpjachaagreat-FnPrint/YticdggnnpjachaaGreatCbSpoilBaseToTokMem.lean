/-
  What spec.l1Spoil tells: the walk.
  What the specification's draw of a program's text tells: some text,not a long one: the walk.
  A row of tokens in memory,and appending one. No program is spoken of.
-/
import Derived.Test.YticdggnnpjachaaGreatCbDrawBaseToDrawText
namespace Go.Proofs.YticdggnnpjachaaGreat
set_option maxHeartbeats 6400000
set_option maxRecDepth 100000
open Go.RowKit Go.PlainAid
theorem zli {S:Src} {q:Nat×Int} {s:ByteArray} (h:s.size=0):zaW S q s=(strOfNums (tx S q 3).1,(tx S q 3).2):=by rw[zaW,if_pos h]
theorem zlj {S:Src} {q:Nat×Int} {s:ByteArray} {k:Nat} (h:s.size≠0) (j:(bw S q s.size).1=k) (n:(bw S (bw S q s.size).2 4).1=0):zaW S q s=(s.extract 0 k++s.extract (k+1) s.size,(bw S (bw S q s.size).2 4).2):=by
 rw[zaW,if_neg h,if_pos n,j];rfl
theorem zlk {S:Src} {q:Nat×Int} {s:ByteArray} {k:Nat} (h:s.size≠0) (j:(bw S q s.size).1=k) (n:(bw S (bw S q s.size).2 4).1=1):zaW S q s=(s.extract 0 k++strOfNums [(cb S (bw S (bw S q s.size).2 4).2).1]++s.extract k s.size,(cb S (bw S (bw S q s.size).2 4).2).2):=by
 rw[zaW,if_neg h,if_neg (by omega),if_pos n,j];rfl
theorem zll {S:Src} {q:Nat×Int} {s:ByteArray} {k:Nat} (h:s.size≠0) (j:(bw S q s.size).1=k) (n:(bw S (bw S q s.size).2 4).1=2):zaW S q s=(s.extract 0 k,(bw S (bw S q s.size).2 4).2):=by
 rw[zaW,if_neg h,if_neg (by omega),if_neg (by omega),if_pos n,j];rfl
theorem zlm {S:Src} {q:Nat×Int} {s:ByteArray} {k:Nat} (h:s.size≠0) (n:(bw S q s.size).1=k) (o:(bw S (bw S q s.size).2 4).1≠0) (z:(bw S (bw S q s.size).2 4).1≠1) (j:(bw S (bw S q s.size).2 4).1≠2):
  zaW S q s=(s.extract 0 k++strOfNums [IntKind.u8.wrap (bits .xor .i64 (bt s k) (1+(bw S (bw S (bw S q s.size).2 4).2 255).1))]++s.extract (k+1) s.size,(bw S (bw S (bw S q s.size).2 4).2 255).2):=by
 rw[zaW,if_neg h,if_neg o,if_neg z,if_neg j,n];rfl
theorem zln (S:Src) (I:S.ok) (g:Nat) (q:Nat×Int) (s:ByteArray) (w:World) (X:zR 147 S w g q) (hs:s.size≤100000):
  Calls Tryz.prog 157 #[.pointer (some ⟨g,0,none⟩),.string s] w fun e w'=>e= .returned (.string (zaW S q s).1)∧zR 147 S w' g (zaW S q s).2∧w.grownBy w' (some g):=by
 by_cases H:s.size=0
 ·have D:Hid (zaW S q s=(strOfNums (tx S q 3).1,(tx S q 3).2)):=zli H
  have hq:((s.size:Int)==0)=true:=by rw[H];rfl
  clear H
  go_enter Tryz.func157,Tryz.ntmps157
  go_wp2_with fail
  refine (zlh S I g q 3 _ X (by omega) (by omega)).mono ?_
  rintro e Z ⟨rfl,n,j⟩
  go_wp2
  go_ret
  exact⟨za2 (by rw[D.out]),by rw[D.out];exact n,j⟩
 ·have hq:((s.size:Int)==0)=false:=beq_eq_false_iff_ne.2 (by omega)
  have aa:=zaV S q s.size (by omega)
  obtain⟨k,K⟩: ∃k:Nat,(bw S q s.size).1=k:=⟨(bw S q s.size).1.toNat,by omega⟩
  have HK:Hid ((bw S q s.size).1=k):=K
  have af:k<s.size:=by omega
  have ac:=zaV S (bw S q s.size).2 4 (by omega)
  have hb:=get_bt s
  have ag:=bt_nonneg s k
  have ae:=bt_le s k
  have e1:IntKind.i64.wrap ((k:Int)+1)=(k:Int)+1:=IntWalk.i64_in _ ⟨by omega,by omega⟩
  have e2:IntKind.i64.wrap (bt s k)=bt s k:=IntWalk.i64_in _ ⟨by omega,by omega⟩
  have l1:(0:Int)≤(k:Int):=by omega
  have l2:(k:Int)≤s.size:=by omega
  have l3:(0:Int)≤(k:Int)+1:=by omega
  have l4:(k:Int)+1≤s.size:=by omega
  have z1:(s.extract 0 k).size≤100000:=by simp;omega
  have z2:(s.extract (k+1) s.size).size≤100000:=by simp;omega
  have z3:(s.extract k s.size).size≤100000:=by simp;omega
  have ad:=fun (w:World) (x:Int)=>zfW (P:=Tryz.prog) (src:=44) (dst:=9) Tryz.underlying44 Tryz.underlying5 Tryz.underlying9 w x
  have ab:=fun x=>strOfNums_size [x]
  have y1: ¬(9223372036854775807<min k s.size+1):=by omega
  have y2: ¬(9223372036854775807<min k s.size+1+(s.size-k)):=by omega
  have y3: ¬(9223372036854775807<min k s.size+1+(s.size-(k+1))):=by omega
  clear aa
  by_cases M:(bw S (bw S q s.size).2 4).1=0
  ·have D:Hid (zaW S q s=(s.extract 0 k++s.extract (k+1) s.size,(bw S (bw S q s.size).2 4).2)):=zlj H K M
   have q0:((bw S (bw S q s.size).2 4).1==0)=true:=by simpa using M
   clear K M H
   go_enter Tryz.func157,Tryz.ntmps157
   go_wp2_with fail
   refine (zaD S I g q s.size _ X (by omega)).mono ?_
   rintro e Z ⟨rfl,n,j⟩
   rw[HK.out]
   go_wp2_with fail
   refine (zaD S I g _ 4 _ n (by omega)).mono ?_
   rintro e N ⟨rfl,A,z⟩
   go_wp2
   go_quiet (fail)
   go_wp2
   go_ret
   exact⟨za2 (by rw[D.out]),by rw[D.out];exact zfl A _,zdN (zB j z) _⟩
  ·have q0:((bw S (bw S q s.size).2 4).1==0)=false:=by simpa using M
   by_cases Q:(bw S (bw S q s.size).2 4).1=1
   ·have D:Hid (zaW S q s=(s.extract 0 k++strOfNums [(cb S (bw S (bw S q s.size).2 4).2).1]++s.extract k s.size,(cb S (bw S (bw S q s.size).2 4).2).2)):=zlk H K Q
    have q1:((bw S (bw S q s.size).2 4).1==1)=true:=by simpa using Q
    have Y:=zdt S (bw S (bw S q s.size).2 4).2
    have e3:IntKind.u8.wrap (cb S (bw S (bw S q s.size).2 4).2).1=(cb S (bw S (bw S q s.size).2 4).2).1:=IntWalk.u8_in _ Y
    have z4:(s.extract 0 k++strOfNums [(cb S (bw S (bw S q s.size).2 4).2).1]).size≤100001:=by rw[ByteArray.size_append,strOfNums_size];simp;omega
    clear K M Q H
    go_enter Tryz.func157,Tryz.ntmps157
    go_wp2_with fail
    refine (zaD S I g q s.size _ X (by omega)).mono ?_
    rintro e Z ⟨rfl,n,j⟩
    rw[HK.out]
    go_wp2_with fail
    refine (zaD S I g _ 4 _ n (by omega)).mono ?_
    rintro e N ⟨rfl,A,z⟩
    go_wp2
    have J:zR 147 S N.drew g (bw S (bw S q s.size).2 4).2:=zbS A fun _ _=>rfl
    have E:w.grownBy N.drew (some g):=zdN (zB j z) 1
    have O:=zcB J
    go_region_law (go_simp;go_wp2_with (go_at_call 155;refine (zcW S I g _ _ J).mono ?_;rintro e L ⟨rfl,U,o⟩))
    all_goals
     go_wp2
     go_ret
     refine⟨za2 (by rw[D.out]),?_,zcV (zB E o) ((Below.refl L.heap.size L).alloc (Nat.le_refl _) _) (Nat.le_trans E.size o.size)⟩
     rw[D.out]
     exact zcC U ((Below.refl L.heap.size L).alloc (Nat.le_refl _) _) (Nat.lt_of_lt_of_le O o.size)
   ·have q1:((bw S (bw S q s.size).2 4).1==1)=false:=by simpa using Q
    by_cases V:(bw S (bw S q s.size).2 4).1=2
    ·have D:Hid (zaW S q s=(s.extract 0 k,(bw S (bw S q s.size).2 4).2)):=zll H K V
     have q2:((bw S (bw S q s.size).2 4).1==2)=true:=by simpa using V
     clear K M Q V H
     go_enter Tryz.func157,Tryz.ntmps157
     go_wp2_with fail
     refine (zaD S I g q s.size _ X (by omega)).mono ?_
     rintro e Z ⟨rfl,n,j⟩
     rw[HK.out]
     go_wp2_with fail
     refine (zaD S I g _ 4 _ n (by omega)).mono ?_
     rintro e N ⟨rfl,A,z⟩
     go_wp2
     go_ret
     exact⟨za2 (by rw[D.out]),by rw[D.out];exact A,zB j z⟩
    ·have q2:((bw S (bw S q s.size).2 4).1==2)=false:=by simpa using V
     have D:Hid (zaW S q s=(s.extract 0 k++strOfNums [IntKind.u8.wrap (bits .xor .i64 (bt s k) (1+(bw S (bw S (bw S q s.size).2 4).2 255).1))]++s.extract (k+1) s.size,(bw S (bw S (bw S q s.size).2 4).2 255).2)):=zlm H K M Q V
     have Y:=zaV S (bw S (bw S q s.size).2 4).2 255 (by omega)
     have e3:IntKind.i64.wrap (1+(bw S (bw S (bw S q s.size).2 4).2 255).1)=1+(bw S (bw S (bw S q s.size).2 4).2 255).1:=IntWalk.i64_in _ ⟨by omega,by omega⟩
     have z4:(s.extract 0 k++strOfNums [IntKind.u8.wrap (bits .xor .i64 (bt s k) (1+(bw S (bw S (bw S q s.size).2 4).2 255).1))]).size≤100001:=by rw[ByteArray.size_append,strOfNums_size];simp;omega
     clear K M Q V H
     go_enter Tryz.func157,Tryz.ntmps157
     go_wp2_with fail
     refine (zaD S I g q s.size _ X (by omega)).mono ?_
     rintro e Z ⟨rfl,n,j⟩
     rw[HK.out]
     go_wp2_with fail
     refine (zaD S I g _ 4 _ n (by omega)).mono ?_
     rintro e N ⟨rfl,A,z⟩
     go_wp2
     have J:zR 147 S N.drew g (bw S (bw S q s.size).2 4).2:=zbS A fun _ _=>rfl
     have E:w.grownBy N.drew (some g):=zdN (zB j z) 1
     have O:=zcB J
     go_region_law (go_simp;go_wp2_with (go_at_call 109;refine (zaD S I g _ 255 _ J (by omega)).mono ?_;rintro e L ⟨rfl,U,o⟩))
     all_goals
      go_wp2
      go_ret
      refine⟨za2 (by rw[D.out]),?_,zcV (zB E o) ((Below.refl L.heap.size L).alloc (Nat.le_refl _) _) (Nat.le_trans E.size o.size)⟩
      rw[D.out]
      exact zcC U ((Below.refl L.heap.size L).alloc (Nat.le_refl _) _) (Nat.lt_of_lt_of_le O o.size)
theorem zlo (S:Src) (q:Nat×Int) (s:ByteArray):(zaW S q s).1.size≤s.size+4:=by
 have j:=zk2 S q 3 (by omega)
 unfold zaW
 split
 ·simp only[strOfNums_size];omega
 ·split
  ·simp only[ByteArray.size_append,ByteArray.size_extract];omega
  ·split
   ·simp only[ByteArray.size_append,ByteArray.size_extract,strOfNums_size,List.length_cons,List.length_nil];omega
   ·split
    ·simp only[ByteArray.size_extract];omega
    ·simp only[ByteArray.size_append,ByteArray.size_extract,strOfNums_size,List.length_cons,List.length_nil];omega
theorem zlp (S:Src) (q:S.len≤9223372036854775807) (j:Int) (o:2≤j) (z:j≤1000) (w:World):
  Calls Tryz.prog 55 #[.slice S.a S.len S.cap,.int .i64 j] w fun e n=>(∃r:Nat,e= .returned (.int .i64 (r:Int))∧(r:Int)≤j)∧n=w:=by
 go_enter Tryz.func55,Tryz.ntmps55
 by_cases h:j<2+(S.len:Int)/20
 ·go_wp2
  go_ret
  exact⟨⟨j.toNat,by rw[Int.toNat_of_nonneg (by omega)];rfl,by omega⟩,rfl⟩
 ·go_wp2
  go_ret
  exact⟨⟨(2+(S.len:Int)/20).toNat,by rw[Int.toNat_of_nonneg (by omega)];rfl,by omega⟩,rfl⟩
theorem zlq (S:Src) (L:S.ok) (g:Nat) (n:Nat) (hm:n≤10) (O:Bool) (M:Nat×Int) (w0:World) (j:zR 147 S w0 g M):
  Calls Tryz.prog 110 #[.pointer (some ⟨g,0,none⟩),.int .i64 (n:Int),.bool O] w0 (zcG S g 20000 w0):=by
 have Z:=zc j
 have Y:Hid (w0.grownBy w0 (some g)):=⟨rfl,rfl,rfl,Nat.le_refl _,fun _ _ _=>rfl⟩
 clear j
 go_enter Tryz.func110,Tryz.ntmps110
 go_wp2_with fail
 refine (zaD S L g M ((n:Int)+1) _ Z.out (by omega)).mono ?_
 rintro e w1 ⟨rfl,j,o⟩
 have U:=zaV S M ((n:Int)+1) (by omega)
 obtain⟨k1,hk⟩: ∃k:Nat,(bw S M ((n:Int)+1)).1=k:=⟨(bw S M ((n:Int)+1)).1.toNat,by omega⟩
 obtain⟨q1,J⟩: ∃N,(bw S M ((n:Int)+1)).2=N:=⟨_,rfl⟩
 rw[hk] at U ⊢
 rw[J] at j
 have A:=zc j
 have z:=zc (zB Y.out o)
 have kb:k1≤10:=by omega
 clear j o U hk J
 go_wp2
 go_loopg [7,8] k1 (fun k sv nv wr=>∃(x:ByteArray) (q:Nat×Int),nv= .int .i64 (k:Int)∧sv= .string x∧k≤10∧x.size+1501*k≤15010∧zR 147 S wr g q∧w0.grownBy wr (some g))
 case atStart=>exact⟨_,q1,rfl,rfl,kb,by have:({data:=#[]}:ByteArray).size=0:=rfl;omega,A.out,z.out⟩
 case round=>
  obtain⟨x,q,rfl,rfl,hk,hx,Q,V⟩:=hrel
  clear A z
  have A:=zc Q
  have z:=zc V
  clear Q V
  by_cases ad:0<gk
  ·have aa:0<(gk:Int):=by omega
   go_wp2_with fail
   refine (zlf S L g O q _ A.out).mono ?_
   rintro e w2 ⟨X,K,rfl,z2,j,o⟩
   have H:=zc j
   have D:=zc (zB z.out o)
   clear j o
   have hz:(x++X++({data:=#[10]}:ByteArray)).size=x.size+X.size+1:=by rw[ByteArray.size_append,ByteArray.size_append];rfl
   have ae:(x++X).size=x.size+X.size:=ByteArray.size_append
   have ek:(gk:Int)-1=((gk-1:Nat):Int):=by omega
   go_wp2
   go_roundg (gk-1)
   case rel=>exact⟨_,K,rfl,rfl,by omega,by omega,H.out,D.out⟩
   case measure=>omega
  ·have aa: ¬0<(gk:Int):=by omega
   go_wp2_with fail
   refine (zcD S L g _ 6 _ A.out (by omega)).mono ?_
   rintro e w2 ⟨rfl,j,o⟩
   obtain⟨K,J⟩: ∃N,(bw S q 6).2=N:=⟨_,rfl⟩
   rw[J] at j
   have H:=zc j
   have D:=zc (zB z.out o)
   clear j o J
   generalize ((bw S q 6).1==0)=b
   cases b with
   |true=>
    go_wp2_with fail
    refine (zln S L g K x _ H.out (by omega)).mono ?_
    rintro e w3 ⟨rfl,j,o⟩
    have hs:=zlo S K x
    have I:=zc j
    have E:=zc (zB D.out o)
    clear j o
    generalize zaW S K x=y at*
    go_wp2
    go_ret
    exact⟨y.1,y.2,rfl,by omega,I.out,E.out⟩
   |false=>
    go_wp2_with fail
    refine (zcD S L g _ 15 _ H.out (by omega)).mono ?_
    rintro e w3 ⟨rfl,j,o⟩
    obtain⟨q3,J⟩: ∃N,(bw S K 15).2=N:=⟨_,rfl⟩
    rw[J] at j
    have I:=zc j
    have E:=zc (zB D.out o)
    clear j o J
    generalize ((bw S K 15).1==0)=b
    cases b with
    |true=>
     go_wp2_with fail
     refine (zbz S L g _ 100 [{data:=#[105,109,112,111,114,116,32,100,101,102,97,117,108,116,32,102,114,111,109,32,34,120,34,59]},{data:=#[101,120,112,111,114,116,32,123,32,100,101,102,97,117,108,116,32,125,59]},{data:=#[105,109,112,111,114,116,32,123,32,100,101,102,97,117,108,116,32,125,32,102,114,111,109,32,34,120,34,59]},{data:=#[108,101,116,32,108,101,116,32,61,32,49,59]},{data:=#[112,114,105,110,116,40,49,59]},{data:=#[97,32,61,32,59]},{data:=#[101,120,112,111,114,116]},{data:=#[102,97,105,108,32,49,59]},{data:=#[108,101,116,32,117,110,100,101,102,32,61,32,49,59]},{data:=#[105,109,112,111,114,116,32,123,32,97,32,97,115,32,100,101,102,97,117,108,116,32,125,32,102,114,111,109,32,34,120,34,59]},{data:=#[112,114,105,110,116,40,40,40,40,40,40,40,40,40,40,40,40,40,40,40,40,40,40,40,40,40,40,49,41,41,41,41,41,41,41,41,41,41,41,41,41,41,41,41,41,41,41,41,41,41,59]}] _ I.out (by simp) (by simp) (by intro x hx;simp only[List.mem_cons,List.not_mem_nil,or_false] at hx;rcases hx with rfl|rfl|rfl|rfl|rfl|rfl|rfl|rfl|rfl|rfl|rfl<;>decide)).mono ?_
     rintro e w4 ⟨x4,q4,rfl,z4,j,o⟩
     have ab:=zc j
     have ac:=zc (zB E.out o)
     clear j o
     have hz:(x++x4).size=x.size+x4.size:=ByteArray.size_append
     go_wp2
     go_ret
     exact⟨_,q4,rfl,by omega,ab.out,ac.out⟩
    |false=>
     go_wp2
     go_ret
     exact⟨x,q3,rfl,by omega,I.out,E.out⟩
def tkL (t:Tk):List Value:=[.int .i64 t.kind,.string t.text,.int .i64 t.num,.int .i64 t.pos]
def OwnT (w:World) (base:Nat) (e:TypeId) (g n cap:Nat) (ts:List Tk):Prop:=w.ownsRow base e 4 (.slice (some ⟨g,0,none⟩) n cap) n (ts.flatMap tkL)∧n=ts.length
theorem zan {w:World} {j g n o:Nat} {e:TypeId} {I:List Tk} (h:OwnT w j e g n o I):g<w.heap.size∧j≤g∧n≤o:=by
 rcases h.1.2 with ⟨q,_⟩|⟨J,z,A,q,H,E,D,_⟩
 ·simp at q
 ·simp only[Value.slice.injEq,Option.some.injEq,Addr.mk.injEq,and_true,true_and] at q
  obtain⟨rfl,rfl⟩:=q
  exact⟨(Array.getElem?_eq_some_iff.1 E).1,H,D⟩
theorem zbV {w W:World} {j g n o:Nat} {e:TypeId} {H:List Tk} (h:OwnT w j e g n o H) (J:Below w.heap.size w W):OwnT W j e g n o H:=by
 have A:=(zan h).1
 refine⟨⟨h.1.1,?_⟩,h.2⟩
 rcases h.1.2 with k|⟨L,D,z,E,q,I,K⟩
 ·exact .inl k
 ·simp only[Value.slice.injEq,Option.some.injEq,Addr.mk.injEq,and_true,true_and] at E
  obtain⟨rfl,rfl⟩:=E
  exact .inr ⟨g,o,z,rfl,q,(J.block g A).trans I,K⟩
theorem zgr (w:World) (e:TypeId) (j:Nat) (n:j≤w.heap.size):OwnT (w.alloc (.cells #[] e)) j e w.heap.size 0 0 []:=
 ⟨World.ownsRow_lit w #[] 0 n (by unfold maxLen;omega) rfl,rfl⟩
theorem zlr {P:Program} (w:World) {L:Array Oper} {rest:List Oper} {o:Oper} {a:Act} {Q:Exit→Act→World→Prop} (N:o.guard=none) (s x:Operand) (t:TypeId)
  (ho:o.op= .call {callee:=.builtin .append,args:=#[s,x],argTypes:=#[t,t]})
  (q:Nat) (e:TypeId) (i:TypeInfo) (z:Value) (ht:P.underlying t=some (.slice e)) (hi:P.info? e=some i) (hz:i.zero=some z) (H:i.size=4) (U:i.bytes=40) (O:z.cells.size=4)
  (g n K:Nat) (Y:List Tk) (hs:a.eval s= .slice (some ⟨g,0,none⟩) n K) (E:OwnT w q e g n K Y)
  (b:Tk) (gx:Nat) (X:gx=w.heap.size) (hx:a.eval x= .slice (some ⟨gx,0,none⟩) 1 1) (hn:n+1≤1000000) (I:q≤w.heap.size)
  (h: ∀M D J,OwnT J q e M (n+1) D (Y++[b])→Below q w J→wpList P L Q rest (a.put o.dst (.slice (some ⟨M,0,none⟩) (n+1) D)) J):
  wpList P L Q (o::rest) a (w.alloc (.cells #[.int .i64 b.kind,.string b.text,.int .i64 b.num,.int .i64 b.pos] e)):=by
 subst X
 refine wpList_append_own _ N s x t ho q e i z 4 40 ht hi hz H U O (by decide) _ n _ hs (E.1.alloc _) ⟨w.heap.size,0,none⟩ 1 1 (tkL b) hx rfl ?_ ?_ ?_ ?_ ?_ ?_
 ·intro j u A
  match j,A with
  |0,A=>simp[tkL] at A;subst A;simp[Addr.add]
  |1,A=>simp[tkL] at A;subst A;simp[Addr.add]
  |2,A=>simp[tkL] at A;subst A;simp[Addr.add]
  |3,A=>simp[tkL] at A;subst A;simp[Addr.add]
  |j+4,A=>simp[tkL] at A
 ·intro u hu
  simp[tkL] at hu
  rcases hu with rfl|rfl|rfl|rfl<;>rfl
 ·unfold maxLen;omega
 ·omega
 ·simp;omega
 ·intro v' J Z h2 h3
  have hb:Below q w J:=((Below.refl q w).alloc I _).grown h2 (by simp;omega) (zfj E.1)
  rcases Z.2 with ⟨hv,_⟩|⟨M,D,aa,rfl,V⟩
  ·have:=(h3.1 hv).1
   simp at this
  ·refine h M D J ⟨?_,by rw[List.length_append];have:=E.2;simp;omega⟩ hb
   rw[List.flatMap_append]
   simpa using Z
end Go.Proofs.YticdggnnpjachaaGreat
