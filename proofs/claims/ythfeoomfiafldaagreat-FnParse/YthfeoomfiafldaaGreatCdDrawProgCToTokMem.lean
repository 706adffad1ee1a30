/-
  What the specification's draw of a program's text tells: some text,not a long one: the walk.
  A row of tokens in memory,and appending one. No program is spoken of.
-/
import Derived.Deep.LoopGhost
import Derived.Test.YthfeoomfiafldaaGreatCdSpoilBase
namespace Go.Proofs.YthfeoomfiafldaaGreat
set_option maxRecDepth 100000
set_option maxHeartbeats 6400000
open Go.RowKit Go.PlainAid
theorem znN (S:Src) (q:Nat×Int) (s:ByteArray):(zbm S q s).1.size≤s.size+4:=by
 have j:=zna S q 3 (by omega)
 unfold zbm
 split
 ·simp only[strOfNums_size];omega
 ·split
  ·simp only[ByteArray.size_append,ByteArray.size_extract];omega
  ·split
   ·simp only[ByteArray.size_append,ByteArray.size_extract,strOfNums_size,List.length_cons,List.length_nil];omega
   ·split
    ·simp only[ByteArray.size_extract];omega
    ·simp only[ByteArray.size_append,ByteArray.size_extract,strOfNums_size,List.length_cons,List.length_nil];omega
theorem znO (S:Src) (z:S.len≤9223372036854775807) (j:Int) (E:2≤j) (D:j≤1000) (w:World):
  Calls Tryz.prog 17 #[.slice S.a S.len S.cap,.int .i64 j] w fun e o=>(∃r:Nat,e= .returned (.int .i64 (r:Int))∧(r:Int)≤j)∧o=w:=by
 go_enter Tryz.func17,Tryz.ntmps17
 by_cases h:j<2+(S.len:Int)/20
 ·go_wp2
  go_ret
  exact⟨⟨j.toNat,by rw[Int.toNat_of_nonneg (by omega)];rfl,by omega⟩,rfl⟩
 ·go_wp2
  go_ret
  exact⟨⟨(2+(S.len:Int)/20).toNat,by rw[Int.toNat_of_nonneg (by omega)];rfl,by omega⟩,rfl⟩
theorem znP (S:Src) (O:S.ok) (g:Nat) (j:Nat) (hm:j≤10) (scr:Bool) (N:Nat×Int) (w0:World) (o:zae 83 S w0 g N):
  Calls Tryz.prog 16 #[.pointer (some ⟨g,0,none⟩),.int .i64 (j:Int),.bool scr] w0 (zdM S g 20000 w0):=by
 have aa:=zc o
 have ab:Hid (w0.grownBy w0 (some g)):=⟨rfl,rfl,rfl,Nat.le_refl _,fun _ _ _=>rfl⟩
 clear o
 go_enter Tryz.func16,Tryz.ntmps16
 go_wp2_with fail
 refine (zbI S O g N ((j:Int)+1) _ aa.out (by omega)).mono ?_
 rintro e w1 ⟨rfl,o,z⟩
 have Q:=zcB S N ((j:Int)+1) (by omega)
 obtain⟨k1,hk⟩: ∃k:Nat,(bw S N ((j:Int)+1)).1=k:=⟨(bw S N ((j:Int)+1)).1.toNat,by omega⟩
 obtain⟨q1,L⟩: ∃U,(bw S N ((j:Int)+1)).2=U:=⟨_,rfl⟩
 rw[hk] at Q ⊢
 rw[L] at o
 have E:=zc o
 have D:=zc (zN ab.out z)
 have kb:k1≤10:=by omega
 clear o z Q hk L
 go_wp2
 go_loopg [7,8] k1 (fun k sv nv wr=>∃(x:ByteArray) (q:Nat×Int),nv= .int .i64 (k:Int)∧sv= .string x∧k≤10∧x.size+1501*k≤15010∧zae 83 S wr g q∧w0.grownBy wr (some g))
 case atStart=>exact⟨_,q1,rfl,rfl,kb,by have:({data:=#[]}:ByteArray).size=0:=rfl;omega,E.out,D.out⟩
 case round=>
  obtain⟨x,q,rfl,rfl,hk,hx,V,X⟩:=hrel
  clear E D
  have E:=zc V
  have D:=zc X
  clear V X
  by_cases ae:0<gk
  ·have ac:0<(gk:Int):=by omega
   go_wp2_with fail
   refine (znE S O g scr q _ E.out).mono ?_
   rintro e w2 ⟨Y,M,rfl,z2,o,z⟩
   have H:=zc o
   have K:=zc (zN D.out z)
   clear o z
   have hz:(x++Y++({data:=#[10]}:ByteArray)).size=x.size+Y.size+1:=by rw[ByteArray.size_append,ByteArray.size_append];rfl
   have af:(x++Y).size=x.size+Y.size:=ByteArray.size_append
   have ek:(gk:Int)-1=((gk-1:Nat):Int):=by omega
   go_wp2
   go_roundg (gk-1)
   case rel=>exact⟨_,M,rfl,rfl,by omega,by omega,H.out,K.out⟩
   case measure=>omega
  ·have ac: ¬0<(gk:Int):=by omega
   go_wp2_with fail
   refine (zdv S O g _ 6 _ E.out (by omega)).mono ?_
   rintro e w2 ⟨rfl,o,z⟩
   obtain⟨M,L⟩: ∃U,(bw S q 6).2=U:=⟨_,rfl⟩
   rw[L] at o
   have H:=zc o
   have K:=zc (zN D.out z)
   clear o z L
   generalize ((bw S q 6).1==0)=b
   cases b with
   |true=>
    go_wp2_with fail
    refine (znM S O g M x _ H.out (by omega)).mono ?_
    rintro e w3 ⟨rfl,o,z⟩
    have hs:=znN S M x
    have I:=zc o
    have J:=zc (zN K.out z)
    clear o z
    generalize zbm S M x=y at*
    go_wp2
    go_ret
    exact⟨y.1,y.2,rfl,by omega,I.out,J.out⟩
   |false=>
    go_wp2_with fail
    refine (zdv S O g _ 15 _ H.out (by omega)).mono ?_
    rintro e w3 ⟨rfl,o,z⟩
    obtain⟨q3,L⟩: ∃U,(bw S M 15).2=U:=⟨_,rfl⟩
    rw[L] at o
    have I:=zc o
    have J:=zc (zN K.out z)
    clear o z L
    generalize ((bw S M 15).1==0)=b
    cases b with
    |true=>
     go_wp2_with fail
     refine (zbR S O g _ 100 [{data:=#[105,109,112,111,114,116,32,100,101,102,97,117,108,116,32,102,114,111,109,32,34,120,34,59]},{data:=#[101,120,112,111,114,116,32,123,32,100,101,102,97,117,108,116,32,125,59]},{data:=#[105,109,112,111,114,116,32,123,32,100,101,102,97,117,108,116,32,125,32,102,114,111,109,32,34,120,34,59]},{data:=#[108,101,116,32,108,101,116,32,61,32,49,59]},{data:=#[112,114,105,110,116,40,49,59]},{data:=#[97,32,61,32,59]},{data:=#[101,120,112,111,114,116]},{data:=#[102,97,105,108,32,49,59]},{data:=#[108,101,116,32,117,110,100,101,102,32,61,32,49,59]},{data:=#[105,109,112,111,114,116,32,123,32,97,32,97,115,32,100,101,102,97,117,108,116,32,125,32,102,114,111,109,32,34,120,34,59]},{data:=#[112,114,105,110,116,40,40,40,40,40,40,40,40,40,40,40,40,40,40,40,40,40,40,40,40,40,40,49,41,41,41,41,41,41,41,41,41,41,41,41,41,41,41,41,41,41,41,41,41,41,59]}] _ I.out (by simp) (by simp) (by intro x hx;simp only[List.mem_cons,List.not_mem_nil,or_false] at hx;rcases hx with rfl|rfl|rfl|rfl|rfl|rfl|rfl|rfl|rfl|rfl|rfl<;>decide)).mono ?_
     rintro e w4 ⟨x4,q4,rfl,z4,o,z⟩
     have ad:=zc o
     have Z:=zc (zN J.out z)
     clear o z
     have hz:(x++x4).size=x.size+x4.size:=ByteArray.size_append
     go_wp2
     go_ret
     exact⟨_,q4,rfl,by omega,ad.out,Z.out⟩
    |false=>
     go_wp2
     go_ret
     exact⟨x,q3,rfl,by omega,I.out,J.out⟩
def tkL (t:Tk):List Value:=[.int .i64 t.kind,.string t.text,.int .i64 t.num,.int .i64 t.pos]
def OwnT (w:World) (base:Nat) (e:TypeId) (g n cap:Nat) (ts:List Tk):Prop:=w.ownsRow base e 4 (.slice (some ⟨g,0,none⟩) n cap) n (ts.flatMap tkL)∧n=ts.length
theorem zan {w:World} {j g n o:Nat} {e:TypeId} {H:List Tk} (h:OwnT w j e g n o H):g<w.heap.size∧j≤g∧n≤o:=by
 rcases h.1.2 with ⟨z,_⟩|⟨L,D,K,z,J,I,E,_⟩
 ·simp at z
 ·simp only[Value.slice.injEq,Option.some.injEq,Addr.mk.injEq,and_true,true_and] at z
  obtain⟨rfl,rfl⟩:=z
  exact⟨(Array.getElem?_eq_some_iff.1 I).1,J,E⟩
theorem zcn {w W:World} {j g n z:Nat} {e:TypeId} {H:List Tk} (h:OwnT w j e g n z H) (M:Below w.heap.size w W):OwnT W j e g n z H:=by
 have E:=(zan h).1
 refine⟨⟨h.1.1,?_⟩,h.2⟩
 rcases h.1.2 with k|⟨N,J,D,I,o,L,K⟩
 ·exact .inl k
 ·simp only[Value.slice.injEq,Option.some.injEq,Addr.mk.injEq,and_true,true_and] at I
  obtain⟨rfl,rfl⟩:=I
  exact .inr ⟨g,z,D,rfl,o,(M.block g E).trans L,K⟩
theorem zhG (w:World) (e:TypeId) (j:Nat) (o:j≤w.heap.size):OwnT (w.alloc (.cells #[] e)) j e w.heap.size 0 0 []:=
 ⟨World.ownsRow_lit w #[] 0 o (by unfold maxLen;omega) rfl,rfl⟩
theorem znQ {P:Program} (w:World) {M:Array Oper} {rest:List Oper} {o:Oper} {a:Act} {Q:Exit→Act→World→Prop} (V:o.guard=none) (s x:Operand) (t:TypeId)
  (ho:o.op= .call {callee:=.builtin .append,args:=#[s,x],argTypes:=#[t,t]})
  (D:Nat) (e:TypeId) (i:TypeInfo) (z:Value) (ht:P.underlying t=some (.slice e)) (hi:P.info? e=some i) (hz:i.zero=some z) (J:i.size=4) (X:i.bytes=40) (U:z.cells.size=4)
  (g n N:Nat) (ts:List Tk) (hs:a.eval s= .slice (some ⟨g,0,none⟩) n N) (I:OwnT w D e g n N ts)
  (b:Tk) (gx:Nat) (Z:gx=w.heap.size) (hx:a.eval x= .slice (some ⟨gx,0,none⟩) 1 1) (hn:n+1≤1000000) (K:D≤w.heap.size)
  (h: ∀O H L,OwnT L D e O (n+1) H (ts++[b])→Below D w L→wpList P M Q rest (a.put o.dst (.slice (some ⟨O,0,none⟩) (n+1) H)) L):
  wpList P M Q (o::rest) a (w.alloc (.cells #[.int .i64 b.kind,.string b.text,.int .i64 b.num,.int .i64 b.pos] e)):=by
 subst Z
 refine wpList_append_own _ V s x t ho D e i z 4 40 ht hi hz J X U (by decide) _ n _ hs (I.1.alloc _) ⟨w.heap.size,0,none⟩ 1 1 (tkL b) hx rfl ?_ ?_ ?_ ?_ ?_ ?_
 ·intro j u E
  match j,E with
  |0,E=>simp[tkL] at E;subst E;simp[Addr.add]
  |1,E=>simp[tkL] at E;subst E;simp[Addr.add]
  |2,E=>simp[tkL] at E;subst E;simp[Addr.add]
  |3,E=>simp[tkL] at E;subst E;simp[Addr.add]
  |j+4,E=>simp[tkL] at E
 ·intro u hu
  simp[tkL] at hu
  rcases hu with rfl|rfl|rfl|rfl<;>rfl
 ·unfold maxLen;omega
 ·omega
 ·simp;omega
 ·intro v' L h1 h2 h3
  have hb:Below D w L:=((Below.refl D w).alloc K _).grown h2 (by simp;omega) (zgp I.1)
  rcases h1.2 with ⟨hv,_⟩|⟨O,H,aa,rfl,Y⟩
  ·have:=(h3.1 hv).1
   simp at this
  ·refine h O H L ⟨?_,by rw[List.length_append];have:=I.2;simp;omega⟩ hb
   rw[List.flatMap_append]
   simpa using h1
end Go.Proofs.YthfeoomfiafldaaGreat
