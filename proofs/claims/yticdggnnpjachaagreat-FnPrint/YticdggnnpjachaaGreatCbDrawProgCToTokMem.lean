/-
  What the specification's draw of a program's text tells: some text,not a long one: the walk.
  A row of tokens in memory,and appending one. No program is spoken of.
-/
import Derived.Deep.LoopGhost
import Derived.Test.YticdggnnpjachaaGreatCbSpoilBase
namespace Go.Proofs.YticdggnnpjachaaGreat
set_option maxRecDepth 100000
set_option maxHeartbeats 6400000
open Go.RowKit Go.PlainAid
theorem zlo (S:Src) (q:Nat×Int) (s:ByteArray):(zaW S q s).1.size≤s.size+4:=by
 have j:=zk2 S q 3 (by omega)
 unfold zaW
 split
 ·simp only[strOfNums_size];omega
 ·split
  ·simp only[ByteArray.size_append,ByteArray.size_extract];omega
  ·split
   ·simp only[ByteArray.size_append,ByteArray.size_extract,strOfNums_size,List.length_cons,List.length_nil];omega
   ·split
    ·simp only[ByteArray.size_extract];omega
    ·simp only[ByteArray.size_append,ByteArray.size_extract,strOfNums_size,List.length_cons,List.length_nil];omega
theorem zlp (S:Src) (q:S.len≤9223372036854775807) (j:Int) (o:2≤j) (z:j≤1000) (w:World):
  Calls Tryz.prog 55 #[.slice S.a S.len S.cap,.int .i64 j] w fun e n=>(∃r:Nat,e= .returned (.int .i64 (r:Int))∧(r:Int)≤j)∧n=w:=by
 go_enter Tryz.func55,Tryz.ntmps55
 by_cases h:j<2+(S.len:Int)/20
 ·go_wp2
  go_ret
  exact⟨⟨j.toNat,by rw[Int.toNat_of_nonneg (by omega)];rfl,by omega⟩,rfl⟩
 ·go_wp2
  go_ret
  exact⟨⟨(2+(S.len:Int)/20).toNat,by rw[Int.toNat_of_nonneg (by omega)];rfl,by omega⟩,rfl⟩
theorem zlq (S:Src) (L:S.ok) (g:Nat) (n:Nat) (hm:n≤10) (O:Bool) (M:Nat×Int) (w0:World) (j:zR 147 S w0 g M):
  Calls Tryz.prog 110 #[.pointer (some ⟨g,0,none⟩),.int .i64 (n:Int),.bool O] w0 (zcG S g 20000 w0):=by
 have aa:=zc j
 have ac:Hid (w0.grownBy w0 (some g)):=⟨rfl,rfl,rfl,Nat.le_refl _,fun _ _ _=>rfl⟩
 clear j
 go_enter Tryz.func110,Tryz.ntmps110
 go_wp2_with fail
 refine (zaD S L g M ((n:Int)+1) _ aa.out (by omega)).mono ?_
 rintro e w1 ⟨rfl,j,o⟩
 have Q:=zaV S M ((n:Int)+1) (by omega)
 obtain⟨k1,hk⟩: ∃k:Nat,(bw S M ((n:Int)+1)).1=k:=⟨(bw S M ((n:Int)+1)).1.toNat,by omega⟩
 obtain⟨q1,J⟩: ∃N,(bw S M ((n:Int)+1)).2=N:=⟨_,rfl⟩
 rw[hk] at Q ⊢
 rw[J] at j
 have z:=zc j
 have A:=zc (zB ac.out o)
 have kb:k1≤10:=by omega
 clear j o Q hk J
 go_wp2
 go_loopg [7,8] k1 (fun k sv nv wr=>∃(x:ByteArray) (q:Nat×Int),nv= .int .i64 (k:Int)∧sv= .string x∧k≤10∧x.size+1501*k≤15010∧zR 147 S wr g q∧w0.grownBy wr (some g))
 case atStart=>exact⟨_,q1,rfl,rfl,kb,by have:({data:=#[]}:ByteArray).size=0:=rfl;omega,z.out,A.out⟩
 case round=>
  obtain⟨x,q,rfl,rfl,hk,hx,V,U⟩:=hrel
  clear z A
  have z:=zc V
  have A:=zc U
  clear V U
  by_cases ad:0<gk
  ·have Y:0<(gk:Int):=by omega
   go_wp2_with fail
   refine (zlf S L g O q _ z.out).mono ?_
   rintro e w2 ⟨X,K,rfl,z2,j,o⟩
   have D:=zc j
   have I:=zc (zB A.out o)
   clear j o
   have hz:(x++X++({data:=#[10]}:ByteArray)).size=x.size+X.size+1:=by rw[ByteArray.size_append,ByteArray.size_append];rfl
   have ae:(x++X).size=x.size+X.size:=ByteArray.size_append
   have ek:(gk:Int)-1=((gk-1:Nat):Int):=by omega
   go_wp2
   go_roundg (gk-1)
   case rel=>exact⟨_,K,rfl,rfl,by omega,by omega,D.out,I.out⟩
   case measure=>omega
  ·have Y: ¬0<(gk:Int):=by omega
   go_wp2_with fail
   refine (zcD S L g _ 6 _ z.out (by omega)).mono ?_
   rintro e w2 ⟨rfl,j,o⟩
   obtain⟨K,J⟩: ∃N,(bw S q 6).2=N:=⟨_,rfl⟩
   rw[J] at j
   have D:=zc j
   have I:=zc (zB A.out o)
   clear j o J
   generalize ((bw S q 6).1==0)=b
   cases b with
   |true=>
    go_wp2_with fail
    refine (zln S L g K x _ D.out (by omega)).mono ?_
    rintro e w3 ⟨rfl,j,o⟩
    have hs:=zlo S K x
    have H:=zc j
    have E:=zc (zB I.out o)
    clear j o
    generalize zaW S K x=y at*
    go_wp2
    go_ret
    exact⟨y.1,y.2,rfl,by omega,H.out,E.out⟩
   |false=>
    go_wp2_with fail
    refine (zcD S L g _ 15 _ D.out (by omega)).mono ?_
    rintro e w3 ⟨rfl,j,o⟩
    obtain⟨q3,J⟩: ∃N,(bw S K 15).2=N:=⟨_,rfl⟩
    rw[J] at j
    have H:=zc j
    have E:=zc (zB I.out o)
    clear j o J
    generalize ((bw S K 15).1==0)=b
    cases b with
    |true=>
     go_wp2_with fail
     refine (zbz S L g _ 100 [{data:=#[105,109,112,111,114,116,32,100,101,102,97,117,108,116,32,102,114,111,109,32,34,120,34,59]},{data:=#[101,120,112,111,114,116,32,123,32,100,101,102,97,117,108,116,32,125,59]},{data:=#[105,109,112,111,114,116,32,123,32,100,101,102,97,117,108,116,32,125,32,102,114,111,109,32,34,120,34,59]},{data:=#[108,101,116,32,108,101,116,32,61,32,49,59]},{data:=#[112,114,105,110,116,40,49,59]},{data:=#[97,32,61,32,59]},{data:=#[101,120,112,111,114,116]},{data:=#[102,97,105,108,32,49,59]},{data:=#[108,101,116,32,117,110,100,101,102,32,61,32,49,59]},{data:=#[105,109,112,111,114,116,32,123,32,97,32,97,115,32,100,101,102,97,117,108,116,32,125,32,102,114,111,109,32,34,120,34,59]},{data:=#[112,114,105,110,116,40,40,40,40,40,40,40,40,40,40,40,40,40,40,40,40,40,40,40,40,40,40,49,41,41,41,41,41,41,41,41,41,41,41,41,41,41,41,41,41,41,41,41,41,41,59]}] _ H.out (by simp) (by simp) (by intro x hx;simp only[List.mem_cons,List.not_mem_nil,or_false] at hx;rcases hx with rfl|rfl|rfl|rfl|rfl|rfl|rfl|rfl|rfl|rfl|rfl<;>decide)).mono ?_
     rintro e w4 ⟨x4,q4,rfl,z4,j,o⟩
     have Z:=zc j
     have ab:=zc (zB E.out o)
     clear j o
     have hz:(x++x4).size=x.size+x4.size:=ByteArray.size_append
     go_wp2
     go_ret
     exact⟨_,q4,rfl,by omega,Z.out,ab.out⟩
    |false=>
     go_wp2
     go_ret
     exact⟨x,q3,rfl,by omega,H.out,E.out⟩
def tkL (t:Tk):List Value:=[.int .i64 t.kind,.string t.text,.int .i64 t.num,.int .i64 t.pos]
def OwnT (w:World) (base:Nat) (e:TypeId) (g n cap:Nat) (ts:List Tk):Prop:=w.ownsRow base e 4 (.slice (some ⟨g,0,none⟩) n cap) n (ts.flatMap tkL)∧n=ts.length
theorem zan {w:World} {j g n o:Nat} {e:TypeId} {E:List Tk} (h:OwnT w j e g n o E):g<w.heap.size∧j≤g∧n≤o:=by
 rcases h.1.2 with ⟨q,_⟩|⟨J,z,D,q,I,H,A,_⟩
 ·simp at q
 ·simp only[Value.slice.injEq,Option.some.injEq,Addr.mk.injEq,and_true,true_and] at q
  obtain⟨rfl,rfl⟩:=q
  exact⟨(Array.getElem?_eq_some_iff.1 H).1,I,A⟩
theorem zbV {w W:World} {j g n o:Nat} {e:TypeId} {D:List Tk} (h:OwnT w j e g n o D) (J:Below w.heap.size w W):OwnT W j e g n o D:=by
 have A:=(zan h).1
 refine⟨⟨h.1.1,?_⟩,h.2⟩
 rcases h.1.2 with k|⟨L,H,z,E,q,I,K⟩
 ·exact .inl k
 ·simp only[Value.slice.injEq,Option.some.injEq,Addr.mk.injEq,and_true,true_and] at E
  obtain⟨rfl,rfl⟩:=E
  exact .inr ⟨g,o,z,rfl,q,(J.block g A).trans I,K⟩
theorem zgr (w:World) (e:TypeId) (j:Nat) (n:j≤w.heap.size):OwnT (w.alloc (.cells #[] e)) j e w.heap.size 0 0 []:=
 ⟨World.ownsRow_lit w #[] 0 n (by unfold maxLen;omega) rfl,rfl⟩
theorem zlr {P:Program} (w:World) {K:Array Oper} {rest:List Oper} {o:Oper} {a:Act} {Q:Exit→Act→World→Prop} (U:o.guard=none) (s x:Operand) (t:TypeId)
  (ho:o.op= .call {callee:=.builtin .append,args:=#[s,x],argTypes:=#[t,t]})
  (q:Nat) (e:TypeId) (i:TypeInfo) (z:Value) (ht:P.underlying t=some (.slice e)) (hi:P.info? e=some i) (hz:i.zero=some z) (H:i.size=4) (O:i.bytes=40) (V:z.cells.size=4)
  (g n L:Nat) (Z:List Tk) (hs:a.eval s= .slice (some ⟨g,0,none⟩) n L) (E:OwnT w q e g n L Z)
  (b:Tk) (Y:Nat) (X:Y=w.heap.size) (hx:a.eval x= .slice (some ⟨Y,0,none⟩) 1 1) (hn:n+1≤1000000) (I:q≤w.heap.size)
  (h: ∀M D J,OwnT J q e M (n+1) D (Z++[b])→Below q w J→wpList P K Q rest (a.put o.dst (.slice (some ⟨M,0,none⟩) (n+1) D)) J):
  wpList P K Q (o::rest) a (w.alloc (.cells #[.int .i64 b.kind,.string b.text,.int .i64 b.num,.int .i64 b.pos] e)):=by
 subst X
 refine wpList_append_own _ U s x t ho q e i z 4 40 ht hi hz H O V (by decide) _ n _ hs (E.1.alloc _) ⟨w.heap.size,0,none⟩ 1 1 (tkL b) hx rfl ?_ ?_ ?_ ?_ ?_ ?_
 ·intro j u A
  match j,A with
  |0,A=>simp[tkL] at A;subst A;simp[Addr.add]
  |1,A=>simp[tkL] at A;subst A;simp[Addr.add]
  |2,A=>simp[tkL] at A;subst A;simp[Addr.add]
  |3,A=>simp[tkL] at A;subst A;simp[Addr.add]
  |j+4,A=>simp[tkL] at A
 ·intro u hu
  simp[tkL] at hu
  rcases hu with rfl|rfl|rfl|rfl<;>rfl
 ·unfold maxLen;omega
 ·omega
 ·simp;omega
 ·intro v' J h1 h2 h3
  have hb:Below q w J:=((Below.refl q w).alloc I _).grown h2 (by simp;omega) (zfj E.1)
  rcases h1.2 with ⟨hv,_⟩|⟨M,D,aa,rfl,N⟩
  ·have:=(h3.1 hv).1
   simp at this
  ·refine h M D J ⟨?_,by rw[List.length_append];have:=E.2;simp;omega⟩ hb
   rw[List.flatMap_append]
   simpa using h1
end Go.Proofs.YticdggnnpjachaaGreat
