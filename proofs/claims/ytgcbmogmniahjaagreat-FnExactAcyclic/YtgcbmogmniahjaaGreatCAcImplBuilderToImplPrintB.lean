/-
  A strings.Builder (BuilderW) beside the texts of programs.
  What the closure put of impl's Print answers: the walk.
  impl's printer in memory; what quoted,list and kind answer: the walks.
-/
import Derived.Test.YtgcbmogmniahjaaGreatCAcBuilderW
namespace Go.Proofs.YtgcbmogmniahjaaGreat
set_option maxHeartbeats 2000000
set_option maxRecDepth 100000
open Go.RowKit Go.PlainAid Go.Sort
def KeepB (b:Nat) (w w':World):Prop:=∀(k:Nat) (cur:Array Value) (t:TypeId) (fz:Nat×Nat),w.heap[k]? =some (.cells cur t fz)→k≠b→t≠5→w'.heap[k]? =w.heap[k]?
theorem KeepB.refl (b:Nat) (w:World):KeepB b w w:=fun _ _ _ _ _ _ _=>rfl
theorem KeepB.trans {b:Nat} {w A J:World} (h:KeepB b w A) (L:KeepB b A J):KeepB b w J:=fun k q t z H K I=>by
 have e:=h k q t z H K I
 rw[L k q t z (e.trans H) K I,e]
def zl4 (B b:Nat) (bs:List Value) (w w':World):Prop:=Lib.IsBuilder 175 5 B b bs w'∧Below B w w'∧KeepB b w w'
theorem zl5 {h:List ByteArray} {j:Nat} (q:j<h.length):(h.take (j+1)).flatMap Lib.strCells=(h.take j).flatMap Lib.strCells++Lib.strCells h[j]:=by
 rw[List.take_succ_eq_append_getElem q,List.flatMap_append]
 simp
theorem zsV (h:List ByteArray) {j:Nat} (q:j<h.length):((h.take j).flatMap Lib.strCells).length+h[j].size≤(h.flatMap Lib.strCells).length:=by
 have e:=congrArg List.length (congrArg (List.flatMap Lib.strCells) (List.take_append_drop (j+1) h))
 rw[List.flatMap_append,zl5 q] at e
 simp only[List.length_append,Lib.strCells_length] at e
 omega
theorem zsW (B b I:Nat) (M:List Value) (q:List ByteArray) (w:World) (h:Lib.IsBuilder 175 5 B b M w) (hq:w.heap[I]? =some (.cells (q.map Value.string).toArray 9 (0,0))) (aa:M.length+(q.flatMap Lib.strCells).length≤140737488355328) (hn:q.length≤4294967296) (hB:B≤w.heap.size) (N:I≠b):
  Calls Tryz.prog 171 #[.slice (some ⟨I,0,none⟩) q.length q.length,.pointer (some ⟨b,0,none⟩)] w fun e w'=>e= .returned (.tuple #[])∧zl4 B b (M++q.flatMap Lib.strCells) w w':=by
 have HI:=zc h
 have Z:=zc hq
 clear h hq
 go_enter Tryz.func171,Tryz.ntmps171
 go_wp2
 go_loopg [7] q.length (fun k i wr=>∃j:Nat,i= .int .i64 j∧j+k=q.length∧zl4 B b (M++(q.take j).flatMap Lib.strCells) w wr)
 case atStart=>exact⟨0,rfl,by omega,by simp only[List.take_zero,List.flatMap_nil,List.append_nil];exact HI.out,Below.refl _ _,KeepB.refl _ _⟩
 case round=>
  obtain⟨j,rfl,hj,hp⟩:=hrel
  have A:=zc hp
  clear hp
  by_cases z:j<q.length
  ·have K:(j:Int)<(q.length:Int):=by omega
   have U:=zc ((A.out.2.2 I _ _ _ Z.out N (by decide)).trans Z.out)
   have q0:wr.cell? ⟨I,j,none⟩=some (.string q[j]):=by
    rw[Lib.cell_of_heap U.out]
    simp[List.getElem?_eq_getElem z]
   obtain⟨s,V⟩: ∃s,q[j]=s:=⟨_,rfl⟩
   rw[V] at q0
   have HS:=zc V
   clear V
   obtain⟨L,H⟩: ∃L,L=j+1:=⟨_,rfl⟩
   have ej:(j:Int)+1=(L:Int):=by omega
   have X:=zc H
   clear H
   go_wp2_with fail
   have J:=zsV q z
   rw[HS.out] at J
   refine (zsU B b _ s wr A.out.1 (by rw[List.length_append];omega) (by have:=A.out.2.1.size;omega)).mono ?_
   rintro e w2 ⟨rfl,Y⟩
   have O:=zc Y
   clear Y J
   go_wp2
   go_roundg (gk-1)
   case rel=>
    refine⟨L,rfl,by have:=X.out;omega,?_,A.out.2.1.trans O.out.2.1,A.out.2.2.trans O.out.2.2⟩
    rw[X.out,zl5 z,HS.out,←List.append_assoc]
    exact .inr O.out.1
   case measure=>omega
  ·have K: ¬(j:Int)<(q.length:Int):=by omega
   obtain rfl:j=q.length:=by omega
   go_wp2
   go_end0
   exact⟨rfl,by have:=A.out;rw[List.take_length] at this;exact this⟩
theorem zsX (a b:ByteArray):Lib.strCells (a++b)=Lib.strCells a++Lib.strCells b:=by simp[Lib.strCells]
def zt (t:ByteArray) (ps:List ByteArray):ByteArray:=ps.foldl (· ++ ·) t
theorem zl6 (h:List ByteArray): ∀t,Lib.strCells (zt t h)=Lib.strCells t++h.flatMap Lib.strCells:=by
 induction h with
 |nil=>intro t;simp[zt]
 |cons p h q=>
  intro t
  have:=q (t++p)
  simp only[zt,List.foldl_cons] at this ⊢
  rw[this,zsX,List.flatMap_cons,List.append_assoc]
structure PC where
 B:Nat
 b:Nat
 gp:Nat
 base:Nat
 S:Sv
 m:Md
def PP (c:PC) (t:ByteArray) (w:World):Prop:=
 (Lib.IsBuilder 175 5 c.B c.b (Lib.strCells t) w∧c.B≤w.heap.size)∧OwnMd w c.base c.S c.m∧
 (w.heap[c.gp]? =some (.cells #[.slice c.S.rq.a c.m.rq.length c.S.rq.cap,.slice c.S.im.a c.m.im.length c.S.im.cap,.slice c.S.ep.a c.m.ep.length c.S.ep.cap,.slice c.S.st.a c.m.st.length c.S.st.cap,.slice c.S.ex.a c.m.ex.length c.S.ex.cap,.func (.func 171) #[] #[.pointer (some ⟨c.b,0,none⟩)]] 215 (0,0))∧c.gp≠c.b)
theorem zcl {B b:Nat} {z:List Value} {w:World} (h:Lib.IsBuilder 175 5 B b z w): ∃q,w.heap[b]? =some (.cells q 175 (0,0)):=by
 rcases h with ⟨_,v,h,_⟩|⟨_,v,h,_⟩<;>exact⟨_,h⟩
theorem OwnMd.keepT {w w':World} {base b:Nat} {S:Sv} {m:Md} {H:Array Value} (h:OwnMd w base S m) (O:w.heap[b]? =some (.cells H 175 (0,0))) (K:KeepB b w w'):OwnMd w' base S m:=by
 have z: ∀(e:TypeId) (q n:Nat) (r:Rw) (I:List Value),OwnR w base e q r n I→e≠5→e≠175→OwnR w' base e q r n I:=fun e q n r I h L J=>h.keep fun k M=>by
  obtain⟨_,_,c,A⟩:=h.typed M
  refine K k c e _ A (fun N=>?_) L
  rw[N,O] at A
  simp only[Option.some.injEq,Obj.cells.injEq] at A
  exact J A.2.1.symm
 exact⟨z _ _ _ _ _ h.rq (by decide) (by decide),z _ _ _ _ _ h.im (by decide) (by decide),z _ _ _ _ _ h.ep (by decide) (by decide),z _ _ _ _ _ h.st (by decide) (by decide),z _ _ _ _ _ h.ex (by decide) (by decide)⟩
theorem zl7 {B b:Nat} {H:List Value} {w w':World} (h:Lib.IsBuilder 175 5 B b H w) (q:Below w.heap.size w w'):Lib.IsBuilder 175 5 B b H w':=by
 have z: ∀p,Lib.BuilderAt 175 5 B b p H w→Lib.BuilderAt 175 5 B b p H w':=by
  rintro p ⟨hB,v,J,A,I⟩
  refine⟨hB,v,(q.block _ (Array.getElem?_eq_some_iff.1 J).1).trans J,?_,I⟩
  refine A.kept (row:=none) ⟨q.os,q.tape,q.output,q.size,fun k L _=>q.block k L⟩ ?_
  cases K:v.ownBlock with
  |none=>exact .inl rfl
  |some k=>exact .inr (by simp)
 exact h.elim (fun h=>.inl (z _ h)) fun h=>.inr (z _ h)
theorem PP.later {c:PC} {t:ByteArray} {w w':World} (h:PP c t w) (q:Below w.heap.size w w'):PP c t w':=
 ⟨⟨zl7 h.1.1 q,Nat.le_trans h.1.2 q.size⟩,h.2.1.later q,(q.block _ (Array.getElem?_eq_some_iff.1 h.2.2.1).1).trans h.2.2.1,h.2.2.2⟩
theorem KeepB.of_below {b:Nat} {w w':World} (h:Below w.heap.size w w'):KeepB b w w':=fun k _ _ _ q _ _=>h.block k (Array.getElem?_eq_some_iff.1 q).1
def PO (c:PC) (t:ByteArray) (w:World) (e:Ending) (w':World):Prop:=e= .returned (.tuple #[])∧PP c t w'∧Below c.B w w'∧KeepB c.b w w'
theorem zl8 (c:PC) (t:ByteArray) (z:List ByteArray) (I:Nat) (w:World) (h:PP c t w) (H:w.heap[I]? =some (.cells (z.map Value.string).toArray 9 (0,0))) (A:(zt t z).size≤140737488355328) (O:z.length≤4294967296):
  Calls Tryz.prog 171 #[.slice (some ⟨I,0,none⟩) z.length z.length,.pointer (some ⟨c.b,0,none⟩)] w (PO c (zt t z) w):=by
 obtain⟨N,q⟩:=zcl h.1.1
 have J:I≠c.b:=fun e=>by
  rw[e,q] at H
  simp only[Option.some.injEq,Obj.cells.injEq] at H
  exact absurd H.2.1 (by decide)
 refine (zsW c.B c.b I (Lib.strCells t) z w h.1.1 H (by rw[←List.length_append,←zl6,Lib.strCells_length];exact A) O h.1.2 J).mono ?_
 rintro e U ⟨rfl,M,L,K⟩
 rw[←zl6] at M
 exact⟨rfl,⟨⟨M,Nat.le_trans h.1.2 L.size⟩,h.2.1.keepT q K,(K _ _ _ _ h.2.2.1 h.2.2.2 (by decide)).trans h.2.2.1,h.2.2.2⟩,L,K⟩
theorem zbN (c:PC) (t:ByteArray) (q:List ByteArray) (w:World) (h:PP c t w) (z:(zt t q).size≤140737488355328) (L:q.length≤4294967296):
  Calls Tryz.prog 171 #[.slice (some ⟨w.heap.size,0,none⟩) q.length q.length,.pointer (some ⟨c.b,0,none⟩)] (w.alloc (.cells (q.map Value.string).toArray 9)) (PO c (zt t q) w):=by
 have A:Below w.heap.size w (w.alloc (.cells (q.map Value.string).toArray 9)):=(Below.refl _ _).alloc (Nat.le_refl _) _
 refine (zl8 c t q w.heap.size _ (h.later A) (heap_alloc_new w _) z L).mono ?_
 rintro e M ⟨H,J,I,K⟩
 exact⟨H,J,(A.mono h.1.2).trans I,(KeepB.of_below A).trans K⟩
theorem zgR (s:ByteArray) (w:World) (q:s.size≤1099511627776):Calls Tryz.prog 201 #[.string s] w fun e w'=>e= .returned (.string (za1 s))∧w'=w:=by
 have h:Hid (za1 s=({data:=#[34]}:ByteArray)++s++({data:=#[34]}:ByteArray)):=rfl
 go_enter Tryz.func201,Tryz.ntmps201
 go_wp2
 go_ret
 exact⟨by rw[h.out];rfl,rfl⟩
def zcd (a b:ByteArray):ByteArray:=({data:=#[123,32]}:ByteArray)++asT a b++({data:=#[32,125]}:ByteArray)
theorem zit (c:PC) (t a b:ByteArray) (w:World) (h:PP c t w) (q:(t++zcd a b).size≤140737488355328):
  Calls Tryz.prog 224 #[.pointer (some ⟨c.gp,0,none⟩),.string a,.string b] w (PO c (t++zcd a b) w):=by
 have HP:=zc h
 have HL:=zc q
 clear h q
 obtain⟨p0,p1,X,O,V,U,Y⟩:=zw HP.out.2.2.1
 go_enter Tryz.func224,Tryz.ntmps224
 have z1:(({data:=#[123,32]}:ByteArray)).size=2:=rfl
 have z2:(({data:=#[32,125]}:ByteArray)).size=2:=rfl
 have z3:(({data:=#[32,97,115,32]}:ByteArray)).size=4:=rfl
 have q:=HL.out
 simp only[zcd,ByteArray.size_append,z1,z2] at q
 have HZ:=zc q
 clear q
 cases ae:(b.toList==a.toList) with
 |true=>
  have J:(a.toList==b.toList)=true:=by rw[BEq.comm];exact ae
  have Z:Hid (asT a b=a):=by show _=_;rw[asT,J];rfl
  go_wp2_with fail
  refine (zbN c t [{data:=#[123,32]},a] w HP.out (by have:=HZ.out;rw[Z.out] at this;simp only[zt,List.foldl_cons,List.foldl_nil,ByteArray.size_append,z1];omega) (by simp)).mono ?_
  rintro e w1 ⟨rfl,z,M,H⟩
  have K:=zc z
  have ac:=zc M
  have aa:=zc H
  clear z M H p0 p1 X O V U Y
  obtain⟨p0,p1,X,O,V,U,Y⟩:=zw K.out.2.2.1
  go_wp2_with fail
  refine (zbN c _ [{data:=#[32,125]}] w1 K.out (by have:=HZ.out;rw[Z.out] at this;simp only[zt,List.foldl_cons,List.foldl_nil,ByteArray.size_append,z1,z2];omega) (by simp)).mono ?_
  rintro e w2 ⟨rfl,I,L,A⟩
  have N:=zc I
  have ad:=zc (ac.out.trans L)
  have ab:=zc (aa.out.trans A)
  clear I L A p0 p1 X O V U Y
  go_wp2
  go_end0
  refine⟨rfl,?_,ad.out,ab.out⟩
  have:=N.out
  simp only[zt,List.foldl_cons,List.foldl_nil] at this
  rw[zcd,Z.out,←ByteArray.append_assoc,←ByteArray.append_assoc]
  exact this
 |false=>
  have J:(a.toList==b.toList)=false:=by rw[BEq.comm];exact ae
  have Z:Hid (asT a b=a++({data:=#[32,97,115,32]}:ByteArray)++b):=by show _=_;rw[asT,J];rfl
  go_wp2_with fail
  refine (zbN c t [{data:=#[123,32]},a] w HP.out (by have:=HZ.out;rw[Z.out] at this;simp only[zt,List.foldl_cons,List.foldl_nil,ByteArray.size_append,z1,z3] at this ⊢;omega) (by simp)).mono ?_
  rintro e w1 ⟨rfl,z,M,H⟩
  have K:=zc z
  have ac:=zc M
  have aa:=zc H
  clear z M H p0 p1 X O V U Y
  obtain⟨p0,p1,X,O,V,U,Y⟩:=zw K.out.2.2.1
  go_wp2_with fail
  refine (zbN c _ [{data:=#[32,97,115,32]},b] w1 K.out (by have:=HZ.out;rw[Z.out] at this;simp only[zt,List.foldl_cons,List.foldl_nil,ByteArray.size_append,z1,z3] at this ⊢;omega) (by simp)).mono ?_
  rintro e w2 ⟨rfl,I,L,A⟩
  have N:=zc I
  have ad:=zc (ac.out.trans L)
  have ab:=zc (aa.out.trans A)
  clear I L A p0 p1 X O V U Y
  obtain⟨p0,p1,X,O,V,U,Y⟩:=zw N.out.2.2.1
  go_wp2_with fail
  refine (zbN c _ [{data:=#[32,125]}] w2 N.out (by have:=HZ.out;rw[Z.out] at this;simp only[zt,List.foldl_cons,List.foldl_nil,ByteArray.size_append,z1,z2,z3] at this ⊢;omega) (by simp)).mono ?_
  rintro e w3 ⟨rfl,af,ah,ag⟩
  have aj:=zc af
  have ai:=zc (ad.out.trans ah)
  have ak:=zc (ab.out.trans ag)
  clear af ah ag p0 p1 X O V U Y
  go_wp2
  go_end0
  refine⟨rfl,?_,ai.out,ak.out⟩
  have:=aj.out
  simp only[zt,List.foldl_cons,List.foldl_nil] at this
  rw[zcd,Z.out]
  simp only[←ByteArray.append_assoc] at this ⊢
  exact this
end Go.Proofs.YtgcbmogmniahjaaGreat
