/-
  A strings.Builder (BuilderW) beside the texts of programs.
  What the closure put of impl's Print answers: the walk.
  impl's printer in memory; what quoted,list and kind answer: the walks.
-/
import Derived.Test.YtcidlffeeninbaaGreatClBuilderW
namespace Go.Proofs.YtcidlffeeninbaaGreat
set_option maxHeartbeats 2000000
set_option maxRecDepth 100000
open Go.RowKit Go.PlainAid Go.Sort
def KeepB (b:Nat) (w w':World):Prop:=∀(k:Nat) (cur:Array Value) (t:TypeId) (fz:Nat×Nat),w.heap[k]? =some (.cells cur t fz)→k≠b→t≠5→w'.heap[k]? =w.heap[k]?
theorem KeepB.refl (b:Nat) (w:World):KeepB b w w:=fun _ _ _ _ _ _ _=>rfl
theorem KeepB.trans {b:Nat} {w z E:World} (h:KeepB b w z) (J:KeepB b z E):KeepB b w E:=fun k q t A I H D=>by
 have e:=h k q t A I H D
 rw[J k q t A (e.trans I) H D,e]
def zkY (B b:Nat) (bs:List Value) (w w':World):Prop:=Lib.IsBuilder 154 5 B b bs w'∧Below B w w'∧KeepB b w w'
theorem zkZ {h:List ByteArray} {j:Nat} (q:j<h.length):(h.take (j+1)).flatMap Lib.strCells=(h.take j).flatMap Lib.strCells++Lib.strCells h[j]:=by
 rw[List.take_succ_eq_append_getElem q,List.flatMap_append]
 simp
theorem zsk (h:List ByteArray) {j:Nat} (q:j<h.length):((h.take j).flatMap Lib.strCells).length+h[j].size≤(h.flatMap Lib.strCells).length:=by
 have e:=congrArg List.length (congrArg (List.flatMap Lib.strCells) (List.take_append_drop (j+1) h))
 rw[List.flatMap_append,zkZ q] at e
 simp only[List.length_append,Lib.strCells_length] at e
 omega
theorem zsl (B b D:Nat) (J:List Value) (q:List ByteArray) (w:World) (h:Lib.IsBuilder 154 5 B b J w) (Y:w.heap[D]? =some (.cells (q.map Value.string).toArray 9 (0,0))) (Z:J.length+(q.flatMap Lib.strCells).length≤140737488355328) (hn:q.length≤4294967296) (hB:B≤w.heap.size) (O:D≠b):
  Calls Tryz.prog 112 #[.slice (some ⟨D,0,none⟩) q.length q.length,.pointer (some ⟨b,0,none⟩)] w fun e w'=>e= .returned (.tuple #[])∧zkY B b (J++q.flatMap Lib.strCells) w w':=by
 have HI:=zc h
 have HQ:=zc Y
 clear h Y
 go_enter Tryz.func112,Tryz.ntmps112
 go_wp2
 go_loopg [7] q.length (fun k i wr=>∃j:Nat,i= .int .i64 j∧j+k=q.length∧zkY B b (J++(q.take j).flatMap Lib.strCells) w wr)
 case atStart=>exact⟨0,rfl,by omega,by simp only[List.take_zero,List.flatMap_nil,List.append_nil];exact HI.out,Below.refl _ _,KeepB.refl _ _⟩
 case round=>
  obtain⟨j,rfl,hj,U⟩:=hrel
  have A:=zc U
  clear U
  by_cases z:j<q.length
  ·have H:(j:Int)<(q.length:Int):=by omega
   have N:=zc ((A.out.2.2 D _ _ _ HQ.out O (by decide)).trans HQ.out)
   have q0:wr.cell? ⟨D,j,none⟩=some (.string q[j]):=by
    rw[Lib.cell_of_heap N.out]
    simp[List.getElem?_eq_getElem z]
   obtain⟨s,M⟩: ∃s,q[j]=s:=⟨_,rfl⟩
   rw[M] at q0
   have X:=zc M
   clear M
   obtain⟨K,E⟩: ∃K,K=j+1:=⟨_,rfl⟩
   have ej:(j:Int)+1=(K:Int):=by omega
   have HJ:=zc E
   clear E
   go_wp2_with fail
   have I:=zsk q z
   rw[X.out] at I
   refine (zsj B b _ s wr A.out.1 (by rw[List.length_append];omega) (by have:=A.out.2.1.size;omega)).mono ?_
   rintro e w2 ⟨rfl,V⟩
   have L:=zc V
   clear V I
   go_wp2
   go_roundg (gk-1)
   case rel=>
    refine⟨K,rfl,by have:=HJ.out;omega,?_,A.out.2.1.trans L.out.2.1,A.out.2.2.trans L.out.2.2⟩
    rw[HJ.out,zkZ z,X.out,←List.append_assoc]
    exact .inr L.out.1
   case measure=>omega
  ·have H: ¬(j:Int)<(q.length:Int):=by omega
   obtain rfl:j=q.length:=by omega
   go_wp2
   go_end0
   exact⟨rfl,by have:=A.out;rw[List.take_length] at this;exact this⟩
theorem zsm (a b:ByteArray):Lib.strCells (a++b)=Lib.strCells a++Lib.strCells b:=by simp[Lib.strCells]
def zt (t:ByteArray) (ps:List ByteArray):ByteArray:=ps.foldl (· ++ ·) t
theorem zla (h:List ByteArray): ∀t,Lib.strCells (zt t h)=Lib.strCells t++h.flatMap Lib.strCells:=by
 induction h with
 |nil=>intro t;simp[zt]
 |cons p h q=>
  intro t
  have:=q (t++p)
  simp only[zt,List.foldl_cons] at this ⊢
  rw[this,zsm,List.flatMap_cons,List.append_assoc]
structure PC where
 B:Nat
 b:Nat
 gp:Nat
 base:Nat
 S:Sv
 m:Md
def PP (c:PC) (t:ByteArray) (w:World):Prop:=
 (Lib.IsBuilder 154 5 c.B c.b (Lib.strCells t) w∧c.B≤w.heap.size)∧OwnMd w c.base c.S c.m∧
 (w.heap[c.gp]? =some (.cells #[.slice c.S.rq.a c.m.rq.length c.S.rq.cap,.slice c.S.im.a c.m.im.length c.S.im.cap,.slice c.S.ep.a c.m.ep.length c.S.ep.cap,.slice c.S.st.a c.m.st.length c.S.st.cap,.slice c.S.ex.a c.m.ex.length c.S.ex.cap,.func (.func 112) #[] #[.pointer (some ⟨c.b,0,none⟩)]] 168 (0,0))∧c.gp≠c.b)
theorem zcf {B b:Nat} {z:List Value} {w:World} (h:Lib.IsBuilder 154 5 B b z w): ∃q,w.heap[b]? =some (.cells q 154 (0,0)):=by
 rcases h with ⟨_,v,h,_⟩|⟨_,v,h,_⟩<;>exact⟨_,h⟩
theorem OwnMd.keepT {w E:World} {q b:Nat} {S:Sv} {m:Md} {H:Array Value} (h:OwnMd w q S m) (K:w.heap[b]? =some (.cells H 154 (0,0))) (L:KeepB b w E):OwnMd E q S m:=by
 have A: ∀(e:TypeId) (z n:Nat) (r:Rw) (I:List Value),OwnR w q e z r n I→e≠5→e≠154→OwnR E q e z r n I:=fun e z n r I h M J=>h.keep fun k O=>by
  obtain⟨_,_,c,D⟩:=h.typed O
  refine L k c e _ D (fun N=>?_) M
  rw[N,K] at D
  simp only[Option.some.injEq,Obj.cells.injEq] at D
  exact J D.2.1.symm
 exact⟨A _ _ _ _ _ h.rq (by decide) (by decide),A _ _ _ _ _ h.im (by decide) (by decide),A _ _ _ _ _ h.ep (by decide) (by decide),A _ _ _ _ _ h.st (by decide) (by decide),A _ _ _ _ _ h.ex (by decide) (by decide)⟩
theorem zlb {B b:Nat} {D:List Value} {w E:World} (h:Lib.IsBuilder 154 5 B b D w) (q:Below w.heap.size w E):Lib.IsBuilder 154 5 B b D E:=by
 have z: ∀p,Lib.BuilderAt 154 5 B b p D w→Lib.BuilderAt 154 5 B b p D E:=by
  rintro p ⟨hB,v,I,A,H⟩
  refine⟨hB,v,(q.block _ (Array.getElem?_eq_some_iff.1 I).1).trans I,?_,H⟩
  refine A.kept (row:=none) ⟨q.os,q.tape,q.output,q.size,fun k K _=>q.block k K⟩ ?_
  cases J:v.ownBlock with
  |none=>exact .inl rfl
  |some k=>exact .inr (by simp)
 exact h.elim (fun h=>.inl (z _ h)) fun h=>.inr (z _ h)
theorem PP.later {c:PC} {t:ByteArray} {w z:World} (h:PP c t w) (q:Below w.heap.size w z):PP c t z:=
 ⟨⟨zlb h.1.1 q,Nat.le_trans h.1.2 q.size⟩,h.2.1.later q,(q.block _ (Array.getElem?_eq_some_iff.1 h.2.2.1).1).trans h.2.2.1,h.2.2.2⟩
theorem KeepB.of_below {b:Nat} {w q:World} (h:Below w.heap.size w q):KeepB b w q:=fun k _ _ _ z _ _=>h.block k (Array.getElem?_eq_some_iff.1 z).1
def PO (c:PC) (t:ByteArray) (w:World) (e:Ending) (w':World):Prop:=e= .returned (.tuple #[])∧PP c t w'∧Below c.B w w'∧KeepB c.b w w'
theorem zlc (c:PC) (t:ByteArray) (z:List ByteArray) (E:Nat) (w:World) (h:PP c t w) (D:w.heap[E]? =some (.cells (z.map Value.string).toArray 9 (0,0))) (A:(zt t z).size≤140737488355328) (L:z.length≤4294967296):
  Calls Tryz.prog 112 #[.slice (some ⟨E,0,none⟩) z.length z.length,.pointer (some ⟨c.b,0,none⟩)] w (PO c (zt t z) w):=by
 obtain⟨M,q⟩:=zcf h.1.1
 have I:E≠c.b:=fun e=>by
  rw[e,q] at D
  simp only[Option.some.injEq,Obj.cells.injEq] at D
  exact absurd D.2.1 (by decide)
 refine (zsl c.B c.b E (Lib.strCells t) z w h.1.1 D (by rw[←List.length_append,←zla,Lib.strCells_length];exact A) L h.1.2 I).mono ?_
 rintro e N ⟨rfl,J,K,H⟩
 rw[←zla] at J
 exact⟨rfl,⟨⟨J,Nat.le_trans h.1.2 K.size⟩,h.2.1.keepT q H,(H _ _ _ _ h.2.2.1 h.2.2.2 (by decide)).trans h.2.2.1,h.2.2.2⟩,K,H⟩
theorem zbG (c:PC) (t:ByteArray) (q:List ByteArray) (w:World) (h:PP c t w) (z:(zt t q).size≤140737488355328) (I:q.length≤4294967296):
  Calls Tryz.prog 112 #[.slice (some ⟨w.heap.size,0,none⟩) q.length q.length,.pointer (some ⟨c.b,0,none⟩)] (w.alloc (.cells (q.map Value.string).toArray 9)) (PO c (zt t q) w):=by
 have A:Below w.heap.size w (w.alloc (.cells (q.map Value.string).toArray 9)):=(Below.refl _ _).alloc (Nat.le_refl _) _
 refine (zlc c t q w.heap.size _ (h.later A) (heap_alloc_new w _) z I).mono ?_
 rintro e K ⟨J,E,H,D⟩
 exact⟨J,E,(A.mono h.1.2).trans H,(KeepB.of_below A).trans D⟩
theorem zgC (s:ByteArray) (w:World) (z:s.size≤1099511627776):Calls Tryz.prog 162 #[.string s] w fun e q=>e= .returned (.string (za0 s))∧q=w:=by
 have h:Hid (za0 s=({data:=#[34]}:ByteArray)++s++({data:=#[34]}:ByteArray)):=rfl
 go_enter Tryz.func162,Tryz.ntmps162
 go_wp2
 go_ret
 exact⟨by rw[h.out];rfl,rfl⟩
def zbY (a b:ByteArray):ByteArray:=({data:=#[123,32]}:ByteArray)++asT a b++({data:=#[32,125]}:ByteArray)
theorem zhV (c:PC) (t a b:ByteArray) (w:World) (h:PP c t w) (q:(t++zbY a b).size≤140737488355328):
  Calls Tryz.prog 189 #[.pointer (some ⟨c.gp,0,none⟩),.string a,.string b] w (PO c (t++zbY a b) w):=by
 have HP:=zc h
 have HL:=zc q
 clear h q
 obtain⟨U,V,Y,N,Z,X,M⟩:=zw HP.out.2.2.1
 go_enter Tryz.func189,Tryz.ntmps189
 have z1:(({data:=#[123,32]}:ByteArray)).size=2:=rfl
 have z2:(({data:=#[32,125]}:ByteArray)).size=2:=rfl
 have z3:(({data:=#[32,97,115,32]}:ByteArray)).size=4:=rfl
 have q:=HL.out
 simp only[zbY,ByteArray.size_append,z1,z2] at q
 have HZ:=zc q
 clear q
 cases ah:(b.toList==a.toList) with
 |true=>
  have E:(a.toList==b.toList)=true:=by rw[BEq.comm];exact ah
  have O:Hid (asT a b=a):=by show _=_;rw[asT,E];rfl
  go_wp2_with fail
  refine (zbG c t [{data:=#[123,32]},a] w HP.out (by have:=HZ.out;rw[O.out] at this;simp only[zt,List.foldl_cons,List.foldl_nil,ByteArray.size_append,z1];omega) (by simp)).mono ?_
  rintro e w1 ⟨rfl,H,I,A⟩
  have D:=zc H
  have ad:=zc I
  have ac:=zc A
  clear H I A U V Y N Z X M
  obtain⟨U,V,Y,N,Z,X,M⟩:=zw D.out.2.2.1
  go_wp2_with fail
  refine (zbG c _ [{data:=#[32,125]}] w1 D.out (by have:=HZ.out;rw[O.out] at this;simp only[zt,List.foldl_cons,List.foldl_nil,ByteArray.size_append,z1,z2];omega) (by simp)).mono ?_
  rintro e w2 ⟨rfl,z,J,K⟩
  have L:=zc z
  have ab:=zc (ad.out.trans J)
  have aa:=zc (ac.out.trans K)
  clear z J K U V Y N Z X M
  go_wp2
  go_end0
  refine⟨rfl,?_,ab.out,aa.out⟩
  have:=L.out
  simp only[zt,List.foldl_cons,List.foldl_nil] at this
  rw[zbY,O.out,←ByteArray.append_assoc,←ByteArray.append_assoc]
  exact this
 |false=>
  have E:(a.toList==b.toList)=false:=by rw[BEq.comm];exact ah
  have O:Hid (asT a b=a++({data:=#[32,97,115,32]}:ByteArray)++b):=by show _=_;rw[asT,E];rfl
  go_wp2_with fail
  refine (zbG c t [{data:=#[123,32]},a] w HP.out (by have:=HZ.out;rw[O.out] at this;simp only[zt,List.foldl_cons,List.foldl_nil,ByteArray.size_append,z1,z3] at this ⊢;omega) (by simp)).mono ?_
  rintro e w1 ⟨rfl,H,I,A⟩
  have D:=zc H
  have ad:=zc I
  have ac:=zc A
  clear H I A U V Y N Z X M
  obtain⟨U,V,Y,N,Z,X,M⟩:=zw D.out.2.2.1
  go_wp2_with fail
  refine (zbG c _ [{data:=#[32,97,115,32]},b] w1 D.out (by have:=HZ.out;rw[O.out] at this;simp only[zt,List.foldl_cons,List.foldl_nil,ByteArray.size_append,z1,z3] at this ⊢;omega) (by simp)).mono ?_
  rintro e w2 ⟨rfl,z,J,K⟩
  have L:=zc z
  have ab:=zc (ad.out.trans J)
  have aa:=zc (ac.out.trans K)
  clear z J K U V Y N Z X M
  obtain⟨U,V,Y,N,Z,X,M⟩:=zw L.out.2.2.1
  go_wp2_with fail
  refine (zbG c _ [{data:=#[32,125]}] w2 L.out (by have:=HZ.out;rw[O.out] at this;simp only[zt,List.foldl_cons,List.foldl_nil,ByteArray.size_append,z1,z2,z3] at this ⊢;omega) (by simp)).mono ?_
  rintro e w3 ⟨rfl,ae,af,ag⟩
  have ai:=zc ae
  have aj:=zc (ab.out.trans af)
  have ak:=zc (aa.out.trans ag)
  clear ae af ag U V Y N Z X M
  go_wp2
  go_end0
  refine⟨rfl,?_,aj.out,ak.out⟩
  have:=ai.out
  simp only[zt,List.foldl_cons,List.foldl_nil] at this
  rw[zbY,O.out]
  simp only[←ByteArray.append_assoc] at this ⊢
  exact this
end Go.Proofs.YtcidlffeeninbaaGreat
