/-
  A strings.Builder (BuilderW) beside the texts of programs.
  What the closure put of impl's Print answers: the walk.
  impl's printer in memory; what quoted,list and kind answer: the walks.
-/
import Derived.Test.YtjdddblpfbmpaaaGreatCmModOkSpecToImplTree
import Derived.Test.YtjdddblpfbmpaaaGreatCmBuilderW
namespace Go.Proofs.YtjdddblpfbmpaaaGreat
set_option maxHeartbeats 2000000
set_option maxRecDepth 100000
open Go.RowKit Go.PlainAid Go.Sort
def KeepB (b:Nat) (w w':World):Prop:=∀(k:Nat) (cur:Array Value) (t:TypeId) (fz:Nat×Nat),w.heap[k]? =some (.cells cur t fz)→k≠b→t≠5→w'.heap[k]? =w.heap[k]?
theorem KeepB.refl (b:Nat) (w:World):KeepB b w w:=fun _ _ _ _ _ _ _=>rfl
theorem KeepB.trans {b:Nat} {w z I:World} (h:KeepB b w z) (L:KeepB b z I):KeepB b w I:=fun k j t q A J H=>by
 have e:=h k j t q A J H
 rw[L k j t q (e.trans A) J H,e]
def zll (B b:Nat) (bs:List Value) (w w':World):Prop:=Lib.IsBuilder 163 5 B b bs w'∧Below B w w'∧KeepB b w w'
theorem zlm {q:List ByteArray} {j:Nat} (z:j<q.length):(q.take (j+1)).flatMap Lib.strCells=(q.take j).flatMap Lib.strCells++Lib.strCells q[j]:=by
 rw[List.take_succ_eq_append_getElem z,List.flatMap_append]
 simp
theorem zst (q:List ByteArray) {j:Nat} (z:j<q.length):((q.take j).flatMap Lib.strCells).length+q[j].size≤(q.flatMap Lib.strCells).length:=by
 have e:=congrArg List.length (congrArg (List.flatMap Lib.strCells) (List.take_append_drop (j+1) q))
 rw[List.flatMap_append,zlm z] at e
 simp only[List.length_append,Lib.strCells_length] at e
 omega
theorem zsu (B b I:Nat) (N:List Value) (q:List ByteArray) (w:World) (h:Lib.IsBuilder 163 5 B b N w) (hq:w.heap[I]? =some (.cells (q.map Value.string).toArray 9 (0,0))) (aa:N.length+(q.flatMap Lib.strCells).length≤140737488355328) (hn:q.length≤4294967296) (hB:B≤w.heap.size) (O:I≠b):
  Calls Tryz.prog 122 #[.slice (some ⟨I,0,none⟩) q.length q.length,.pointer (some ⟨b,0,none⟩)] w fun e w'=>e= .returned (.tuple #[])∧zll B b (N++q.flatMap Lib.strCells) w w':=by
 have HI:=zc h
 have HQ:=zc hq
 clear h hq
 go_enter Tryz.func122,Tryz.ntmps122
 go_wp2
 go_loopg [7] q.length (fun k i wr=>∃j:Nat,i= .int .i64 j∧j+k=q.length∧zll B b (N++(q.take j).flatMap Lib.strCells) w wr)
 case atStart=>exact⟨0,rfl,by omega,by simp only[List.take_zero,List.flatMap_nil,List.append_nil];exact HI.out,Below.refl _ _,KeepB.refl _ _⟩
 case round=>
  obtain⟨j,rfl,hj,hp⟩:=hrel
  have A:=zc hp
  clear hp
  by_cases z:j<q.length
  ·have L:(j:Int)<(q.length:Int):=by omega
   have V:=zc ((A.out.2.2 I _ _ _ HQ.out O (by decide)).trans HQ.out)
   have q0:wr.cell? ⟨I,j,none⟩=some (.string q[j]):=by
    rw[Lib.cell_of_heap V.out]
    simp[List.getElem?_eq_getElem z]
   obtain⟨s,X⟩: ∃s,q[j]=s:=⟨_,rfl⟩
   rw[X] at q0
   have HS:=zc X
   clear X
   obtain⟨M,H⟩: ∃M,M=j+1:=⟨_,rfl⟩
   have ej:(j:Int)+1=(M:Int):=by omega
   have Y:=zc H
   clear H
   go_wp2_with fail
   have J:=zst q z
   rw[HS.out] at J
   refine (zss B b _ s wr A.out.1 (by rw[List.length_append];omega) (by have:=A.out.2.1.size;omega)).mono ?_
   rintro e w2 ⟨rfl,Z⟩
   have U:=zc Z
   clear Z J
   go_wp2
   go_roundg (gk-1)
   case rel=>
    refine⟨M,rfl,by have:=Y.out;omega,?_,A.out.2.1.trans U.out.2.1,A.out.2.2.trans U.out.2.2⟩
    rw[Y.out,zlm z,HS.out,←List.append_assoc]
    exact .inr U.out.1
   case measure=>omega
  ·have L: ¬(j:Int)<(q.length:Int):=by omega
   obtain rfl:j=q.length:=by omega
   go_wp2
   go_end0
   exact⟨rfl,by have:=A.out;rw[List.take_length] at this;exact this⟩
theorem zsv (a b:ByteArray):Lib.strCells (a++b)=Lib.strCells a++Lib.strCells b:=by simp[Lib.strCells]
def zv (t:ByteArray) (ps:List ByteArray):ByteArray:=ps.foldl (· ++ ·) t
theorem zln (j:List ByteArray): ∀t,Lib.strCells (zv t j)=Lib.strCells t++j.flatMap Lib.strCells:=by
 induction j with
 |nil=>intro t;simp[zv]
 |cons p j q=>
  intro t
  have:=q (t++p)
  simp only[zv,List.foldl_cons] at this ⊢
  rw[this,zsv,List.flatMap_cons,List.append_assoc]
structure PC where
 B:Nat
 b:Nat
 gp:Nat
 base:Nat
 S:Sv
 m:Md
def PP (c:PC) (t:ByteArray) (w:World):Prop:=
 (Lib.IsBuilder 163 5 c.B c.b (Lib.strCells t) w∧c.B≤w.heap.size)∧OwnMd w c.base c.S c.m∧
 (w.heap[c.gp]? =some (.cells #[.slice c.S.rq.a c.m.rq.length c.S.rq.cap,.slice c.S.im.a c.m.im.length c.S.im.cap,.slice c.S.ep.a c.m.ep.length c.S.ep.cap,.slice c.S.st.a c.m.st.length c.S.st.cap,.slice c.S.ex.a c.m.ex.length c.S.ex.cap,.func (.func 122) #[] #[.pointer (some ⟨c.b,0,none⟩)]] 171 (0,0))∧c.gp≠c.b)
theorem zci {B b:Nat} {q:List Value} {w:World} (h:Lib.IsBuilder 163 5 B b q w): ∃j,w.heap[b]? =some (.cells j 163 (0,0)):=by
 rcases h with ⟨_,v,h,_⟩|⟨_,v,h,_⟩<;>exact⟨_,h⟩
theorem OwnMd.keepT {w w':World} {j b:Nat} {S:Sv} {m:Md} {H:Array Value} (h:OwnMd w j S m) (U:w.heap[b]? =some (.cells H 163 (0,0))) (L:KeepB b w w'):OwnMd w' j S m:=by
 have z: ∀(e:TypeId) (q n:Nat) (r:Rw) (I:List Value),OwnR w j e q r n I→e≠5→e≠163→OwnR w' j e q r n I:=fun e q n r I h M J=>h.keep fun k N=>by
  obtain⟨_,_,c,A⟩:=h.typed N
  refine L k c e _ A (fun O=>?_) M
  rw[O,U] at A
  simp only[Option.some.injEq,Obj.cells.injEq] at A
  exact J A.2.1.symm
 exact⟨z _ _ _ _ _ h.rq (by decide) (by decide),z _ _ _ _ _ h.im (by decide) (by decide),z _ _ _ _ _ h.ep (by decide) (by decide),z _ _ _ _ _ h.st (by decide) (by decide),z _ _ _ _ _ h.ex (by decide) (by decide)⟩
theorem zlo {B b:Nat} {A:List Value} {w w':World} (h:Lib.IsBuilder 163 5 B b A w) (j:Below w.heap.size w w'):Lib.IsBuilder 163 5 B b A w':=by
 have q: ∀p,Lib.BuilderAt 163 5 B b p A w→Lib.BuilderAt 163 5 B b p A w':=by
  rintro p ⟨M,v,I,z,H⟩
  refine⟨M,v,(j.block _ (Array.getElem?_eq_some_iff.1 I).1).trans I,?_,H⟩
  refine z.kept (row:=none) ⟨j.os,j.tape,j.output,j.size,fun k L _=>j.block k L⟩ ?_
  cases J:v.ownBlock with
  |none=>exact .inl rfl
  |some k=>exact .inr (by simp)
 exact h.elim (fun h=>.inl (q _ h)) fun h=>.inr (q _ h)
theorem PP.later {c:PC} {t:ByteArray} {w w':World} (h:PP c t w) (j:Below w.heap.size w w'):PP c t w':=
 ⟨⟨zlo h.1.1 j,Nat.le_trans h.1.2 j.size⟩,h.2.1.later j,(j.block _ (Array.getElem?_eq_some_iff.1 h.2.2.1).1).trans h.2.2.1,h.2.2.2⟩
theorem KeepB.of_below {b:Nat} {w w':World} (h:Below w.heap.size w w'):KeepB b w w':=fun k _ _ _ j _ _=>h.block k (Array.getElem?_eq_some_iff.1 j).1
def PO (c:PC) (t:ByteArray) (w:World) (e:Ending) (w':World):Prop:=e= .returned (.tuple #[])∧PP c t w'∧Below c.B w w'∧KeepB c.b w w'
theorem zlp (c:PC) (t:ByteArray) (q:List ByteArray) (H:Nat) (w:World) (h:PP c t w) (A:w.heap[H]? =some (.cells (q.map Value.string).toArray 9 (0,0))) (z:(zv t q).size≤140737488355328) (O:q.length≤4294967296):
  Calls Tryz.prog 122 #[.slice (some ⟨H,0,none⟩) q.length q.length,.pointer (some ⟨c.b,0,none⟩)] w (PO c (zv t q) w):=by
 obtain⟨N,j⟩:=zci h.1.1
 have I:H≠c.b:=fun e=>by
  rw[e,j] at A
  simp only[Option.some.injEq,Obj.cells.injEq] at A
  exact absurd A.2.1 (by decide)
 refine (zsu c.B c.b H (Lib.strCells t) q w h.1.1 A (by rw[←List.length_append,←zln,Lib.strCells_length];exact z) O h.1.2 I).mono ?_
 rintro e U ⟨rfl,M,L,J⟩
 rw[←zln] at M
 exact⟨rfl,⟨⟨M,Nat.le_trans h.1.2 L.size⟩,h.2.1.keepT j J,(J _ _ _ _ h.2.2.1 h.2.2.2 (by decide)).trans h.2.2.1,h.2.2.2⟩,L,J⟩
theorem zbK (c:PC) (t:ByteArray) (j:List ByteArray) (w:World) (h:PP c t w) (q:(zv t j).size≤140737488355328) (L:j.length≤4294967296):
  Calls Tryz.prog 122 #[.slice (some ⟨w.heap.size,0,none⟩) j.length j.length,.pointer (some ⟨c.b,0,none⟩)] (w.alloc (.cells (j.map Value.string).toArray 9)) (PO c (zv t j) w):=by
 have z:Below w.heap.size w (w.alloc (.cells (j.map Value.string).toArray 9)):=(Below.refl _ _).alloc (Nat.le_refl _) _
 refine (zlp c t j w.heap.size _ (h.later z) (heap_alloc_new w _) q L).mono ?_
 rintro e M ⟨A,I,H,J⟩
 exact⟨A,I,(z.mono h.1.2).trans H,(KeepB.of_below z).trans J⟩
theorem zgR (s:ByteArray) (w:World) (q:s.size≤1099511627776):Calls Tryz.prog 171 #[.string s] w fun e w'=>e= .returned (.string (za2 s))∧w'=w:=by
 have j:Hid (za2 s=({data:=#[34]}:ByteArray)++s++({data:=#[34]}:ByteArray)):=rfl
 go_enter Tryz.func171,Tryz.ntmps171
 go_wp2
 go_ret
 exact⟨by rw[j.out];rfl,rfl⟩
def zbZ (a b:ByteArray):ByteArray:=({data:=#[123,32]}:ByteArray)++asT a b++({data:=#[32,125]}:ByteArray)
theorem zit (c:PC) (t a b:ByteArray) (w:World) (h:PP c t w) (j:(t++zbZ a b).size≤140737488355328):
  Calls Tryz.prog 200 #[.pointer (some ⟨c.gp,0,none⟩),.string a,.string b] w (PO c (t++zbZ a b) w):=by
 have HP:=zc h
 have HL:=zc j
 clear h j
 obtain⟨p0,p1,X,O,V,U,Y⟩:=zx HP.out.2.2.1
 go_enter Tryz.func200,Tryz.ntmps200
 have z1:(({data:=#[123,32]}:ByteArray)).size=2:=rfl
 have z2:(({data:=#[32,125]}:ByteArray)).size=2:=rfl
 have z3:(({data:=#[32,97,115,32]}:ByteArray)).size=4:=rfl
 have j:=HL.out
 simp only[zbZ,ByteArray.size_append,z1,z2] at j
 have HZ:=zc j
 clear j
 cases ae:(b.toList==a.toList) with
 |true=>
  have I:(a.toList==b.toList)=true:=by rw[BEq.comm];exact ae
  have Z:Hid (asT a b=a):=by show _=_;rw[asT,I];rfl
  go_wp2_with fail
  refine (zbK c t [{data:=#[123,32]},a] w HP.out (by have:=HZ.out;rw[Z.out] at this;simp only[zv,List.foldl_cons,List.foldl_nil,ByteArray.size_append,z1];omega) (by simp)).mono ?_
  rintro e w1 ⟨rfl,q,M,A⟩
  have J:=zc q
  have ac:=zc M
  have aa:=zc A
  clear q M A p0 p1 X O V U Y
  obtain⟨p0,p1,X,O,V,U,Y⟩:=zx J.out.2.2.1
  go_wp2_with fail
  refine (zbK c _ [{data:=#[32,125]}] w1 J.out (by have:=HZ.out;rw[Z.out] at this;simp only[zv,List.foldl_cons,List.foldl_nil,ByteArray.size_append,z1,z2];omega) (by simp)).mono ?_
  rintro e w2 ⟨rfl,H,L,z⟩
  have N:=zc H
  have ad:=zc (ac.out.trans L)
  have ab:=zc (aa.out.trans z)
  clear H L z p0 p1 X O V U Y
  go_wp2
  go_end0
  refine⟨rfl,?_,ad.out,ab.out⟩
  have:=N.out
  simp only[zv,List.foldl_cons,List.foldl_nil] at this
  rw[zbZ,Z.out,←ByteArray.append_assoc,←ByteArray.append_assoc]
  exact this
 |false=>
  have I:(a.toList==b.toList)=false:=by rw[BEq.comm];exact ae
  have Z:Hid (asT a b=a++({data:=#[32,97,115,32]}:ByteArray)++b):=by show _=_;rw[asT,I];rfl
  go_wp2_with fail
  refine (zbK c t [{data:=#[123,32]},a] w HP.out (by have:=HZ.out;rw[Z.out] at this;simp only[zv,List.foldl_cons,List.foldl_nil,ByteArray.size_append,z1,z3] at this ⊢;omega) (by simp)).mono ?_
  rintro e w1 ⟨rfl,q,M,A⟩
  have J:=zc q
  have ac:=zc M
  have aa:=zc A
  clear q M A p0 p1 X O V U Y
  obtain⟨p0,p1,X,O,V,U,Y⟩:=zx J.out.2.2.1
  go_wp2_with fail
  refine (zbK c _ [{data:=#[32,97,115,32]},b] w1 J.out (by have:=HZ.out;rw[Z.out] at this;simp only[zv,List.foldl_cons,List.foldl_nil,ByteArray.size_append,z1,z3] at this ⊢;omega) (by simp)).mono ?_
  rintro e w2 ⟨rfl,H,L,z⟩
  have N:=zc H
  have ad:=zc (ac.out.trans L)
  have ab:=zc (aa.out.trans z)
  clear H L z p0 p1 X O V U Y
  obtain⟨p0,p1,X,O,V,U,Y⟩:=zx N.out.2.2.1
  go_wp2_with fail
  refine (zbK c _ [{data:=#[32,125]}] w2 N.out (by have:=HZ.out;rw[Z.out] at this;simp only[zv,List.foldl_cons,List.foldl_nil,ByteArray.size_append,z1,z2,z3] at this ⊢;omega) (by simp)).mono ?_
  rintro e w3 ⟨rfl,af,ah,ag⟩
  have aj:=zc af
  have ai:=zc (ad.out.trans ah)
  have ak:=zc (ab.out.trans ag)
  clear af ah ag p0 p1 X O V U Y
  go_wp2
  go_end0
  refine⟨rfl,?_,ai.out,ak.out⟩
  have:=aj.out
  simp only[zv,List.foldl_cons,List.foldl_nil] at this
  rw[zbZ,Z.out]
  simp only[←ByteArray.append_assoc] at this ⊢
  exact this
end Go.Proofs.YtjdddblpfbmpaaaGreat
