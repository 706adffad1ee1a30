/-
  A strings.Builder (BuilderW) beside the texts of programs.
  What the closure put of impl's Print answers: the walk.
  impl's printer in memory; what quoted,list and kind answer: the walks.
-/
import Derived.Test.YtjdddblpfbmpaaaGreatCoBuilderW
import Derived.Test.YtjdddblpfbmpaaaGreatCoTwoModToSameSpec
namespace Go.Proofs.YtjdddblpfbmpaaaGreat
set_option maxHeartbeats 2000000
set_option maxRecDepth 100000
open Go.RowKit Go.PlainAid Go.Sort
def KeepB (b:Nat) (w w':World):Prop:=∀(k:Nat) (cur:Array Value) (t:TypeId) (fz:Nat×Nat),w.heap[k]? =some (.cells cur t fz)→k≠b→t≠5→w'.heap[k]? =w.heap[k]?
theorem KeepB.refl (b:Nat) (w:World):KeepB b w w:=fun _ _ _ _ _ _ _=>rfl
theorem KeepB.trans {b:Nat} {w q D:World} (h:KeepB b w q) (H:KeepB b q D):KeepB b w D:=fun k j t n z E A=>by
 have e:=h k j t n z E A
 rw[H k j t n (e.trans z) E A,e]
def zia (B b:Nat) (bs:List Value) (w w':World):Prop:=Lib.IsBuilder 163 5 B b bs w'∧Below B w w'∧KeepB b w w'
theorem zib {h:List ByteArray} {j:Nat} (n:j<h.length):(h.take (j+1)).flatMap Lib.strCells=(h.take j).flatMap Lib.strCells++Lib.strCells h[j]:=by
 rw[List.take_succ_eq_append_getElem n,List.flatMap_append]
 simp
theorem zm2 (h:List ByteArray) {j:Nat} (n:j<h.length):((h.take j).flatMap Lib.strCells).length+h[j].size≤(h.flatMap Lib.strCells).length:=by
 have e:=congrArg List.length (congrArg (List.flatMap Lib.strCells) (List.take_append_drop (j+1) h))
 rw[List.flatMap_append,zib n] at e
 simp only[List.length_append,Lib.strCells_length] at e
 omega
theorem zm3 (B b D:Nat) (J:List Value) (n:List ByteArray) (w:World) (h:Lib.IsBuilder 163 5 B b J w) (X:w.heap[D]? =some (.cells (n.map Value.string).toArray 9 (0,0))) (Y:J.length+(n.flatMap Lib.strCells).length≤140737488355328) (hn:n.length≤4294967296) (hB:B≤w.heap.size) (K:D≠b):
  Calls Tryz.prog 122 #[.slice (some ⟨D,0,none⟩) n.length n.length,.pointer (some ⟨b,0,none⟩)] w fun e w'=>e= .returned (.tuple #[])∧zia B b (J++n.flatMap Lib.strCells) w w':=by
 have HI:=zc h
 have V:=zc X
 clear h X
 go_enter Tryz.func122,Tryz.ntmps122
 go_wp2
 go_loopg [7] n.length (fun k i wr=>∃j:Nat,i= .int .i64 j∧j+k=n.length∧zia B b (J++(n.take j).flatMap Lib.strCells) w wr)
 case atStart=>exact⟨0,rfl,by omega,by simp only[List.take_zero,List.flatMap_nil,List.append_nil];exact HI.out,Below.refl _ _,KeepB.refl _ _⟩
 case round=>
  obtain⟨j,rfl,hj,Z⟩:=hrel
  have z:=zc Z
  clear Z
  by_cases q:j<n.length
  ·have H:(j:Int)<(n.length:Int):=by omega
   have M:=zc ((z.out.2.2 D _ _ _ V.out K (by decide)).trans V.out)
   have q0:wr.cell? ⟨D,j,none⟩=some (.string n[j]):=by
    rw[Lib.cell_of_heap M.out]
    simp[List.getElem?_eq_getElem q]
   obtain⟨s,N⟩: ∃s,n[j]=s:=⟨_,rfl⟩
   rw[N] at q0
   have HS:=zc N
   clear N
   obtain⟨I,A⟩: ∃I,I=j+1:=⟨_,rfl⟩
   have ej:(j:Int)+1=(I:Int):=by omega
   have O:=zc A
   clear A
   go_wp2_with fail
   have E:=zm2 n q
   rw[HS.out] at E
   refine (zm1 B b _ s wr z.out.1 (by rw[List.length_append];omega) (by have:=z.out.2.1.size;omega)).mono ?_
   rintro e w2 ⟨rfl,U⟩
   have L:=zc U
   clear U E
   go_wp2
   go_roundg (gk-1)
   case rel=>
    refine⟨I,rfl,by have:=O.out;omega,?_,z.out.2.1.trans L.out.2.1,z.out.2.2.trans L.out.2.2⟩
    rw[O.out,zib q,HS.out,←List.append_assoc]
    exact .inr L.out.1
   case measure=>omega
  ·have H: ¬(j:Int)<(n.length:Int):=by omega
   obtain rfl:j=n.length:=by omega
   go_wp2
   go_end0
   exact⟨rfl,by have:=z.out;rw[List.take_length] at this;exact this⟩
theorem zm4 (a b:ByteArray):Lib.strCells (a++b)=Lib.strCells a++Lib.strCells b:=by simp[Lib.strCells]
def zr (t:ByteArray) (ps:List ByteArray):ByteArray:=ps.foldl (· ++ ·) t
theorem zic (h:List ByteArray): ∀t,Lib.strCells (zr t h)=Lib.strCells t++h.flatMap Lib.strCells:=by
 induction h with
 |nil=>intro t;simp[zr]
 |cons p h j=>
  intro t
  have:=j (t++p)
  simp only[zr,List.foldl_cons] at this ⊢
  rw[this,zm4,List.flatMap_cons,List.append_assoc]
structure PC where
 B:Nat
 b:Nat
 gp:Nat
 base:Nat
 S:Sv
 m:Md
def PP (c:PC) (t:ByteArray) (w:World):Prop:=
 (Lib.IsBuilder 163 5 c.B c.b (Lib.strCells t) w∧c.B≤w.heap.size)∧OwnMd w c.base c.S c.m∧
 (w.heap[c.gp]? =some (.cells #[.slice c.S.rq.a c.m.rq.length c.S.rq.cap,.slice c.S.im.a c.m.im.length c.S.im.cap,.slice c.S.ep.a c.m.ep.length c.S.ep.cap,.slice c.S.st.a c.m.st.length c.S.st.cap,.slice c.S.ex.a c.m.ex.length c.S.ex.cap,.func (.func 122) #[] #[.pointer (some ⟨c.b,0,none⟩)]] 171 (0,0))∧c.gp≠c.b)
theorem zb8 {B b:Nat} {n:List Value} {w:World} (h:Lib.IsBuilder 163 5 B b n w): ∃j,w.heap[b]? =some (.cells j 163 (0,0)):=by
 rcases h with ⟨_,v,h,_⟩|⟨_,v,h,_⟩<;>exact⟨_,h⟩
theorem OwnMd.keepT {w E:World} {j b:Nat} {S:Sv} {m:Md} {D:Array Value} (h:OwnMd w j S m) (N:w.heap[b]? =some (.cells D 163 (0,0))) (J:KeepB b w E):OwnMd E j S m:=by
 have z: ∀(e:TypeId) (q n:Nat) (r:Rw) (H:List Value),OwnR w j e q r n H→e≠5→e≠163→OwnR E j e q r n H:=fun e q n r H h K I=>h.keep fun k L=>by
  obtain⟨_,_,c,A⟩:=h.typed L
  refine J k c e _ A (fun M=>?_) K
  rw[M,N] at A
  simp only[Option.some.injEq,Obj.cells.injEq] at A
  exact I A.2.1.symm
 exact⟨z _ _ _ _ _ h.rq (by decide) (by decide),z _ _ _ _ _ h.im (by decide) (by decide),z _ _ _ _ _ h.ep (by decide) (by decide),z _ _ _ _ _ h.st (by decide) (by decide),z _ _ _ _ _ h.ex (by decide) (by decide)⟩
theorem zid {B b:Nat} {z:List Value} {w A:World} (h:Lib.IsBuilder 163 5 B b z w) (j:Below w.heap.size w A):Lib.IsBuilder 163 5 B b z A:=by
 have n: ∀p,Lib.BuilderAt 163 5 B b p z w→Lib.BuilderAt 163 5 B b p z A:=by
  rintro p ⟨J,v,E,q,D⟩
  refine⟨J,v,(j.block _ (Array.getElem?_eq_some_iff.1 E).1).trans E,?_,D⟩
  refine q.kept (row:=none) ⟨j.os,j.tape,j.output,j.size,fun k I _=>j.block k I⟩ ?_
  cases H:v.ownBlock with
  |none=>exact .inl rfl
  |some k=>exact .inr (by simp)
 exact h.elim (fun h=>.inl (n _ h)) fun h=>.inr (n _ h)
theorem PP.later {c:PC} {t:ByteArray} {w n:World} (h:PP c t w) (j:Below w.heap.size w n):PP c t n:=
 ⟨⟨zid h.1.1 j,Nat.le_trans h.1.2 j.size⟩,h.2.1.later j,(j.block _ (Array.getElem?_eq_some_iff.1 h.2.2.1).1).trans h.2.2.1,h.2.2.2⟩
theorem KeepB.of_below {b:Nat} {w j:World} (h:Below w.heap.size w j):KeepB b w j:=fun k _ _ _ n _ _=>h.block k (Array.getElem?_eq_some_iff.1 n).1
def PO (c:PC) (t:ByteArray) (w:World) (e:Ending) (w':World):Prop:=e= .returned (.tuple #[])∧PP c t w'∧Below c.B w w'∧KeepB c.b w w'
theorem zie (c:PC) (t:ByteArray) (n:List ByteArray) (A:Nat) (w:World) (h:PP c t w) (z:w.heap[A]? =some (.cells (n.map Value.string).toArray 9 (0,0))) (q:(zr t n).size≤140737488355328) (K:n.length≤4294967296):
  Calls Tryz.prog 122 #[.slice (some ⟨A,0,none⟩) n.length n.length,.pointer (some ⟨c.b,0,none⟩)] w (PO c (zr t n) w):=by
 obtain⟨J,j⟩:=zb8 h.1.1
 have D:A≠c.b:=fun e=>by
  rw[e,j] at z
  simp only[Option.some.injEq,Obj.cells.injEq] at z
  exact absurd z.2.1 (by decide)
 refine (zm3 c.B c.b A (Lib.strCells t) n w h.1.1 z (by rw[←List.length_append,←zic,Lib.strCells_length];exact q) K h.1.2 D).mono ?_
 rintro e L ⟨rfl,I,H,E⟩
 rw[←zic] at I
 exact⟨rfl,⟨⟨I,Nat.le_trans h.1.2 H.size⟩,h.2.1.keepT j E,(E _ _ _ _ h.2.2.1 h.2.2.2 (by decide)).trans h.2.2.1,h.2.2.2⟩,H,E⟩
theorem zbr (c:PC) (t:ByteArray) (j:List ByteArray) (w:World) (h:PP c t w) (n:(zr t j).size≤140737488355328) (H:j.length≤4294967296):
  Calls Tryz.prog 122 #[.slice (some ⟨w.heap.size,0,none⟩) j.length j.length,.pointer (some ⟨c.b,0,none⟩)] (w.alloc (.cells (j.map Value.string).toArray 9)) (PO c (zr t j) w):=by
 have q:Below w.heap.size w (w.alloc (.cells (j.map Value.string).toArray 9)):=(Below.refl _ _).alloc (Nat.le_refl _) _
 refine (zie c t j w.heap.size _ (h.later q) (heap_alloc_new w _) n H).mono ?_
 rintro e I ⟨z,D,A,E⟩
 exact⟨z,D,(q.mono h.1.2).trans A,(KeepB.of_below q).trans E⟩
theorem zfl (s:ByteArray) (w:World) (n:s.size≤1099511627776):Calls Tryz.prog 171 #[.string s] w fun e j=>e= .returned (.string (zaq s))∧j=w:=by
 have h:Hid (zaq s=({data:=#[34]}:ByteArray)++s++({data:=#[34]}:ByteArray)):=rfl
 go_enter Tryz.func171,Tryz.ntmps171
 go_wp2
 go_ret
 exact⟨by rw[h.out];rfl,rfl⟩
def zb3 (a b:ByteArray):ByteArray:=({data:=#[123,32]}:ByteArray)++asT a b++({data:=#[32,125]}:ByteArray)
theorem zgc (c:PC) (t a b:ByteArray) (w:World) (h:PP c t w) (j:(t++zb3 a b).size≤140737488355328):
  Calls Tryz.prog 200 #[.pointer (some ⟨c.gp,0,none⟩),.string a,.string b] w (PO c (t++zb3 a b) w):=by
 have HP:=zc h
 have HL:=zc j
 clear h j
 obtain⟨X,V,N,K,M,L,O⟩:=zu HP.out.2.2.1
 go_enter Tryz.func200,Tryz.ntmps200
 have z1:(({data:=#[123,32]}:ByteArray)).size=2:=rfl
 have z2:(({data:=#[32,125]}:ByteArray)).size=2:=rfl
 have z3:(({data:=#[32,97,115,32]}:ByteArray)).size=4:=rfl
 have j:=HL.out
 simp only[zb3,ByteArray.size_append,z1,z2] at j
 have HZ:=zc j
 clear j
 cases ac:(b.toList==a.toList) with
 |true=>
  have D:(a.toList==b.toList)=true:=by rw[BEq.comm];exact ac
  have U:Hid (asT a b=a):=by show _=_;rw[asT,D];rfl
  go_wp2_with fail
  refine (zbr c t [{data:=#[123,32]},a] w HP.out (by have:=HZ.out;rw[U.out] at this;simp only[zr,List.foldl_cons,List.foldl_nil,ByteArray.size_append,z1];omega) (by simp)).mono ?_
  rintro e w1 ⟨rfl,n,I,z⟩
  have E:=zc n
  have aa:=zc I
  have Y:=zc z
  clear n I z X V N K M L O
  obtain⟨X,V,N,K,M,L,O⟩:=zu E.out.2.2.1
  go_wp2_with fail
  refine (zbr c _ [{data:=#[32,125]}] w1 E.out (by have:=HZ.out;rw[U.out] at this;simp only[zr,List.foldl_cons,List.foldl_nil,ByteArray.size_append,z1,z2];omega) (by simp)).mono ?_
  rintro e w2 ⟨rfl,A,H,q⟩
  have J:=zc A
  have ab:=zc (aa.out.trans H)
  have Z:=zc (Y.out.trans q)
  clear A H q X V N K M L O
  go_wp2
  go_end0
  refine⟨rfl,?_,ab.out,Z.out⟩
  have:=J.out
  simp only[zr,List.foldl_cons,List.foldl_nil] at this
  rw[zb3,U.out,←ByteArray.append_assoc,←ByteArray.append_assoc]
  exact this
 |false=>
  have D:(a.toList==b.toList)=false:=by rw[BEq.comm];exact ac
  have U:Hid (asT a b=a++({data:=#[32,97,115,32]}:ByteArray)++b):=by show _=_;rw[asT,D];rfl
  go_wp2_with fail
  refine (zbr c t [{data:=#[123,32]},a] w HP.out (by have:=HZ.out;rw[U.out] at this;simp only[zr,List.foldl_cons,List.foldl_nil,ByteArray.size_append,z1,z3] at this ⊢;omega) (by simp)).mono ?_
  rintro e w1 ⟨rfl,n,I,z⟩
  have E:=zc n
  have aa:=zc I
  have Y:=zc z
  clear n I z X V N K M L O
  obtain⟨X,V,N,K,M,L,O⟩:=zu E.out.2.2.1
  go_wp2_with fail
  refine (zbr c _ [{data:=#[32,97,115,32]},b] w1 E.out (by have:=HZ.out;rw[U.out] at this;simp only[zr,List.foldl_cons,List.foldl_nil,ByteArray.size_append,z1,z3] at this ⊢;omega) (by simp)).mono ?_
  rintro e w2 ⟨rfl,A,H,q⟩
  have J:=zc A
  have ab:=zc (aa.out.trans H)
  have Z:=zc (Y.out.trans q)
  clear A H q X V N K M L O
  obtain⟨X,V,N,K,M,L,O⟩:=zu J.out.2.2.1
  go_wp2_with fail
  refine (zbr c _ [{data:=#[32,125]}] w2 J.out (by have:=HZ.out;rw[U.out] at this;simp only[zr,List.foldl_cons,List.foldl_nil,ByteArray.size_append,z1,z2,z3] at this ⊢;omega) (by simp)).mono ?_
  rintro e w3 ⟨rfl,ad,af,ae⟩
  have ah:=zc ad
  have ag:=zc (ab.out.trans af)
  have ai:=zc (Z.out.trans ae)
  clear ad af ae X V N K M L O
  go_wp2
  go_end0
  refine⟨rfl,?_,ag.out,ai.out⟩
  have:=ah.out
  simp only[zr,List.foldl_cons,List.foldl_nil] at this
  rw[zb3,U.out]
  simp only[←ByteArray.append_assoc] at this ⊢
  exact this
end Go.Proofs.YtjdddblpfbmpaaaGreat
