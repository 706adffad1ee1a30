/-
  A strings.Builder (BuilderW) beside the texts of programs.
  What the closure put of impl's Print answers: the walk.
  impl's printer in memory; what quoted,list and kind answer: the walks.
-/
import Derived.Test.YtjdddblpfbmpaaaGreatClModOkSpecToImplTree
import Derived.Test.YtjdddblpfbmpaaaGreatClBuilderW
namespace Go.Proofs.YtjdddblpfbmpaaaGreat
set_option maxHeartbeats 2000000
set_option maxRecDepth 100000
open Go.RowKit Go.PlainAid Go.Sort
def KeepB (b:Nat) (w w':World):Prop:=∀(k:Nat) (cur:Array Value) (t:TypeId) (fz:Nat×Nat),w.heap[k]? =some (.cells cur t fz)→k≠b→t≠5→w'.heap[k]? =w.heap[k]?
theorem KeepB.refl (b:Nat) (w:World):KeepB b w w:=fun _ _ _ _ _ _ _=>rfl
theorem KeepB.trans {b:Nat} {w A J:World} (h:KeepB b w A) (M:KeepB b A J):KeepB b w J:=fun k j t z H L I=>by
 have e:=h k j t z H L I
 rw[M k j t z (e.trans H) L I,e]
def zkA (B b:Nat) (bs:List Value) (w w':World):Prop:=Lib.IsBuilder 163 5 B b bs w'∧Below B w w'∧KeepB b w w'
theorem zkB {h:List ByteArray} {j:Nat} (w:j<h.length):(h.take (j+1)).flatMap Lib.strCells=(h.take j).flatMap Lib.strCells++Lib.strCells h[j]:=by
 rw[List.take_succ_eq_append_getElem w,List.flatMap_append]
 simp
theorem zsj (h:List ByteArray) {j:Nat} (w:j<h.length):((h.take j).flatMap Lib.strCells).length+h[j].size≤(h.flatMap Lib.strCells).length:=by
 have e:=congrArg List.length (congrArg (List.flatMap Lib.strCells) (List.take_append_drop (j+1) h))
 rw[List.flatMap_append,zkB w] at e
 simp only[List.length_append,Lib.strCells_length] at e
 omega
theorem zsk (B b J:Nat) (O:List Value) (z:List ByteArray) (w:World) (h:Lib.IsBuilder 163 5 B b O w) (hq:w.heap[J]? =some (.cells (z.map Value.string).toArray 9 (0,0))) (aa:O.length+(z.flatMap Lib.strCells).length≤140737488355328) (hn:z.length≤4294967296) (hB:B≤w.heap.size) (U:J≠b):
  Calls Tryz.prog 122 #[.slice (some ⟨J,0,none⟩) z.length z.length,.pointer (some ⟨b,0,none⟩)] w fun e w'=>e= .returned (.tuple #[])∧zkA B b (O++z.flatMap Lib.strCells) w w':=by
 have HI:=zc h
 have HQ:=zc hq
 clear h hq
 go_enter Tryz.func122,Tryz.ntmps122
 go_wp2
 go_loopg [7] z.length (fun k i wr=>∃j:Nat,i= .int .i64 j∧j+k=z.length∧zkA B b (O++(z.take j).flatMap Lib.strCells) w wr)
 case atStart=>exact⟨0,rfl,by omega,by simp only[List.take_zero,List.flatMap_nil,List.append_nil];exact HI.out,Below.refl _ _,KeepB.refl _ _⟩
 case round=>
  obtain⟨j,rfl,hj,hp⟩:=hrel
  have H:=zc hp
  clear hp
  by_cases A:j<z.length
  ·have M:(j:Int)<(z.length:Int):=by omega
   have X:=zc ((H.out.2.2 J _ _ _ HQ.out U (by decide)).trans HQ.out)
   have q0:wr.cell? ⟨J,j,none⟩=some (.string z[j]):=by
    rw[Lib.cell_of_heap X.out]
    simp[List.getElem?_eq_getElem A]
   obtain⟨s,Y⟩: ∃s,z[j]=s:=⟨_,rfl⟩
   rw[Y] at q0
   have HS:=zc Y
   clear Y
   obtain⟨N,I⟩: ∃N,N=j+1:=⟨_,rfl⟩
   have ej:(j:Int)+1=(N:Int):=by omega
   have Z:=zc I
   clear I
   go_wp2_with fail
   have L:=zsj z A
   rw[HS.out] at L
   refine (zsi B b _ s wr H.out.1 (by rw[List.length_append];omega) (by have:=H.out.2.1.size;omega)).mono ?_
   rintro e w2 ⟨rfl,hb⟩
   have V:=zc hb
   clear hb L
   go_wp2
   go_roundg (gk-1)
   case rel=>
    refine⟨N,rfl,by have:=Z.out;omega,?_,H.out.2.1.trans V.out.2.1,H.out.2.2.trans V.out.2.2⟩
    rw[Z.out,zkB A,HS.out,←List.append_assoc]
    exact .inr V.out.1
   case measure=>omega
  ·have M: ¬(j:Int)<(z.length:Int):=by omega
   obtain rfl:j=z.length:=by omega
   go_wp2
   go_end0
   exact⟨rfl,by have:=H.out;rw[List.take_length] at this;exact this⟩
theorem zsl (a b:ByteArray):Lib.strCells (a++b)=Lib.strCells a++Lib.strCells b:=by simp[Lib.strCells]
def zv (t:ByteArray) (ps:List ByteArray):ByteArray:=ps.foldl (· ++ ·) t
theorem zkC (h:List ByteArray): ∀t,Lib.strCells (zv t h)=Lib.strCells t++h.flatMap Lib.strCells:=by
 induction h with
 |nil=>intro t;simp[zv]
 |cons p h j=>
  intro t
  have:=j (t++p)
  simp only[zv,List.foldl_cons] at this ⊢
  rw[this,zsl,List.flatMap_cons,List.append_assoc]
structure PC where
 B:Nat
 b:Nat
 gp:Nat
 base:Nat
 S:Sv
 m:Md
def PP (c:PC) (t:ByteArray) (w:World):Prop:=
 (Lib.IsBuilder 163 5 c.B c.b (Lib.strCells t) w∧c.B≤w.heap.size)∧OwnMd w c.base c.S c.m∧
 (w.heap[c.gp]? =some (.cells #[.slice c.S.rq.a c.m.rq.length c.S.rq.cap,.slice c.S.im.a c.m.im.length c.S.im.cap,.slice c.S.ep.a c.m.ep.length c.S.ep.cap,.slice c.S.st.a c.m.st.length c.S.st.cap,.slice c.S.ex.a c.m.ex.length c.S.ex.cap,.func (.func 122) #[] #[.pointer (some ⟨c.b,0,none⟩)]] 171 (0,0))∧c.gp≠c.b)
theorem zcf {B b:Nat} {z:List Value} {w:World} (h:Lib.IsBuilder 163 5 B b z w): ∃j,w.heap[b]? =some (.cells j 163 (0,0)):=by
 rcases h with ⟨_,v,h,_⟩|⟨_,v,h,_⟩<;>exact⟨_,h⟩
theorem OwnMd.keepT {w w':World} {j b:Nat} {S:Sv} {m:Md} {I:Array Value} (h:OwnMd w j S m) (V:w.heap[b]? =some (.cells I 163 (0,0))) (M:KeepB b w w'):OwnMd w' j S m:=by
 have A: ∀(e:TypeId) (z n:Nat) (r:Rw) (J:List Value),OwnR w j e z r n J→e≠5→e≠163→OwnR w' j e z r n J:=fun e z n r J h N L=>h.keep fun k O=>by
  obtain⟨_,_,c,H⟩:=h.typed O
  refine M k c e _ H (fun U=>?_) N
  rw[U,V] at H
  simp only[Option.some.injEq,Obj.cells.injEq] at H
  exact L H.2.1.symm
 exact⟨A _ _ _ _ _ h.rq (by decide) (by decide),A _ _ _ _ _ h.im (by decide) (by decide),A _ _ _ _ _ h.ep (by decide) (by decide),A _ _ _ _ _ h.st (by decide) (by decide),A _ _ _ _ _ h.ex (by decide) (by decide)⟩
theorem zkD {B b:Nat} {H:List Value} {w w':World} (h:Lib.IsBuilder 163 5 B b H w) (j:Below w.heap.size w w'):Lib.IsBuilder 163 5 B b H w':=by
 have z: ∀p,Lib.BuilderAt 163 5 B b p H w→Lib.BuilderAt 163 5 B b p H w':=by
  rintro p ⟨N,v,J,A,I⟩
  refine⟨N,v,(j.block _ (Array.getElem?_eq_some_iff.1 J).1).trans J,?_,I⟩
  refine A.kept (row:=none) ⟨j.os,j.tape,j.output,j.size,fun k M _=>j.block k M⟩ ?_
  cases L:v.ownBlock with
  |none=>exact .inl rfl
  |some k=>exact .inr (by simp)
 exact h.elim (fun h=>.inl (z _ h)) fun h=>.inr (z _ h)
theorem PP.later {c:PC} {t:ByteArray} {w w':World} (h:PP c t w) (j:Below w.heap.size w w'):PP c t w':=
 ⟨⟨zkD h.1.1 j,Nat.le_trans h.1.2 j.size⟩,h.2.1.later j,(j.block _ (Array.getElem?_eq_some_iff.1 h.2.2.1).1).trans h.2.2.1,h.2.2.2⟩
theorem KeepB.of_below {b:Nat} {w w':World} (h:Below w.heap.size w w'):KeepB b w w':=fun k _ _ _ j _ _=>h.block k (Array.getElem?_eq_some_iff.1 j).1
def PO (c:PC) (t:ByteArray) (w:World) (e:Ending) (w':World):Prop:=e= .returned (.tuple #[])∧PP c t w'∧Below c.B w w'∧KeepB c.b w w'
theorem zkE (c:PC) (t:ByteArray) (z:List ByteArray) (I:Nat) (w:World) (h:PP c t w) (H:w.heap[I]? =some (.cells (z.map Value.string).toArray 9 (0,0))) (A:(zv t z).size≤140737488355328) (U:z.length≤4294967296):
  Calls Tryz.prog 122 #[.slice (some ⟨I,0,none⟩) z.length z.length,.pointer (some ⟨c.b,0,none⟩)] w (PO c (zv t z) w):=by
 obtain⟨O,j⟩:=zcf h.1.1
 have J:I≠c.b:=fun e=>by
  rw[e,j] at H
  simp only[Option.some.injEq,Obj.cells.injEq] at H
  exact absurd H.2.1 (by decide)
 refine (zsk c.B c.b I (Lib.strCells t) z w h.1.1 H (by rw[←List.length_append,←zkC,Lib.strCells_length];exact A) U h.1.2 J).mono ?_
 rintro e V ⟨rfl,N,M,L⟩
 rw[←zkC] at N
 exact⟨rfl,⟨⟨N,Nat.le_trans h.1.2 M.size⟩,h.2.1.keepT j L,(L _ _ _ _ h.2.2.1 h.2.2.2 (by decide)).trans h.2.2.1,h.2.2.2⟩,M,L⟩
theorem zbL (c:PC) (t:ByteArray) (j:List ByteArray) (w:World) (h:PP c t w) (z:(zv t j).size≤140737488355328) (M:j.length≤4294967296):
  Calls Tryz.prog 122 #[.slice (some ⟨w.heap.size,0,none⟩) j.length j.length,.pointer (some ⟨c.b,0,none⟩)] (w.alloc (.cells (j.map Value.string).toArray 9)) (PO c (zv t j) w):=by
 have A:Below w.heap.size w (w.alloc (.cells (j.map Value.string).toArray 9)):=(Below.refl _ _).alloc (Nat.le_refl _) _
 refine (zkE c t j w.heap.size _ (h.later A) (heap_alloc_new w _) z M).mono ?_
 rintro e N ⟨H,J,I,L⟩
 exact⟨H,J,(A.mono h.1.2).trans I,(KeepB.of_below A).trans L⟩
theorem zg9 (s:ByteArray) (w:World) (j:s.size≤1099511627776):Calls Tryz.prog 171 #[.string s] w fun e w'=>e= .returned (.string (za0 s))∧w'=w:=by
 have h:Hid (za0 s=({data:=#[34]}:ByteArray)++s++({data:=#[34]}:ByteArray)):=rfl
 go_enter Tryz.func171,Tryz.ntmps171
 go_wp2
 go_ret
 exact⟨by rw[h.out];rfl,rfl⟩
def zca (a b:ByteArray):ByteArray:=({data:=#[123,32]}:ByteArray)++asT a b++({data:=#[32,125]}:ByteArray)
theorem zhK (c:PC) (t a b:ByteArray) (w:World) (h:PP c t w) (j:(t++zca a b).size≤140737488355328):
  Calls Tryz.prog 200 #[.pointer (some ⟨c.gp,0,none⟩),.string a,.string b] w (PO c (t++zca a b) w):=by
 have HP:=zc h
 have HL:=zc j
 clear h j
 obtain⟨p0,p1,Y,U,X,V,Z⟩:=zy HP.out.2.2.1
 go_enter Tryz.func200,Tryz.ntmps200
 have z1:(({data:=#[123,32]}:ByteArray)).size=2:=rfl
 have z2:(({data:=#[32,125]}:ByteArray)).size=2:=rfl
 have z3:(({data:=#[32,97,115,32]}:ByteArray)).size=4:=rfl
 have j:=HL.out
 simp only[zca,ByteArray.size_append,z1,z2] at j
 have HZ:=zc j
 clear j
 cases ae:(b.toList==a.toList) with
 |true=>
  have J:(a.toList==b.toList)=true:=by rw[BEq.comm];exact ae
  have HA:Hid (asT a b=a):=by show _=_;rw[asT,J];rfl
  go_wp2_with fail
  refine (zbL c t [{data:=#[123,32]},a] w HP.out (by have:=HZ.out;rw[HA.out] at this;simp only[zv,List.foldl_cons,List.foldl_nil,ByteArray.size_append,z1];omega) (by simp)).mono ?_
  rintro e w1 ⟨rfl,z,N,H⟩
  have L:=zc z
  have ac:=zc N
  have aa:=zc H
  clear z N H p0 p1 Y U X V Z
  obtain⟨p0,p1,Y,U,X,V,Z⟩:=zy L.out.2.2.1
  go_wp2_with fail
  refine (zbL c _ [{data:=#[32,125]}] w1 L.out (by have:=HZ.out;rw[HA.out] at this;simp only[zv,List.foldl_cons,List.foldl_nil,ByteArray.size_append,z1,z2];omega) (by simp)).mono ?_
  rintro e w2 ⟨rfl,I,M,A⟩
  have O:=zc I
  have ad:=zc (ac.out.trans M)
  have ab:=zc (aa.out.trans A)
  clear I M A p0 p1 Y U X V Z
  go_wp2
  go_end0
  refine⟨rfl,?_,ad.out,ab.out⟩
  have:=O.out
  simp only[zv,List.foldl_cons,List.foldl_nil] at this
  rw[zca,HA.out,←ByteArray.append_assoc,←ByteArray.append_assoc]
  exact this
 |false=>
  have J:(a.toList==b.toList)=false:=by rw[BEq.comm];exact ae
  have HA:Hid (asT a b=a++({data:=#[32,97,115,32]}:ByteArray)++b):=by show _=_;rw[asT,J];rfl
  go_wp2_with fail
  refine (zbL c t [{data:=#[123,32]},a] w HP.out (by have:=HZ.out;rw[HA.out] at this;simp only[zv,List.foldl_cons,List.foldl_nil,ByteArray.size_append,z1,z3] at this ⊢;omega) (by simp)).mono ?_
  rintro e w1 ⟨rfl,z,N,H⟩
  have L:=zc z
  have ac:=zc N
  have aa:=zc H
  clear z N H p0 p1 Y U X V Z
  obtain⟨p0,p1,Y,U,X,V,Z⟩:=zy L.out.2.2.1
  go_wp2_with fail
  refine (zbL c _ [{data:=#[32,97,115,32]},b] w1 L.out (by have:=HZ.out;rw[HA.out] at this;simp only[zv,List.foldl_cons,List.foldl_nil,ByteArray.size_append,z1,z3] at this ⊢;omega) (by simp)).mono ?_
  rintro e w2 ⟨rfl,I,M,A⟩
  have O:=zc I
  have ad:=zc (ac.out.trans M)
  have ab:=zc (aa.out.trans A)
  clear I M A p0 p1 Y U X V Z
  obtain⟨p0,p1,Y,U,X,V,Z⟩:=zy O.out.2.2.1
  go_wp2_with fail
  refine (zbL c _ [{data:=#[32,125]}] w2 O.out (by have:=HZ.out;rw[HA.out] at this;simp only[zv,List.foldl_cons,List.foldl_nil,ByteArray.size_append,z1,z2,z3] at this ⊢;omega) (by simp)).mono ?_
  rintro e w3 ⟨rfl,af,ah,ag⟩
  have aj:=zc af
  have ai:=zc (ad.out.trans ah)
  have ak:=zc (ab.out.trans ag)
  clear af ah ag p0 p1 Y U X V Z
  go_wp2
  go_end0
  refine⟨rfl,?_,ai.out,ak.out⟩
  have:=aj.out
  simp only[zv,List.foldl_cons,List.foldl_nil] at this
  rw[zca,HA.out]
  simp only[←ByteArray.append_assoc] at this ⊢
  exact this
end Go.Proofs.YtjdddblpfbmpaaaGreat
