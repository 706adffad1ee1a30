/-
  What a strings.Builder's copyCheck and WriteString answer in this program: the walks.
  What the closure put of impl's Print answers: the walk.
  impl's printer in memory; what quoted,list and kind answer: the walks.
-/
import Derived.Lib.Builder
import Derived.Lib.AppendStr
import Derived.Laws.Externs
import Derived.Test.YticdggnnpjachaaGreatCcImplTree
namespace Go.Proofs.YticdggnnpjachaaGreat
set_option maxRecDepth 100000
set_option maxHeartbeats 2000000
open Go.RowKit Go.PlainAid Go.Sort
theorem Tryz.sizeBld:(Tryz.prog.info? 87).map (·.size)=some 2:=by kernel_rfl
theorem Tryz.liesBld:liesAt Tryz.prog Tryz.prog.depth 87 (2/Tryz.prog.cellsOf 87) 0 87 1=true:=by kernel_rfl
theorem zmm (b:Nat) (w:World) (h:w.cell? ⟨b,0,none⟩=some (.pointer (some ⟨b,0,none⟩))):
  Calls Tryz.prog 116 #[.pointer (some ⟨b,0,none⟩)] w fun e n=>e= .returned (.tuple #[])∧n=w:=by
 obtain⟨j,o,_⟩:=Option.map_eq_some_iff.1 Tryz.sizeBld
 go_enter Tryz.func116,Tryz.ntmps116
 go_wp2
 rw[Lib.run_neq_ptr_same w _ Tryz.underlying85 o]
 go_wp2
 go_end0
 exact⟨rfl,rfl⟩
theorem zmn (b:Nat) (w:World) (A:w.cell? ⟨b,0,none⟩=some (.pointer none)) (h:w.shape? b=some (87,2)) (z:w.frozen? ⟨b,0,none⟩=false):
  Calls Tryz.prog 116 #[.pointer (some ⟨b,0,none⟩)] w fun e q=>e= .returned (.tuple #[])∧q=w.setCell ⟨b,0,none⟩ (.pointer (some ⟨b,0,none⟩)):=by
 obtain⟨j,o,n⟩:=Option.map_eq_some_iff.1 Tryz.sizeBld
 go_enter Tryz.func116,Tryz.ntmps116
 go_wp2
 rw[Lib.run_to_unsafe w ⟨b,0,none⟩ Tryz.underlying85 Tryz.underlying179 o (by rw[n];decide) h (Nat.zero_lt_succ 1)]
 simp only[Result.andThen]
 rw[Oper.upon_value]
 go_wp2
 rw[run_callFunc_extern Tryz.func160 (by kernel_rfl) (by kernel_rfl) (by kernel_rfl) (e:=Extern.AbiNoEscape.same) (by kernel_rfl)]
 rw[Lib.run_noEscape]
 simp only[Result.andThen]
 rw[Oper.upon_value]
 go_wp2
 rw[Lib.run_from_unsafe w ⟨b,0,none⟩ Tryz.underlying179 Tryz.underlying85 o h Tryz.liesBld]
 simp only[Result.andThen]
 rw[Oper.upon_value]
 go_wp2
 go_end0
 exact⟨rfl,rfl⟩
theorem zmo (B b:Nat) (n:List Value) (w:World) (h:Lib.IsBuilder 87 5 B b n w):
  Calls Tryz.prog 116 #[.pointer (some ⟨b,0,none⟩)] w fun e j=>e= .returned (.tuple #[])∧Lib.BuilderAt 87 5 B b (.pointer (some ⟨b,0,none⟩)) n j∧Below B w j∧∀k,k≠b→j.heap[k]? =w.heap[k]?:=by
 rcases h with h|h
 ·refine (zmn b w h.cell0 h.shape h.frozen0).mono ?_
  rintro e j ⟨rfl,rfl⟩
  exact⟨rfl,h.used _,(Below.refl B w).setCell (p:=⟨b,0,none⟩) h.1 _,fun k o=>zp o⟩
 ·refine (zmm b w h.cell0).mono ?_
  rintro e j ⟨rfl,rfl⟩
  exact⟨rfl,h,Below.refl B _,fun k _=>rfl⟩
def zmp (B b:Nat) (bs:List Value) (w w':World):Prop:=Lib.BuilderAt 87 5 B b (.pointer (some ⟨b,0,none⟩)) bs w'∧Below B w w'∧∀(k:Nat) (cur:Array Value) (t:TypeId) (fz:Nat×Nat),w.heap[k]? =some (.cells cur t fz)→k≠b→t≠5→w'.heap[k]? =w.heap[k]?
theorem Tryz.infoByte1:(Tryz.prog.info? 5).map (fun i=>(i.zero,i.size,i.bytes))=some (some (.int .u8 0),1,1):=by kernel_rfl
theorem zmq {w:World} {B k:Nat} {e:TypeId} {v:Value} {n:Nat} {xs:List Value} (h:w.ownsRow B e 1 v n xs) (j:some k=v.ownBlock): ∃c,w.heap[k]? =some (.cells c e (0,0)):=by
 rcases h.2 with ⟨q,_⟩|⟨g,A,o,q,_,z,_⟩
 ·rw[q] at j
  cases j
 ·rw[q] at j
  simp only[Value.ownBlock,Option.some.injEq] at j
  rw[j]
  exact⟨o,z⟩
theorem zmr (B b:Nat) (I:List Value) (s:ByteArray) (w:World) (h:Lib.IsBuilder 87 5 B b I w) (ab:I.length+s.size≤140737488355328) (ac:B≤w.heap.size):
  Calls Tryz.prog 58 #[.pointer (some ⟨b,0,none⟩),.string s] w fun e w'=>e= .returned (.tuple #[.int .i64 s.size,.nilIface])∧zmp B b (I++Lib.strCells s) w w':=by
 obtain⟨i0,hi,X,Y,O⟩:=info_parts Tryz.infoByte1
 go_enter Tryz.func58,Tryz.ntmps58
 go_wp2_with fail
 refine (zmo B b I _ h).mono ?_
 rintro e U ⟨rfl,h1,D,L⟩
 obtain⟨hB,v,q,n,N⟩:=h1
 have c0:U.cell? ⟨b,0,none⟩=some (.pointer (some ⟨b,0,none⟩)):=by rw[Lib.cell_of_heap q];rfl
 have c1:U.cell? ⟨b,1,none⟩=some v:=by rw[Lib.cell_of_heap q];rfl
 go_wp2_with (at_builtin;refine Lib.wpList_append_own_string _ rfl _ _ 44 9 rfl B 5 i0 Tryz.underlying44 Tryz.underlying9 hi X Y O _ _ _ rfl n s rfl ?c3 ?c4 ?c5 ?_)
 case c3=>unfold maxLen;omega
 case c4=>omega
 case c5=>have:=D.size;omega
 intro v' K o j _
 have aa:b<U.heap.size:=(Array.getElem?_eq_some_iff.1 q).1
 have z:K.heap[b]? =some (.cells #[.pointer (some ⟨b,0,none⟩),v] 87 (0,0)):=(j.block b aa (fun e=>N e.symm)).trans q
 have d0:K.cell? ⟨b,0,none⟩=some (.pointer (some ⟨b,0,none⟩)):=by rw[Lib.cell_of_heap z];rfl
 have d1:K.cell? ⟨b,1,none⟩=some v:=by rw[Lib.cell_of_heap z];rfl
 have f1:K.frozen? ⟨b,1,none⟩=false:=Lib.frozen_of_heap z 1
 obtain⟨ao,n',A,rfl⟩: ∃ao n' A,v'= .slice ao n' A:=by
  rcases o.2 with ⟨H,_⟩|⟨g,A,Z,H,_⟩
  ·exact⟨_,_,_,H⟩
  ·exact⟨_,_,_,H⟩
 go_wp2
 go_ret2
 refine⟨rfl,Lib.BuilderAt.put (T:=87) (e:=5) hB z (bs':=I++Lib.strCells s) (by simpa [Lib.strCells_length] using o) (by decide),(D.grown j (by have:=D.size;omega) (fun k J=>(n.lt k J).1)).setCell (p:=⟨b,1,none⟩) hB _,?_⟩
 intro k Z t fz J E ht
 have M:=L k E
 rw[zp E,j.block k (Array.getElem?_eq_some_iff.1 (M.trans J)).1 ?_,M]
 intro H
 obtain⟨c,V⟩:=zmq n H
 rw[M,J] at V
 simp only[Option.some.injEq,Obj.cells.injEq] at V
 exact ht V.2.1
def KeepB (b:Nat) (w w':World):Prop:=∀(k:Nat) (cur:Array Value) (t:TypeId) (fz:Nat×Nat),w.heap[k]? =some (.cells cur t fz)→k≠b→t≠5→w'.heap[k]? =w.heap[k]?
theorem KeepB.refl (b:Nat) (w:World):KeepB b w w:=fun _ _ _ _ _ _ _=>rfl
theorem KeepB.trans {b:Nat} {w o n:World} (h:KeepB b w o) (E:KeepB b o n):KeepB b w n:=fun k j t D A q z=>by
 have e:=h k j t D A q z
 rw[E k j t D (e.trans A) q z,e]
def zhX (B b:Nat) (bs:List Value) (w w':World):Prop:=Lib.IsBuilder 87 5 B b bs w'∧Below B w w'∧KeepB b w w'
theorem zhY {h:List ByteArray} {j:Nat} (n:j<h.length):(h.take (j+1)).flatMap Lib.strCells=(h.take j).flatMap Lib.strCells++Lib.strCells h[j]:=by
 rw[List.take_succ_eq_append_getElem n,List.flatMap_append]
 simp
theorem zms (h:List ByteArray) {j:Nat} (n:j<h.length):((h.take j).flatMap Lib.strCells).length+h[j].size≤(h.flatMap Lib.strCells).length:=by
 have e:=congrArg List.length (congrArg (List.flatMap Lib.strCells) (List.take_append_drop (j+1) h))
 rw[List.flatMap_append,zhY n] at e
 simp only[List.length_append,Lib.strCells_length] at e
 omega
theorem zmt (B b D:Nat) (I:List Value) (n:List ByteArray) (w:World) (h:Lib.IsBuilder 87 5 B b I w) (N:w.heap[D]? =some (.cells (n.map Value.string).toArray 9 (0,0))) (Z:I.length+(n.flatMap Lib.strCells).length≤140737488355328) (hn:n.length≤4294967296) (hB:B≤w.heap.size) (K:D≠b):
  Calls Tryz.prog 57 #[.slice (some ⟨D,0,none⟩) n.length n.length,.pointer (some ⟨b,0,none⟩)] w fun e w'=>e= .returned (.tuple #[])∧zhX B b (I++n.flatMap Lib.strCells) w w':=by
 have HI:=zc h
 have X:=zc N
 clear h N
 go_enter Tryz.func57,Tryz.ntmps57
 go_wp2
 go_loopg [7] n.length (fun k i wr=>∃j:Nat,i= .int .i64 j∧j+k=n.length∧zhX B b (I++(n.take j).flatMap Lib.strCells) w wr)
 case atStart=>exact⟨0,rfl,by omega,by simp only[List.take_zero,List.flatMap_nil,List.append_nil];exact HI.out,Below.refl _ _,KeepB.refl _ _⟩
 case round=>
  obtain⟨j,rfl,hj,U⟩:=hrel
  have q:=zc U
  clear U
  by_cases o:j<n.length
  ·have A:(j:Int)<(n.length:Int):=by omega
   have L:=zc ((q.out.2.2 D _ _ _ X.out K (by decide)).trans X.out)
   have q0:wr.cell? ⟨D,j,none⟩=some (.string n[j]):=by
    rw[Lib.cell_of_heap L.out]
    simp[List.getElem?_eq_getElem o]
   obtain⟨s,J⟩: ∃s,n[j]=s:=⟨_,rfl⟩
   rw[J] at q0
   have O:=zc J
   clear J
   obtain⟨H,z⟩: ∃H,H=j+1:=⟨_,rfl⟩
   have ej:(j:Int)+1=(H:Int):=by omega
   have Y:=zc z
   clear z
   go_wp2_with fail
   have E:=zms n o
   rw[O.out] at E
   refine (zmr B b _ s wr q.out.1 (by rw[List.length_append];omega) (by have:=q.out.2.1.size;omega)).mono ?_
   rintro e w2 ⟨rfl,V⟩
   have M:=zc V
   clear V E
   go_wp2
   go_roundg (gk-1)
   case rel=>
    refine⟨H,rfl,by have:=Y.out;omega,?_,q.out.2.1.trans M.out.2.1,q.out.2.2.trans M.out.2.2⟩
    rw[Y.out,zhY o,O.out,←List.append_assoc]
    exact .inr M.out.1
   case measure=>omega
  ·have A: ¬(j:Int)<(n.length:Int):=by omega
   obtain rfl:j=n.length:=by omega
   go_wp2
   go_end0
   exact⟨rfl,by have:=q.out;rw[List.take_length] at this;exact this⟩
theorem zmu (a b:ByteArray):Lib.strCells (a++b)=Lib.strCells a++Lib.strCells b:=by simp[Lib.strCells]
def zr (t:ByteArray) (ps:List ByteArray):ByteArray:=ps.foldl (· ++ ·) t
theorem zhZ (h:List ByteArray): ∀t,Lib.strCells (zr t h)=Lib.strCells t++h.flatMap Lib.strCells:=by
 induction h with
 |nil=>intro t;simp[zr]
 |cons p h j=>
  intro t
  have:=j (t++p)
  simp only[zr,List.foldl_cons] at this ⊢
  rw[this,zmu,List.flatMap_cons,List.append_assoc]
structure PC where
 B:Nat
 b:Nat
 gp:Nat
 base:Nat
 S:Sv
 m:Md
def PP (c:PC) (t:ByteArray) (w:World):Prop:=
 (Lib.IsBuilder 87 5 c.B c.b (Lib.strCells t) w∧c.B≤w.heap.size)∧OwnMd w c.base c.S c.m∧
 (w.heap[c.gp]? =some (.cells #[.slice c.S.rq.a c.m.rq.length c.S.rq.cap,.slice c.S.im.a c.m.im.length c.S.im.cap,.slice c.S.ep.a c.m.ep.length c.S.ep.cap,.slice c.S.st.a c.m.st.length c.S.st.cap,.slice c.S.ex.a c.m.ex.length c.S.ex.cap,.func (.func 57) #[] #[.pointer (some ⟨c.b,0,none⟩)]] 95 (0,0))∧c.gp≠c.b)
theorem zbC {B b:Nat} {n:List Value} {w:World} (h:Lib.IsBuilder 87 5 B b n w): ∃j,w.heap[b]? =some (.cells j 87 (0,0)):=by
 rcases h with ⟨_,v,h,_⟩|⟨_,v,h,_⟩<;>exact⟨_,h⟩
theorem OwnMd.keepT {w A:World} {j b:Nat} {S:Sv} {m:Md} {D:Array Value} (h:OwnMd w j S m) (I:w.heap[b]? =some (.cells D 87 (0,0))) (K:KeepB b w A):OwnMd A j S m:=by
 have q: ∀(e:TypeId) (o n:Nat) (r:Rw) (E:List Value),OwnR w j e o r n E→e≠5→e≠87→OwnR A j e o r n E:=fun e o n r E h J H=>h.keep fun k M=>by
  obtain⟨_,_,c,z⟩:=h.typed M
  refine K k c e _ z (fun L=>?_) J
  rw[L,I] at z
  simp only[Option.some.injEq,Obj.cells.injEq] at z
  exact H z.2.1.symm
 exact⟨q _ _ _ _ _ h.rq (by decide) (by decide),q _ _ _ _ _ h.im (by decide) (by decide),q _ _ _ _ _ h.ep (by decide) (by decide),q _ _ _ _ _ h.st (by decide) (by decide),q _ _ _ _ _ h.ex (by decide) (by decide)⟩
theorem zia {B b:Nat} {q:List Value} {w z:World} (h:Lib.IsBuilder 87 5 B b q w) (j:Below w.heap.size w z):Lib.IsBuilder 87 5 B b q z:=by
 have o: ∀p,Lib.BuilderAt 87 5 B b p q w→Lib.BuilderAt 87 5 B b p q z:=by
  rintro p ⟨H,v,D,n,A⟩
  refine⟨H,v,(j.block _ (Array.getElem?_eq_some_iff.1 D).1).trans D,?_,A⟩
  refine n.kept (row:=none) ⟨j.os,j.tape,j.output,j.size,fun k I _=>j.block k I⟩ ?_
  cases E:v.ownBlock with
  |none=>exact .inl rfl
  |some k=>exact .inr (by simp)
 exact h.elim (fun h=>.inl (o _ h)) fun h=>.inr (o _ h)
theorem PP.later {c:PC} {t:ByteArray} {w n:World} (h:PP c t w) (j:Below w.heap.size w n):PP c t n:=
 ⟨⟨zia h.1.1 j,Nat.le_trans h.1.2 j.size⟩,h.2.1.later j,(j.block _ (Array.getElem?_eq_some_iff.1 h.2.2.1).1).trans h.2.2.1,h.2.2.2⟩
theorem KeepB.of_below {b:Nat} {w j:World} (h:Below w.heap.size w j):KeepB b w j:=fun k _ _ _ n _ _=>h.block k (Array.getElem?_eq_some_iff.1 n).1
def PO (c:PC) (t:ByteArray) (w:World) (e:Ending) (w':World):Prop:=e= .returned (.tuple #[])∧PP c t w'∧Below c.B w w'∧KeepB c.b w w'
theorem zib (c:PC) (t:ByteArray) (n:List ByteArray) (z:Nat) (w:World) (h:PP c t w) (q:w.heap[z]? =some (.cells (n.map Value.string).toArray 9 (0,0))) (o:(zr t n).size≤140737488355328) (I:n.length≤4294967296):
  Calls Tryz.prog 57 #[.slice (some ⟨z,0,none⟩) n.length n.length,.pointer (some ⟨c.b,0,none⟩)] w (PO c (zr t n) w):=by
 obtain⟨J,j⟩:=zbC h.1.1
 have D:z≠c.b:=fun e=>by
  rw[e,j] at q
  simp only[Option.some.injEq,Obj.cells.injEq] at q
  exact absurd q.2.1 (by decide)
 refine (zmt c.B c.b z (Lib.strCells t) n w h.1.1 q (by rw[←List.length_append,←zhZ,Lib.strCells_length];exact o) I h.1.2 D).mono ?_
 rintro e K ⟨rfl,E,H,A⟩
 rw[←zhZ] at E
 exact⟨rfl,⟨⟨E,Nat.le_trans h.1.2 H.size⟩,h.2.1.keepT j A,(A _ _ _ _ h.2.2.1 h.2.2.2 (by decide)).trans h.2.2.1,h.2.2.2⟩,H,A⟩
theorem zbu (c:PC) (t:ByteArray) (j:List ByteArray) (w:World) (h:PP c t w) (n:(zr t j).size≤140737488355328) (z:j.length≤4294967296):
  Calls Tryz.prog 57 #[.slice (some ⟨w.heap.size,0,none⟩) j.length j.length,.pointer (some ⟨c.b,0,none⟩)] (w.alloc (.cells (j.map Value.string).toArray 9)) (PO c (zr t j) w):=by
 have o:Below w.heap.size w (w.alloc (.cells (j.map Value.string).toArray 9)):=(Below.refl _ _).alloc (Nat.le_refl _) _
 refine (zib c t j w.heap.size _ (h.later o) (heap_alloc_new w _) n z).mono ?_
 rintro e H ⟨q,D,E,A⟩
 exact⟨q,D,(o.mono h.1.2).trans E,(KeepB.of_below o).trans A⟩
theorem zfo (s:ByteArray) (w:World) (n:s.size≤1099511627776):Calls Tryz.prog 117 #[.string s] w fun e h=>e= .returned (.string (zar s))∧h=w:=by
 have j:Hid (zar s=({data:=#[34]}:ByteArray)++s++({data:=#[34]}:ByteArray)):=rfl
 go_enter Tryz.func117,Tryz.ntmps117
 go_wp2
 go_ret
 exact⟨by rw[j.out];rfl,rfl⟩
def zb7 (a b:ByteArray):ByteArray:=({data:=#[123,32]}:ByteArray)++asT a b++({data:=#[32,125]}:ByteArray)
theorem zgf (c:PC) (t a b:ByteArray) (w:World) (h:PP c t w) (j:(t++zb7 a b).size≤140737488355328):
  Calls Tryz.prog 161 #[.pointer (some ⟨c.gp,0,none⟩),.string a,.string b] w (PO c (t++zb7 a b) w):=by
 have HP:=zc h
 have HL:=zc j
 clear h j
 obtain⟨O,M,V,K,U,N,J⟩:=zu HP.out.2.2.1
 go_enter Tryz.func161,Tryz.ntmps161
 have z1:(({data:=#[123,32]}:ByteArray)).size=2:=rfl
 have z2:(({data:=#[32,125]}:ByteArray)).size=2:=rfl
 have z3:(({data:=#[32,97,115,32]}:ByteArray)).size=4:=rfl
 have j:=HL.out
 simp only[zb7,ByteArray.size_append,z1,z2] at j
 have HZ:=zc j
 clear j
 cases ac:(b.toList==a.toList) with
 |true=>
  have z:(a.toList==b.toList)=true:=by rw[BEq.comm];exact ac
  have L:Hid (asT a b=a):=by show _=_;rw[asT,z];rfl
  go_wp2_with fail
  refine (zbu c t [{data:=#[123,32]},a] w HP.out (by have:=HZ.out;rw[L.out] at this;simp only[zr,List.foldl_cons,List.foldl_nil,ByteArray.size_append,z1];omega) (by simp)).mono ?_
  rintro e w1 ⟨rfl,o,H,n⟩
  have A:=zc o
  have Y:=zc H
  have X:=zc n
  clear o H n O M V K U N J
  obtain⟨O,M,V,K,U,N,J⟩:=zu A.out.2.2.1
  go_wp2_with fail
  refine (zbu c _ [{data:=#[32,125]}] w1 A.out (by have:=HZ.out;rw[L.out] at this;simp only[zr,List.foldl_cons,List.foldl_nil,ByteArray.size_append,z1,z2];omega) (by simp)).mono ?_
  rintro e w2 ⟨rfl,E,q,D⟩
  have I:=zc E
  have Z:=zc (Y.out.trans q)
  have aa:=zc (X.out.trans D)
  clear E q D O M V K U N J
  go_wp2
  go_end0
  refine⟨rfl,?_,Z.out,aa.out⟩
  have:=I.out
  simp only[zr,List.foldl_cons,List.foldl_nil] at this
  rw[zb7,L.out,←ByteArray.append_assoc,←ByteArray.append_assoc]
  exact this
 |false=>
  have z:(a.toList==b.toList)=false:=by rw[BEq.comm];exact ac
  have L:Hid (asT a b=a++({data:=#[32,97,115,32]}:ByteArray)++b):=by show _=_;rw[asT,z];rfl
  go_wp2_with fail
  refine (zbu c t [{data:=#[123,32]},a] w HP.out (by have:=HZ.out;rw[L.out] at this;simp only[zr,List.foldl_cons,List.foldl_nil,ByteArray.size_append,z1,z3] at this ⊢;omega) (by simp)).mono ?_
  rintro e w1 ⟨rfl,o,H,n⟩
  have A:=zc o
  have Y:=zc H
  have X:=zc n
  clear o H n O M V K U N J
  obtain⟨O,M,V,K,U,N,J⟩:=zu A.out.2.2.1
  go_wp2_with fail
  refine (zbu c _ [{data:=#[32,97,115,32]},b] w1 A.out (by have:=HZ.out;rw[L.out] at this;simp only[zr,List.foldl_cons,List.foldl_nil,ByteArray.size_append,z1,z3] at this ⊢;omega) (by simp)).mono ?_
  rintro e w2 ⟨rfl,E,q,D⟩
  have I:=zc E
  have Z:=zc (Y.out.trans q)
  have aa:=zc (X.out.trans D)
  clear E q D O M V K U N J
  obtain⟨O,M,V,K,U,N,J⟩:=zu I.out.2.2.1
  go_wp2_with fail
  refine (zbu c _ [{data:=#[32,125]}] w2 I.out (by have:=HZ.out;rw[L.out] at this;simp only[zr,List.foldl_cons,List.foldl_nil,ByteArray.size_append,z1,z2,z3] at this ⊢;omega) (by simp)).mono ?_
  rintro e w3 ⟨rfl,ab,ae,ad⟩
  have ag:=zc ab
  have ah:=zc (Z.out.trans ae)
  have af:=zc (aa.out.trans ad)
  clear ab ae ad O M V K U N J
  go_wp2
  go_end0
  refine⟨rfl,?_,ah.out,af.out⟩
  have:=ag.out
  simp only[zr,List.foldl_cons,List.foldl_nil] at this
  rw[zb7,L.out]
  simp only[←ByteArray.append_assoc] at this ⊢
  exact this
end Go.Proofs.YticdggnnpjachaaGreat
