/-
  What a strings.Builder's copyCheck and WriteString answer in this program: the walks.
  What the closure put of impl's Print answers: the walk.
  impl's printer in memory; what quoted,list and kind answer: the walks.
-/
import Derived.Lib.Builder
import Derived.Lib.AppendStr
import Derived.Laws.Externs
import Derived.Test.YticdggnnpjachaaGreatCbImplTree
namespace Go.Proofs.YticdggnnpjachaaGreat
set_option maxRecDepth 100000
set_option maxHeartbeats 2000000
open Go.RowKit Go.PlainAid Go.Sort
theorem Tryz.sizeBld:(Tryz.prog.info? 87).map (·.size)=some 2:=by kernel_rfl
theorem Tryz.liesBld:liesAt Tryz.prog Tryz.prog.depth 87 (2/Tryz.prog.cellsOf 87) 0 87 1=true:=by kernel_rfl
theorem zpg (b:Nat) (w:World) (h:w.cell? ⟨b,0,none⟩=some (.pointer (some ⟨b,0,none⟩))):
  Calls Tryz.prog 116 #[.pointer (some ⟨b,0,none⟩)] w fun e o=>e= .returned (.tuple #[])∧o=w:=by
 obtain⟨j,n,_⟩:=Option.map_eq_some_iff.1 Tryz.sizeBld
 go_enter Tryz.func116,Tryz.ntmps116
 go_wp2
 rw[Lib.run_neq_ptr_same w _ Tryz.underlying85 n]
 go_wp2
 go_end0
 exact⟨rfl,rfl⟩
theorem zph (b:Nat) (w:World) (D:w.cell? ⟨b,0,none⟩=some (.pointer none)) (n:w.shape? b=some (87,2)) (z:w.frozen? ⟨b,0,none⟩=false):
  Calls Tryz.prog 116 #[.pointer (some ⟨b,0,none⟩)] w fun e A=>e= .returned (.tuple #[])∧A=w.setCell ⟨b,0,none⟩ (.pointer (some ⟨b,0,none⟩)):=by
 obtain⟨j,q,o⟩:=Option.map_eq_some_iff.1 Tryz.sizeBld
 go_enter Tryz.func116,Tryz.ntmps116
 go_wp2
 rw[Lib.run_to_unsafe w ⟨b,0,none⟩ Tryz.underlying85 Tryz.underlying179 q (by rw[o];decide) n (Nat.zero_lt_succ 1)]
 simp only[Result.andThen]
 rw[Oper.upon_value]
 go_wp2
 rw[run_callFunc_extern Tryz.func160 (by kernel_rfl) (by kernel_rfl) (by kernel_rfl) (e:=Extern.AbiNoEscape.same) (by kernel_rfl)]
 rw[Lib.run_noEscape]
 simp only[Result.andThen]
 rw[Oper.upon_value]
 go_wp2
 rw[Lib.run_from_unsafe w ⟨b,0,none⟩ Tryz.underlying179 Tryz.underlying85 q n Tryz.liesBld]
 simp only[Result.andThen]
 rw[Oper.upon_value]
 go_wp2
 go_end0
 exact⟨rfl,rfl⟩
theorem zpi (B b:Nat) (n:List Value) (w:World) (h:Lib.IsBuilder 87 5 B b n w):
  Calls Tryz.prog 116 #[.pointer (some ⟨b,0,none⟩)] w fun e j=>e= .returned (.tuple #[])∧Lib.BuilderAt 87 5 B b (.pointer (some ⟨b,0,none⟩)) n j∧Below B w j∧∀k,k≠b→j.heap[k]? =w.heap[k]?:=by
 rcases h with h|h
 ·refine (zph b w h.cell0 h.shape h.frozen0).mono ?_
  rintro e j ⟨rfl,rfl⟩
  exact⟨rfl,h.used _,(Below.refl B w).setCell (p:=⟨b,0,none⟩) h.1 _,fun k o=>zi o⟩
 ·refine (zpg b w h.cell0).mono ?_
  rintro e j ⟨rfl,rfl⟩
  exact⟨rfl,h,Below.refl B _,fun k _=>rfl⟩
def zpj (B b:Nat) (bs:List Value) (w w':World):Prop:=Lib.BuilderAt 87 5 B b (.pointer (some ⟨b,0,none⟩)) bs w'∧Below B w w'∧∀(k:Nat) (cur:Array Value) (t:TypeId) (fz:Nat×Nat),w.heap[k]? =some (.cells cur t fz)→k≠b→t≠5→w'.heap[k]? =w.heap[k]?
theorem Tryz.infoByte1:(Tryz.prog.info? 5).map (fun i=>(i.zero,i.size,i.bytes))=some (some (.int .u8 0),1,1):=by kernel_rfl
theorem zpk {w:World} {B k:Nat} {e:TypeId} {v:Value} {n:Nat} {xs:List Value} (h:w.ownsRow B e 1 v n xs) (j:some k=v.ownBlock): ∃c,w.heap[k]? =some (.cells c e (0,0)):=by
 rcases h.2 with ⟨q,_⟩|⟨g,z,o,q,_,A,_⟩
 ·rw[q] at j
  cases j
 ·rw[q] at j
  simp only[Value.ownBlock,Option.some.injEq] at j
  rw[j]
  exact⟨o,A⟩
theorem zpl (B b:Nat) (E:List Value) (s:ByteArray) (w:World) (h:Lib.IsBuilder 87 5 B b E w) (aa:E.length+s.size≤140737488355328) (ab:B≤w.heap.size):
  Calls Tryz.prog 58 #[.pointer (some ⟨b,0,none⟩),.string s] w fun e w'=>e= .returned (.tuple #[.int .i64 s.size,.nilIface])∧zpj B b (E++Lib.strCells s) w w':=by
 obtain⟨i0,hi,X,L,Y⟩:=info_parts Tryz.infoByte1
 go_enter Tryz.func58,Tryz.ntmps58
 go_wp2_with fail
 refine (zpi B b E _ h).mono ?_
 rintro e M ⟨rfl,h1,D,N⟩
 obtain⟨hB,v,q,n,Z⟩:=h1
 have c0:M.cell? ⟨b,0,none⟩=some (.pointer (some ⟨b,0,none⟩)):=by rw[Lib.cell_of_heap q];rfl
 have c1:M.cell? ⟨b,1,none⟩=some v:=by rw[Lib.cell_of_heap q];rfl
 go_wp2_with (at_builtin;refine Lib.wpList_append_own_string _ rfl _ _ 44 9 rfl B 5 i0 Tryz.underlying44 Tryz.underlying9 hi X L Y _ _ _ rfl n s rfl ?c3 ?c4 ?c5 ?_)
 case c3=>unfold maxLen;omega
 case c4=>omega
 case c5=>have:=D.size;omega
 intro v' K o j _
 have V:b<M.heap.size:=(Array.getElem?_eq_some_iff.1 q).1
 have z:K.heap[b]? =some (.cells #[.pointer (some ⟨b,0,none⟩),v] 87 (0,0)):=(j.block b V (fun e=>Z e.symm)).trans q
 have d0:K.cell? ⟨b,0,none⟩=some (.pointer (some ⟨b,0,none⟩)):=by rw[Lib.cell_of_heap z];rfl
 have d1:K.cell? ⟨b,1,none⟩=some v:=by rw[Lib.cell_of_heap z];rfl
 have f1:K.frozen? ⟨b,1,none⟩=false:=Lib.frozen_of_heap z 1
 obtain⟨ao,n',A,rfl⟩: ∃ao n' A,v'= .slice ao n' A:=by
  rcases o.2 with ⟨I,_⟩|⟨g,A,U,I,_⟩
  ·exact⟨_,_,_,I⟩
  ·exact⟨_,_,_,I⟩
 go_wp2
 go_ret2
 refine⟨rfl,Lib.BuilderAt.put (T:=87) (e:=5) hB z (bs':=E++Lib.strCells s) (by simpa [Lib.strCells_length] using o) (by decide),(D.grown j (by have:=D.size;omega) (fun k J=>(n.lt k J).1)).setCell (p:=⟨b,1,none⟩) hB _,?_⟩
 intro k U t fz J H ht
 have Q:=N k H
 rw[zi H,j.block k (Array.getElem?_eq_some_iff.1 (Q.trans J)).1 ?_,Q]
 intro I
 obtain⟨c,O⟩:=zpk n I
 rw[Q,J] at O
 simp only[Option.some.injEq,Obj.cells.injEq] at O
 exact ht O.2.1
def KeepB (b:Nat) (w w':World):Prop:=∀(k:Nat) (cur:Array Value) (t:TypeId) (fz:Nat×Nat),w.heap[k]? =some (.cells cur t fz)→k≠b→t≠5→w'.heap[k]? =w.heap[k]?
theorem KeepB.refl (b:Nat) (w:World):KeepB b w w:=fun _ _ _ _ _ _ _=>rfl
theorem KeepB.trans {b:Nat} {w z o:World} (h:KeepB b w z) (E:KeepB b z o):KeepB b w o:=fun k j t n q D A=>by
 have e:=h k j t n q D A
 rw[E k j t n (e.trans q) D A,e]
def zjo (B b:Nat) (bs:List Value) (w w':World):Prop:=Lib.IsBuilder 87 5 B b bs w'∧Below B w w'∧KeepB b w w'
theorem zjp {n:List ByteArray} {j:Nat} (o:j<n.length):(n.take (j+1)).flatMap Lib.strCells=(n.take j).flatMap Lib.strCells++Lib.strCells n[j]:=by
 rw[List.take_succ_eq_append_getElem o,List.flatMap_append]
 simp
theorem zpm (n:List ByteArray) {j:Nat} (o:j<n.length):((n.take j).flatMap Lib.strCells).length+n[j].size≤(n.flatMap Lib.strCells).length:=by
 have e:=congrArg List.length (congrArg (List.flatMap Lib.strCells) (List.take_append_drop (j+1) n))
 rw[List.flatMap_append,zjp o] at e
 simp only[List.length_append,Lib.strCells_length] at e
 omega
theorem zpn (B b E:Nat) (I:List Value) (n:List ByteArray) (w:World) (h:Lib.IsBuilder 87 5 B b I w) (O:w.heap[E]? =some (.cells (n.map Value.string).toArray 9 (0,0))) (Q:I.length+(n.flatMap Lib.strCells).length≤140737488355328) (hn:n.length≤4294967296) (hB:B≤w.heap.size) (M:E≠b):
  Calls Tryz.prog 57 #[.slice (some ⟨E,0,none⟩) n.length n.length,.pointer (some ⟨b,0,none⟩)] w fun e w'=>e= .returned (.tuple #[])∧zjo B b (I++n.flatMap Lib.strCells) w w':=by
 have Z:=zc h
 have V:=zc O
 clear h O
 go_enter Tryz.func57,Tryz.ntmps57
 go_wp2
 go_loopg [7] n.length (fun k i wr=>∃j:Nat,i= .int .i64 j∧j+k=n.length∧zjo B b (I++(n.take j).flatMap Lib.strCells) w wr)
 case atStart=>exact⟨0,rfl,by omega,by simp only[List.take_zero,List.flatMap_nil,List.append_nil];exact Z.out,Below.refl _ _,KeepB.refl _ _⟩
 case round=>
  obtain⟨j,rfl,hj,Y⟩:=hrel
  have q:=zc Y
  clear Y
  by_cases o:j<n.length
  ·have z:(j:Int)<(n.length:Int):=by omega
   have K:=zc ((q.out.2.2 E _ _ _ V.out M (by decide)).trans V.out)
   have q0:wr.cell? ⟨E,j,none⟩=some (.string n[j]):=by
    rw[Lib.cell_of_heap K.out]
    simp[List.getElem?_eq_getElem o]
   obtain⟨s,L⟩: ∃s,n[j]=s:=⟨_,rfl⟩
   rw[L] at q0
   have X:=zc L
   clear L
   obtain⟨H,D⟩: ∃H,H=j+1:=⟨_,rfl⟩
   have ej:(j:Int)+1=(H:Int):=by omega
   have N:=zc D
   clear D
   go_wp2_with fail
   have A:=zpm n o
   rw[X.out] at A
   refine (zpl B b _ s wr q.out.1 (by rw[List.length_append];omega) (by have:=q.out.2.1.size;omega)).mono ?_
   rintro e w2 ⟨rfl,U⟩
   have J:=zc U
   clear U A
   go_wp2
   go_roundg (gk-1)
   case rel=>
    refine⟨H,rfl,by have:=N.out;omega,?_,q.out.2.1.trans J.out.2.1,q.out.2.2.trans J.out.2.2⟩
    rw[N.out,zjp o,X.out,←List.append_assoc]
    exact .inr J.out.1
   case measure=>omega
  ·have z: ¬(j:Int)<(n.length:Int):=by omega
   obtain rfl:j=n.length:=by omega
   go_wp2
   go_end0
   exact⟨rfl,by have:=q.out;rw[List.take_length] at this;exact this⟩
theorem zpo (a b:ByteArray):Lib.strCells (a++b)=Lib.strCells a++Lib.strCells b:=by simp[Lib.strCells]
def zt (t:ByteArray) (ps:List ByteArray):ByteArray:=ps.foldl (· ++ ·) t
theorem zjq (j:List ByteArray): ∀t,Lib.strCells (zt t j)=Lib.strCells t++j.flatMap Lib.strCells:=by
 induction j with
 |nil=>intro t;simp[zt]
 |cons p j n=>
  intro t
  have:=n (t++p)
  simp only[zt,List.foldl_cons] at this ⊢
  rw[this,zpo,List.flatMap_cons,List.append_assoc]
structure PC where
 B:Nat
 b:Nat
 gp:Nat
 base:Nat
 S:Sv
 m:Md
def PP (c:PC) (t:ByteArray) (w:World):Prop:=
 (Lib.IsBuilder 87 5 c.B c.b (Lib.strCells t) w∧c.B≤w.heap.size)∧OwnMd w c.base c.S c.m∧
 (w.heap[c.gp]? =some (.cells #[.slice c.S.rq.a c.m.rq.length c.S.rq.cap,.slice c.S.im.a c.m.im.length c.S.im.cap,.slice c.S.ep.a c.m.ep.length c.S.ep.cap,.slice c.S.st.a c.m.st.length c.S.st.cap,.slice c.S.ex.a c.m.ex.length c.S.ex.cap,.func (.func 57) #[] #[.pointer (some ⟨c.b,0,none⟩)]] 95 (0,0))∧c.gp≠c.b)
theorem zbK {B b:Nat} {n:List Value} {w:World} (h:Lib.IsBuilder 87 5 B b n w): ∃j,w.heap[b]? =some (.cells j 87 (0,0)):=by
 rcases h with ⟨_,v,h,_⟩|⟨_,v,h,_⟩<;>exact⟨_,h⟩
theorem OwnMd.keepT {w H:World} {j b:Nat} {S:Sv} {m:Md} {D:Array Value} (h:OwnMd w j S m) (K:w.heap[b]? =some (.cells D 87 (0,0))) (I:KeepB b w H):OwnMd H j S m:=by
 have q: ∀(e:TypeId) (o n:Nat) (r:Rw) (A:List Value),OwnR w j e o r n A→e≠5→e≠87→OwnR H j e o r n A:=fun e o n r A h J E=>h.keep fun k M=>by
  obtain⟨_,_,c,z⟩:=h.typed M
  refine I k c e _ z (fun L=>?_) J
  rw[L,K] at z
  simp only[Option.some.injEq,Obj.cells.injEq] at z
  exact E z.2.1.symm
 exact⟨q _ _ _ _ _ h.rq (by decide) (by decide),q _ _ _ _ _ h.im (by decide) (by decide),q _ _ _ _ _ h.ep (by decide) (by decide),q _ _ _ _ _ h.st (by decide) (by decide),q _ _ _ _ _ h.ex (by decide) (by decide)⟩
theorem zjr {B b:Nat} {q:List Value} {w A:World} (h:Lib.IsBuilder 87 5 B b q w) (j:Below w.heap.size w A):Lib.IsBuilder 87 5 B b q A:=by
 have o: ∀p,Lib.BuilderAt 87 5 B b p q w→Lib.BuilderAt 87 5 B b p q A:=by
  rintro p ⟨E,v,D,n,z⟩
  refine⟨E,v,(j.block _ (Array.getElem?_eq_some_iff.1 D).1).trans D,?_,z⟩
  refine n.kept (row:=none) ⟨j.os,j.tape,j.output,j.size,fun k I _=>j.block k I⟩ ?_
  cases H:v.ownBlock with
  |none=>exact .inl rfl
  |some k=>exact .inr (by simp)
 exact h.elim (fun h=>.inl (o _ h)) fun h=>.inr (o _ h)
theorem PP.later {c:PC} {t:ByteArray} {w n:World} (h:PP c t w) (j:Below w.heap.size w n):PP c t n:=
 ⟨⟨zjr h.1.1 j,Nat.le_trans h.1.2 j.size⟩,h.2.1.later j,(j.block _ (Array.getElem?_eq_some_iff.1 h.2.2.1).1).trans h.2.2.1,h.2.2.2⟩
theorem KeepB.of_below {b:Nat} {w j:World} (h:Below w.heap.size w j):KeepB b w j:=fun k _ _ _ n _ _=>h.block k (Array.getElem?_eq_some_iff.1 n).1
def PO (c:PC) (t:ByteArray) (w:World) (e:Ending) (w':World):Prop:=e= .returned (.tuple #[])∧PP c t w'∧Below c.B w w'∧KeepB c.b w w'
theorem zjs (c:PC) (t:ByteArray) (n:List ByteArray) (q:Nat) (w:World) (h:PP c t w) (z:w.heap[q]? =some (.cells (n.map Value.string).toArray 9 (0,0))) (o:(zt t n).size≤140737488355328) (I:n.length≤4294967296):
  Calls Tryz.prog 57 #[.slice (some ⟨q,0,none⟩) n.length n.length,.pointer (some ⟨c.b,0,none⟩)] w (PO c (zt t n) w):=by
 obtain⟨J,j⟩:=zbK h.1.1
 have D:q≠c.b:=fun e=>by
  rw[e,j] at z
  simp only[Option.some.injEq,Obj.cells.injEq] at z
  exact absurd z.2.1 (by decide)
 refine (zpn c.B c.b q (Lib.strCells t) n w h.1.1 z (by rw[←List.length_append,←zjq,Lib.strCells_length];exact o) I h.1.2 D).mono ?_
 rintro e K ⟨rfl,H,E,A⟩
 rw[←zjq] at H
 exact⟨rfl,⟨⟨H,Nat.le_trans h.1.2 E.size⟩,h.2.1.keepT j A,(A _ _ _ _ h.2.2.1 h.2.2.2 (by decide)).trans h.2.2.1,h.2.2.2⟩,E,A⟩
theorem zb3 (c:PC) (t:ByteArray) (j:List ByteArray) (w:World) (h:PP c t w) (n:(zt t j).size≤140737488355328) (z:j.length≤4294967296):
  Calls Tryz.prog 57 #[.slice (some ⟨w.heap.size,0,none⟩) j.length j.length,.pointer (some ⟨c.b,0,none⟩)] (w.alloc (.cells (j.map Value.string).toArray 9)) (PO c (zt t j) w):=by
 have o:Below w.heap.size w (w.alloc (.cells (j.map Value.string).toArray 9)):=(Below.refl _ _).alloc (Nat.le_refl _) _
 refine (zjs c t j w.heap.size _ (h.later o) (heap_alloc_new w _) n z).mono ?_
 rintro e H ⟨D,E,A,q⟩
 exact⟨D,E,(o.mono h.1.2).trans A,(KeepB.of_below o).trans q⟩
theorem zfI (s:ByteArray) (w:World) (o:s.size≤1099511627776):Calls Tryz.prog 117 #[.string s] w fun e j=>e= .returned (.string (zat s))∧j=w:=by
 have n:Hid (zat s=({data:=#[34]}:ByteArray)++s++({data:=#[34]}:ByteArray)):=rfl
 go_enter Tryz.func117,Tryz.ntmps117
 go_wp2
 go_ret
 exact⟨by rw[n.out];rfl,rfl⟩
def zbE (a b:ByteArray):ByteArray:=({data:=#[123,32]}:ByteArray)++asT a b++({data:=#[32,125]}:ByteArray)
theorem zhc (c:PC) (t a b:ByteArray) (w:World) (h:PP c t w) (j:(t++zbE a b).size≤140737488355328):
  Calls Tryz.prog 161 #[.pointer (some ⟨c.gp,0,none⟩),.string a,.string b] w (PO c (t++zbE a b) w):=by
 have HP:=zc h
 have HL:=zc j
 clear h j
 obtain⟨O,U,L,K,J,Q,M⟩:=zv HP.out.2.2.1
 go_enter Tryz.func161,Tryz.ntmps161
 have z1:(({data:=#[123,32]}:ByteArray)).size=2:=rfl
 have z2:(({data:=#[32,125]}:ByteArray)).size=2:=rfl
 have z3:(({data:=#[32,97,115,32]}:ByteArray)).size=4:=rfl
 have j:=HL.out
 simp only[zbE,ByteArray.size_append,z1,z2] at j
 have HZ:=zc j
 clear j
 cases ab:(b.toList==a.toList) with
 |true=>
  have z:(a.toList==b.toList)=true:=by rw[BEq.comm];exact ab
  have N:Hid (asT a b=a):=by show _=_;rw[asT,z];rfl
  go_wp2_with fail
  refine (zb3 c t [{data:=#[123,32]},a] w HP.out (by have:=HZ.out;rw[N.out] at this;simp only[zt,List.foldl_cons,List.foldl_nil,ByteArray.size_append,z1];omega) (by simp)).mono ?_
  rintro e w1 ⟨rfl,H,E,q⟩
  have n:=zc H
  have Y:=zc E
  have Z:=zc q
  clear H E q O U L K J Q M
  obtain⟨O,U,L,K,J,Q,M⟩:=zv n.out.2.2.1
  go_wp2_with fail
  refine (zb3 c _ [{data:=#[32,125]}] w1 n.out (by have:=HZ.out;rw[N.out] at this;simp only[zt,List.foldl_cons,List.foldl_nil,ByteArray.size_append,z1,z2];omega) (by simp)).mono ?_
  rintro e w2 ⟨rfl,D,A,o⟩
  have I:=zc D
  have X:=zc (Y.out.trans A)
  have V:=zc (Z.out.trans o)
  clear D A o O U L K J Q M
  go_wp2
  go_end0
  refine⟨rfl,?_,X.out,V.out⟩
  have:=I.out
  simp only[zt,List.foldl_cons,List.foldl_nil] at this
  rw[zbE,N.out,←ByteArray.append_assoc,←ByteArray.append_assoc]
  exact this
 |false=>
  have z:(a.toList==b.toList)=false:=by rw[BEq.comm];exact ab
  have N:Hid (asT a b=a++({data:=#[32,97,115,32]}:ByteArray)++b):=by show _=_;rw[asT,z];rfl
  go_wp2_with fail
  refine (zb3 c t [{data:=#[123,32]},a] w HP.out (by have:=HZ.out;rw[N.out] at this;simp only[zt,List.foldl_cons,List.foldl_nil,ByteArray.size_append,z1,z3] at this ⊢;omega) (by simp)).mono ?_
  rintro e w1 ⟨rfl,H,E,q⟩
  have n:=zc H
  have Y:=zc E
  have Z:=zc q
  clear H E q O U L K J Q M
  obtain⟨O,U,L,K,J,Q,M⟩:=zv n.out.2.2.1
  go_wp2_with fail
  refine (zb3 c _ [{data:=#[32,97,115,32]},b] w1 n.out (by have:=HZ.out;rw[N.out] at this;simp only[zt,List.foldl_cons,List.foldl_nil,ByteArray.size_append,z1,z3] at this ⊢;omega) (by simp)).mono ?_
  rintro e w2 ⟨rfl,D,A,o⟩
  have I:=zc D
  have X:=zc (Y.out.trans A)
  have V:=zc (Z.out.trans o)
  clear D A o O U L K J Q M
  obtain⟨O,U,L,K,J,Q,M⟩:=zv I.out.2.2.1
  go_wp2_with fail
  refine (zb3 c _ [{data:=#[32,125]}] w2 I.out (by have:=HZ.out;rw[N.out] at this;simp only[zt,List.foldl_cons,List.foldl_nil,ByteArray.size_append,z1,z2,z3] at this ⊢;omega) (by simp)).mono ?_
  rintro e w3 ⟨rfl,ac,ad,aa⟩
  have af:=zc ac
  have ae:=zc (X.out.trans ad)
  have ag:=zc (V.out.trans aa)
  clear ac ad aa O U L K J Q M
  go_wp2
  go_end0
  refine⟨rfl,?_,ae.out,ag.out⟩
  have:=af.out
  simp only[zt,List.foldl_cons,List.foldl_nil] at this
  rw[zbE,N.out]
  simp only[←ByteArray.append_assoc] at this ⊢
  exact this
end Go.Proofs.YticdggnnpjachaaGreat
