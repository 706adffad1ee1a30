/-
  What a strings.Builder's copyCheck and WriteString answer in this program: the walks.
  What the closure put of impl's Print answers: the walk.
  impl's printer in memory; what quoted,list and kind answer: the walks.
-/
import Derived.Lib.Builder
import Derived.Lib.AppendStr
import Derived.Laws.Externs
import Derived.Test.YthfeoomfiafldaaGreatCdImplTree
namespace Go.Proofs.YthfeoomfiafldaaGreat
set_option maxRecDepth 100000
set_option maxHeartbeats 2000000
open Go.RowKit Go.PlainAid Go.Sort
theorem Tryz.sizeBld:(Tryz.prog.info? 60).map (·.size)=some 2:=by kernel_rfl
theorem Tryz.liesBld:liesAt Tryz.prog Tryz.prog.depth 60 (2/Tryz.prog.cellsOf 60) 0 60 1=true:=by kernel_rfl
theorem zsf (b:Nat) (w:World) (h:w.cell? ⟨b,0,none⟩=some (.pointer (some ⟨b,0,none⟩))):
  Calls Tryz.prog 61 #[.pointer (some ⟨b,0,none⟩)] w fun e z=>e= .returned (.tuple #[])∧z=w:=by
 obtain⟨j,o,_⟩:=Option.map_eq_some_iff.1 Tryz.sizeBld
 go_enter Tryz.func61,Tryz.ntmps61
 go_wp2
 rw[Lib.run_neq_ptr_same w _ Tryz.underlying58 o]
 go_wp2
 go_end0
 exact⟨rfl,rfl⟩
theorem zsg (b:Nat) (w:World) (I:w.cell? ⟨b,0,none⟩=some (.pointer none)) (o:w.shape? b=some (60,2)) (E:w.frozen? ⟨b,0,none⟩=false):
  Calls Tryz.prog 61 #[.pointer (some ⟨b,0,none⟩)] w fun e H=>e= .returned (.tuple #[])∧H=w.setCell ⟨b,0,none⟩ (.pointer (some ⟨b,0,none⟩)):=by
 obtain⟨j,D,z⟩:=Option.map_eq_some_iff.1 Tryz.sizeBld
 go_enter Tryz.func61,Tryz.ntmps61
 go_wp2
 rw[Lib.run_to_unsafe w ⟨b,0,none⟩ Tryz.underlying58 Tryz.underlying133 D (by rw[z];decide) o (Nat.zero_lt_succ 1)]
 simp only[Result.andThen]
 rw[Oper.upon_value]
 go_wp2
 rw[run_callFunc_extern Tryz.func107 (by kernel_rfl) (by kernel_rfl) (by kernel_rfl) (e:=Extern.AbiNoEscape.same) (by kernel_rfl)]
 rw[Lib.run_noEscape]
 simp only[Result.andThen]
 rw[Oper.upon_value]
 go_wp2
 rw[Lib.run_from_unsafe w ⟨b,0,none⟩ Tryz.underlying133 Tryz.underlying58 D o Tryz.liesBld]
 simp only[Result.andThen]
 rw[Oper.upon_value]
 go_wp2
 go_end0
 exact⟨rfl,rfl⟩
theorem zsh (B b:Nat) (o:List Value) (w:World) (h:Lib.IsBuilder 60 5 B b o w):
  Calls Tryz.prog 61 #[.pointer (some ⟨b,0,none⟩)] w fun e j=>e= .returned (.tuple #[])∧Lib.BuilderAt 60 5 B b (.pointer (some ⟨b,0,none⟩)) o j∧Below B w j∧∀k,k≠b→j.heap[k]? =w.heap[k]?:=by
 rcases h with h|h
 ·refine (zsg b w h.cell0 h.shape h.frozen0).mono ?_
  rintro e j ⟨rfl,rfl⟩
  exact⟨rfl,h.used _,(Below.refl B w).setCell (p:=⟨b,0,none⟩) h.1 _,fun k z=>zx z⟩
 ·refine (zsf b w h.cell0).mono ?_
  rintro e j ⟨rfl,rfl⟩
  exact⟨rfl,h,Below.refl B _,fun k _=>rfl⟩
def zsi (B b:Nat) (bs:List Value) (w w':World):Prop:=Lib.BuilderAt 60 5 B b (.pointer (some ⟨b,0,none⟩)) bs w'∧Below B w w'∧∀(k:Nat) (cur:Array Value) (t:TypeId) (fz:Nat×Nat),w.heap[k]? =some (.cells cur t fz)→k≠b→t≠5→w'.heap[k]? =w.heap[k]?
theorem Tryz.infoByte1:(Tryz.prog.info? 5).map (fun i=>(i.zero,i.size,i.bytes))=some (some (.int .u8 0),1,1):=by kernel_rfl
theorem zsj {w:World} {B k:Nat} {e:TypeId} {v:Value} {n:Nat} {xs:List Value} (h:w.ownsRow B e 1 v n xs) (j:some k=v.ownBlock): ∃c,w.heap[k]? =some (.cells c e (0,0)):=by
 rcases h.2 with ⟨z,_⟩|⟨g,E,o,z,_,D,_⟩
 ·rw[z] at j
  cases j
 ·rw[z] at j
  simp only[Value.ownBlock,Option.some.injEq] at j
  rw[j]
  exact⟨o,D⟩
theorem zsk (B b:Nat) (K:List Value) (s:ByteArray) (w:World) (h:Lib.IsBuilder 60 5 B b K w) (ac:K.length+s.size≤140737488355328) (ad:B≤w.heap.size):
  Calls Tryz.prog 24 #[.pointer (some ⟨b,0,none⟩),.string s] w fun e w'=>e= .returned (.tuple #[.int .i64 s.size,.nilIface])∧zsi B b (K++Lib.strCells s) w w':=by
 obtain⟨i0,hi,ab,O,V⟩:=info_parts Tryz.infoByte1
 go_enter Tryz.func24,Tryz.ntmps24
 go_wp2_with fail
 refine (zsh B b K _ h).mono ?_
 rintro e w1 ⟨rfl,h1,I,Z⟩
 obtain⟨hB,v,D,o,aa⟩:=h1
 have c0:w1.cell? ⟨b,0,none⟩=some (.pointer (some ⟨b,0,none⟩)):=by rw[Lib.cell_of_heap D];rfl
 have c1:w1.cell? ⟨b,1,none⟩=some v:=by rw[Lib.cell_of_heap D];rfl
 go_wp2_with (at_builtin;refine Lib.wpList_append_own_string _ rfl _ _ 22 9 rfl B 5 i0 Tryz.underlying22 Tryz.underlying9 hi ab O V _ _ _ rfl o s rfl ?c3 ?c4 ?c5 ?_)
 case c3=>unfold maxLen;omega
 case c4=>omega
 case c5=>have:=I.size;omega
 intro v' N z j _
 have Q:b<w1.heap.size:=(Array.getElem?_eq_some_iff.1 D).1
 have E:N.heap[b]? =some (.cells #[.pointer (some ⟨b,0,none⟩),v] 60 (0,0)):=(j.block b Q (fun e=>aa e.symm)).trans D
 have d0:N.cell? ⟨b,0,none⟩=some (.pointer (some ⟨b,0,none⟩)):=by rw[Lib.cell_of_heap E];rfl
 have d1:N.cell? ⟨b,1,none⟩=some v:=by rw[Lib.cell_of_heap E];rfl
 have f1:N.frozen? ⟨b,1,none⟩=false:=Lib.frozen_of_heap E 1
 obtain⟨ao,n',H,rfl⟩: ∃ao n' H,v'= .slice ao n' H:=by
  rcases z.2 with ⟨L,_⟩|⟨g,H,U,L,_⟩
  ·exact⟨_,_,_,L⟩
  ·exact⟨_,_,_,L⟩
 go_wp2
 go_ret2
 refine⟨rfl,Lib.BuilderAt.put (T:=60) (e:=5) hB E (bs':=K++Lib.strCells s) (by simpa [Lib.strCells_length] using z) (by decide),(I.grown j (by have:=I.size;omega) (fun k M=>(o.lt k M).1)).setCell (p:=⟨b,1,none⟩) hB _,?_⟩
 intro k U t fz M J ht
 have Y:=Z k J
 rw[zx J,j.block k (Array.getElem?_eq_some_iff.1 (Y.trans M)).1 ?_,Y]
 intro L
 obtain⟨c,X⟩:=zsj o L
 rw[Y,M] at X
 simp only[Option.some.injEq,Obj.cells.injEq] at X
 exact ht X.2.1
def KeepB (b:Nat) (w w':World):Prop:=∀(k:Nat) (cur:Array Value) (t:TypeId) (fz:Nat×Nat),w.heap[k]? =some (.cells cur t fz)→k≠b→t≠5→w'.heap[k]? =w.heap[k]?
theorem KeepB.refl (b:Nat) (w:World):KeepB b w w:=fun _ _ _ _ _ _ _=>rfl
theorem KeepB.trans {b:Nat} {w I D:World} (h:KeepB b w I) (J:KeepB b I D):KeepB b w D:=fun k j t E z H o=>by
 have e:=h k j t E z H o
 rw[J k j t E (e.trans z) H o,e]
def zl2 (B b:Nat) (bs:List Value) (w w':World):Prop:=Lib.IsBuilder 60 5 B b bs w'∧Below B w w'∧KeepB b w w'
theorem zl3 {o:List ByteArray} {j:Nat} (z:j<o.length):(o.take (j+1)).flatMap Lib.strCells=(o.take j).flatMap Lib.strCells++Lib.strCells o[j]:=by
 rw[List.take_succ_eq_append_getElem z,List.flatMap_append]
 simp
theorem zsl (o:List ByteArray) {j:Nat} (z:j<o.length):((o.take j).flatMap Lib.strCells).length+o[j].size≤(o.flatMap Lib.strCells).length:=by
 have e:=congrArg List.length (congrArg (List.flatMap Lib.strCells) (List.take_append_drop (j+1) o))
 rw[List.flatMap_append,zl3 z] at e
 simp only[List.length_append,Lib.strCells_length] at e
 omega
theorem zsm (B b J:Nat) (L:List Value) (o:List ByteArray) (w:World) (h:Lib.IsBuilder 60 5 B b L w) (hq:w.heap[J]? =some (.cells (o.map Value.string).toArray 9 (0,0))) (aa:L.length+(o.flatMap Lib.strCells).length≤140737488355328) (hn:o.length≤4294967296) (hB:B≤w.heap.size) (O:J≠b):
  Calls Tryz.prog 23 #[.slice (some ⟨J,0,none⟩) o.length o.length,.pointer (some ⟨b,0,none⟩)] w fun e w'=>e= .returned (.tuple #[])∧zl2 B b (L++o.flatMap Lib.strCells) w w':=by
 have HI:=zc h
 have V:=zc hq
 clear h hq
 go_enter Tryz.func23,Tryz.ntmps23
 go_wp2
 go_loopg [7] o.length (fun k i wr=>∃j:Nat,i= .int .i64 j∧j+k=o.length∧zl2 B b (L++(o.take j).flatMap Lib.strCells) w wr)
 case atStart=>exact⟨0,rfl,by omega,by simp only[List.take_zero,List.flatMap_nil,List.append_nil];exact HI.out,Below.refl _ _,KeepB.refl _ _⟩
 case round=>
  obtain⟨j,rfl,hj,X⟩:=hrel
  have D:=zc X
  clear X
  by_cases z:j<o.length
  ·have E:(j:Int)<(o.length:Int):=by omega
   have Q:=zc ((D.out.2.2 J _ _ _ V.out O (by decide)).trans V.out)
   have q0:wr.cell? ⟨J,j,none⟩=some (.string o[j]):=by
    rw[Lib.cell_of_heap Q.out]
    simp[List.getElem?_eq_getElem z]
   obtain⟨s,M⟩: ∃s,o[j]=s:=⟨_,rfl⟩
   rw[M] at q0
   have U:=zc M
   clear M
   obtain⟨K,I⟩: ∃K,K=j+1:=⟨_,rfl⟩
   have ej:(j:Int)+1=(K:Int):=by omega
   have Y:=zc I
   clear I
   go_wp2_with fail
   have H:=zsl o z
   rw[U.out] at H
   refine (zsk B b _ s wr D.out.1 (by rw[List.length_append];omega) (by have:=D.out.2.1.size;omega)).mono ?_
   rintro e w2 ⟨rfl,Z⟩
   have N:=zc Z
   clear Z H
   go_wp2
   go_roundg (gk-1)
   case rel=>
    refine⟨K,rfl,by have:=Y.out;omega,?_,D.out.2.1.trans N.out.2.1,D.out.2.2.trans N.out.2.2⟩
    rw[Y.out,zl3 z,U.out,←List.append_assoc]
    exact .inr N.out.1
   case measure=>omega
  ·have E: ¬(j:Int)<(o.length:Int):=by omega
   obtain rfl:j=o.length:=by omega
   go_wp2
   go_end0
   exact⟨rfl,by have:=D.out;rw[List.take_length] at this;exact this⟩
theorem zsn (a b:ByteArray):Lib.strCells (a++b)=Lib.strCells a++Lib.strCells b:=by simp[Lib.strCells]
def zw (t:ByteArray) (ps:List ByteArray):ByteArray:=ps.foldl (· ++ ·) t
theorem zl4 (j:List ByteArray): ∀t,Lib.strCells (zw t j)=Lib.strCells t++j.flatMap Lib.strCells:=by
 induction j with
 |nil=>intro t;simp[zw]
 |cons p j o=>
  intro t
  have:=o (t++p)
  simp only[zw,List.foldl_cons] at this ⊢
  rw[this,zsn,List.flatMap_cons,List.append_assoc]
structure PC where
 B:Nat
 b:Nat
 gp:Nat
 base:Nat
 S:Sv
 m:Md
def PP (c:PC) (t:ByteArray) (w:World):Prop:=
 (Lib.IsBuilder 60 5 c.B c.b (Lib.strCells t) w∧c.B≤w.heap.size)∧OwnMd w c.base c.S c.m∧
 (w.heap[c.gp]? =some (.cells #[.slice c.S.rq.a c.m.rq.length c.S.rq.cap,.slice c.S.im.a c.m.im.length c.S.im.cap,.slice c.S.ep.a c.m.ep.length c.S.ep.cap,.slice c.S.st.a c.m.st.length c.S.st.cap,.slice c.S.ex.a c.m.ex.length c.S.ex.cap,.func (.func 23) #[] #[.pointer (some ⟨c.b,0,none⟩)]] 68 (0,0))∧c.gp≠c.b)
theorem zci {B b:Nat} {o:List Value} {w:World} (h:Lib.IsBuilder 60 5 B b o w): ∃j,w.heap[b]? =some (.cells j 60 (0,0)):=by
 rcases h with ⟨_,v,h,_⟩|⟨_,v,h,_⟩<;>exact⟨_,h⟩
theorem OwnMd.keepT {w E:World} {j b:Nat} {S:Sv} {m:Md} {H:Array Value} (h:OwnMd w j S m) (M:w.heap[b]? =some (.cells H 60 (0,0))) (L:KeepB b w E):OwnMd E j S m:=by
 have z: ∀(e:TypeId) (o n:Nat) (r:Rw) (J:List Value),OwnR w j e o r n J→e≠5→e≠60→OwnR E j e o r n J:=fun e o n r J h N I=>h.keep fun k K=>by
  obtain⟨_,_,c,D⟩:=h.typed K
  refine L k c e _ D (fun O=>?_) N
  rw[O,M] at D
  simp only[Option.some.injEq,Obj.cells.injEq] at D
  exact I D.2.1.symm
 exact⟨z _ _ _ _ _ h.rq (by decide) (by decide),z _ _ _ _ _ h.im (by decide) (by decide),z _ _ _ _ _ h.ep (by decide) (by decide),z _ _ _ _ _ h.st (by decide) (by decide),z _ _ _ _ _ h.ex (by decide) (by decide)⟩
theorem zl5 {B b:Nat} {D:List Value} {w E:World} (h:Lib.IsBuilder 60 5 B b D w) (j:Below w.heap.size w E):Lib.IsBuilder 60 5 B b D E:=by
 have z: ∀p,Lib.BuilderAt 60 5 B b p D w→Lib.BuilderAt 60 5 B b p D E:=by
  rintro p ⟨L,v,I,o,H⟩
  refine⟨L,v,(j.block _ (Array.getElem?_eq_some_iff.1 I).1).trans I,?_,H⟩
  refine o.kept (row:=none) ⟨j.os,j.tape,j.output,j.size,fun k J _=>j.block k J⟩ ?_
  cases K:v.ownBlock with
  |none=>exact .inl rfl
  |some k=>exact .inr (by simp)
 exact h.elim (fun h=>.inl (z _ h)) fun h=>.inr (z _ h)
theorem PP.later {c:PC} {t:ByteArray} {w o:World} (h:PP c t w) (j:Below w.heap.size w o):PP c t o:=
 ⟨⟨zl5 h.1.1 j,Nat.le_trans h.1.2 j.size⟩,h.2.1.later j,(j.block _ (Array.getElem?_eq_some_iff.1 h.2.2.1).1).trans h.2.2.1,h.2.2.2⟩
theorem KeepB.of_below {b:Nat} {w j:World} (h:Below w.heap.size w j):KeepB b w j:=fun k _ _ _ o _ _=>h.block k (Array.getElem?_eq_some_iff.1 o).1
def PO (c:PC) (t:ByteArray) (w:World) (e:Ending) (w':World):Prop:=e= .returned (.tuple #[])∧PP c t w'∧Below c.B w w'∧KeepB c.b w w'
theorem zl6 (c:PC) (t:ByteArray) (o:List ByteArray) (E:Nat) (w:World) (h:PP c t w) (D:w.heap[E]? =some (.cells (o.map Value.string).toArray 9 (0,0))) (z:(zw t o).size≤140737488355328) (L:o.length≤4294967296):
  Calls Tryz.prog 23 #[.slice (some ⟨E,0,none⟩) o.length o.length,.pointer (some ⟨c.b,0,none⟩)] w (PO c (zw t o) w):=by
 obtain⟨M,j⟩:=zci h.1.1
 have I:E≠c.b:=fun e=>by
  rw[e,j] at D
  simp only[Option.some.injEq,Obj.cells.injEq] at D
  exact absurd D.2.1 (by decide)
 refine (zsm c.B c.b E (Lib.strCells t) o w h.1.1 D (by rw[←List.length_append,←zl4,Lib.strCells_length];exact z) L h.1.2 I).mono ?_
 rintro e N ⟨rfl,K,J,H⟩
 rw[←zl4] at K
 exact⟨rfl,⟨⟨K,Nat.le_trans h.1.2 J.size⟩,h.2.1.keepT j H,(H _ _ _ _ h.2.2.1 h.2.2.2 (by decide)).trans h.2.2.1,h.2.2.2⟩,J,H⟩
theorem zbP (c:PC) (t:ByteArray) (j:List ByteArray) (w:World) (h:PP c t w) (o:(zw t j).size≤140737488355328) (D:j.length≤4294967296):
  Calls Tryz.prog 23 #[.slice (some ⟨w.heap.size,0,none⟩) j.length j.length,.pointer (some ⟨c.b,0,none⟩)] (w.alloc (.cells (j.map Value.string).toArray 9)) (PO c (zw t j) w):=by
 have z:Below w.heap.size w (w.alloc (.cells (j.map Value.string).toArray 9)):=(Below.refl _ _).alloc (Nat.le_refl _) _
 refine (zl6 c t j w.heap.size _ (h.later z) (heap_alloc_new w _) o D).mono ?_
 rintro e K ⟨H,J,I,E⟩
 exact⟨H,J,(z.mono h.1.2).trans I,(KeepB.of_below z).trans E⟩
theorem zhh (s:ByteArray) (w:World) (z:s.size≤1099511627776):Calls Tryz.prog 62 #[.string s] w fun e o=>e= .returned (.string (zaL s))∧o=w:=by
 have j:Hid (zaL s=({data:=#[34]}:ByteArray)++s++({data:=#[34]}:ByteArray)):=rfl
 go_enter Tryz.func62,Tryz.ntmps62
 go_wp2
 go_ret
 exact⟨by rw[j.out];rfl,rfl⟩
def zcb (a b:ByteArray):ByteArray:=({data:=#[123,32]}:ByteArray)++asT a b++({data:=#[32,125]}:ByteArray)
theorem ziO (c:PC) (t a b:ByteArray) (w:World) (h:PP c t w) (j:(t++zcb a b).size≤140737488355328):
  Calls Tryz.prog 108 #[.pointer (some ⟨c.gp,0,none⟩),.string a,.string b] w (PO c (t++zcb a b) w):=by
 have HP:=zc h
 have HL:=zc j
 clear h j
 obtain⟨Y,X,M,N,U,Q,V⟩:=zC HP.out.2.2.1
 go_enter Tryz.func108,Tryz.ntmps108
 have z1:(({data:=#[123,32]}:ByteArray)).size=2:=rfl
 have z2:(({data:=#[32,125]}:ByteArray)).size=2:=rfl
 have z3:(({data:=#[32,97,115,32]}:ByteArray)).size=4:=rfl
 have j:=HL.out
 simp only[zcb,ByteArray.size_append,z1,z2] at j
 have HZ:=zc j
 clear j
 cases ad:(b.toList==a.toList) with
 |true=>
  have o:(a.toList==b.toList)=true:=by rw[BEq.comm];exact ad
  have O:Hid (asT a b=a):=by show _=_;rw[asT,o];rfl
  go_wp2_with fail
  refine (zbP c t [{data:=#[123,32]},a] w HP.out (by have:=HZ.out;rw[O.out] at this;simp only[zw,List.foldl_cons,List.foldl_nil,ByteArray.size_append,z1];omega) (by simp)).mono ?_
  rintro e w1 ⟨rfl,D,I,J⟩
  have E:=zc D
  have ac:=zc I
  have Z:=zc J
  clear D I J Y X M N U Q V
  obtain⟨Y,X,M,N,U,Q,V⟩:=zC E.out.2.2.1
  go_wp2_with fail
  refine (zbP c _ [{data:=#[32,125]}] w1 E.out (by have:=HZ.out;rw[O.out] at this;simp only[zw,List.foldl_cons,List.foldl_nil,ByteArray.size_append,z1,z2];omega) (by simp)).mono ?_
  rintro e w2 ⟨rfl,H,K,z⟩
  have L:=zc H
  have aa:=zc (ac.out.trans K)
  have ab:=zc (Z.out.trans z)
  clear H K z Y X M N U Q V
  go_wp2
  go_end0
  refine⟨rfl,?_,aa.out,ab.out⟩
  have:=L.out
  simp only[zw,List.foldl_cons,List.foldl_nil] at this
  rw[zcb,O.out,←ByteArray.append_assoc,←ByteArray.append_assoc]
  exact this
 |false=>
  have o:(a.toList==b.toList)=false:=by rw[BEq.comm];exact ad
  have O:Hid (asT a b=a++({data:=#[32,97,115,32]}:ByteArray)++b):=by show _=_;rw[asT,o];rfl
  go_wp2_with fail
  refine (zbP c t [{data:=#[123,32]},a] w HP.out (by have:=HZ.out;rw[O.out] at this;simp only[zw,List.foldl_cons,List.foldl_nil,ByteArray.size_append,z1,z3] at this ⊢;omega) (by simp)).mono ?_
  rintro e w1 ⟨rfl,D,I,J⟩
  have E:=zc D
  have ac:=zc I
  have Z:=zc J
  clear D I J Y X M N U Q V
  obtain⟨Y,X,M,N,U,Q,V⟩:=zC E.out.2.2.1
  go_wp2_with fail
  refine (zbP c _ [{data:=#[32,97,115,32]},b] w1 E.out (by have:=HZ.out;rw[O.out] at this;simp only[zw,List.foldl_cons,List.foldl_nil,ByteArray.size_append,z1,z3] at this ⊢;omega) (by simp)).mono ?_
  rintro e w2 ⟨rfl,H,K,z⟩
  have L:=zc H
  have aa:=zc (ac.out.trans K)
  have ab:=zc (Z.out.trans z)
  clear H K z Y X M N U Q V
  obtain⟨Y,X,M,N,U,Q,V⟩:=zC L.out.2.2.1
  go_wp2_with fail
  refine (zbP c _ [{data:=#[32,125]}] w2 L.out (by have:=HZ.out;rw[O.out] at this;simp only[zw,List.foldl_cons,List.foldl_nil,ByteArray.size_append,z1,z2,z3] at this ⊢;omega) (by simp)).mono ?_
  rintro e w3 ⟨rfl,af,ag,ae⟩
  have aj:=zc af
  have ai:=zc (aa.out.trans ag)
  have ah:=zc (ab.out.trans ae)
  clear af ag ae Y X M N U Q V
  go_wp2
  go_end0
  refine⟨rfl,?_,ai.out,ah.out⟩
  have:=aj.out
  simp only[zw,List.foldl_cons,List.foldl_nil] at this
  rw[zcb,O.out]
  simp only[←ByteArray.append_assoc] at this ⊢
  exact this
end Go.Proofs.YthfeoomfiafldaaGreat
