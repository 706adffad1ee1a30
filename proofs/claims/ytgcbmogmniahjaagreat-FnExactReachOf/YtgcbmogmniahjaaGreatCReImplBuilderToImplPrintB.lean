/-
  A strings.Builder (BuilderW) beside the texts of programs.
  What the closure put of impl's Print answers: the walk.
  impl's printer in memory; what quoted,list and kind answer: the walks.
-/
import Derived.Test.YtgcbmogmniahjaaGreatCReBuilderW
namespace Go.Proofs.YtgcbmogmniahjaaGreat
set_option maxHeartbeats 2000000
set_option maxRecDepth 100000
open Go.RowKit Go.PlainAid Go.Sort
def KeepB (b:Nat) (w w':World):Prop:=∀(k:Nat) (cur:Array Value) (t:TypeId) (fz:Nat×Nat),w.heap[k]? =some (.cells cur t fz)→k≠b→t≠5→w'.heap[k]? =w.heap[k]?
theorem KeepB.refl (b:Nat) (w:World):KeepB b w w:=fun _ _ _ _ _ _ _=>rfl
theorem KeepB.trans {b:Nat} {w A H:World} (h:KeepB b w A) (J:KeepB b A H):KeepB b w H:=fun k q t z D I E=>by
 have e:=h k q t z D I E
 rw[J k q t z (e.trans D) I E,e]
def zlJ (B b:Nat) (bs:List Value) (w w':World):Prop:=Lib.IsBuilder 175 5 B b bs w'∧Below B w w'∧KeepB b w w'
theorem zlK {h:List ByteArray} {j:Nat} (q:j<h.length):(h.take (j+1)).flatMap Lib.strCells=(h.take j).flatMap Lib.strCells++Lib.strCells h[j]:=by
 rw[List.take_succ_eq_append_getElem q,List.flatMap_append]
 simp
theorem ztr (h:List ByteArray) {j:Nat} (q:j<h.length):((h.take j).flatMap Lib.strCells).length+h[j].size≤(h.flatMap Lib.strCells).length:=by
 have e:=congrArg List.length (congrArg (List.flatMap Lib.strCells) (List.take_append_drop (j+1) h))
 rw[List.flatMap_append,zlK q] at e
 simp only[List.length_append,Lib.strCells_length] at e
 omega
theorem zts (B b E:Nat) (K:List Value) (q:List ByteArray) (w:World) (h:Lib.IsBuilder 175 5 B b K w) (Y:w.heap[E]? =some (.cells (q.map Value.string).toArray 9 (0,0))) (Z:K.length+(q.flatMap Lib.strCells).length≤140737488355328) (hn:q.length≤4294967296) (hB:B≤w.heap.size) (L:E≠b):
  Calls Tryz.prog 171 #[.slice (some ⟨E,0,none⟩) q.length q.length,.pointer (some ⟨b,0,none⟩)] w fun e w'=>e= .returned (.tuple #[])∧zlJ B b (K++q.flatMap Lib.strCells) w w':=by
 have HI:=zc h
 have X:=zc Y
 clear h Y
 go_enter Tryz.func171,Tryz.ntmps171
 go_wp2
 go_loopg [7] q.length (fun k i wr=>∃j:Nat,i= .int .i64 j∧j+k=q.length∧zlJ B b (K++(q.take j).flatMap Lib.strCells) w wr)
 case atStart=>exact⟨0,rfl,by omega,by simp only[List.take_zero,List.flatMap_nil,List.append_nil];exact HI.out,Below.refl _ _,KeepB.refl _ _⟩
 case round=>
  obtain⟨j,rfl,hj,hp⟩:=hrel
  have A:=zc hp
  clear hp
  by_cases z:j<q.length
  ·have I:(j:Int)<(q.length:Int):=by omega
   have N:=zc ((A.out.2.2 E _ _ _ X.out L (by decide)).trans X.out)
   have q0:wr.cell? ⟨E,j,none⟩=some (.string q[j]):=by
    rw[Lib.cell_of_heap N.out]
    simp[List.getElem?_eq_getElem z]
   obtain⟨s,O⟩: ∃s,q[j]=s:=⟨_,rfl⟩
   rw[O] at q0
   have HS:=zc O
   clear O
   obtain⟨J,D⟩: ∃J,J=j+1:=⟨_,rfl⟩
   have ej:(j:Int)+1=(J:Int):=by omega
   have U:=zc D
   clear D
   go_wp2_with fail
   have H:=ztr q z
   rw[HS.out] at H
   refine (ztq B b _ s wr A.out.1 (by rw[List.length_append];omega) (by have:=A.out.2.1.size;omega)).mono ?_
   rintro e w2 ⟨rfl,V⟩
   have M:=zc V
   clear V H
   go_wp2
   go_roundg (gk-1)
   case rel=>
    refine⟨J,rfl,by have:=U.out;omega,?_,A.out.2.1.trans M.out.2.1,A.out.2.2.trans M.out.2.2⟩
    rw[U.out,zlK z,HS.out,←List.append_assoc]
    exact .inr M.out.1
   case measure=>omega
  ·have I: ¬(j:Int)<(q.length:Int):=by omega
   obtain rfl:j=q.length:=by omega
   go_wp2
   go_end0
   exact⟨rfl,by have:=A.out;rw[List.take_length] at this;exact this⟩
theorem ztt (a b:ByteArray):Lib.strCells (a++b)=Lib.strCells a++Lib.strCells b:=by simp[Lib.strCells]
def zv (t:ByteArray) (ps:List ByteArray):ByteArray:=ps.foldl (· ++ ·) t
theorem zlL (h:List ByteArray): ∀t,Lib.strCells (zv t h)=Lib.strCells t++h.flatMap Lib.strCells:=by
 induction h with
 |nil=>intro t;simp[zv]
 |cons p h q=>
  intro t
  have:=q (t++p)
  simp only[zv,List.foldl_cons] at this ⊢
  rw[this,ztt,List.flatMap_cons,List.append_assoc]
structure PC where
 B:Nat
 b:Nat
 gp:Nat
 base:Nat
 S:Sv
 m:Md
def PP (c:PC) (t:ByteArray) (w:World):Prop:=
 (Lib.IsBuilder 175 5 c.B c.b (Lib.strCells t) w∧c.B≤w.heap.size)∧OwnMd w c.base c.S c.m∧
 (w.heap[c.gp]? =some (.cells #[.slice c.S.rq.a c.m.rq.length c.S.rq.cap,.slice c.S.im.a c.m.im.length c.S.im.cap,.slice c.S.ep.a c.m.ep.length c.S.ep.cap,.slice c.S.st.a c.m.st.length c.S.st.cap,.slice c.S.ex.a c.m.ex.length c.S.ex.cap,.func (.func 171) #[] #[.pointer (some ⟨c.b,0,none⟩)]] 215 (0,0))∧c.gp≠c.b)
theorem zcp {B b:Nat} {z:List Value} {w:World} (h:Lib.IsBuilder 175 5 B b z w): ∃q,w.heap[b]? =some (.cells q 175 (0,0)):=by
 rcases h with ⟨_,v,h,_⟩|⟨_,v,h,_⟩<;>exact⟨_,h⟩
theorem OwnMd.keepT {w E:World} {base b:Nat} {S:Sv} {m:Md} {D:Array Value} (h:OwnMd w base S m) (N:w.heap[b]? =some (.cells D 175 (0,0))) (J:KeepB b w E):OwnMd E base S m:=by
 have z: ∀(e:TypeId) (q n:Nat) (r:Rw) (H:List Value),OwnR w base e q r n H→e≠5→e≠175→OwnR E base e q r n H:=fun e q n r H h K I=>h.keep fun k L=>by
  obtain⟨_,_,c,A⟩:=h.typed L
  refine J k c e _ A (fun M=>?_) K
  rw[M,N] at A
  simp only[Option.some.injEq,Obj.cells.injEq] at A
  exact I A.2.1.symm
 exact⟨z _ _ _ _ _ h.rq (by decide) (by decide),z _ _ _ _ _ h.im (by decide) (by decide),z _ _ _ _ _ h.ep (by decide) (by decide),z _ _ _ _ _ h.st (by decide) (by decide),z _ _ _ _ _ h.ex (by decide) (by decide)⟩
theorem zlM {B b:Nat} {D:List Value} {w E:World} (h:Lib.IsBuilder 175 5 B b D w) (q:Below w.heap.size w E):Lib.IsBuilder 175 5 B b D E:=by
 have z: ∀p,Lib.BuilderAt 175 5 B b p D w→Lib.BuilderAt 175 5 B b p D E:=by
  rintro p ⟨hB,v,I,A,H⟩
  refine⟨hB,v,(q.block _ (Array.getElem?_eq_some_iff.1 I).1).trans I,?_,H⟩
  refine A.kept (row:=none) ⟨q.os,q.tape,q.output,q.size,fun k K _=>q.block k K⟩ ?_
  cases J:v.ownBlock with
  |none=>exact .inl rfl
  |some k=>exact .inr (by simp)
 exact h.elim (fun h=>.inl (z _ h)) fun h=>.inr (z _ h)
theorem PP.later {c:PC} {t:ByteArray} {w z:World} (h:PP c t w) (q:Below w.heap.size w z):PP c t z:=
 ⟨⟨zlM h.1.1 q,Nat.le_trans h.1.2 q.size⟩,h.2.1.later q,(q.block _ (Array.getElem?_eq_some_iff.1 h.2.2.1).1).trans h.2.2.1,h.2.2.2⟩
theorem KeepB.of_below {b:Nat} {w q:World} (h:Below w.heap.size w q):KeepB b w q:=fun k _ _ _ z _ _=>h.block k (Array.getElem?_eq_some_iff.1 z).1
def PO (c:PC) (t:ByteArray) (w:World) (e:Ending) (w':World):Prop:=e= .returned (.tuple #[])∧PP c t w'∧Below c.B w w'∧KeepB c.b w w'
theorem zlN (c:PC) (t:ByteArray) (z:List ByteArray) (E:Nat) (w:World) (h:PP c t w) (D:w.heap[E]? =some (.cells (z.map Value.string).toArray 9 (0,0))) (A:(zv t z).size≤140737488355328) (M:z.length≤4294967296):
  Calls Tryz.prog 171 #[.slice (some ⟨E,0,none⟩) z.length z.length,.pointer (some ⟨c.b,0,none⟩)] w (PO c (zv t z) w):=by
 obtain⟨L,q⟩:=zcp h.1.1
 have H:E≠c.b:=fun e=>by
  rw[e,q] at D
  simp only[Option.some.injEq,Obj.cells.injEq] at D
  exact absurd D.2.1 (by decide)
 refine (zts c.B c.b E (Lib.strCells t) z w h.1.1 D (by rw[←List.length_append,←zlL,Lib.strCells_length];exact A) M h.1.2 H).mono ?_
 rintro e N ⟨rfl,K,J,I⟩
 rw[←zlL] at K
 exact⟨rfl,⟨⟨K,Nat.le_trans h.1.2 J.size⟩,h.2.1.keepT q I,(I _ _ _ _ h.2.2.1 h.2.2.2 (by decide)).trans h.2.2.1,h.2.2.2⟩,J,I⟩
theorem zbR (c:PC) (t:ByteArray) (q:List ByteArray) (w:World) (h:PP c t w) (z:(zv t q).size≤140737488355328) (J:q.length≤4294967296):
  Calls Tryz.prog 171 #[.slice (some ⟨w.heap.size,0,none⟩) q.length q.length,.pointer (some ⟨c.b,0,none⟩)] (w.alloc (.cells (q.map Value.string).toArray 9)) (PO c (zv t q) w):=by
 have A:Below w.heap.size w (w.alloc (.cells (q.map Value.string).toArray 9)):=(Below.refl _ _).alloc (Nat.le_refl _) _
 refine (zlN c t q w.heap.size _ (h.later A) (heap_alloc_new w _) z J).mono ?_
 rintro e K ⟨D,H,E,I⟩
 exact⟨D,H,(A.mono h.1.2).trans E,(KeepB.of_below A).trans I⟩
theorem zhb (s:ByteArray) (w:World) (z:s.size≤1099511627776):Calls Tryz.prog 201 #[.string s] w fun e q=>e= .returned (.string (za3 s))∧q=w:=by
 have h:Hid (za3 s=({data:=#[34]}:ByteArray)++s++({data:=#[34]}:ByteArray)):=rfl
 go_enter Tryz.func201,Tryz.ntmps201
 go_wp2
 go_ret
 exact⟨by rw[h.out];rfl,rfl⟩
def zci (a b:ByteArray):ByteArray:=({data:=#[123,32]}:ByteArray)++asT a b++({data:=#[32,125]}:ByteArray)
theorem zi2 (c:PC) (t a b:ByteArray) (w:World) (h:PP c t w) (q:(t++zci a b).size≤140737488355328):
  Calls Tryz.prog 224 #[.pointer (some ⟨c.gp,0,none⟩),.string a,.string b] w (PO c (t++zci a b) w):=by
 have HP:=zc h
 have HL:=zc q
 clear h q
 obtain⟨Z,Y,U,M,O,N,V⟩:=zy HP.out.2.2.1
 go_enter Tryz.func224,Tryz.ntmps224
 have z1:(({data:=#[123,32]}:ByteArray)).size=2:=rfl
 have z2:(({data:=#[32,125]}:ByteArray)).size=2:=rfl
 have z3:(({data:=#[32,97,115,32]}:ByteArray)).size=4:=rfl
 have q:=HL.out
 simp only[zci,ByteArray.size_append,z1,z2] at q
 have HZ:=zc q
 clear q
 cases ae:(b.toList==a.toList) with
 |true=>
  have H:(a.toList==b.toList)=true:=by rw[BEq.comm];exact ae
  have X:Hid (asT a b=a):=by show _=_;rw[asT,H];rfl
  go_wp2_with fail
  refine (zbR c t [{data:=#[123,32]},a] w HP.out (by have:=HZ.out;rw[X.out] at this;simp only[zv,List.foldl_cons,List.foldl_nil,ByteArray.size_append,z1];omega) (by simp)).mono ?_
  rintro e w1 ⟨rfl,z,K,D⟩
  have I:=zc z
  have ac:=zc K
  have aa:=zc D
  clear z K D Z Y U M O N V
  obtain⟨Z,Y,U,M,O,N,V⟩:=zy I.out.2.2.1
  go_wp2_with fail
  refine (zbR c _ [{data:=#[32,125]}] w1 I.out (by have:=HZ.out;rw[X.out] at this;simp only[zv,List.foldl_cons,List.foldl_nil,ByteArray.size_append,z1,z2];omega) (by simp)).mono ?_
  rintro e w2 ⟨rfl,E,J,A⟩
  have L:=zc E
  have ad:=zc (ac.out.trans J)
  have ab:=zc (aa.out.trans A)
  clear E J A Z Y U M O N V
  go_wp2
  go_end0
  refine⟨rfl,?_,ad.out,ab.out⟩
  have:=L.out
  simp only[zv,List.foldl_cons,List.foldl_nil] at this
  rw[zci,X.out,←ByteArray.append_assoc,←ByteArray.append_assoc]
  exact this
 |false=>
  have H:(a.toList==b.toList)=false:=by rw[BEq.comm];exact ae
  have X:Hid (asT a b=a++({data:=#[32,97,115,32]}:ByteArray)++b):=by show _=_;rw[asT,H];rfl
  go_wp2_with fail
  refine (zbR c t [{data:=#[123,32]},a] w HP.out (by have:=HZ.out;rw[X.out] at this;simp only[zv,List.foldl_cons,List.foldl_nil,ByteArray.size_append,z1,z3] at this ⊢;omega) (by simp)).mono ?_
  rintro e w1 ⟨rfl,z,K,D⟩
  have I:=zc z
  have ac:=zc K
  have aa:=zc D
  clear z K D Z Y U M O N V
  obtain⟨Z,Y,U,M,O,N,V⟩:=zy I.out.2.2.1
  go_wp2_with fail
  refine (zbR c _ [{data:=#[32,97,115,32]},b] w1 I.out (by have:=HZ.out;rw[X.out] at this;simp only[zv,List.foldl_cons,List.foldl_nil,ByteArray.size_append,z1,z3] at this ⊢;omega) (by simp)).mono ?_
  rintro e w2 ⟨rfl,E,J,A⟩
  have L:=zc E
  have ad:=zc (ac.out.trans J)
  have ab:=zc (aa.out.trans A)
  clear E J A Z Y U M O N V
  obtain⟨Z,Y,U,M,O,N,V⟩:=zy L.out.2.2.1
  go_wp2_with fail
  refine (zbR c _ [{data:=#[32,125]}] w2 L.out (by have:=HZ.out;rw[X.out] at this;simp only[zv,List.foldl_cons,List.foldl_nil,ByteArray.size_append,z1,z2,z3] at this ⊢;omega) (by simp)).mono ?_
  rintro e w3 ⟨rfl,af,ah,ag⟩
  have aj:=zc af
  have ai:=zc (ad.out.trans ah)
  have ak:=zc (ab.out.trans ag)
  clear af ah ag Z Y U M O N V
  go_wp2
  go_end0
  refine⟨rfl,?_,ai.out,ak.out⟩
  have:=aj.out
  simp only[zv,List.foldl_cons,List.foldl_nil] at this
  rw[zci,X.out]
  simp only[←ByteArray.append_assoc] at this ⊢
  exact this
end Go.Proofs.YtgcbmogmniahjaaGreat
