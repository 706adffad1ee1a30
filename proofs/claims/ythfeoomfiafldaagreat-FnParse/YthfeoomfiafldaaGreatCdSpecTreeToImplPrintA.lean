/-
  What l5Tree of the specification answers: the walk.
  What impl's isSum,hasSides and the closure that counts a use answer: the walks.
-/
import Derived.BigRegion
import Derived.Test.YthfeoomfiafldaaGreatCdEqModToImplParseQ
namespace Go.Proofs.YthfeoomfiafldaaGreat
set_option maxRecDepth 100000
set_option maxHeartbeats 1600000
open Go.RowKit Go.PlainAid Go.Sort
theorem Tryz.infoInt:(Tryz.prog.info? 3).map (fun i=>(i.zero,i.size,i.bytes))=some (some (.int .i64 0),1,8):=by kernel_rfl
theorem zrT (n:Nat):(madeCells #[.int .i64 0] n).toList=zbu n (fun _=>0):=by
 rw[toList_madeCells_one]
 unfold zbu
 rw[List.map_const',List.length_range]
 rfl
theorem zlx {w:World} {j g n o:Nat} {f:Nat→Nat} (h:w.ownsRow j 3 1 (.slice (some ⟨g,0,none⟩) n o) n (zbu n f)) {k:Nat} (z:k<n):w.cell? ⟨g,k,none⟩=some (.int .i64 (f k:Int)):=by
 rw[h.cellAt k (by omega)]
 exact zhf f z
theorem zrU {w:World} {o g n z:Nat} {f:Nat→Nat} (h:w.ownsRow o 3 1 (.slice (some ⟨g,0,none⟩) n z) n (zbu n f)) (k v:Nat) (D:v=f k+1):(w.setCell ⟨g,k,none⟩ (.int .i64 (v:Int))).ownsRow o 3 1 (.slice (some ⟨g,0,none⟩) n z) n (zbu n (zbO f k)):=by
 have:=(h.stored k (.int .i64 (v:Int))).1
 rw[zrJ f (zbO f k) v (by rw[zrK,D]) (fun j E=>zrL f E)] at this
 exact this
theorem ziK {w z:World} {j g n o:Nat} {xs:List Value} (h:w.ownsRow j 3 1 (.slice (some ⟨g,0,none⟩) n o) n xs) (E:Below w.heap.size w z):z.ownsRow j 3 1 (.slice (some ⟨g,0,none⟩) n o) n xs:=by
 have D:OwnR w j 3 1 ⟨some ⟨g,0,none⟩,o⟩ n xs:=h
 exact D.keep fun k e=>E.block k (D.typed e).2.1
theorem zly {w:World} {j g n o:Nat} {xs:List Value} (h:w.ownsRow j 3 1 (.slice (some ⟨g,0,none⟩) n o) n xs):j≤g∧g<w.heap.size:=by
 have z:OwnR w j 3 1 ⟨some ⟨g,0,none⟩,o⟩ n xs:=h
 exact⟨(z.typed rfl).1,(z.typed rfl).2.1⟩
theorem zrV {w:World} {j g k:Nat} {S:Sv} {m:Md} {u:Value} (h:OwnMd w j S m) (J: ∀b,w.heap[g]? =some b→∃E,b= .cells E 3 (0,0)):OwnMd (w.setCell ⟨g,k,none⟩ u) j S m:=by
 have D: ∀(e:TypeId) (o n:Nat) (r:Rw) (H:List Value),OwnR w j e o r n H→e≠3→OwnR (w.setCell ⟨g,k,none⟩ u) j e o r n H:=fun e o n r H h L=>h.keep fun b K=>Below.heap_setCell w ⟨g,k,none⟩ u b (fun M=>by
  obtain⟨_,_,c,I⟩:=h.typed K
  obtain⟨E,z⟩:=J _ (by rw[←show b=g from M];exact I)
  simp only[Obj.cells.injEq] at z
  exact L z.2.1)
 exact⟨D _ _ _ _ _ h.rq (by decide),D _ _ _ _ _ h.im (by decide),D _ _ _ _ _ h.ep (by decide),D _ _ _ _ _ h.st (by decide),D _ _ _ _ _ h.ex (by decide)⟩
def cE (ex:List Ex) (j:Nat):Nat→Nat:=fun k=>zZ (ex.take j) (k:Int)
def cS (m:Md) (j:Nat):Nat→Nat:=fun k=>zZ m.ex (k:Int)+za6 (m.st.take j) (k:Int)
def ziL (m:Md) (e:Ending):Prop:=∃b,e= .returned (.bool b)∧(b=true↔Tree m)
theorem zhg {m:Md} (h: ¬Tree m):ziL m (.returned (.bool false)):=⟨false,rfl,⟨(fun k=>by cases k),fun t=>absurd t h⟩⟩
theorem zrW {m:Md} (h:Tree m):ziL m (.returned (.bool true)):=⟨true,rfl,⟨fun _=>h,fun _=>rfl⟩⟩
theorem zrX {w:World} {j g n o:Nat} {xs:List Value} (h:w.ownsRow j 3 1 (.slice (some ⟨g,0,none⟩) n o) n xs): ∀b,w.heap[g]? =some b→∃z,b= .cells z 3 (0,0):=by
 have H:OwnR w j 3 1 ⟨some ⟨g,0,none⟩,o⟩ n xs:=h
 obtain⟨_,_,c,E⟩:=H.typed rfl
 intro b D
 rw[E] at D
 exact⟨c,(Option.some.inj D).symm⟩
theorem zgc (k:Int) (w:World):Calls Tryz.prog 105 #[.int .i64 k] w fun e j=>e= .returned (.bool (k==6||k==7))∧j=w:=by
 cases o:(k==6) with
 |true=>
  go_enter Tryz.func105,Tryz.ntmps105
  go_wp2
  go_ret
  exact⟨rfl,rfl⟩
 |false=>
  cases z:(k==7) with
  |true=>
   go_enter Tryz.func105,Tryz.ntmps105
   go_wp2
   go_ret
   exact⟨rfl,rfl⟩
  |false=>
   go_enter Tryz.func105,Tryz.ntmps105
   go_wp2
   go_ret
   exact⟨rfl,rfl⟩
theorem zlz (k:Int) (w:World):Calls Tryz.prog 58 #[.int .i64 k] w fun e E=>e= .returned (.bool (zO k))∧E=w:=by
 cases j:(k==6||k==7) with
 |true=>
  have o:Hid (zO k=true):=by show _=_;rw[zO,j];rfl
  go_enter Tryz.func58,Tryz.ntmps58
  go_wp2_with fail
  refine (zgc k _).mono ?_
  rintro e D ⟨rfl,rfl⟩
  rw[j]
  go_wp2
  go_ret
  exact⟨zq o.out.symm,rfl⟩
 |false=>
  cases z:(k==8) with
  |true=>
   have o:Hid (zO k=true):=by show _=_;rw[zO,j,z];rfl
   go_enter Tryz.func58,Tryz.ntmps58
   go_wp2_with fail
   refine (zgc k _).mono ?_
   rintro e D ⟨rfl,rfl⟩
   rw[j]
   go_wp2
   go_ret
   exact⟨zq o.out.symm,rfl⟩
  |false=>
   have o:Hid (zO k=false):=by show _=_;rw[zO,j,z];rfl
   go_enter Tryz.func58,Tryz.ntmps58
   go_wp2_with fail
   refine (zgc k _).mono ?_
   rintro e D ⟨rfl,rfl⟩
   rw[j]
   go_wp2
   go_ret
   exact⟨zq o.out.symm,rfl⟩
theorem zrY (k:Int) (w:World):Calls Tryz.prog 60 #[.int .i64 k] w fun e j=>e= .returned (.bool (k !=1))∧j=w:=by
 go_enter Tryz.func60,Tryz.ntmps60
 go_wp2
 go_ret
 exact⟨rfl,rfl⟩
theorem zl0 {w:World} {b:Nat} {t:TypeId} {j:Value} (h:w.heap[b]? =some (.cells #[j] t (0,0))):w.cell? ⟨b,0,none⟩=some j∧∀i,w.frozen? ⟨b,i,none⟩=false:=by
 refine⟨?_,fun i=>?_⟩<;>simp[World.cell?,World.frozen?,h]
theorem ziM (i n:Int) (u:Value) (w:World) (h: ¬(0≤i∧i<n)):
  Calls Tryz.prog 57 #[.int .i64 i,.int .i64 n,u] w fun e j=>e= .returned (.bool false)∧j=w:=by
 by_cases o:i<0
 ·go_enter Tryz.func57,Tryz.ntmps57
  go_wp2
  go_ret
  exact⟨rfl,rfl⟩
 ·have z:n≤i:=by omega
  clear h
  go_enter Tryz.func57,Tryz.ntmps57
  go_wp2
  go_ret
  exact⟨rfl,rfl⟩
theorem zrZ (i j D g K:Nat) (n:Int) (f:Nat→Nat) (w:World) (I:w.heap[K]? =some (.cells #[.slice (some ⟨g,0,none⟩) j j] 104 (0,0))) (h:w.ownsRow D 3 1 (.slice (some ⟨g,0,none⟩) j j) j (zbu j f)) (M:f i≤17179869184) (Y:i<j) (X:(i:Int)<n):
  Calls Tryz.prog 57 #[.int .i64 (i:Int),.int .i64 n,.pointer (some ⟨K,0,none⟩)] w fun e N=>e= .returned (.bool true)∧N=w.setCell ⟨g,i,none⟩ (.int .i64 (f i+1:Nat)):=by
 have h0: ¬(i:Int)<0:=by omega
 have U: ¬n≤(i:Int):=by omega
 have L:(i:Int)<(j:Int):=by omega
 obtain⟨s0,Z⟩:=zl0 I
 obtain⟨J,o⟩: ∃v,f i=v:=⟨_,rfl⟩
 have Q:=zlx h (k:=i) (by omega)
 have V:=h.frozenAt
 rw[o] at Q M
 rw[o]
 obtain⟨E,z⟩: ∃u,u=J+1:=⟨_,rfl⟩
 have O:(J:Int)+1=(E:Int):=by omega
 have H:IntKind.i64.wrap (E:Int)=(E:Int):=IntWalk.i64_in _ ⟨by omega,by omega⟩
 rw[←z]
 clear I h o z
 go_enter Tryz.func57,Tryz.ntmps57
 go_wp2
 go_ret
 exact⟨rfl,rfl⟩
def odd (n:Nat) (f:Nat→Nat) (j:Nat):Bool:=(List.range n).any fun k=>decide (j≤k)&&((f k:Int) !=1)
theorem zsa {n:Nat} {f:Nat→Nat} {j:Nat} (D:j<n):odd n f j=(((f j:Int) !=1)||odd n f (j+1)):=by
 rw[Bool.eq_iff_iff,Bool.or_eq_true]
 simp only[odd,List.any_eq_true,List.mem_range,Bool.and_eq_true,decide_eq_true_eq]
 constructor
 ·rintro⟨k,z,o,h⟩
  by_cases e:k=j
  ·exact .inl (e▸h)
  ·exact .inr ⟨k,z,by omega,h⟩
 ·rintro (h|⟨k,z,o,h⟩)
  ·exact⟨j,D,Nat.le_refl _,h⟩
  ·exact⟨k,z,by omega,h⟩
theorem zsb {n:Nat} (f:Nat→Nat) {j:Nat} (D:n≤j):odd n f j=false:=by
 rw[Bool.eq_false_iff]
 intro h
 simp only[odd,List.any_eq_true,List.mem_range,Bool.and_eq_true,decide_eq_true_eq] at h
 obtain⟨k,z,o,_⟩:=h
 omega
theorem zsc (z g o:Nat) (f:Nat→Nat) (w:World) (h:w.ownsRow z 3 1 (.slice (some ⟨g,0,none⟩) o o) o (zbu o f)) (hl:o≤4294967296):
  Calls Tryz.prog 106 #[.slice (some ⟨g,0,none⟩) o o,.func (.func 60) #[] #[]] w fun e Z=>(∃v:Int,e= .returned (.int .i64 v)∧decide (0≤v)=odd o f 0)∧Below w.heap.size w Z:=by
 have HO:=zc h
 clear h
 go_enter Tryz.func106,Tryz.ntmps106
 go_wp2
 go_loopg [8] (o+1) (fun k i wr=>∃j:Nat,i= .int .i64 j∧j+k=o+1∧odd o f j=odd o f 0∧Below w.heap.size w wr)
 case atStart=>exact⟨0,rfl,by omega,rfl,Below.refl _ _⟩
 case round=>
  obtain⟨j,rfl,hj,X,U⟩:=hrel
  have L:=zc X
  have J:=zc U
  clear X U
  by_cases D:j<o
  ·have E:(j:Int)<(o:Int):=by omega
   have Y:=zlx (ziK HO.out J.out) D
   have M:=zc (zsa (f:=f) D)
   obtain⟨v,K⟩: ∃v,f j=v:=⟨_,rfl⟩
   rw[K] at Y
   have V:=zc K
   clear K
   obtain⟨I,H⟩: ∃I,I=j+1:=⟨_,rfl⟩
   have ej:(j:Int)+1=(I:Int):=by omega
   have Q:=zc H
   clear H
   go_wp2_with fail
   refine (zrY (v:Int) _).mono ?_
   rintro e w1 ⟨rfl,N⟩
   rw[N]
   clear N w1
   cases O:((v:Int) !=1) with
   |true=>
    go_wp2
    go_ret
    refine⟨⟨_,rfl,?_⟩,J.out⟩
    rw[←L.out,M.out,V.out,O]
    simp
   |false=>
    go_wp2
    go_roundg (gk-1)
    case rel=>
     refine⟨I,rfl,by have:=Q.out;omega,?_,J.out⟩
     rw[←L.out,M.out,V.out,O,Q.out]
     simp
    case measure=>omega
  ·have E: ¬(j:Int)<(o:Int):=by omega
   go_wp2
   go_ret
   refine⟨⟨_,rfl,?_⟩,J.out⟩
   rw[←L.out,zsb f (by omega)]
   rfl
theorem zsd (o g j:Nat) (f:Nat→Nat) (w:World) (h:w.ownsRow o 3 1 (.slice (some ⟨g,0,none⟩) j j) j (zbu j f)) (J:j≤4294967296):
  Calls Tryz.prog 59 #[.slice (some ⟨g,0,none⟩) j j,.func (.func 60) #[] #[]] w fun e H=>e= .returned (.bool (odd j f 0))∧Below w.heap.size w H:=by
 have K:=zc h
 clear h
 go_enter Tryz.func59,Tryz.ntmps59
 go_wp2_with fail
 refine (zsc o g j f _ K.out J).mono ?_
 rintro e L ⟨⟨v,rfl,z⟩,D⟩
 have I:=zc z
 have E:=zc D
 clear z D
 go_wp2
 go_ret
 exact⟨zq I.out,E.out⟩
end Go.Proofs.YthfeoomfiafldaaGreat
