/-
  What l5Tree of the specification answers: the walk.
  What impl's isSum,hasSides and the closure that counts a use answer: the walks.
-/
import Derived.BigRegion
import Derived.Test.YtlnohpdiiileeaaGreatClEqModToImplParseQ
namespace Go.Proofs.YtlnohpdiiileeaaGreat
set_option maxRecDepth 100000
set_option maxHeartbeats 1600000
open Go.RowKit Go.PlainAid Go.Sort
theorem Tryz.infoInt:(Tryz.prog.info? 3).map (fun i=>(i.zero,i.size,i.bytes))=some (some (.int .i64 0),1,8):=by kernel_rfl
theorem zbqw (n:Nat):(madeCells #[.int .i64 0] n).toList=rowN n (fun _=>0):=by
 rw[toList_madeCells_one]
 unfold rowN
 rw[List.map_const',List.length_range]
 rfl
/-- The row of counts: cell, freedom, and what a store leaves. -/
theorem zbcz {w:World} {base g n cap:Nat} {f:Nat→Nat} (h:w.ownsRow base 3 1 (.slice (some ⟨g,0,none⟩) n cap) n (rowN n f)) {k:Nat} (hk:k<n):w.cell? ⟨g,k,none⟩=some (.int .i64 (f k:Int)):=by
 rw[h.cellAt k (by omega)]
 exact ztc f hk
theorem zbtt {w:World} {base g n cap:Nat} {f:Nat→Nat} (h:w.ownsRow base 3 1 (.slice (some ⟨g,0,none⟩) n cap) n (rowN n f)) (k v:Nat) (hv:v=f k+1):(w.setCell ⟨g,k,none⟩ (.int .i64 (v:Int))).ownsRow base 3 1 (.slice (some ⟨g,0,none⟩) n cap) n (rowN n (plus f k)):=by
 have:=(h.stored k (.int .i64 (v:Int))).1
 rw[zbqs f (plus f k) v (by rw[zbtq,hv]) (fun j hj=>zbtr f hj)] at this
 exact this
theorem zse {w w':World} {base g n cap:Nat} {xs:List Value} (h:w.ownsRow base 3 1 (.slice (some ⟨g,0,none⟩) n cap) n xs) (hb:Below w.heap.size w w'):w'.ownsRow base 3 1 (.slice (some ⟨g,0,none⟩) n cap) n xs:=by
 have h1:OwnR w base 3 1 ⟨some ⟨g,0,none⟩,cap⟩ n xs:=h
 exact h1.keep fun k e=>hb.block k (h1.typed e).2.1
theorem zbna {w:World} {base g n cap:Nat} {xs:List Value} (h:w.ownsRow base 3 1 (.slice (some ⟨g,0,none⟩) n cap) n xs):base≤g∧g<w.heap.size:=by
 have h1:OwnR w base 3 1 ⟨some ⟨g,0,none⟩,cap⟩ n xs:=h
 exact⟨(h1.typed rfl).1,(h1.typed rfl).2.1⟩
theorem zbtu {w:World} {base g k:Nat} {S:Sv} {m:Md} {u:Value} (h:OwnMd w base S m) (hg: ∀b,w.heap[g]? =some b→∃cur,b= .cells cur 3 (0,0)):OwnMd (w.setCell ⟨g,k,none⟩ u) base S m:=by
 have hk: ∀(e:TypeId) (size n:Nat) (r:Rw) (xs:List Value),OwnR w base e size r n xs→e≠3→OwnR (w.setCell ⟨g,k,none⟩ u) base e size r n xs:=fun e size n r xs h he=>h.keep fun b hb=>Below.heap_setCell w ⟨g,k,none⟩ u b (fun eq=>by
  obtain⟨_,_,c,hc⟩:=h.typed hb
  obtain⟨cur,hcur⟩:=hg _ (by rw[←show b=g from eq];exact hc)
  simp only[Obj.cells.injEq] at hcur
  exact he hcur.2.1)
 exact⟨hk _ _ _ _ _ h.rq (by decide),hk _ _ _ _ _ h.im (by decide),hk _ _ _ _ _ h.ep (by decide),hk _ _ _ _ _ h.st (by decide),hk _ _ _ _ _ h.ex (by decide)⟩
/-- How often each is a side of one of the first j. -/
def cE (ex:List Ex) (j:Nat):Nat→Nat:=fun k=>zca (ex.take j) (k:Int)
/-- .. or that of one of the first j statements. -/
def cS (m:Md) (j:Nat):Nat→Nat:=fun k=>zca m.ex (k:Int)+zdn (m.st.take j) (k:Int)
/-- Whether it is a tree, told by a flag. -/
def zxg (m:Md) (e:Ending):Prop:=∃b,e= .returned (.bool b)∧(b=true↔Tree m)
theorem ztd {m:Md} (h: ¬Tree m):zxg m (.returned (.bool false)):=⟨false,rfl,⟨(fun k=>by cases k),fun t=>absurd t h⟩⟩
theorem zbqx {m:Md} (h:Tree m):zxg m (.returned (.bool true)):=⟨true,rfl,⟨fun _=>h,fun _=>rfl⟩⟩
theorem zbnb {w:World} {base g n cap:Nat} {xs:List Value} (h:w.ownsRow base 3 1 (.slice (some ⟨g,0,none⟩) n cap) n xs): ∀b,w.heap[g]? =some b→∃cur,b= .cells cur 3 (0,0):=by
 have h1:OwnR w base 3 1 ⟨some ⟨g,0,none⟩,cap⟩ n xs:=h
 obtain⟨_,_,c,hc⟩:=h1.typed rfl
 intro b hb
 rw[hc] at hb
 exact⟨c,(Option.some.inj hb).symm⟩
theorem zlb (k:Int) (w:World):Calls Tryz.prog 245 #[.int .i64 k] w fun e w'=>e= .returned (.bool (k==6||k==7))∧w'=w:=by
 cases h6:(k==6) with
 |true=>
  go_enter Tryz.func245,Tryz.ntmps245
  go_wp2
  go_ret
  exact⟨rfl,rfl⟩
 |false=>
  cases h7:(k==7) with
  |true=>
   go_enter Tryz.func245,Tryz.ntmps245
   go_wp2
   go_ret
   exact⟨rfl,rfl⟩
  |false=>
   go_enter Tryz.func245,Tryz.ntmps245
   go_wp2
   go_ret
   exact⟨rfl,rfl⟩
theorem zsf (k:Int) (w:World):Calls Tryz.prog 158 #[.int .i64 k] w fun e w'=>e= .returned (.bool (twoK k))∧w'=w:=by
 cases hs:(k==6||k==7) with
 |true=>
  have HV:Hid (twoK k=true):=by show _=_;rw[twoK,hs];rfl
  go_enter Tryz.func158,Tryz.ntmps158
  go_wp2_with fail
  refine (zlb k _).mono ?_
  rintro e w2 ⟨rfl,rfl⟩
  rw[hs]
  go_wp2
  go_ret
  exact⟨zi HV.out.symm,rfl⟩
 |false=>
  cases h8:(k==8) with
  |true=>
   have HV:Hid (twoK k=true):=by show _=_;rw[twoK,hs,h8];rfl
   go_enter Tryz.func158,Tryz.ntmps158
   go_wp2_with fail
   refine (zlb k _).mono ?_
   rintro e w2 ⟨rfl,rfl⟩
   rw[hs]
   go_wp2
   go_ret
   exact⟨zi HV.out.symm,rfl⟩
  |false=>
   have HV:Hid (twoK k=false):=by show _=_;rw[twoK,hs,h8];rfl
   go_enter Tryz.func158,Tryz.ntmps158
   go_wp2_with fail
   refine (zlb k _).mono ?_
   rintro e w2 ⟨rfl,rfl⟩
   rw[hs]
   go_wp2
   go_ret
   exact⟨zi HV.out.symm,rfl⟩
theorem zbjw (k:Int) (w:World):Calls Tryz.prog 160 #[.int .i64 k] w fun e w'=>e= .returned (.bool (k !=1))∧w'=w:=by
 go_enter Tryz.func160,Tryz.ntmps160
 go_wp2
 go_ret
 exact⟨rfl,rfl⟩
theorem zbnc {w:World} {b:Nat} {t:TypeId} {v0:Value} (h:w.heap[b]? =some (.cells #[v0] t (0,0))):w.cell? ⟨b,0,none⟩=some v0∧∀i,w.frozen? ⟨b,i,none⟩=false:=by
 refine⟨?_,fun i=>?_⟩<;>simp[World.cell?,World.frozen?,h]
/-- One use told where the place stands ahead of the end; else nothing is written. -/
theorem zxh (i n:Int) (u:Value) (w:World) (h: ¬(0≤i∧i<n)):
  Calls Tryz.prog 157 #[.int .i64 i,.int .i64 n,u] w fun e w'=>e= .returned (.bool false)∧w'=w:=by
 by_cases h0:i<0
 ·go_enter Tryz.func157,Tryz.ntmps157
  go_wp2
  go_ret
  exact⟨rfl,rfl⟩
 ·have h1:n≤i:=by omega
  clear h
  go_enter Tryz.func157,Tryz.ntmps157
  go_wp2
  go_ret
  exact⟨rfl,rfl⟩
theorem zbqy (i len base g gu:Nat) (n:Int) (f:Nat→Nat) (w:World) (hu:w.heap[gu]? =some (.cells #[.slice (some ⟨g,0,none⟩) len len] 63 (0,0))) (h:w.ownsRow base 3 1 (.slice (some ⟨g,0,none⟩) len len) len (rowN len f)) (hf:f i≤17179869184) (hi:i<len) (hn:(i:Int)<n):
  Calls Tryz.prog 157 #[.int .i64 (i:Int),.int .i64 n,.pointer (some ⟨gu,0,none⟩)] w fun e w'=>e= .returned (.bool true)∧w'=w.setCell ⟨g,i,none⟩ (.int .i64 (f i+1:Nat)):=by
 have h0: ¬(i:Int)<0:=by omega
 have h1: ¬n≤(i:Int):=by omega
 have hii:(i:Int)<(len:Int):=by omega
 obtain⟨s0,sf⟩:=zbnc hu
 obtain⟨va,hva⟩: ∃v,f i=v:=⟨_,rfl⟩
 have ea:=zbcz h (k:=i) (by omega)
 have ef:=h.frozenAt
 rw[hva] at ea hf
 rw[hva]
 obtain⟨ua,hua⟩: ∃u,u=va+1:=⟨_,rfl⟩
 have eva:(va:Int)+1=(ua:Int):=by omega
 have hwva:IntKind.i64.wrap (ua:Int)=(ua:Int):=IntWalk.i64_in _ ⟨by omega,by omega⟩
 rw[←hua]
 clear hu h hva hua
 go_enter Tryz.func157,Tryz.ntmps157
 go_wp2
 go_ret
 exact⟨rfl,rfl⟩
/-- Whether one of the counts is no 1. -/
def odd (n:Nat) (f:Nat→Nat) (j:Nat):Bool:=(List.range n).any fun k=>decide (j≤k)&&((f k:Int) !=1)
theorem zbqz {n:Nat} {f:Nat→Nat} {j:Nat} (hj:j<n):odd n f j=(((f j:Int) !=1)||odd n f (j+1)):=by
 rw[Bool.eq_iff_iff,Bool.or_eq_true]
 simp only[odd,List.any_eq_true,List.mem_range,Bool.and_eq_true,decide_eq_true_eq]
 constructor
 ·rintro⟨k,hk,hjk,h⟩
  by_cases e:k=j
  ·exact .inl (e▸h)
  ·exact .inr ⟨k,hk,by omega,h⟩
 ·rintro (h|⟨k,hk,hjk,h⟩)
  ·exact⟨j,hj,Nat.le_refl _,h⟩
  ·exact⟨k,hk,by omega,h⟩
theorem zbtv {n:Nat} (f:Nat→Nat) {j:Nat} (hj:n≤j):odd n f j=false:=by
 rw[Bool.eq_false_iff]
 intro h
 simp only[odd,List.any_eq_true,List.mem_range,Bool.and_eq_true,decide_eq_true_eq] at h
 obtain⟨k,hk,hjk,_⟩:=h
 omega
theorem zbda (base g len:Nat) (f:Nat→Nat) (w:World) (h:w.ownsRow base 3 1 (.slice (some ⟨g,0,none⟩) len len) len (rowN len f)) (hl:len≤4294967296):
  Calls Tryz.prog 246 #[.slice (some ⟨g,0,none⟩) len len,.func (.func 160) #[] #[]] w fun e w'=>(∃v:Int,e= .returned (.int .i64 v)∧decide (0≤v)=odd len f 0)∧Below w.heap.size w w':=by
 have HO:=hidI h
 clear h
 go_enter Tryz.func246,Tryz.ntmps246
 go_wp2
 go_loopg [8] (len+1) (fun k i wr=>∃j:Nat,i= .int .i64 j∧j+k=len+1∧odd len f j=odd len f 0∧Below w.heap.size w wr)
 case atStart=>exact⟨0,rfl,by omega,rfl,Below.refl _ _⟩
 case round=>
  obtain⟨j,rfl,hj,he,hb⟩:=hrel
  have HE:=hidI he
  have HB:=hidI hb
  clear he hb
  by_cases hlt:j<len
  ·have hlti:(j:Int)<(len:Int):=by omega
   have k0:=zbcz (zse HO.out HB.out) hlt
   have HS:=hidI (zbqz (f:=f) hlt)
   obtain⟨v,hv⟩: ∃v,f j=v:=⟨_,rfl⟩
   rw[hv] at k0
   have HV:=hidI hv
   clear hv
   obtain⟨j1,hj1⟩: ∃j1,j1=j+1:=⟨_,rfl⟩
   have ej:(j:Int)+1=(j1:Int):=by omega
   have HJ:=hidI hj1
   clear hj1
   go_wp2_with fail
   refine (zbjw (v:Int) _).mono ?_
   rintro e w1 ⟨rfl,hw⟩
   rw[hw]
   clear hw w1
   cases ex:((v:Int) !=1) with
   |true=>
    go_wp2
    go_ret
    refine⟨⟨_,rfl,?_⟩,HB.out⟩
    rw[←HE.out,HS.out,HV.out,ex]
    simp
   |false=>
    go_wp2
    go_roundg (gk-1)
    case rel=>
     refine⟨j1,rfl,by have:=HJ.out;omega,?_,HB.out⟩
     rw[←HE.out,HS.out,HV.out,ex,HJ.out]
     simp
    case measure=>omega
  ·have hlti: ¬(j:Int)<(len:Int):=by omega
   go_wp2
   go_ret
   refine⟨⟨_,rfl,?_⟩,HB.out⟩
   rw[←HE.out,zbtv f (by omega)]
   rfl
theorem zwe (base g len:Nat) (f:Nat→Nat) (w:World) (h:w.ownsRow base 3 1 (.slice (some ⟨g,0,none⟩) len len) len (rowN len f)) (hl:len≤4294967296):
  Calls Tryz.prog 159 #[.slice (some ⟨g,0,none⟩) len len,.func (.func 160) #[] #[]] w fun e w'=>e= .returned (.bool (odd len f 0))∧Below w.heap.size w w':=by
 have HO:=hidI h
 clear h
 go_enter Tryz.func159,Tryz.ntmps159
 go_wp2_with fail
 refine (zbda base g len f _ HO.out hl).mono ?_
 rintro e w1 ⟨⟨v,rfl,hv⟩,hb⟩
 have HV:=hidI hv
 have HB:=hidI hb
 clear hv hb
 go_wp2
 go_ret
 exact⟨zi HV.out,HB.out⟩
end Go.Proofs.YtlnohpdiiileeaaGreat
