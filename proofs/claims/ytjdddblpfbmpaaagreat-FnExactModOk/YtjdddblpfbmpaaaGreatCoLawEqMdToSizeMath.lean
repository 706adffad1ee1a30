/-
  What the laws' eqMod answers of a program made twice: the walk.
  A program that is small has a text that is small. No program is spoken of.
-/
import Derived.Test.YtjdddblpfbmpaaaGreatCoLawBaseToLawModEq
import Derived.Test.YtjdddblpfbmpaaaGreatCoTwoModToSameSpec
import Derived.Test.YtjdddblpfbmpaaaGreatCoSrcRowToCostMath
namespace Go.Proofs.YtjdddblpfbmpaaaGreat
set_option maxRecDepth 100000
set_option maxHeartbeats 6400000
open Go.RowKit Go.PlainAid Go.Sort
theorem zqM (U b2:Nat) (O N:Sv) (m:Md) (w:World) (h1:OwnMd w U O m) (h2:OwnMd w b2 N m) (hf:zdJ m):
  Calls Tryz.prog 10 #[zq O m,zq N m] w fun e w'=>e= .returned (.bool true)∧Below w.heap.size w w':=by
 have H1:=zc h1
 have H2:=zc h2
 have X:=zc hf
 clear h1 h2 hf
 unfold zq
 go_enter Tryz.func10,Tryz.ntmps10
 go_upto_region 1 with fail
 refine zac (R:=TwoM w U b2 O N m m) (zfV w U b2 O N m m H1.out H2.out) ?_
 clear H1 H2
 intro w0 h
 have T0:=zc h
 clear h
 obtain⟨M,D,H,K,E,J⟩:=zi T0.out.1
 obtain⟨I,A,n,z,L,q⟩:=zi T0.out.2.1
 go_wp2_with fail
 refine (zq5 U b2 O.rq N.rq m.rq w0 (by rw[←zdI];exact T0.out.2.2.1.rq) (by rw[←zdI];exact T0.out.2.2.2.1.rq) X.out.1).mono ?_
 rintro e w1 ⟨rfl,j⟩
 have V:=zc (T0.out.later j)
 clear j M D H K E J I A n z L q
 obtain⟨M,D,H,K,E,J⟩:=zi V.out.1
 obtain⟨I,A,n,z,L,q⟩:=zi V.out.2.1
 go_wp2_with fail
 refine (zq9 U b2 O.im N.im m.im w1 V.out.2.2.1.im V.out.2.2.2.1.im X.out.2.1).mono ?_
 rintro e w2 ⟨rfl,j⟩
 have T2:=zc (V.out.later j)
 clear j M D H K E J I A n z L q
 obtain⟨M,D,H,K,E,J⟩:=zi T2.out.1
 obtain⟨I,A,n,z,L,q⟩:=zi T2.out.2.1
 go_wp2_with fail
 refine (zqD U b2 O.ep N.ep m.ep w2 T2.out.2.2.1.ep T2.out.2.2.2.1.ep X.out.2.2.1).mono ?_
 rintro e w3 ⟨rfl,j⟩
 have Y:=zc (T2.out.later j)
 clear j M D H K E J I A n z L q
 obtain⟨M,D,H,K,E,J⟩:=zi Y.out.1
 obtain⟨I,A,n,z,L,q⟩:=zi Y.out.2.1
 go_wp2_with fail
 refine (zqH U b2 O.st N.st m.st w3 Y.out.2.2.1.st Y.out.2.2.2.1.st X.out.2.2.2.1).mono ?_
 rintro e w4 ⟨rfl,j⟩
 have Z:=zc (Y.out.later j)
 clear j M D H K E J I A n z L q
 obtain⟨M,D,H,K,E,J⟩:=zi Z.out.1
 obtain⟨I,A,n,z,L,q⟩:=zi Z.out.2.1
 go_wp2_with fail
 refine (zqL U b2 O.ex N.ex m.ex w4 Z.out.2.2.1.ex Z.out.2.2.2.1.ex X.out.2.2.2.2).mono ?_
 rintro e w5 ⟨rfl,j⟩
 have T5:=zc (Z.out.later j)
 clear j M D H K E J I A n z L q
 obtain⟨M,D,H,K,E,J⟩:=zi T5.out.1
 obtain⟨I,A,n,z,L,q⟩:=zi T5.out.2.1
 go_wp2
 go_ret
 exact⟨rfl,T5.out.2.2.2.2⟩
theorem zeC {α:Type} (f:α→ByteArray) (l:List α): ∀t:ByteArray,(acc f l t).size=t.size+(l.map fun x=>(f x).size).sum:=by
 induction l with
 |nil=>intro t;rfl
 |cons x l h=>
  intro t
  show (acc f l (t++f x)).size=_
  rw[h,ByteArray.size_append,List.map_cons,List.sum_cons,Nat.add_assoc]
theorem zf1 {α:Type} {f c:α→Nat} (l:List α) (h: ∀x∈l,f x≤40+c x):(l.map f).sum≤40*l.length+zP c l:=by
 induction l with
 |nil=>exact Nat.le_refl _
 |cons x l j=>
  have q:=h x (List.mem_cons_self ..)
  have w:=j fun y n=>h y (List.mem_cons_of_mem _ n)
  unfold zP at*
  rw[List.map_cons,List.sum_cons,List.map_cons,List.sum_cons,List.length_cons]
  omega
theorem zjx {α:Type} {f c g:α→Nat} (l:List α) (h: ∀x∈l,f x≤40+c x+g x):(l.map f).sum≤40*l.length+zP c l+(l.map g).sum:=by
 induction l with
 |nil=>exact Nat.le_refl _
 |cons x l j=>
  have q:=h x (List.mem_cons_self ..)
  have w:=j fun y n=>h y (List.mem_cons_of_mem _ n)
  unfold zP at*
  rw[List.map_cons,List.sum_cons,List.map_cons,List.sum_cons,List.map_cons,List.sum_cons,List.length_cons]
  omega
theorem zf2 {α:Type} {c:α→Nat} {l:List α} {x:α} (h:x∈l):c x≤zP c l:=by
 induction l with
 |nil=>cases h
 |cons y l j=>
  unfold zP at*
  rw[List.map_cons,List.sum_cons]
  rcases List.mem_cons.1 h with rfl|h
  ·omega
  ·have:=j h
   omega
theorem zcu (a:Array UInt8):(⟨a⟩:ByteArray).size=a.size:=rfl
theorem zdY (s:ByteArray):(zaq s).size=s.size+2:=by
 rw[zaq,ByteArray.size_append,ByteArray.size_append,zcu]
 show 1+s.size+1=_
 omega
theorem zjy (a b:ByteArray):(asT a b).size≤a.size+b.size+4:=by
 unfold asT
 split
 ·omega
 ·have z:(({data:=#[32,97,115,32]}:ByteArray)).size=4:=rfl
  rw[ByteArray.size_append,ByteArray.size_append,z]
  omega
theorem zqN (s:ByteArray):(rqT s).size≤40+zbW s:=by
 rw[rqT,ByteArray.size_append,ByteArray.size_append,zdY,zcu,zcu]
 show 7+(s.size+2)+2≤40+s.size
 omega
theorem zqO (x:Im):(zU x).size≤40+zbA x:=by
 have h:=zjy x.first x.loc
 unfold zU zbA
 split
 ·simp only[ByteArray.size_append,zdY,zcu]
  simp only[List.size_toArray,List.length_cons,List.length_nil]
  omega
 ·split
  ·simp only[ByteArray.size_append,zdY,zcu]
   simp only[List.size_toArray,List.length_cons,List.length_nil]
   omega
  ·simp only[ByteArray.size_append,zdY,zcu]
   simp only[List.size_toArray,List.length_cons,List.length_nil]
   omega
theorem zqP (x:Ep):(epF x).size≤40+zbB x:=by
 have h:=zjy x.loc x.name
 unfold epF
 split
 ·exact Nat.zero_le _
 ·unfold zaW zbB
  split
  ·simp only[ByteArray.size_append,zdY,zcu]
   simp only[List.size_toArray,List.length_cons,List.length_nil]
   omega
  ·split
   ·simp only[ByteArray.size_append,zdY,zcu]
    simp only[List.size_toArray,List.length_cons,List.length_nil]
    omega
   ·simp only[ByteArray.size_append,zcu]
    simp only[List.size_toArray,List.length_cons,List.length_nil]
    omega
theorem zjz (k:Int) (n e:ByteArray):(zav k n e).size≤40+n.size+e.size:=by
 unfold zav
 repeat' split
 all_goals
  simp only[ByteArray.size_append,zcu]
  simp only[List.size_toArray,List.length_cons,List.length_nil]
  omega
theorem zqQ (k:Int) (n e:ByteArray):(zc8 k n e).size≤40+n.size+e.size:=by
 unfold zc8
 split
 ·simp only[ByteArray.size_append,zcu]
  simp only[List.size_toArray,List.length_cons,List.length_nil]
  omega
 ·exact zjz k n e
theorem zqR (l:List Ex):(l.map zdc).sum≤40*l.length+zP zct l:=zf1 l fun x _=>by unfold zdc zct;omega
theorem zqS (m:Md):(zb7 m).size≤40*m.rq.length+zP zbW m.rq+(40*m.im.length+zP zbA m.im)+(40*m.ep.length+zP zbB m.ep):=by
 have h:=zf1 (c:=zbW) m.rq fun x _=>zqN x
 have j:=zf1 (c:=zbA) m.im fun x _=>zqO x
 have n:=zf1 (c:=zbB) m.ep fun x _=>zqP x
 rw[zb7,zeC,zeC,zeC]
 have:sNone.size=0:=rfl
 omega
theorem zj0 {m:Md} (t:Tree m) (h:zaR m.ex):(zbP m).size≤40*zcE m∧(zbp m).size≤40*zcE m:=by
 have w:=zqS m
 have q:=zjW t h
 have A:=zqR m.ex
 have n:=zjx (c:=zbX) (g:=fun s=>wt m.ex s.expr.toNat) (f:=fun s=>(stF m.ex s).size) m.st fun s _=>zjz s.kind s.name _
 have j:=zjx (c:=zbX) (g:=fun s=>wt m.ex s.expr.toNat) (f:=fun s=>(zcd m.ex s).size) m.st fun s _=>zqQ s.kind s.name _
 have z:zcE m=(m.rq.length+zP zbW m.rq)+(m.im.length+zP zbA m.im)+(m.ep.length+zP zbB m.ep)+(m.st.length+zP zbX m.st)+(m.ex.length+zP zct m.ex):=rfl
 constructor
 ·rw[zbP,zeC]
  omega
 ·rw[zbp,zeC]
  omega
theorem zqT {m:Md} (h:zcE m≤67108864) (n:zaR m.ex):Small m:=by
 have q:zcE m=(m.rq.length+zP zbW m.rq)+(m.im.length+zP zbA m.im)+(m.ep.length+zP zbB m.ep)+(m.st.length+zP zbX m.st)+(m.ex.length+zP zct m.ex):=rfl
 refine⟨fun x j=>?_,fun x j=>?_,fun x j=>?_,fun x j=>?_,n,?_,?_,?_,?_,?_⟩
 ·have e:zbW x=x.size:=rfl
  have:=zf2 (c:=zbW) j
  omega
 ·have:=zf2 (c:=zbA) j
  have e:zbA x=x.spec.size+x.first.size+x.loc.size:=rfl
  omega
 ·have:=zf2 (c:=zbB) j
  have e:zbB x=x.name.size+x.loc.size+x.spec.size:=rfl
  omega
 ·have:=zf2 (c:=zbX) j
  have e:zbX x=x.name.size:=rfl
  omega
 all_goals omega
theorem zqU {m:Md} (h:zcE m≤1048576) (j:zaR m.ex):Small m:=zqT (Nat.le_trans h (by decide)) j
end Go.Proofs.YtjdddblpfbmpaaaGreat
