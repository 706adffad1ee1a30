/-
  What the laws' eqMod answers of a program made twice: the walk.
  A program that is small has a text that is small. No program is spoken of.
-/
import Derived.Test.YticdggnnpjachaaGreatCcLawBaseToLawModEq
import Derived.Test.YticdggnnpjachaaGreatCcTwoModToSameSpec
import Derived.Test.YticdggnnpjachaaGreatCcSrcRowToCostMath
namespace Go.Proofs.YticdggnnpjachaaGreat
set_option maxRecDepth 100000
set_option maxHeartbeats 6400000
open Go.RowKit Go.PlainAid Go.Sort
theorem zqA (O b2:Nat) (M N:Sv) (m:Md) (w:World) (h1:OwnMd w O M m) (h2:OwnMd w b2 N m) (hf:zdM m):
  Calls Tryz.prog 8 #[zt M m,zt N m] w fun e w'=>e= .returned (.bool true)∧Below w.heap.size w w':=by
 have H1:=zc h1
 have H2:=zc h2
 have HF:=zc hf
 clear h1 h2 hf
 unfold zt
 go_enter Tryz.func8,Tryz.ntmps8
 go_upto_region 1 with fail
 refine zah (R:=TwoM w O b2 M N m m) (zfY w O b2 M N m m H1.out H2.out) ?_
 clear H1 H2
 intro w0 h
 have Y:=zc h
 clear h
 obtain⟨E,H,D,J,z,I⟩:=zk Y.out.1
 obtain⟨o,L,n,K,A,q⟩:=zk Y.out.2.1
 go_wp2_with fail
 refine (zqt O b2 M.rq N.rq m.rq w0 (by rw[←zdL];exact Y.out.2.2.1.rq) (by rw[←zdL];exact Y.out.2.2.2.1.rq) HF.out.1).mono ?_
 rintro e w1 ⟨rfl,j⟩
 have U:=zc (Y.out.later j)
 clear j E H D J z I o L n K A q
 obtain⟨E,H,D,J,z,I⟩:=zk U.out.1
 obtain⟨o,L,n,K,A,q⟩:=zk U.out.2.1
 go_wp2_with fail
 refine (zqx O b2 M.im N.im m.im w1 U.out.2.2.1.im U.out.2.2.2.1.im HF.out.2.1).mono ?_
 rintro e w2 ⟨rfl,j⟩
 have V:=zc (U.out.later j)
 clear j E H D J z I o L n K A q
 obtain⟨E,H,D,J,z,I⟩:=zk V.out.1
 obtain⟨o,L,n,K,A,q⟩:=zk V.out.2.1
 go_wp2_with fail
 refine (zq1 O b2 M.ep N.ep m.ep w2 V.out.2.2.1.ep V.out.2.2.2.1.ep HF.out.2.2.1).mono ?_
 rintro e w3 ⟨rfl,j⟩
 have X:=zc (V.out.later j)
 clear j E H D J z I o L n K A q
 obtain⟨E,H,D,J,z,I⟩:=zk X.out.1
 obtain⟨o,L,n,K,A,q⟩:=zk X.out.2.1
 go_wp2_with fail
 refine (zq5 O b2 M.st N.st m.st w3 X.out.2.2.1.st X.out.2.2.2.1.st HF.out.2.2.2.1).mono ?_
 rintro e w4 ⟨rfl,j⟩
 have Z:=zc (X.out.later j)
 clear j E H D J z I o L n K A q
 obtain⟨E,H,D,J,z,I⟩:=zk Z.out.1
 obtain⟨o,L,n,K,A,q⟩:=zk Z.out.2.1
 go_wp2_with fail
 refine (zq9 O b2 M.ex N.ex m.ex w4 Z.out.2.2.1.ex Z.out.2.2.2.1.ex HF.out.2.2.2.2).mono ?_
 rintro e w5 ⟨rfl,j⟩
 have T5:=zc (Z.out.later j)
 clear j E H D J z I o L n K A q
 obtain⟨E,H,D,J,z,I⟩:=zk T5.out.1
 obtain⟨o,L,n,K,A,q⟩:=zk T5.out.2.1
 go_wp2
 go_ret
 exact⟨rfl,T5.out.2.2.2.2⟩
theorem zeF {α:Type} (f:α→ByteArray) (l:List α): ∀t:ByteArray,(acc f l t).size=t.size+(l.map fun x=>(f x).size).sum:=by
 induction l with
 |nil=>intro t;rfl
 |cons x l h=>
  intro t
  show (acc f l (t++f x)).size=_
  rw[h,ByteArray.size_append,List.map_cons,List.sum_cons,Nat.add_assoc]
theorem zf4 {α:Type} {f c:α→Nat} (l:List α) (h: ∀x∈l,f x≤40+c x):(l.map f).sum≤40*l.length+zQ c l:=by
 induction l with
 |nil=>exact Nat.le_refl _
 |cons x l n=>
  have q:=h x (List.mem_cons_self ..)
  have o:=n fun y j=>h y (List.mem_cons_of_mem _ j)
  unfold zQ at*
  rw[List.map_cons,List.sum_cons,List.map_cons,List.sum_cons,List.length_cons]
  omega
theorem zjs {α:Type} {f c g:α→Nat} (l:List α) (h: ∀x∈l,f x≤40+c x+g x):(l.map f).sum≤40*l.length+zQ c l+(l.map g).sum:=by
 induction l with
 |nil=>exact Nat.le_refl _
 |cons x l n=>
  have q:=h x (List.mem_cons_self ..)
  have o:=n fun y j=>h y (List.mem_cons_of_mem _ j)
  unfold zQ at*
  rw[List.map_cons,List.sum_cons,List.map_cons,List.sum_cons,List.map_cons,List.sum_cons,List.length_cons]
  omega
theorem zf5 {α:Type} {c:α→Nat} {l:List α} {x:α} (h:x∈l):c x≤zQ c l:=by
 induction l with
 |nil=>cases h
 |cons y l j=>
  unfold zQ at*
  rw[List.map_cons,List.sum_cons]
  rcases List.mem_cons.1 h with rfl|h
  ·omega
  ·have:=j h
   omega
theorem zcx (a:Array UInt8):(⟨a⟩:ByteArray).size=a.size:=rfl
theorem zeb (s:ByteArray):(zar s).size=s.size+2:=by
 rw[zar,ByteArray.size_append,ByteArray.size_append,zcx]
 show 1+s.size+1=_
 omega
theorem zjt (a b:ByteArray):(asT a b).size≤a.size+b.size+4:=by
 unfold asT
 split
 ·omega
 ·have z:(({data:=#[32,97,115,32]}:ByteArray)).size=4:=rfl
  rw[ByteArray.size_append,ByteArray.size_append,z]
  omega
theorem zqB (s:ByteArray):(rqT s).size≤40+zca s:=by
 rw[rqT,ByteArray.size_append,ByteArray.size_append,zeb,zcx,zcx]
 show 7+(s.size+2)+2≤40+s.size
 omega
theorem zqC (x:Im):(zV x).size≤40+zbE x:=by
 have h:=zjt x.first x.loc
 unfold zV zbE
 split
 ·simp only[ByteArray.size_append,zeb,zcx]
  simp only[List.size_toArray,List.length_cons,List.length_nil]
  omega
 ·split
  ·simp only[ByteArray.size_append,zeb,zcx]
   simp only[List.size_toArray,List.length_cons,List.length_nil]
   omega
  ·simp only[ByteArray.size_append,zeb,zcx]
   simp only[List.size_toArray,List.length_cons,List.length_nil]
   omega
theorem zqD (x:Ep):(epF x).size≤40+zbF x:=by
 have h:=zjt x.loc x.name
 unfold epF
 split
 ·exact Nat.zero_le _
 ·unfold zaY zbF
  split
  ·simp only[ByteArray.size_append,zeb,zcx]
   simp only[List.size_toArray,List.length_cons,List.length_nil]
   omega
  ·split
   ·simp only[ByteArray.size_append,zeb,zcx]
    simp only[List.size_toArray,List.length_cons,List.length_nil]
    omega
   ·simp only[ByteArray.size_append,zcx]
    simp only[List.size_toArray,List.length_cons,List.length_nil]
    omega
theorem zju (k:Int) (n e:ByteArray):(zax k n e).size≤40+n.size+e.size:=by
 unfold zax
 repeat' split
 all_goals
  simp only[ByteArray.size_append,zcx]
  simp only[List.size_toArray,List.length_cons,List.length_nil]
  omega
theorem zqE (k:Int) (n e:ByteArray):(zcB k n e).size≤40+n.size+e.size:=by
 unfold zcB
 split
 ·simp only[ByteArray.size_append,zcx]
  simp only[List.size_toArray,List.length_cons,List.length_nil]
  omega
 ·exact zju k n e
theorem zqF (l:List Ex):(l.map zde).sum≤40*l.length+zQ zcw l:=zf4 l fun x _=>by unfold zde zcw;omega
theorem zqG (m:Md):(zbB m).size≤40*m.rq.length+zQ zca m.rq+(40*m.im.length+zQ zbE m.im)+(40*m.ep.length+zQ zbF m.ep):=by
 have h:=zf4 (c:=zca) m.rq fun x _=>zqB x
 have j:=zf4 (c:=zbE) m.im fun x _=>zqC x
 have n:=zf4 (c:=zbF) m.ep fun x _=>zqD x
 rw[zbB,zeF,zeF,zeF]
 have:sNone.size=0:=rfl
 omega
theorem zjv {m:Md} (t:Tree m) (h:zbg m.ex):(zbT m).size≤40*zcQ m∧(zb6 m).size≤40*zcQ m:=by
 have n:=zqG m
 have o:=zjR t h
 have q:=zqF m.ex
 have z:=zjs (c:=zcb) (g:=fun s=>wt m.ex s.expr.toNat) (f:=fun s=>(stF m.ex s).size) m.st fun s _=>zju s.kind s.name _
 have j:=zjs (c:=zcb) (g:=fun s=>wt m.ex s.expr.toNat) (f:=fun s=>(zch m.ex s).size) m.st fun s _=>zqE s.kind s.name _
 have w:zcQ m=(m.rq.length+zQ zca m.rq)+(m.im.length+zQ zbE m.im)+(m.ep.length+zQ zbF m.ep)+(m.st.length+zQ zcb m.st)+(m.ex.length+zQ zcw m.ex):=rfl
 constructor
 ·rw[zbT,zeF]
  omega
 ·rw[zb6,zeF]
  omega
theorem zqH {m:Md} (h:zcQ m≤1048576) (n:zbg m.ex):Small m:=by
 have o:zcQ m=(m.rq.length+zQ zca m.rq)+(m.im.length+zQ zbE m.im)+(m.ep.length+zQ zbF m.ep)+(m.st.length+zQ zcb m.st)+(m.ex.length+zQ zcw m.ex):=rfl
 refine⟨fun x j=>?_,fun x j=>?_,fun x j=>?_,fun x j=>?_,n,?_,?_,?_,?_,?_⟩
 ·have e:zca x=x.size:=rfl
  have:=zf5 (c:=zca) j
  omega
 ·have:=zf5 (c:=zbE) j
  have e:zbE x=x.spec.size+x.first.size+x.loc.size:=rfl
  omega
 ·have:=zf5 (c:=zbF) j
  have e:zbF x=x.name.size+x.loc.size+x.spec.size:=rfl
  omega
 ·have:=zf5 (c:=zcb) j
  have e:zcb x=x.name.size:=rfl
  omega
 all_goals omega
end Go.Proofs.YticdggnnpjachaaGreat
