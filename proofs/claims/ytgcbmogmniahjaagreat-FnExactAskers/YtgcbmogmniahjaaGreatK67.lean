/- Facts and walks. -/
import Derived.Test.YtgcbmogmniahjaaGreatK64
import Derived.Deep.RegionHeld3
namespace Go.Proofs.YtgcbmogmniahjaaGreat
open Go.RowKit Go.PlainAid Go.Sort Go.Proofs.Tryz
def MarkedE (w:World) (base:Nat) (t:TypeId) (size:Nat) (a:Option Addr) (n cap:Nat):Prop:=0<n->∃g,a=some ⟨g,0,none⟩/\OwnX w base t size g n cap (mkI 1) (n*size)
variable {w:World} {g:Nat}
theorem MarkedE.later {W:World} {size n q:Nat} {t:TypeId} {a:Option Addr} (h:MarkedE w g t size a n q) (A:Bw w W):MarkedE W g t size a n q:=
 fun k=>by obtain⟨C,e,z⟩:=h k;exact⟨C,e,z.later A⟩
theorem zxN {q:World} {b:Nat} (h:w.grownBy q (some g)) (D:b<=g) (z:b<=w.heap.size):Below b w q:=
 ⟨h.os,h.tape,h.output,h.size,fun k A=>h.block k (by omega) fun e=>by have:=Option.some.inj e;omega⟩
theorem zxO (w:World) (base:Nat) (a:Option Addr) (n q:Nat) (I:List Int) (h:OutE itE 3 w base a n q I) (D:base<=w.heap.size) (K:n<=1048576):
  Calls prog 18 #[.slice a n q,.int .i64 1] w fun e z=>e= .returned (.int .i64 ((1+n:Nat):Int))/\MarkedE z base 3 1 a n q/\Below base w z:=by
 rcases Nat.eq_zero_or_pos n with e|e
 ·subst e;refine (zxJ a q 1 w).mono ?_;rintro e E ⟨rfl,rfl⟩;exact⟨rfl,fun k=>absurd k (Nat.lt_irrefl _),Below.refl _ _⟩
 ·obtain⟨g,rfl,A⟩:=h.2 e;refine (zxK base g n q 1 w (OwnX.start A.1 _) K (by omega)).mono ?_;rintro e E ⟨rfl,H,J⟩;exact⟨rfl,fun _=>⟨g,rfl,by rw[Nat.mul_one];exact H⟩,zxN J A.blk.1 D⟩
theorem zn4 (w:World) (base:Nat) (a:Option Addr) (n q:Nat) (h:MarkedE w base 3 1 a n q) (D:n<=1048576):
  Calls prog 19 #[.slice a n q,.int .i64 1] w fun e A=>e= .returned (.int .i64 ((1+n:Nat):Int))/\A=w:=by
 rcases Nat.eq_zero_or_pos n with e|e
 ·subst e;exact zxL a q 1 w
 ·obtain⟨g,rfl,z⟩:=h e;rw[Nat.mul_one] at z;exact zxM base g n q 1 w z D (by omega)
end Go.Proofs.YtgcbmogmniahjaaGreat
namespace Go.Proofs.YtgcbmogmniahjaaGreat
open Go.RowKit Go.PlainAid Go.Sort Go.Proofs.Tryz
theorem zjp (h q:Option Addr) (n A z:Nat) (l:List Int) (w:World) (I:RowAt w h itE.f 1 l) (E:RowAt w q itE.f 1 l) (J:n=l.length) (H:n<=1048576):
  Calls prog 16 #[.slice h n A,.slice q n z] w fun e D=>e= .returned (.bool true)/\Bw w D:=by
 subst J;exact zxI h q A z l w I E H
theorem zxP: ∀s,¬MkT 3 s:=by
 intro s h;rcases h with ⟨k,_⟩|⟨k,_⟩|⟨k,_⟩|⟨k,_⟩|⟨k,_⟩|⟨k,_⟩<;>exact absurd k (by decide)
variable {w:World} {g:Nat}
theorem OutE.marked {W:World} {b n q:Nat} {a:Option Addr} {l:List Int} (h:OutE itE 3 w g a n q l) (E:Mkd b w W):OutE itE 3 W g a n q l:=
 ⟨h.1,fun p=>by
  obtain⟨C,e,o⟩:=h.2 p;refine⟨C,e,o.keep ?_⟩;rcases o.1.2 with ⟨z,_⟩|⟨I,A,D,z,_,H,_⟩
  ·simp at z
  ·simp only[Value.slice.injEq,Option.some.injEq,Addr.mk.injEq,and_true] at z;rw[z.1]
   exact E.off H zxP⟩
theorem zxQ {A:GA} {g:Gr} (q:A.ms.map (·.2)=g.ms) (h:ze5 A g<=1048576):g.ps.length+(g.ms.map zbS).sum+g.ls.length<=1048576:=by
 have e:ze5 A g=(g.ps.length+zD zbX g.ps)+(A.ms.length+zD zcN A.ms)+(g.ls.length+zD zeb g.ls):=rfl;have k:(g.ms.map zbS).sum<=zD zcN A.ms:=by
  unfold zD;rw[<-q,List.map_map];clear q h e
  induction A.ms with
  |nil=>exact Nat.le_refl _
  |cons x l w=>
   rw[List.map_cons,List.sum_cons,List.map_cons,List.sum_cons];refine Nat.add_le_add ?_ w;show zbS x.2<=zbi x.2;unfold zbS zbi;omega
 omega
open Go.Deep
theorem zxR {H:Type} {enc:TypeId×Value->H} {q:Nat->Bool} {D:Bool} {K:Nat} {I:List Value} {z:DataW H×List MemPlace} (h:DataW.trod enc prog w g q D K 26 I=some z):
  ∃(A:GA) (W:Gr),I=(grA A W).cells.toList/\GrIn w A W/\BigG A W/\∀x∈A.ms,zaY x.2.ex:=by
 obtain⟨xs,k,_,_,E,O,V⟩:=DataW.trod_struct underlying26 h;have cM:prog.cellsOf 26=3:=by kernel_rfl
 rw[cM] at E;have k0:prog.cellsOf 22=1:=by kernel_rfl
 have k1:prog.cellsOf 23=1:=by kernel_rfl
 have k2:prog.cellsOf 24=1:=by kernel_rfl
 obtain⟨N,L,M,rfl⟩:=list3 E;obtain⟨y0,Y,y2,rfl⟩:=list3 (O.trans rfl);have g0:DataW.trod enc prog w g q D k 22 (List.take (prog.cellsOf 22) (List.drop 0 [N,L,M]))=some y0:=V 0 _ rfl;rw[k0] at g0;have g1:DataW.trod enc prog w g q D k 23 (List.take (prog.cellsOf 23) (List.drop 1 [N,L,M]))=some Y:=V 1 _ rfl;rw[k1] at g1;have Z:DataW.trod enc prog w g q D k 24 (List.take (prog.cellsOf 24) (List.drop 2 [N,L,M]))=some y2:=V 2 _ rfl;rw[k2] at Z;obtain⟨a0,c0,l0,e0,b0,r0,q0⟩:=zdY sNone (α:=BA) (f:=(fun x=>[Value.string x])) (m:=1) (Q:=zea) (by omega) (fun _=>rfl) underlying22 (by kernel_rfl) (fun n I y h E=>zkJ h E) (show DataW.trod enc prog w g q D k 22 [N]=some y0 from g0);subst e0
 obtain⟨a1,c1,X,e1,b1,r1,U⟩:=zdY (⟨none,none,none,none,none,0,0,0,0,0⟩,⟨[],[],[],[],[]⟩) (α:=MA×Md) (f:=maL) (m:=5) (Q:=fun x=>ModIn w x.1 x.2/\zfN x.2/\zaY x.2.ex) (by omega) (fun _=>rfl) underlying23 (by kernel_rfl) (fun n I y h _=>by
  obtain⟨A,m,e,hm⟩:=zqL h
  exact⟨(A,m),e,hm⟩) (show DataW.trod enc prog w g q D k 23 [L]=some Y from g1)
 subst e1;obtain⟨a2,c2,l2,e2,b2,r2,q2⟩:=zdY ⟨0,sNone,0⟩ (α:=Lk) (f:=lkL) (m:=3) (Q:=ze4) (by omega) (fun _=>rfl) underlying24 (by kernel_rfl) (fun n I y h E=>zqU h E) (show DataW.trod enc prog w g q D k 24 [M]=some y2 from Z);subst e2;unfold maxLen at b0 b1 b2;exact⟨⟨a0,c0,a1,c1,a2,c2,X⟩,⟨l0,X.map (·.2),l2⟩,rfl,⟨r0,r1,fun x J=>(U x J).1,r2,rfl⟩,⟨by show l0.length<=_;omega,q0,by show X.length<=_;omega,fun x J=>(U x J).2.1,by show l2.length<=_;omega,q2⟩,fun x J=>(U x J).2.2⟩
end Go.Proofs.YtgcbmogmniahjaaGreat
