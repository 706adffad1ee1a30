/- Facts. -/
import Derived.Test.YtegdaafmaookjaaGreatP89
import Derived.Deep.RegionHeld3
namespace Go.Proofs.YtegdaafmaookjaaGreat
open Go.RowKit Go.PlainAid Go.Sort Go.Proofs.Tryz
def MarkedE (w:World) (base:Nat) (t:TypeId) (size:Nat) (a:Option Addr) (n cap:Nat):Prop:=0<n->∃g,a=some ⟨g,0,none⟩/\OwnX w base t size g n cap (mkI 1) (n*size)
variable {w:World} {g:Nat}
theorem zoC {w':World} {b:Nat} (h:w.grownBy w' (some g)) (H:b<=g) (q:b<=w.heap.size):Below b w w':=
 ⟨h.os,h.tape,h.output,h.size,fun k A=>h.block k (by omega) fun e=>by have:=oI e;omega⟩
theorem zcS (h q:Option Addr) (n H A:Nat) (l:List Int) (w:World) (K:RowAt w h itE.f 1 l) (I:RowAt w q itE.f 1 l) (L:n=l.length) (J:n<=1048576):
  Calls prog 19 #[.slice h n H,.slice q n A] w fun e w'=>e= .returned (.bool true)/\Bw w w':=by
 subst L;exact zzf h q H A l w K I J
theorem zzg: ∀s,¬MkT 3 s:=by
 intro s h;rcases h with ⟨k,_⟩|⟨k,_⟩|⟨k,_⟩|⟨k,_⟩|⟨k,_⟩|⟨k,_⟩<;>exact absurd k (by decide)
theorem OutE.marked {w W:World} {base b n q:Nat} {a:Option Addr} {l:List Int} (h:OutE itE 3 w base a n q l) (J:Mkd b w W):OutE itE 3 W base a n q l:=
 ⟨h.1,fun p=>by
  obtain⟨g,e,o⟩:=h.2 p;refine⟨g,e,o.keep ?_⟩;rcases o.1.2 with ⟨A,_⟩|⟨L,H,I,A,_,K,_⟩
  ·simp at A
  ·simp only[vI,sI0,Addr.mk.injEq,and_true] at A;rw[A.1]
   exact J.off K zzg⟩
theorem zgF {A:GA} {g:Gr} (q:A.ms.map (·.2)=g.ms) (h:zcx A g<=1048576):g.ps.length+(g.ms.map zcb).sum+g.ls.length<=1048576:=by
 have e:zcx A g=(g.ps.length+zE zb6 g.ps)+(A.ms.length+zE zce A.ms)+(g.ls.length+zE zeb g.ls):=rfl;have k:(g.ms.map zcb).sum<=zE zce A.ms:=by
  unfold zE;rw[<-q,List.map_map];clear q h e
  induction A.ms with
  |nil=>exact Nat.le_refl _
  |cons x l w=>
   rw[List.map_cons,List.sum_cons,List.map_cons,List.sum_cons];refine Nat.add_le_add ?_ w;show zcb x.2<=zaU x.2;unfold zcb zaU;omega
 omega
