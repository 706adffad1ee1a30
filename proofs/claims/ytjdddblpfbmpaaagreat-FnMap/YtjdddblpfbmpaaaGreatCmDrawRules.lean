/-
 What spec.l14Rules tells: some rules,none of their texts long: the walk.
-/
import Derived.Test.YtjdddblpfbmpaaaGreatCmDrawModMemToStepFile
import Derived.Deep.DeepCutAuto
namespace Go.Proofs.YtjdddblpfbmpaaaGreat
set_option maxRecDepth 100000
set_option maxHeartbeats 6400000
open Go.RowKit Go.PlainAid
theorem Tryz.infoRule:(Tryz.prog.info? 57).map (fun i=>(i.zero,i.size,i.bytes))=some (some (.agg #[.string {data:=#[]},.string {data:=#[]}]),2,32):=by kernel_rfl
abbrev zkl:Array Value:=#[.string {data:=#[46,47,97]},.string {data:=#[46,47,98]},.string {data:=#[46,47,98,47]},.string {data:=#[99,47]},.string {data:=#[120]},.string {data:=#[120,47]}]
structure RuW (S:Src) (w wr:World) (gc gp:Nat) (q:Nat×Int) (g n cap:Nat) (fs:List Fl):Prop where
 cur:zN 137 S wr gc q
 lit:wr.heap[gp]? =some (.cells zkl 9 (0,0))
 gpl:gc<w.heap.size∧w.heap.size≤gp
 ne:g≠gp
 own:zbA wr w.heap.size 57 g n cap fs
 few: ∀x∈fs,x.1.size≤100∧x.2.size≤100
 gr:w.grownBy wr (some gc)
theorem RuW.lt {S:Src} {w wr:World} {A z:Nat} {q:Nat×Int} {g n j:Nat} {H:List Fl} (h:RuW S w wr A z q g n j H):z<wr.heap.size:=(Array.getElem?_eq_some_iff.1 h.lit).1
theorem RuW.draw {S:Src} {w wr W:World} {z A:Nat} {q q':Nat×Int} {g n j:Nat} {H:List Fl} (h:RuW S w wr z A q g n j H) (J:zN 137 S W z q') (k:wr.grownBy W (some z)):RuW S w W z A q' g n j H:=by
 have I:=zdP h.own
 have L:=h.gpl
 exact⟨J,(k.block A h.lt (fun e=>by have:=Option.some.inj e;omega)).trans h.lit,h.gpl,h.ne,zgB h.own (k.block g I.2 (fun e=>by have:=Option.some.inj e;omega)),h.few,zE h.gr k⟩
theorem RuW.drew {S:Src} {w wr:World} {z H:Nat} {q:Nat×Int} {g n j:Nat} {A:List Fl} (h:RuW S w wr z H q g n j A):RuW S w wr.drew z H q g n j A:=h.draw (zch h.cur fun _ _=>rfl) ⟨rfl,rfl,rfl,Nat.le_refl _,fun _ _ _=>rfl⟩
theorem RuW.alloc {S:Src} {w wr:World} {z H:Nat} {q:Nat×Int} {g n j:Nat} {A:List Fl} (h:RuW S w wr z H q g n j A) (o:Obj):RuW S w (wr.alloc o) z H q g n j A:=h.draw (zdN h.cur o) (zdM wr o _)
theorem RuW.app {S:Src} {w wr W:World} {N I:Nat} {q:Nat×Int} {g n L H z:Nat} {M:List Fl} {b:Fl} (h:RuW S w wr N I q g n L M) (O:zbA W w.heap.size 57 H (n+1) z (M++[b])) (k:wr.grownBy W (some g)) (Y:H=g∨wr.heap.size≤H) (X:b.1.size≤100∧b.2.size≤100):RuW S w W N I q H (n+1) z (M++[b]):=by
 have hg:=zdP h.own
 have h1:=h.gpl
 have Z:=h.ne
 have V:=h.lt
 refine⟨zch h.cur (fun j J=>k.block j (by omega) (fun e=>by have:=Option.some.inj e;omega)),(k.block I V (fun e=>by have:=Option.some.inj e;omega)).trans h.lit,h.gpl,by omega,O,fun x A=>?_,⟨k.os.trans h.gr.os,k.tape.trans h.gr.tape,k.output.trans h.gr.output,Nat.le_trans h.gr.size k.size,fun j J U=>(k.block j (Nat.lt_of_lt_of_le J h.gr.size) (fun e=>by have:=Option.some.inj e;omega)).trans (h.gr.block j J U)⟩⟩
 rcases List.mem_append.1 A with A|A
 ·exact h.few x A
 ·rw[List.mem_singleton.1 A]
  exact X
theorem RuW.at {S:Src} {w wr:World} {J A:Nat} {q:Nat×Int} {g n z:Nat} {L:List Fl} (h:RuW S w wr J A q g n z L) {j:Nat} (H:j<6): ∃x,wr.cell? ⟨A,j,none⟩=some (.string x)∧x.size≤100:=by
 have I:=h.lit
 simp only[World.cell?,I]
 match j,H with
 |0,_|1,_|2,_|3,_|4,_|5,_=>exact⟨_,rfl,by decide⟩
 |j+6,H=>omega
theorem RuW.cell {S:Src} {w wr W:World} {H z:Nat} {q q':Nat×Int} {g n A:Nat} {I:List Fl} (h:RuW S w wr H z q g n A I) (J:RuW S w W H z q' g n A I) {j:Nat} {v:Value} (L:wr.cell? ⟨z,j,none⟩=some v):W.cell? ⟨z,j,none⟩=some v:=by
 have e:W.heap[z]? =wr.heap[z]?:=J.lit.trans h.lit.symm
 rw[←L]
 simp only[World.cell?,e]
theorem RuW.start {S:Src} {w:World} {z:Nat} {q:Nat×Int} (A:zN 137 S w z q):RuW S w ((w.alloc (.cells #[] 57)).alloc (.cells zkl 9)) z (w.heap.size+1) q w.heap.size 0 0 []:=by
 have H:(w.alloc (.cells #[] 57)).heap.size=w.heap.size+1:=zl _ _
 have j:=zcJ A
 refine⟨zdN (zdN A _) _,by rw[←H];exact heap_alloc_new _ _,⟨j,by omega⟩,by omega,?_,fun x I=>by simp at I,zE (zdM w _ _) (zdM _ _ _)⟩
 exact zpK (zpL w 57) ((Below.refl _ _).alloc (Nat.le_refl _) _)
def zpP (S:Src) (g:Nat) (w:World) (e:Ending) (w':World):Prop:=
 ∃gr n cap fs q',e= .returned (.slice (some ⟨gr,0,none⟩) n cap)∧zbA w' w.heap.size 57 gr n cap fs∧n≤7∧(∀y∈fs,y.1.size≤100∧y.2.size≤100)∧zN 137 S w' g q'∧w.grownBy w' (some g)
theorem zkm (S:Src) (hS:S.ok) (N:Nat) (q0:Nat×Int) (w:World) (hc:zN 137 S w N q0):
  Calls Tryz.prog 65 #[.pointer (some ⟨N,0,none⟩)] w (zpP S N w):=by
 obtain⟨i0,hi,ac,ae,ag⟩:=info_parts Tryz.infoRule
 have H0:=zc (RuW.start hc)
 clear hc
 go_enter Tryz.func65,Tryz.ntmps65
 go_upto_region 3 with fail
 refine zac (R:=fun W=>RuW S w W N (w.heap.size+1) q0 w.heap.size 0 0 []) H0.out ?_
 obtain⟨gp,al⟩: ∃gp,gp=w.heap.size+1:=⟨_,rfl⟩
 obtain⟨g0,aj⟩: ∃g0,g0=w.heap.size:=⟨_,rfl⟩
 rw[←al]
 intro w1 h1
 have H1:=zc h1
 clear h1 H0 al
 rw[←aj] at H1 ⊢
 clear aj
 go_wp2
 go_loopw [3,5] (fun o i wr=>∃(k g n I:Nat) (q:Nat×Int) (fs:List Fl),k≤6∧i= .int .i64 k∧o= .slice (some ⟨g,0,none⟩) n I∧Hid (RuW S w wr N gp q g n I fs)∧n≤k) (fun _ i _=>(6-intOf i).toNat)
 case atStart=>exact⟨0,_,0,0,_,[],by omega,rfl,rfl,H1,Nat.le_refl _⟩
 case round=>
  obtain⟨k,g,n,I,q,fs,hk,rfl,rfl,HW,hn⟩:=hrel
  clear H1
  by_cases am:k<6
  ·have ak:(k:Int)<6:=by omega
   obtain⟨k1,ab⟩: ∃k1,k1=k+1:=⟨_,rfl⟩
   have ek:(k:Int)+1=(k1:Int):=by omega
   have HK:=zc ab
   clear ab
   go_wp2_with fail
   refine (zcT S hS N q 2 _ HW.out.cur (by omega)).mono ?_
   rintro e w2 ⟨rfl,J,M⟩
   obtain⟨q2,U⟩: ∃q',(bw S q 2).2=q':=⟨_,rfl⟩
   rw[U] at J
   have j:=zc (HW.out.draw J M)
   clear J M HW U
   cases ho:((bw S q 2).1==0) with
   |false=>
    go_wp2
    go_roundw
    case rel=>exact⟨k1,g,n,I,_,fs,by have:=HK.out;omega,rfl,rfl,j,by have:=HK.out;omega⟩
    case measure=>simp[intOf];omega
   |true=>
    obtain⟨x,cx,aa⟩:=j.out.at am
    have h2:=j.out.lt
    go_wp2_with fail
    go_region_law (first|(refine zpO rfl (.tmp 16) (.tmp 25) 44 rfl w.heap.size 57 i0 _ Tryz.underlying44 hi ac ae ag rfl g n I fs (by rfl) (by exact (z.out.alloc _).own) w3.heap.size (x,y) (by rfl) (by exact heap_alloc_new _ _) (by omega) ?_;intro g4 ad w4 af L Z;have Y:=zc ((z.out.alloc _).app af L Z ⟨aa,X⟩);clear af L Z)|((try go_simp);go_wp2_with (first|(go_at_call 64;refine (zhR S hS N q2 100 [{data:=#[46,47,99]},{data:=#[113,47]},{data:=#[]},{data:=#[121]},{data:=#[46,47,100]}] _ j.out.cur (by simp) (by simp) (by intro x O;simp only[List.mem_cons,List.not_mem_nil,or_false] at O;rcases O with rfl|rfl|rfl|rfl|rfl<;>decide)).mono ?_;rintro e w3 ⟨y,q3,rfl,X,H,A⟩;have z:=zc (j.out.draw H A);have cy:=j.out.cell z.out cx;have h3:=z.out.lt;clear H A)|(go_at_call 64;refine (zbe S hS N q2 100 [{data:=#[46,47,99]},{data:=#[113,47]},{data:=#[]},{data:=#[121]},{data:=#[46,47,100]}] _ j.out.drew.cur (by simp) (by simp) (by intro x O;simp only[List.mem_cons,List.not_mem_nil,or_false] at O;rcases O with rfl|rfl|rfl|rfl|rfl<;>decide)).mono ?_;rintro e w3 ⟨y,q3,rfl,X,H,A⟩;have z:=zc (j.out.drew.draw H A);have cy:=j.out.cell z.out cx;have h3:=z.out.lt;clear H A))))
    all_goals
     go_wp2
     go_roundw
     case rel=>exact⟨k1,g4,n+1,ad,_,_,by have:=HK.out;omega,rfl,rfl,Y,by have:=HK.out;omega⟩
     case measure=>simp[intOf];omega
  ·have ak: ¬(k:Int)<6:=by omega
   have aq:n≤6:=by omega
   go_wp2_with fail
   refine (zcT S hS N q 8 _ HW.out.cur (by omega)).mono ?_
   rintro e w2 ⟨rfl,J,M⟩
   obtain⟨q2,U⟩: ∃q',(bw S q 8).2=q':=⟨_,rfl⟩
   rw[U] at J
   have j:=zc (HW.out.draw J M)
   clear J M HW U
   cases ho:((bw S q 8).1==0) with
   |false=>
    go_wp2
    go_ret
    exact⟨g,n,I,fs,_,rfl,j.out.own,by omega,j.out.few,j.out.cur,j.out.gr⟩
   |true=>
    go_wp2_with fail
    refine (zbe S hS N q2 100 [{data:=#[]},{data:=#[97]},{data:=#[122]},{data:=#[34]},{data:=#[97,97,97,97,97,97,97,97,97,97,97,97,97,97,97,97,97,97,97,97,97,97,97,97,97,97,97,97,97,97,97,97,97,97,97,97,97,97,97,97,97]}] _ j.out.cur (by simp) (by simp) (by intro x O;simp only[List.mem_cons,List.not_mem_nil,or_false] at O;rcases O with rfl|rfl|rfl|rfl|rfl<;>decide)).mono ?_
    rintro e w3 ⟨x,q3,rfl,aa,H,A⟩
    have z:=zc (j.out.draw H A)
    clear H A j
    go_wp2_with fail
    refine (zbe S hS N q3 100 [{data:=#[]},{data:=#[92]},{data:=#[119]}] _ z.out.cur (by simp) (by simp) (by intro x O;simp only[List.mem_cons,List.not_mem_nil,or_false] at O;rcases O with rfl|rfl|rfl<;>decide)).mono ?_
    rintro e w4 ⟨y,q4,rfl,X,ah,L⟩
    have Y:=zc (z.out.draw ah L)
    clear ah L z
    go_wp2_with (at_builtin;refine zpN w4 rfl _ _ 44 rfl w.heap.size 57 i0 _ Tryz.underlying44 hi ac ae ag rfl g n I fs (by rfl) Y.out.own (x,y) (by rfl) (by omega) ?_;intro g5 ai w5 an ao ap)
    go_ret
    have V:=Y.out.app an ao (by omega) ⟨aa,X⟩
    exact⟨g5,n+1,ai,_,_,rfl,V.own,by omega,V.few,V.cur,V.gr⟩
end Go.Proofs.YtjdddblpfbmpaaaGreat