/-
  Two programs in memory side by side. No program is spoken of but for the numbers of its types.
  What the laws' sameTexts and sameMod answer of a program that lies twice,the model's != handed in: the walks.
  A program that was read has no statement of DefaultName that is no let. No program is spoken of.
  What a Print and a Parse tell,as a ModOk takes it. No program is spoken of but for the numbers of its types.
  What l4Same of the specification answers,the model's != handed in: the walk.
-/
import Derived.Deep.Cut
import Derived.Test.YtlnohpdiiileeaaGreatClEqRow
import Derived.Test.YtlnohpdiiileeaaGreatClParseMemToModMem
import Derived.Test.YtlnohpdiiileeaaGreatClDrawProgAToPrintText
namespace Go.Proofs.YtlnohpdiiileeaaGreat
set_option maxRecDepth 100000
set_option maxHeartbeats 12800000
open Go.RowKit Go.PlainAid Go.Sort
theorem zqr (l:List ByteArray):l.map Value.string=l.flatMap (fun x=>[Value.string x]):=by
 induction l with
 |nil=>rfl
 |cons x l ih=>rw[List.map_cons,List.flatMap_cons,ih];rfl
/-- Two programs side by side, each in its box. -/
def TwoM (w0:World) (b1 b2:Nat) (S1 S2:Sv) (m1 m2:Md) (w:World):Prop:=
 w.heap[w0.heap.size]? =some (.cells #[.slice S1.rq.a m1.rq.length S1.rq.cap,.slice S1.im.a m1.im.length S1.im.cap,.slice S1.ep.a m1.ep.length S1.ep.cap,.slice S1.st.a m1.st.length S1.st.cap,.slice S1.ex.a m1.ex.length S1.ex.cap] 59 (0,0))∧w.heap[w0.heap.size+1]? =some (.cells #[.slice S2.rq.a m2.rq.length S2.rq.cap,.slice S2.im.a m2.im.length S2.im.cap,.slice S2.ep.a m2.ep.length S2.ep.cap,.slice S2.st.a m2.st.length S2.st.cap,.slice S2.ex.a m2.ex.length S2.ex.cap] 59 (0,0))∧OwnMd w b1 S1 m1∧OwnMd w b2 S2 m2∧Below w0.heap.size w0 w
theorem TwoM.later {w0 w w':World} {b1 b2:Nat} {S1 S2:Sv} {m1 m2:Md} (h:TwoM w0 b1 b2 S1 S2 m1 m2 w) (hb:Below w.heap.size w w'):TwoM w0 b1 b2 S1 S2 m1 m2 w':=
 ⟨(hb.block _ (Array.getElem?_eq_some_iff.1 h.1).1).trans h.1,(hb.block _ (Array.getElem?_eq_some_iff.1 h.2.1).1).trans h.2.1,h.2.2.1.later hb,h.2.2.2.1.later hb,h.2.2.2.2.trans (hb.mono h.2.2.2.2.size)⟩
theorem zyn (w:World) (b1 b2:Nat) (S1 S2:Sv) (m1 m2:Md) (h1:OwnMd w b1 S1 m1) (h2:OwnMd w b2 S2 m2):TwoM w b1 b2 S1 S2 m1 m2 ((w.alloc (.cells #[.slice S1.rq.a m1.rq.length S1.rq.cap,.slice S1.im.a m1.im.length S1.im.cap,.slice S1.ep.a m1.ep.length S1.ep.cap,.slice S1.st.a m1.st.length S1.st.cap,.slice S1.ex.a m1.ex.length S1.ex.cap] 59)).alloc (.cells #[.slice S2.rq.a m2.rq.length S2.rq.cap,.slice S2.im.a m2.im.length S2.im.cap,.slice S2.ep.a m2.ep.length S2.ep.cap,.slice S2.st.a m2.st.length S2.st.cap,.slice S2.ex.a m2.ex.length S2.ex.cap] 59)):=by
 have a1:Below w.heap.size w (w.alloc (.cells #[.slice S1.rq.a m1.rq.length S1.rq.cap,.slice S1.im.a m1.im.length S1.im.cap,.slice S1.ep.a m1.ep.length S1.ep.cap,.slice S1.st.a m1.st.length S1.st.cap,.slice S1.ex.a m1.ex.length S1.ex.cap] 59)):=(Below.refl _ _).alloc (Nat.le_refl _) _
 have a2:Below (w.alloc (.cells #[.slice S1.rq.a m1.rq.length S1.rq.cap,.slice S1.im.a m1.im.length S1.im.cap,.slice S1.ep.a m1.ep.length S1.ep.cap,.slice S1.st.a m1.st.length S1.st.cap,.slice S1.ex.a m1.ex.length S1.ex.cap] 59)).heap.size (w.alloc (.cells #[.slice S1.rq.a m1.rq.length S1.rq.cap,.slice S1.im.a m1.im.length S1.im.cap,.slice S1.ep.a m1.ep.length S1.ep.cap,.slice S1.st.a m1.st.length S1.st.cap,.slice S1.ex.a m1.ex.length S1.ex.cap] 59)) ((w.alloc (.cells #[.slice S1.rq.a m1.rq.length S1.rq.cap,.slice S1.im.a m1.im.length S1.im.cap,.slice S1.ep.a m1.ep.length S1.ep.cap,.slice S1.st.a m1.st.length S1.st.cap,.slice S1.ex.a m1.ex.length S1.ex.cap] 59)).alloc (.cells #[.slice S2.rq.a m2.rq.length S2.rq.cap,.slice S2.im.a m2.im.length S2.im.cap,.slice S2.ep.a m2.ep.length S2.ep.cap,.slice S2.st.a m2.st.length S2.st.cap,.slice S2.ex.a m2.ex.length S2.ex.cap] 59)):=(Below.refl _ _).alloc (Nat.le_refl _) _
 refine⟨(a2.block _ (by rw[zq];omega)).trans (heap_alloc_new w _),?_,(h1.later a1).later a2,(h2.later a1).later a2,a1.trans (a2.mono (by rw[zq];omega))⟩
 have:=heap_alloc_new (w.alloc (.cells #[.slice S1.rq.a m1.rq.length S1.rq.cap,.slice S1.im.a m1.im.length S1.im.cap,.slice S1.ep.a m1.ep.length S1.ep.cap,.slice S1.st.a m1.st.length S1.st.cap,.slice S1.ex.a m1.ex.length S1.ex.cap] 59)) (.cells #[.slice S2.rq.a m2.rq.length S2.rq.cap,.slice S2.im.a m2.im.length S2.im.cap,.slice S2.ep.a m2.ep.length S2.ep.cap,.slice S2.st.a m2.st.length S2.st.cap,.slice S2.ex.a m2.ex.length S2.ex.cap] 59)
 rw[zq] at this
 exact this
def zbaj (m:Md):Prop:=m.rq.length≤4294967296∧m.im.length≤4294967296∧m.ep.length≤4294967296∧m.st.length≤4294967296∧m.ex.length≤4294967296
theorem zbxs {a b:Md} (h1:a.rq=b.rq) (h2:a.im=b.im) (h3:a.ep=b.ep) (h4:a.st=b.st) (h5:a.ex=b.ex):a=b:=by
 cases a
 cases b
 simp only at h1 h2 h3 h4 h5
 rw[h1,h2,h3,h4,h5]
theorem zxf (a1 a2:Option Addr) (c1 c2:Nat) (w:World):Calls Tryz.prog 30 #[.slice a1 0 c1,.slice a2 0 c2] w fun e w'=>e= .returned (.bool true)∧Below w.heap.size w w':=by
 go_enter Tryz.func30,Tryz.ntmps30
 go_wp2
 go_loopg [5] 1 (fun k i wr=>k=1∧i= .int .i64 0∧wr=w)
 case atStart=>exact⟨rfl,rfl,rfl⟩
 case round=>
  obtain⟨rfl,rfl,rfl⟩:=hrel
  go_wp2
  go_ret
  exact⟨rfl,Below.refl _ _⟩
theorem zzn (b1 b2 g1 g2:Nat) (r1 r2:Rw) (l:List ByteArray) (w:World) (h1:OwnR w b1 9 1 r1 l.length (l.flatMap (fun x=>[Value.string x]))) (h2:OwnR w b2 9 1 r2 l.length (l.flatMap (fun x=>[Value.string x]))) (e1:r1.a=some ⟨g1,0,none⟩) (e2:r2.a=some ⟨g2,0,none⟩) (hl:l.length≤4294967296):
  Calls Tryz.prog 30 #[.slice (some ⟨g1,0,none⟩) l.length r1.cap,.slice (some ⟨g2,0,none⟩) l.length r2.cap] w fun e w'=>e= .returned (.bool true)∧Below w.heap.size w w':=by
 have H1:=hidI h1
 have H2:=hidI h2
 have E1:=hidI e1
 have E2:=hidI e2
 clear h1 h2 e1 e2
 go_enter Tryz.func30,Tryz.ntmps30
 go_wp2
 go_loopg [5] l.length (fun k i wr=>∃j:Nat,i= .int .i64 j∧j+k=l.length∧Below w.heap.size w wr)
 case atStart=>exact⟨0,rfl,by omega,Below.refl _ _⟩
 case round=>
  obtain⟨j,rfl,hj,hb⟩:=hrel
  have HB:=hidI hb
  clear hb
  by_cases hlt:j<l.length
  ·have hlti:(j:Int)<(l.length:Int):=by omega
   obtain⟨x,hx⟩:=zes hlt
   obtain⟨g',ga,h1⟩:=OwnR.elem (f:=(fun x=>[Value.string x])) (m:=1) (fun _=>rfl) (H1.out.keep fun k g=>HB.out.block k (H1.out.typed g).2.1) hx
   obtain rfl:g'=g1:=by have:=ga.symm.trans E1.out;simpa using this
   obtain⟨g',gb,h2⟩:=OwnR.elem (f:=(fun x=>[Value.string x])) (m:=1) (fun _=>rfl) (H2.out.keep fun k g=>HB.out.block k (H2.out.typed g).2.1) hx
   obtain rfl:g'=g2:=by have:=gb.symm.trans E2.out;simpa using this
   have C0:=hidI (h1 0 (by omega))
   have D0:=hidI (h2 0 (by omega))
   clear h1 h2 ga gb hx
   obtain⟨j1,hj1⟩: ∃j1,j1=j+1:=⟨_,rfl⟩
   have ej:(j:Int)+1=(j1:Int):=by omega
   have HJ:=hidI hj1
   clear hj1
   go_wp2
   have k0:=cell_regrown C0.out
   have l0:=cell_regrown D0.out
   simp only[Nat.add_zero,Nat.mul_one] at k0 l0
   refine wp_region_quiet_below (by kernel_rfl) (by kernel_rfl) ?_
   repeat (go_big_quiet_step (fail))
   refine wpQuiet_nil ?_
   intro w2 hw'
   obtain⟨⟨dq,osq⟩,hw''⟩:=hw'
   have HB2:Hid (Below w.heap.size w w2):=by show Below _ _ _;rw[hw''];exact HB.out.trans ((below_regrown wr dq osq).mono HB.out.size)
   clear hw'' k0 l0 C0 D0
   go_wp2
   go_roundg (gk-1)
   case rel=>exact⟨j1,rfl,by have:=HJ.out;omega,HB2.out⟩
   case measure=>omega
  ·have hlti: ¬(j:Int)<(l.length:Int):=by omega
   go_wp2
   go_ret
   exact⟨rfl,HB.out⟩
theorem zzo (b1 b2:Nat) (r1 r2:Rw) (l:List ByteArray) (w:World) (h1:OwnR w b1 9 1 r1 l.length (l.flatMap (fun x=>[Value.string x]))) (h2:OwnR w b2 9 1 r2 l.length (l.flatMap (fun x=>[Value.string x]))) (hl:l.length≤4294967296):
  Calls Tryz.prog 30 #[.slice r1.a l.length r1.cap,.slice r2.a l.length r2.cap] w fun e w'=>e= .returned (.bool true)∧Below w.heap.size w w':=by
 by_cases h0:l.length=0
 ·rw[h0]
  exact zxf _ _ _ _ w
 ·rcases h1.nil_or with ⟨_,_,e⟩|⟨g1,e1⟩
  ·exact absurd e h0
  ·rcases h2.nil_or with ⟨_,_,e⟩|⟨g2,e2⟩
   ·exact absurd e h0
   ·rw[e1,e2]
    exact zzn b1 b2 g1 g2 r1 r2 l w h1 h2 e1 e2 hl
theorem zsc (hneIm: ∀(x y:Im) (W:World),Sem.run Tryz.prog (binOp .neq 141 (.agg #[.string x.spec,.string x.first,.string x.loc]) (.agg #[.string y.spec,.string y.first,.string y.loc])) W= .ok (.bool (!eqIm x y)) W) (hgdIm: ∀(op:BinOp) (a b:Operand) (x y:Im) (W:World),Sem.run Tryz.prog (eqGuard op 141 a b (.agg #[.string x.spec,.string x.first,.string x.loc]) (.agg #[.string y.spec,.string y.first,.string y.loc])) W= .ok () W) (hneEp: ∀(x y:Ep) (W:World),Sem.run Tryz.prog (binOp .neq 143 (.agg #[.int .i64 x.kind,.string x.name,.string x.loc,.string x.spec]) (.agg #[.int .i64 y.kind,.string y.name,.string y.loc,.string y.spec])) W= .ok (.bool (!eqEp x y)) W) (hgdEp: ∀(op:BinOp) (a b:Operand) (x y:Ep) (W:World),Sem.run Tryz.prog (eqGuard op 143 a b (.agg #[.int .i64 x.kind,.string x.name,.string x.loc,.string x.spec]) (.agg #[.int .i64 y.kind,.string y.name,.string y.loc,.string y.spec])) W= .ok () W) (hneSm: ∀(x y:Sm) (W:World),Sem.run Tryz.prog (binOp .neq 61 (.agg #[.int .i64 x.kind,.string x.name,.int .i64 x.expr]) (.agg #[.int .i64 y.kind,.string y.name,.int .i64 y.expr])) W= .ok (.bool (!eqSm x y)) W) (hgdSm: ∀(op:BinOp) (a b:Operand) (x y:Sm) (W:World),Sem.run Tryz.prog (eqGuard op 61 a b (.agg #[.int .i64 x.kind,.string x.name,.int .i64 x.expr]) (.agg #[.int .i64 y.kind,.string y.name,.int .i64 y.expr])) W= .ok () W) (hneEx: ∀(x y:Ex) (W:World),Sem.run Tryz.prog (binOp .neq 145 (.agg #[.int .i64 x.kind,.int .i64 x.num,.string x.name,.string x.field,.int .i64 x.l,.int .i64 x.r]) (.agg #[.int .i64 y.kind,.int .i64 y.num,.string y.name,.string y.field,.int .i64 y.l,.int .i64 y.r])) W= .ok (.bool (!eqEx x y)) W) (hgdEx: ∀(op:BinOp) (a b:Operand) (x y:Ex) (W:World),Sem.run Tryz.prog (eqGuard op 145 a b (.agg #[.int .i64 x.kind,.int .i64 x.num,.string x.name,.string x.field,.int .i64 x.l,.int .i64 x.r]) (.agg #[.int .i64 y.kind,.int .i64 y.num,.string y.name,.string y.field,.int .i64 y.l,.int .i64 y.r])) W= .ok () W) (b1 b2:Nat) (S1 S2:Sv) (m:Md) (w:World) (h1:OwnMd w b1 S1 m) (h2:OwnMd w b2 S2 m) (hf:zbaj m):
  Calls Tryz.prog 45 #[modD S1 m,modD S2 m] w fun e w'=>e= .returned (.bool true)∧Below w.heap.size w w':=by
 have H1:=hidI h1
 have H2:=hidI h2
 obtain⟨f1,f2,f3,f4,f5⟩:=hf
 clear h1 h2
 unfold modD
 go_enter Tryz.func45,Tryz.ntmps45
 go_upto_region 1 with fail
 refine zbk (R:=TwoM w b1 b2 S1 S2 m m) (zyn w b1 b2 S1 S2 m m H1.out H2.out) ?_
 clear H1 H2
 intro w0 h
 have T0:=hidI h
 clear h
 obtain⟨c0,c1,c2,c3,c4,cf⟩:=zbh T0.out.1
 obtain⟨d0,d1,d2,d3,d4,df⟩:=zbh T0.out.2.1
 go_wp2_with fail
 refine (zzo b1 b2 S1.rq S2.rq m.rq w0 (by rw[←zqr];exact T0.out.2.2.1.rq) (by rw[←zqr];exact T0.out.2.2.2.1.rq) f1).mono ?_
 rintro e w1 ⟨rfl,hb⟩
 have T:=hidI (T0.out.later hb)
 clear hb c0 c1 c2 c3 c4 cf d0 d1 d2 d3 d4 df T0
 obtain⟨c0,c1,c2,c3,c4,cf⟩:=zbh T.out.1
 obtain⟨d0,d1,d2,d3,d4,df⟩:=zbh T.out.2.1
 go_wp2
 go_loopg [5] m.im.length (fun k i wr=>∃j:Nat,i= .int .i64 j∧j+k=m.im.length∧TwoM w b1 b2 S1 S2 m m wr)
 case atStart=>exact⟨0,rfl,by omega,T.out⟩
 case round=>
  obtain⟨j,rfl,hj,hT⟩:=hrel
  clear T c0 c1 c2 c3 c4 cf d0 d1 d2 d3 d4 df
  have T:=hidI hT
  clear hT
  obtain⟨c0,c1,c2,c3,c4,cf⟩:=zbh T.out.1
  obtain⟨d0,d1,d2,d3,d4,df⟩:=zbh T.out.2.1
  by_cases hlt:j<m.im.length
  ·have hlti:(j:Int)<(m.im.length:Int):=by omega
   obtain⟨x,hx⟩:=zes hlt
   obtain⟨g1,ga,h1⟩:=OwnR.elem (f:=imL) (m:=3) (fun _=>rfl) T.out.2.2.1.im hx
   obtain⟨g2,gb,h2⟩:=OwnR.elem (f:=imL) (m:=3) (fun _=>rfl) T.out.2.2.2.1.im hx
   rw[ga] at c1
   rw[gb] at d1
   obtain⟨y,hy⟩: ∃y,y=x:=⟨_,rfl⟩
   rw[←hy] at h2
   obtain⟨b,hxy⟩: ∃b,eqIm x y=b:=⟨_,rfl⟩
   have BT:Hid (b=true):=by show _=_;rw[←hxy,hy];exact zup.2 rfl
   have C0:=hidI (h1 0 (by omega))
   have D0:=hidI (h2 0 (by omega))
   have C1:=hidI (h1 1 (by omega))
   have D1:=hidI (h2 1 (by omega))
   have C2:=hidI (h1 2 (by omega))
   have D2:=hidI (h2 2 (by omega))
   clear h1 h2 ga gb hx
   obtain⟨j1,hj1⟩: ∃j1,j1=j+1:=⟨_,rfl⟩
   have ej:(j:Int)+1=(j1:Int):=by omega
   have HJ:=hidI hj1
   clear hj1
   have hn1: ∀W:World,Sem.run Tryz.prog (binOp .neq 141 (.agg #[.string x.spec,.string x.first,.string x.loc]) (.agg #[.string y.spec,.string y.first,.string y.loc])) W= .ok (.bool !b) W:=fun W=>by rw[hneIm,hxy]
   have hg1: ∀(op:BinOp) (a b:Operand) (W:World),Sem.run Tryz.prog (eqGuard op 141 a b (.agg #[.string x.spec,.string x.first,.string x.loc]) (.agg #[.string y.spec,.string y.first,.string y.loc])) W= .ok () W:=fun op a b W=>hgdIm op a b x y W
   clear hy
   go_wp2
   have kc:=cell_regrown c1
   have kd:=cell_regrown d1
   have k0:=cell_regrown C0.out
   have v0:=cell_regrown D0.out
   have k1:=cell_regrown C1.out
   have v1:=cell_regrown D1.out
   have k2:=cell_regrown C2.out
   have v2:=cell_regrown D2.out
   simp only[Nat.add_zero] at k0 v0
   refine wp_region_quiet_below (by kernel_rfl) (by kernel_rfl) ?_
   repeat (go_big_quiet_step (fail))
   refine wpQuiet_nil ?_
   intro w2 hw'
   obtain⟨⟨dq,osq⟩,hw''⟩:=hw'
   have T2:Hid (TwoM w b1 b2 S1 S2 m m w2):=by show TwoM _ _ _ _ _ _ _ _;rw[hw''];exact T.out.later (below_regrown wr dq osq)
   clear hw'' kc kd c0 c1 c2 c3 c4 cf d0 d1 d2 d3 d4 df hn1 hg1 k0 v0 C0 D0 k1 v1 C1 D1 k2 v2 C2 D2
   cases b with
   |false=>exact absurd BT.out (by decide)
   |true=>
    go_wp2
    go_roundg (gk-1)
    case rel=>exact⟨j1,rfl,by have:=HJ.out;omega,T2.out⟩
    case measure=>omega
  ·have hlti: ¬(j:Int)<(m.im.length:Int):=by omega
   obtain rfl:j=m.im.length:=by omega
   clear hlti hlt hj
   go_wp2
   go_loopg [6] m.ep.length (fun k i wr=>∃j:Nat,i= .int .i64 j∧j+k=m.ep.length∧TwoM w b1 b2 S1 S2 m m wr)
   case atStart=>exact⟨0,rfl,by omega,T.out⟩
   case round=>
    obtain⟨j,rfl,hj,hT⟩:=hrel
    clear T c0 c1 c2 c3 c4 cf d0 d1 d2 d3 d4 df
    have T:=hidI hT
    clear hT
    obtain⟨c0,c1,c2,c3,c4,cf⟩:=zbh T.out.1
    obtain⟨d0,d1,d2,d3,d4,df⟩:=zbh T.out.2.1
    by_cases hlt:j<m.ep.length
    ·have hlti:(j:Int)<(m.ep.length:Int):=by omega
     obtain⟨x,hx⟩:=zes hlt
     obtain⟨g1,ga,h1⟩:=OwnR.elem (f:=epL) (m:=4) (fun _=>rfl) T.out.2.2.1.ep hx
     obtain⟨g2,gb,h2⟩:=OwnR.elem (f:=epL) (m:=4) (fun _=>rfl) T.out.2.2.2.1.ep hx
     rw[ga] at c2
     rw[gb] at d2
     obtain⟨y,hy⟩: ∃y,y=x:=⟨_,rfl⟩
     rw[←hy] at h2
     obtain⟨b,hxy⟩: ∃b,eqEp x y=b:=⟨_,rfl⟩
     have BT:Hid (b=true):=by show _=_;rw[←hxy,hy];exact zuq.2 rfl
     have C0:=hidI (h1 0 (by omega))
     have D0:=hidI (h2 0 (by omega))
     have C1:=hidI (h1 1 (by omega))
     have D1:=hidI (h2 1 (by omega))
     have C2:=hidI (h1 2 (by omega))
     have D2:=hidI (h2 2 (by omega))
     have C3:=hidI (h1 3 (by omega))
     have D3:=hidI (h2 3 (by omega))
     clear h1 h2 ga gb hx
     obtain⟨j1,hj1⟩: ∃j1,j1=j+1:=⟨_,rfl⟩
     have ej:(j:Int)+1=(j1:Int):=by omega
     have HJ:=hidI hj1
     clear hj1
     have hn1: ∀W:World,Sem.run Tryz.prog (binOp .neq 143 (.agg #[.int .i64 x.kind,.string x.name,.string x.loc,.string x.spec]) (.agg #[.int .i64 y.kind,.string y.name,.string y.loc,.string y.spec])) W= .ok (.bool !b) W:=fun W=>by rw[hneEp,hxy]
     have hg1: ∀(op:BinOp) (a b:Operand) (W:World),Sem.run Tryz.prog (eqGuard op 143 a b (.agg #[.int .i64 x.kind,.string x.name,.string x.loc,.string x.spec]) (.agg #[.int .i64 y.kind,.string y.name,.string y.loc,.string y.spec])) W= .ok () W:=fun op a b W=>hgdEp op a b x y W
     clear hy
     go_wp2
     have kc:=cell_regrown c2
     have kd:=cell_regrown d2
     have k0:=cell_regrown C0.out
     have v0:=cell_regrown D0.out
     have k1:=cell_regrown C1.out
     have v1:=cell_regrown D1.out
     have k2:=cell_regrown C2.out
     have v2:=cell_regrown D2.out
     have k3:=cell_regrown C3.out
     have v3:=cell_regrown D3.out
     simp only[Nat.add_zero] at k0 v0
     refine wp_region_quiet_below (by kernel_rfl) (by kernel_rfl) ?_
     repeat (go_big_quiet_step (fail))
     refine wpQuiet_nil ?_
     intro w2 hw'
     obtain⟨⟨dq,osq⟩,hw''⟩:=hw'
     have T2:Hid (TwoM w b1 b2 S1 S2 m m w2):=by show TwoM _ _ _ _ _ _ _ _;rw[hw''];exact T.out.later (below_regrown wr dq osq)
     clear hw'' kc kd c0 c1 c2 c3 c4 cf d0 d1 d2 d3 d4 df hn1 hg1 k0 v0 C0 D0 k1 v1 C1 D1 k2 v2 C2 D2 k3 v3 C3 D3
     cases b with
     |false=>exact absurd BT.out (by decide)
     |true=>
      go_wp2
      go_roundg (gk-1)
      case rel=>exact⟨j1,rfl,by have:=HJ.out;omega,T2.out⟩
      case measure=>omega
    ·have hlti: ¬(j:Int)<(m.ep.length:Int):=by omega
     obtain rfl:j=m.ep.length:=by omega
     clear hlti hlt hj
     go_wp2
     go_loopg [7] m.st.length (fun k i wr=>∃j:Nat,i= .int .i64 j∧j+k=m.st.length∧TwoM w b1 b2 S1 S2 m m wr)
     case atStart=>exact⟨0,rfl,by omega,T.out⟩
     case round=>
      obtain⟨j,rfl,hj,hT⟩:=hrel
      clear T c0 c1 c2 c3 c4 cf d0 d1 d2 d3 d4 df
      have T:=hidI hT
      clear hT
      obtain⟨c0,c1,c2,c3,c4,cf⟩:=zbh T.out.1
      obtain⟨d0,d1,d2,d3,d4,df⟩:=zbh T.out.2.1
      by_cases hlt:j<m.st.length
      ·have hlti:(j:Int)<(m.st.length:Int):=by omega
       obtain⟨x,hx⟩:=zes hlt
       obtain⟨g1,ga,h1⟩:=OwnR.elem (f:=smL) (m:=3) (fun _=>rfl) T.out.2.2.1.st hx
       obtain⟨g2,gb,h2⟩:=OwnR.elem (f:=smL) (m:=3) (fun _=>rfl) T.out.2.2.2.1.st hx
       rw[ga] at c3
       rw[gb] at d3
       obtain⟨y,hy⟩: ∃y,y=x:=⟨_,rfl⟩
       rw[←hy] at h2
       obtain⟨b,hxy⟩: ∃b,eqSm x y=b:=⟨_,rfl⟩
       have BT:Hid (b=true):=by show _=_;rw[←hxy,hy];exact zur.2 rfl
       have C0:=hidI (h1 0 (by omega))
       have D0:=hidI (h2 0 (by omega))
       have C1:=hidI (h1 1 (by omega))
       have D1:=hidI (h2 1 (by omega))
       have C2:=hidI (h1 2 (by omega))
       have D2:=hidI (h2 2 (by omega))
       clear h1 h2 ga gb hx
       obtain⟨j1,hj1⟩: ∃j1,j1=j+1:=⟨_,rfl⟩
       have ej:(j:Int)+1=(j1:Int):=by omega
       have HJ:=hidI hj1
       clear hj1
       have hn1: ∀W:World,Sem.run Tryz.prog (binOp .neq 61 (.agg #[.int .i64 x.kind,.string x.name,.int .i64 x.expr]) (.agg #[.int .i64 y.kind,.string y.name,.int .i64 y.expr])) W= .ok (.bool !b) W:=fun W=>by rw[hneSm,hxy]
       have hg1: ∀(op:BinOp) (a b:Operand) (W:World),Sem.run Tryz.prog (eqGuard op 61 a b (.agg #[.int .i64 x.kind,.string x.name,.int .i64 x.expr]) (.agg #[.int .i64 y.kind,.string y.name,.int .i64 y.expr])) W= .ok () W:=fun op a b W=>hgdSm op a b x y W
       clear hy
       go_wp2
       have kc:=cell_regrown c3
       have kd:=cell_regrown d3
       have k0:=cell_regrown C0.out
       have v0:=cell_regrown D0.out
       have k1:=cell_regrown C1.out
       have v1:=cell_regrown D1.out
       have k2:=cell_regrown C2.out
       have v2:=cell_regrown D2.out
       simp only[Nat.add_zero] at k0 v0
       refine wp_region_quiet_below (by kernel_rfl) (by kernel_rfl) ?_
       repeat (go_big_quiet_step (fail))
       refine wpQuiet_nil ?_
       intro w2 hw'
       obtain⟨⟨dq,osq⟩,hw''⟩:=hw'
       have T2:Hid (TwoM w b1 b2 S1 S2 m m w2):=by show TwoM _ _ _ _ _ _ _ _;rw[hw''];exact T.out.later (below_regrown wr dq osq)
       clear hw'' kc kd c0 c1 c2 c3 c4 cf d0 d1 d2 d3 d4 df hn1 hg1 k0 v0 C0 D0 k1 v1 C1 D1 k2 v2 C2 D2
       cases b with
       |false=>exact absurd BT.out (by decide)
       |true=>
        go_wp2
        go_roundg (gk-1)
        case rel=>exact⟨j1,rfl,by have:=HJ.out;omega,T2.out⟩
        case measure=>omega
      ·have hlti: ¬(j:Int)<(m.st.length:Int):=by omega
       obtain rfl:j=m.st.length:=by omega
       clear hlti hlt hj
       go_wp2
       go_loopg [8] m.ex.length (fun k i wr=>∃j:Nat,i= .int .i64 j∧j+k=m.ex.length∧TwoM w b1 b2 S1 S2 m m wr)
       case atStart=>exact⟨0,rfl,by omega,T.out⟩
       case round=>
        obtain⟨j,rfl,hj,hT⟩:=hrel
        clear T c0 c1 c2 c3 c4 cf d0 d1 d2 d3 d4 df
        have T:=hidI hT
        clear hT
        obtain⟨c0,c1,c2,c3,c4,cf⟩:=zbh T.out.1
        obtain⟨d0,d1,d2,d3,d4,df⟩:=zbh T.out.2.1
        by_cases hlt:j<m.ex.length
        ·have hlti:(j:Int)<(m.ex.length:Int):=by omega
         obtain⟨x,hx⟩:=zes hlt
         obtain⟨g1,ga,h1⟩:=OwnR.elem (f:=exL) (m:=6) (fun _=>rfl) T.out.2.2.1.ex hx
         obtain⟨g2,gb,h2⟩:=OwnR.elem (f:=exL) (m:=6) (fun _=>rfl) T.out.2.2.2.1.ex hx
         rw[ga] at c4
         rw[gb] at d4
         obtain⟨y,hy⟩: ∃y,y=x:=⟨_,rfl⟩
         rw[←hy] at h2
         obtain⟨b,hxy⟩: ∃b,eqEx x y=b:=⟨_,rfl⟩
         have BT:Hid (b=true):=by show _=_;rw[←hxy,hy];exact zus.2 rfl
         have C0:=hidI (h1 0 (by omega))
         have D0:=hidI (h2 0 (by omega))
         have C1:=hidI (h1 1 (by omega))
         have D1:=hidI (h2 1 (by omega))
         have C2:=hidI (h1 2 (by omega))
         have D2:=hidI (h2 2 (by omega))
         have C3:=hidI (h1 3 (by omega))
         have D3:=hidI (h2 3 (by omega))
         have C4:=hidI (h1 4 (by omega))
         have D4:=hidI (h2 4 (by omega))
         have C5:=hidI (h1 5 (by omega))
         have D5:=hidI (h2 5 (by omega))
         clear h1 h2 ga gb hx
         obtain⟨j1,hj1⟩: ∃j1,j1=j+1:=⟨_,rfl⟩
         have ej:(j:Int)+1=(j1:Int):=by omega
         have HJ:=hidI hj1
         clear hj1
         have hn1: ∀W:World,Sem.run Tryz.prog (binOp .neq 145 (.agg #[.int .i64 x.kind,.int .i64 x.num,.string x.name,.string x.field,.int .i64 x.l,.int .i64 x.r]) (.agg #[.int .i64 y.kind,.int .i64 y.num,.string y.name,.string y.field,.int .i64 y.l,.int .i64 y.r])) W= .ok (.bool !b) W:=fun W=>by rw[hneEx,hxy]
         have hg1: ∀(op:BinOp) (a b:Operand) (W:World),Sem.run Tryz.prog (eqGuard op 145 a b (.agg #[.int .i64 x.kind,.int .i64 x.num,.string x.name,.string x.field,.int .i64 x.l,.int .i64 x.r]) (.agg #[.int .i64 y.kind,.int .i64 y.num,.string y.name,.string y.field,.int .i64 y.l,.int .i64 y.r])) W= .ok () W:=fun op a b W=>hgdEx op a b x y W
         clear hy
         go_wp2
         have kc:=cell_regrown c4
         have kd:=cell_regrown d4
         have k0:=cell_regrown C0.out
         have v0:=cell_regrown D0.out
         have k1:=cell_regrown C1.out
         have v1:=cell_regrown D1.out
         have k2:=cell_regrown C2.out
         have v2:=cell_regrown D2.out
         have k3:=cell_regrown C3.out
         have v3:=cell_regrown D3.out
         have k4:=cell_regrown C4.out
         have v4:=cell_regrown D4.out
         have k5:=cell_regrown C5.out
         have v5:=cell_regrown D5.out
         simp only[Nat.add_zero] at k0 v0
         refine wp_region_quiet_below (by kernel_rfl) (by kernel_rfl) ?_
         repeat (go_big_quiet_step (fail))
         refine wpQuiet_nil ?_
         intro w2 hw'
         obtain⟨⟨dq,osq⟩,hw''⟩:=hw'
         have T2:Hid (TwoM w b1 b2 S1 S2 m m w2):=by show TwoM _ _ _ _ _ _ _ _;rw[hw''];exact T.out.later (below_regrown wr dq osq)
         clear hw'' kc kd c0 c1 c2 c3 c4 cf d0 d1 d2 d3 d4 df hn1 hg1 k0 v0 C0 D0 k1 v1 C1 D1 k2 v2 C2 D2 k3 v3 C3 D3 k4 v4 C4 D4 k5 v5 C5 D5
         cases b with
         |false=>exact absurd BT.out (by decide)
         |true=>
          go_wp2
          go_roundg (gk-1)
          case rel=>exact⟨j1,rfl,by have:=HJ.out;omega,T2.out⟩
          case measure=>omega
        ·have hlti: ¬(j:Int)<(m.ex.length:Int):=by omega
         obtain rfl:j=m.ex.length:=by omega
         clear hlti hlt hj
         go_wp2
         go_ret
         exact⟨rfl,T.out.2.2.2.2⟩
abbrev dN:List UInt8:=[42,100,101,102,97,117,108,116]
/-- A statement of DefaultName is a let. -/
def zhn (st:List Sm):Prop:=∀s∈st,s.name.toList=dN→s.kind=1
/-- No word among the tokens is DefaultName. -/
def zqs (ts:List Tk):Prop:=∀t∈ts,t.kind=1→t.text.toList≠dN
theorem zbqp {s:ByteArray} {scr:Bool} {a e:Nat} {t:Tk} (ha:a<s.size) (h:Tok s scr a t e):t.kind=1→t.text.toList≠dN:=by
 have he:=(zkg ha h).1
 have he2:=(zkg ha h).2.1
 cases h with
 |name h1 _=>
  intro _ k
  have k0:bt (s.extract a e) 0=42:=by
   rw[ziy,←Lib.toList_data,k]
   rfl
  have hx:bt (s.extract a e) 0=bt s a:=by
   rw[ziy,ziy,ByteArray.data_extract]
   simp only[List.getD,List.getElem?_map,Array.getElem?_toList,Array.getElem?_extract]
   rw[if_pos (by have:s.data.size=s.size:=rfl;omega),Nat.add_zero]
  rw[←hx,k0] at h1
  cases scr<;>revert h1<;>decide
 |num _ _=>intro k;cases k
 |str _ _=>intro k;cases k
 |sign _=>intro k;cases k
theorem zbto {s:ByteArray} {scr:Bool} {a n:Nat} {r:Except Nat (List Tk)} (h:Lx s scr a n r): ∀ts,r= .ok ts→zqs ts:=by
 induction h with
 |done=>intro ts k;cases k;intro t ht;cases ht
 |bad _ _=>intro ts k;cases k
 | @tok a n e b t r h hn ht hs hr ih=>
  intro ts k
  cases r with
  |error p=>cases k
  |ok l=>
   cases k
   intro u hu
   rcases List.mem_cons.1 hu with rfl|hu
   ·exact zbqp h ht
   ·exact ih l rfl u hu
theorem zbji {C:Cx} (hC:zqs C.ts) {i:Nat} {o:Bool} (h:plainB C i o=true):(zd C i).text.toList≠dN:=by
 have hi:=zjs h
 have e:zd C i=C.ts[i]:=by simp[zd,List.getD,List.getElem?_eq_getElem hi]
 simp only[plainB,Bool.and_eq_true,beq_iff_eq] at h
 rw[e] at h ⊢
 exact hC _ (List.getElem_mem hi) h.1
theorem zwa {C:Cx} (hC:zqs C.ts) {o:Bool} {q:PS} {y:PS×ByteArray} (h:zk C o q= .ok y):y.2.toList≠dN∧y.1.st=q.st:=by
 obtain⟨rfl,hp⟩:=zcj h
 exact⟨zbji hC hp,rfl⟩
theorem zbv {C:Cx} {k:Int} {x:ByteArray} {q q':PS} (h:tokP C k x q= .ok q'):q'.st=q.st:=by
 obtain⟨rfl,_⟩:=zdf h
 rfl
theorem zke {C:Cx} {x:Ex} {q q':PS} (h:zbm C x q= .ok q'):q'.st=q.st:=by
 obtain⟨rfl,_⟩:=zdg h
 rfl
theorem zbcs {C:Cx} {n:ByteArray} {q q':PS} (h:zcr C n q= .ok q'):q'.st=q.st:=by
 unfold zcr at h
 split at h
 ·obtain⟨a,h1,h2⟩:=zc h
  obtain⟨b,h3,h4⟩:=zc h1
  rw[zke h2,zbv h4,zbv h3]
 ·exact zke h
theorem zbtp {C:Cx} {n f:ByteArray} {q q':PS} (h:memP C n f q= .ok q'):q'.st=q.st:=by
 unfold memP at h
 split at h
 ·obtain⟨a,h1,h2⟩:=zc h
  obtain⟨b,h3,h4⟩:=zc h1
  rw[zke h2,zbv h4,zbv h3]
 ·exact zke h
theorem zhf {C:Cx} {o:Bool} {q:PS} {y:PS×ByteArray} (h:zk C o q= .ok y):y.1.st=q.st:=by
 obtain⟨rfl,_⟩:=zcj h
 rfl
theorem zbxt {C:Cx} (f:Nat): ∀(nt:NT) (d:Nat) (q q':PS),ev C f nt d q= .ok q'→q'.st=q.st:=by
 induction f with
 |zero=>intro nt d q q' h;cases nt<;>cases h
 |succ f ih=>
  intro nt d q q' h
  cases nt with
  |sum=>
   rw[ev] at h
   obtain⟨a,h1,h2⟩:=zc h
   exact (ih _ _ _ _ h2).trans (ih _ _ _ _ h1)
  |prod=>
   rw[ev] at h
   obtain⟨a,h1,h2⟩:=zc h
   exact (ih _ _ _ _ h2).trans (ih _ _ _ _ h1)
  |sumT=>
   rw[ev] at h
   split at h
   ·obtain⟨a,h1,h2⟩:=zc h
    obtain⟨b,h3,h4⟩:=zc h1
    exact (ih _ _ _ _ h2).trans ((zke h4).trans (show b.st=(adv q).st from ih _ _ _ _ h3))
   ·cases h;rfl
  |prodT=>
   rw[ev] at h
   split at h
   ·obtain⟨a,h1,h2⟩:=zc h
    obtain⟨b,h3,h4⟩:=zc h1
    exact (ih _ _ _ _ h2).trans ((zke h4).trans (show b.st=(adv q).st from ih _ _ _ _ h3))
   ·cases h;rfl
  |part=>
   rw[ev] at h
   split at h
   ·exact (show q'.st=(adv q).st from zke h)
   ·split at h
    ·split at h
     ·cases h
     ·obtain⟨a,h1,h2⟩:=zc h
      exact (zbv h2).trans (show a.st=(adv q).st from ih _ _ _ _ h1)
    ·split at h
     ·exact (show q'.st=(adv q).st from zbcs h)
     ·obtain⟨a,h1,h2⟩:=zc h
      split at h2
      ·obtain⟨b,h3,h4⟩:=zc h2
       exact (zbtp h4).trans ((show b.1.st=(adv a.1).st from zhf h3).trans (zhf h1))
      ·exact (zbcs h2).trans (zhf h1)
theorem ztb {C:Cx} {nt:NT} {d:Nat} {q q':PS} (h:pE C nt d q= .ok q'):q'.st=q.st:=zbxt _ _ _ _ _ h
theorem zbct {C:Cx} {q:PS} {a:PS×ByteArray} (h:zbf C q= .ok a):a.1.st=q.st:=by
 unfold zbf at h
 split at h
 ·split at h
  ·cases h;rfl
  ·split at h
   ·cases h
   ·cases h;rfl
 ·cases h
theorem zjg {C:Cx} {k:Int} {n:ByteArray} {q q':PS} (h:zbi C k n q= .ok q') (hq:zhn q.st) (hn:n.toList=dN→k=1):zhn q'.st:=by
 unfold zbi at h
 split at h
 ·cases h
 ·cases h
  intro s hs
  rcases List.mem_append.1 hs with hs|hs
  ·exact hq s hs
  ·rw[List.mem_singleton] at hs
   rw[hs]
   exact hn
theorem zut {C:Cx} {y:Im} {q q':PS} (h:zbx C y q= .ok q'):q'.st=q.st:=by
 unfold zbx at h
 split at h
 ·cases h
 ·cases h;rfl
theorem zlv {C:Cx} {y:Ep} {q q':PS} (h:zo C y q= .ok q'):q'.st=q.st:=by
 unfold zo at h
 split at h
 ·cases h
 ·split at h
  ·cases h;rfl
  ·cases h;rfl
theorem zsd {α:Type} {f:α→PS→PR} (hf: ∀a q q',f a q= .ok q'→q'.st=q.st) (l:List α): ∀(x:PR) (q':PS),zbb f l x= .ok q'→∃q,x= .ok q∧q'.st=q.st:=by
 induction l with
 |nil=>intro x q' h;exact⟨q',h,rfl⟩
 |cons a l ih=>
  intro x q' h
  obtain⟨b,h1,h2⟩:=ih _ _ h
  obtain⟨c,h3,h4⟩:=zc h1
  exact⟨c,h3,h2.trans (hf _ _ _ h4)⟩
theorem zbwq {C:Cx} {exp:Bool} {a b:PS×ByteArray} (h:asP C exp a= .ok b):b.1.st=a.1.st:=by
 unfold asP at h
 split at h
 ·exact (show b.1.st=(adv a.1).st from zhf h)
 ·split at h
  ·cases h
  ·cases h;rfl
theorem zbqq {C:Cx} {exp:Bool} (f:Nat): ∀(q:PS) (acc:List Ep) (a:PS×List Ep),zgw C exp f q acc= .ok a→a.1.st=q.st:=by
 induction f with
 |zero=>intro q acc a h;cases h
 |succ f ih=>
  intro q acc a h
  rw[zgw] at h
  obtain⟨b,h1,h2⟩:=zc h
  obtain⟨c,h3,h4⟩:=zc h2
  have e1:=zhf h1
  have e2:=zbwq h3
  split at h4
  ·exact (ih _ _ _ h4).trans (e2.trans e1)
  ·obtain⟨d,h5,h6⟩:=zc h4
   cases h6
   exact (zbv h5).trans (e2.trans e1)
theorem zbcu {C:Cx} {exp:Bool} {q:PS} {a:PS×List Ep} (h:zgl C exp q= .ok a):a.1.st=q.st:=by
 obtain⟨b,h1,h2⟩:=zc h
 exact (zbqq _ _ _ _ h2).trans (zbv h1)
theorem zpk {C:Cx} {x:PR} {b:PS×ByteArray} (h:zdt C (zcs C x)= .ok b): ∃q,x= .ok q∧b.1.st=q.st:=by
 obtain⟨a,h1,h2⟩:=zc h
 obtain⟨c,h3,h4⟩:=zc h2
 obtain⟨d,h5,h6⟩:=zc h1
 obtain⟨e,h7,h8⟩:=zc h5
 cases h4
 exact⟨e,h7,(zbv h3).trans ((zbct h6).trans (zbv h8))⟩
theorem zbjj {C:Cx} {q q':PS} (h:zcd C q= .ok q'):q'.st=q.st:=by
 obtain⟨q1,h1,h2⟩:=zc h
 have e1:=zbv h1
 split at h2
 ·obtain⟨a,h3,h4⟩:=zc h2
  obtain⟨b,h5,h6⟩:=zc h4
  obtain⟨d,h9,h10⟩:=zpk h5
  obtain⟨f,h11,h12⟩:=zsd (fun _ _ _ h=>zut h) _ _ _ h6
  cases h9
  cases h11
  exact h12.trans (h10.trans ((zbcu h3).trans e1))
 ·split at h2
  ·obtain⟨a,h3,h4⟩:=zc h2
   obtain⟨b,h5,h6⟩:=zc h4
   obtain⟨c,h7,h8⟩:=zc h3
   obtain⟨d,h9,h10⟩:=zc h7
   obtain⟨f,h11,h12⟩:=zpk h5
   cases h11
   exact (zut h6).trans (h12.trans ((zhf h8).trans ((zbv h10).trans ((zbv h9).trans e1))))
  ·split at h2
   ·obtain⟨a,h3,h4⟩:=zc h2
    obtain⟨b,h5,h6⟩:=zc h4
    obtain⟨f,h11,h12⟩:=zpk h5
    cases h11
    exact (zut h6).trans (h12.trans ((zhf h3).trans e1))
   ·obtain⟨a,h3,h4⟩:=zc h2
    exact (zbv h4).trans ((zbct h3).trans e1)
theorem zyo {C:Cx} {q:PS} {a:PS×ByteArray} (h:letP C q= .ok a) (hq:zhn q.st):zhn a.1.st:=by
 obtain⟨b,h1,h2⟩:=zpu h
 obtain⟨c,h3,h4⟩:=zc h1
 obtain⟨d,h5,h6⟩:=zc h2
 obtain⟨f,h7,h8⟩:=zc h5
 obtain⟨g,h9,h10⟩:=zc h7
 refine zjg h6 ?_ (fun _=>rfl)
 rw[zbv h8,ztb h10,zbv (show tokP C 4 cEq b.1= .ok g from h9),zhf h4,zbv h3]
 exact hq
theorem zbcv {C:Cx} (hC:zqs C.ts) {q:PS} {a:PS×ByteArray} (h:fnP C q= .ok a) (hq:zhn q.st):zhn a.1.st:=by
 obtain⟨b,h1,h2⟩:=zpu h
 obtain⟨c,h3,h4⟩:=zc h1
 obtain⟨d,h5,h6⟩:=zc h2
 obtain⟨f,h7,h8⟩:=zc h5
 obtain⟨g,h9,h10⟩:=zc h7
 obtain⟨i,h11,h12⟩:=zc h9
 obtain⟨j,h13,h14⟩:=zc h11
 obtain⟨k,h15,h16⟩:=zc h13
 obtain⟨l,h17,h18⟩:=zc h15
 refine zjg h6 ?_ (fun hn=>absurd hn (zwa hC h4).1)
 rw[zbv h8,zbv h10,ztb h12,zbv h14,zbv h16,zbv h18,zbv (show tokP C 4 cOpen b.1= .ok l from h17),zhf h4,zbv h3]
 exact hq
theorem zbcw {C:Cx} (hC:zqs C.ts) {q q':PS} (h:zbc C q= .ok q') (hq:zhn q.st):zhn q'.st:=by
 obtain⟨q1,h1,h2⟩:=zc h
 have e1:=zbv h1
 rw[←e1] at hq
 split at h2
 ·obtain⟨a,h3,h4⟩:=zc h2
  have e2:=zbcu h3
  split at h4
  ·obtain⟨b,h5,h6⟩:=zc h4
   obtain⟨f,h11,h12⟩:=zsd (fun _ _ _ h=>zlv h) _ _ _ h6
   have e4:=zbv h5
   cases h11
   rw[h12,e4,e2]
   exact hq
  ·obtain⟨b,h5,h6⟩:=zc h4
   obtain⟨d,h9,h10⟩:=zpk h5
   obtain⟨f,h11,h12⟩:=zsd (fun _ _ _ h=>zlv h) _ _ _ h6
   cases h9
   cases h11
   rw[h12,h10,e2]
   exact hq
 ·split at h2
  ·obtain⟨b,h5,h6⟩:=zc h2
   obtain⟨d,h9,h10⟩:=zpk h5
   rw[zlv h6,h10,zbv h9]
   exact hq
  ·split at h2
   ·obtain⟨a,h3,h4⟩:=zc h2
    obtain⟨b,h5,h6⟩:=zc h3
    obtain⟨c,h7,h8⟩:=zc h5
    obtain⟨d,h9,h10⟩:=zc h7
    rw[zlv h4]
    refine zjg h6 ?_ (fun _=>rfl)
    rw[zbv h8,ztb h10,zbv h9]
    exact hq
   ·split at h2
    ·obtain⟨a,h3,h4⟩:=zc h2
     rw[zlv h4]
     exact zyo h3 hq
    ·split at h2
     ·obtain⟨a,h3,h4⟩:=zc h2
      rw[zlv h4]
      exact zbcv hC h3 hq
     ·cases h2
theorem zbcx {k:Int} (h:sNone.toList=dN):k=1:=by
 rw[Lib.toList_data] at h
 cases h
theorem zyp {C:Cx} {s:ByteArray} {k:Int} {q q':PS} (h:bd (bd (bd (tokP C 1 s q) (pE C .sum 0)) (tokP C 4 cSemi)) (zbi C k sNone)= .ok q') (hq:zhn q.st):zhn q'.st:=by
 obtain⟨a,h1,h2⟩:=zc h
 obtain⟨b,h3,h4⟩:=zc h1
 obtain⟨c,h5,h6⟩:=zc h3
 refine zjg h2 ?_ zbcx
 rw[zbv h4,ztb h6,zbv h5]
 exact hq
theorem zbjk {C:Cx} (hC:zqs C.ts) {q q':PS} (h:zu C q= .ok q') (hq:zhn q.st):zhn q'.st:=by
 unfold zu at h
 split at h
 ·rw[zbjj h];exact hq
 ·split at h
  ·exact zbcw hC h hq
  ·split at h
   ·obtain⟨a,h1,h2⟩:=zc h
    cases h2
    exact zyo h1 hq
   ·split at h
    ·obtain⟨a,h1,h2⟩:=zc h
     cases h2
     exact zbcv hC h1 hq
    ·split at h
     ·obtain⟨a,h1,h2⟩:=zc h
      obtain⟨b,h3,h4⟩:=zc h1
      obtain⟨c,h5,h6⟩:=zc h3
      obtain⟨d,h7,h8⟩:=zc h5
      obtain⟨e,h9,h10⟩:=zc h7
      refine zjg h2 ?_ zbcx
      rw[zbv h4,zbv h6,ztb h8,zbv h10,zbv h9]
      exact hq
     ·split at h
      ·exact zyp h hq
      ·split at h
       ·exact zyp h hq
       ·obtain⟨a,h1,h2⟩:=zc h
        obtain⟨b,h3,h4⟩:=zc h2
        obtain⟨c,h5,h6⟩:=zc h3
        obtain⟨d,h7,h8⟩:=zc h5
        refine zjg h4 ?_ (fun hn=>absurd hn (zwa hC h1).1)
        rw[zbv h6,ztb h8,zbv h7,zhf h1]
        exact hq
theorem zbfn {C:Cx} (hC:zqs C.ts) (f:Nat): ∀(q q':PS),zfh C f q= .ok q'→zhn q.st→zhn q'.st:=by
 induction f with
 |zero=>intro q q' h;cases h
 |succ f ih=>
  intro q q' h hq
  rw[zfh] at h
  split at h
  ·obtain⟨a,h1,h2⟩:=zc h
   exact ih _ _ h2 (zbjk hC h1 hq)
  ·cases h
   exact hq
/-- What was read is fair. -/
theorem zbjl {s:ByteArray} {scr:Bool} {q:PS} (h:zct s scr (.ok q)):zhn q.st:=by
 obtain⟨r,⟨a,_,hl⟩,e⟩:=h
 cases r with
 |error p=>cases e
 |ok ts=>exact zbfn (zbto hl ts rfl) _ _ _ e.symm (fun s hs=>by cases hs)
/-- The text that a Print tells. -/
def PrOf (T:ByteArray) (m:Md) (t:ByteArray):Prop:=(Tree m∧t=T)∨(¬Tree m∧t=sNone)
theorem PrintOut.form {T:ByteArray} {m:Md} {e:Ending} (h:PrintOut T m e): ∃t,PrOf T m t∧e= .returned (.string t):=by
 rcases h with ⟨h1,h2⟩|⟨h1,h2⟩
 ·exact⟨T,.inl ⟨h1,rfl⟩,h2⟩
 ·exact⟨sNone,.inr ⟨h1,rfl⟩,h2⟩
theorem PrOf.size {T t:ByteArray} {m:Md} {n:Nat} (h:PrOf T m t) (hs:Tree m→T.size≤n):t.size≤n:=by
 rcases h with ⟨h1,rfl⟩|⟨_,rfl⟩
 ·exact hs h1
 ·exact Nat.zero_le _
/-- A text is read as just that program. -/
def OkOf (t:ByteArray) (scr:Bool) (m:Md):Prop:=∃q,zct t scr (.ok q)∧mdOf q=m
def zbxu (T:ByteArray) (m:Md) (scr:Bool) (e:Ending):Prop:=∃t,PrOf T m t∧zgy (OkOf t scr m) e
theorem zbwr {t:ByteArray} {scr:Bool} {m:Md} {p:Nat} (h:zct t scr (.error p)): ¬OkOf t scr m:=by
 rintro⟨q,hq,_⟩
 cases zgm h hq
theorem zbws {t:ByteArray} {scr:Bool} {m n:Md} {q:PS} (h:zct t scr (.ok q)) (hn:n=mdOf q):OkOf t scr m↔n=m:=by
 constructor
 ·rintro⟨q',hq,he⟩
  cases zgm h hq
  rw[hn]
  exact he
 ·intro e
  exact⟨q,h,by rw[←hn];exact e⟩
theorem ParseOut.md {s:ByteArray} {scr:Bool} {w w':World} {e:Ending} (h:ParseOut s scr w e w'):
  (∃(q:PS) (S:Sv) (n:Md),zct s scr (.ok q)∧n=mdOf q∧e= .returned (.tuple #[modD S n,.int .i64 (-1)])∧OwnMd w' w.heap.size S n∧zbaj n)∨∃p:Nat,zct s scr (.error p)∧e= .returned (.tuple #[.agg #[.slice none 0 0,.slice none 0 0,.slice none 0 0,.slice none 0 0,.slice none 0 0],.int .i64 p]):=by
 obtain⟨y,hy,hm⟩:=h
 cases y with
 |ok q=>
  obtain⟨S,he,ho⟩:=hm
  refine .inl ⟨q,S,mdOf q,hy,rfl,he,ho.md,?_⟩
  have hi:=ho.inv
  have hl:(mdOf q).ep.length=q.ep.length+q.la.length:=by show (q.ep++q.la).length=_;rw[List.length_append]
  refine⟨?_,?_,by rw[hl];omega,?_,?_⟩
  ·show q.rq.length≤_;omega
  ·show q.im.length≤_;omega
  ·show q.st.length≤_;omega
  ·show q.ex.length≤_;omega
 |error p=>exact .inr ⟨p,hy,hm⟩
theorem zbmw {k:Int} {n e:ByteArray} (h:n.toList=dN→k=1):zjn k n e=zmx k n e:=by
 unfold zjn
 split
 ·next hn=>
  have e1:=eq_of_beq hn
  rw[h e1,zmx,if_pos (by decide),if_pos hn]
 ·rfl
theorem zbmx {α:Type} {f g:α→ByteArray} (l:List α): ∀t,(∀x∈l,f x=g x)→acc f l t=acc g l t:=by
 induction l with
 |nil=>intro t _;rfl
 |cons x l ih=>
  intro t h
  show acc f l (t++f x)=acc g l (t++g x)
  rw[h x (List.mem_cons_self ..)]
  exact ih _ fun y hy=>h y (List.mem_cons_of_mem _ hy)
theorem zbmy {m:Md} (h:zhn m.st):zhl m=zje m:=zbmx _ _ fun s hs=>zbmw (h s hs)
end Go.Proofs.YtlnohpdiiileeaaGreat
