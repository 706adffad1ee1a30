/- Facts. -/
import Derived.Laws.OwnMore
import Derived.Test.YtegdaafmaookjaaGreatP18
namespace Go.Proofs.YtegdaafmaookjaaGreat
open Go.Proofs.Tryz
set_option maxRecDepth 100000
set_option maxHeartbeats 3200000
open Go.RowKit Go.PlainAid Go.Sort
theorem zeR {α:Type} {l:List α} {j:Nat} (h:j<l.length): ∃x,l[j]? =some x:=⟨_,gE h⟩
variable (g b:Nat) (w W:Option Addr) (c d:Nat) (C S:Rw)
theorem zsi (z:World):Calls prog 50 #[.slice w 0 c,.slice W 0 d] z fun e w'=>e= .returned (.bool true)/\Bw z w':=by
 go_enter func50,ntmps50;go_wp2;go_loopg [5] 1 (fun k i wr=>k=1/\i= .int .i64 0/\wr=z)
 case atStart=>exact⟨rfl,rfl,rfl⟩
 case round=>
  obtain⟨rfl,rfl,rfl⟩:=hrel;go_wp2;go_ret;exact⟨rfl,Below.refl _ _⟩
theorem zsj (l:List BA0) (w:World) (I:OwnR w g 9 1 C l.length (l.flatMap (fun x=>[Value.string x]))) (q:OwnR w b 9 1 S l.length (l.flatMap (fun x=>[Value.string x]))) (e1:C.a=some ⟨c,0,none⟩) (e2:S.a=some ⟨d,0,none⟩) (hl:l.length<=4294967296):
  Calls prog 50 #[.slice (some ⟨c,0,none⟩) l.length C.cap,.slice (some ⟨d,0,none⟩) l.length S.cap] w fun e w'=>e= .returned (.bool true)/\Bw w w':=by
 have H1:=zc I;have H2:=zc q;have E1:=zc e1;have E2:=zc e2;clear I q e1 e2;go_enter func50,ntmps50;go_wp2;go_loopg [5] l.length (fun k i wr=>∃j:Nat,i= .int .i64 j/\j+k=l.length/\Bw w wr)
 case atStart=>exact⟨0,rfl,by omega,Below.refl _ _⟩
 case round=>
  obtain⟨j,rfl,hj,hb⟩:=hrel;have H:=zc hb;clear hb;by_cases M:j<l.length
  ·have J:(j:Int)<(l.length:Int):=by omega
   obtain⟨x,Z⟩:=zeR M;obtain⟨V,ga,I⟩:=OwnR.elem (f:=(fun x=>[Value.string x])) (m:=1) (fun _=>rfl) (H1.o.keep fun k z=>H.o.block k (H1.o.typed z).2.1) Z;obtain rfl:V=c:=by have:=ga.symm.trans E1.o;simpa using this
   obtain⟨V,gb,q⟩:=OwnR.elem (f:=(fun x=>[Value.string x])) (m:=1) (fun _=>rfl) (H2.o.keep fun k z=>H.o.block k (H2.o.typed z).2.1) Z;obtain rfl:V=d:=by have:=gb.symm.trans E2.o;simpa using this
   have C0:=zc (I 0 (by omega));have D0:=zc (q 0 (by omega));clear I q ga gb Z;obtain⟨K,A⟩: ∃K,K=j+1:=⟨_,rfl⟩;have ej:(j:Int)+1=(K:Int):=by omega
   have HJ:=zc A;clear A;go_wp2;have k0:=cR0 C0.o;have l0:=cR0 D0.o;simp only[Nat.add_zero,Nat.mul_one] at k0 l0;refine wp_region_quiet_below (by kernel_rfl) (by kernel_rfl) ?_
   repeat (go_big_quiet_step (fail))
   refine wpQuiet_nil ?_;intro w2 L;obtain⟨⟨dq,O⟩,h⟩:=L;have Y:Hid (Bw w w2):=by show Below _ _ _;rw[h];exact H.o.trans ((below_regrown wr dq O).mono H.o.size)
   clear h k0 l0 C0 D0;go_wp2;go_roundg (gk-1)
   case rel=>exact⟨K,rfl,by have:=HJ.o;omega,Y.o⟩
   case measure=>omega
  ·have J: ¬(j:Int)<(l.length:Int):=by omega
   go_wp2;go_ret;exact⟨rfl,H.o⟩
theorem zlC (l:List BA0) (w:World) (K:OwnR w g 9 1 C l.length (l.flatMap (fun x=>[Value.string x]))) (J:OwnR w b 9 1 S l.length (l.flatMap (fun x=>[Value.string x]))) (O:l.length<=4294967296):
  Calls prog 50 #[.slice C.a l.length C.cap,.slice S.a l.length S.cap] w fun e w'=>e= .returned (.bool true)/\Bw w w':=by
 by_cases A:l.length=0
 ·rw[A];exact zsi _ _ _ _ w
 ·rcases K.nil_or with ⟨_,_,e⟩|⟨N,I⟩
  ·exact absurd e A
  ·rcases J.nil_or with ⟨_,_,e⟩|⟨M,L⟩
   ·exact absurd e A
   ·rw[I,L];exact zsj g b N M C S l w K J I L O
theorem zsk (x:Im) (w:World):Calls prog 151 #[.agg #[.string x.spec,.string x.first,.string x.loc],.agg #[.string x.spec,.string x.first,.string x.loc]] w fun e w'=>e= .returned (.bool true)/\Bw w w':=by
 go_enter func151,ntmps151;go_wp2;go_ret;exact⟨rfl,(bA0).alloc (by show _<=(w.heap.push _).size;simp) _⟩
theorem zsl (z:World):Calls prog 113 #[.slice w 0 c,.slice W 0 d] z fun e w'=>e= .returned (.bool true)/\Bw z w':=by
 go_enter func113,ntmps113;go_wp2;go_loopg [5] 1 (fun k i wr=>k=1/\i= .int .i64 0/\wr=z)
 case atStart=>exact⟨rfl,rfl,rfl⟩
 case round=>
  obtain⟨rfl,rfl,rfl⟩:=hrel;go_wp2;go_ret;exact⟨rfl,Below.refl _ _⟩
theorem zsm (l:List Im) (w:World) (A:OwnR w g 101 3 C l.length (l.flatMap imL)) (q:OwnR w b 101 3 S l.length (l.flatMap imL)) (e1:C.a=some ⟨c,0,none⟩) (e2:S.a=some ⟨d,0,none⟩) (hl:l.length<=4294967296):
  Calls prog 113 #[.slice (some ⟨c,0,none⟩) l.length C.cap,.slice (some ⟨d,0,none⟩) l.length S.cap] w fun e w'=>e= .returned (.bool true)/\Bw w w':=by
 have H1:=zc A;have H2:=zc q;have E1:=zc e1;have E2:=zc e2;clear A q e1 e2;go_enter func113,ntmps113;go_wp2;go_loopg [5] l.length (fun k i wr=>∃j:Nat,i= .int .i64 j/\j+k=l.length/\Bw w wr)
 case atStart=>exact⟨0,rfl,by omega,Below.refl _ _⟩
 case round=>
  obtain⟨j,rfl,hj,hb⟩:=hrel;have I:=zc hb;clear hb;by_cases M:j<l.length
  ·have J:(j:Int)<(l.length:Int):=by omega
   obtain⟨x,hx⟩:=zeR M;obtain⟨V,ga,A⟩:=OwnR.elem (f:=imL) (m:=3) (fun _=>rfl) (H1.o.keep fun k z=>I.o.block k (H1.o.typed z).2.1) hx;obtain rfl:V=c:=by have:=ga.symm.trans E1.o;simpa using this
   obtain⟨V,gb,q⟩:=OwnR.elem (f:=imL) (m:=3) (fun _=>rfl) (H2.o.keep fun k z=>I.o.block k (H2.o.typed z).2.1) hx;obtain rfl:V=d:=by have:=gb.symm.trans E2.o;simpa using this
   have C0:=zc (A 0 (by omega));have D0:=zc (q 0 (by omega));have C1:=zc (A 1 (by omega));have D1:=zc (q 1 (by omega));have C2:=zc (A 2 (by omega));have D2:=zc (q 2 (by omega));clear A q ga gb hx;have cQ: ∀s os,Calls prog 151 #[.agg #[.string x.spec,.string x.first,.string x.loc],.agg #[.string x.spec,.string x.first,.string x.loc]] (grow (redrawn wr s) os) fun e Z=>e= .returned (.bool true)/\∃p:Regrown,Z=grow (redrawn wr p.d) p.os:=fun s os=>Calls.regrown_of (zsk x _);obtain⟨K,H⟩: ∃K,K=j+1:=⟨_,rfl⟩;have ej:(j:Int)+1=(K:Int):=by omega
   have HJ:=zc H;clear H;go_wp2;have k0:=cR0 C0.o;have l0:=cR0 D0.o;have k1:=cR0 C1.o;have l1:=cR0 D1.o;have k2:=cR0 C2.o;have l2:=cR0 D2.o;simp only[Nat.add_zero] at k0 l0;refine wp_region_quiet_below (by kernel_rfl) (by kernel_rfl) ?_
   repeat (go_big_quiet_step (exact cQ _ _))
   refine wpQuiet_nil ?_;intro w2 L;obtain⟨⟨dq,O⟩,h⟩:=L;have Y:Hid (Bw w w2):=by show Below _ _ _;rw[h];exact I.o.trans ((below_regrown wr dq O).mono I.o.size)
   clear h k0 l0 C0 D0 k1 l1 C1 D1 k2 l2 C2 D2 cQ;go_wp2;go_roundg (gk-1)
   case rel=>exact⟨K,rfl,by have:=HJ.o;omega,Y.o⟩
   case measure=>omega
  ·have J: ¬(j:Int)<(l.length:Int):=by omega
   go_wp2;go_ret;exact⟨rfl,I.o⟩
theorem zsn (l:List Im) (w:World) (K:OwnR w g 101 3 C l.length (l.flatMap imL)) (J:OwnR w b 101 3 S l.length (l.flatMap imL)) (O:l.length<=4294967296):
  Calls prog 113 #[.slice C.a l.length C.cap,.slice S.a l.length S.cap] w fun e w'=>e= .returned (.bool true)/\Bw w w':=by
 by_cases A:l.length=0
 ·rw[A];exact zsl _ _ _ _ w
 ·rcases K.nil_or with ⟨_,_,e⟩|⟨N,I⟩
  ·exact absurd e A
  ·rcases J.nil_or with ⟨_,_,e⟩|⟨M,L⟩
   ·exact absurd e A
   ·rw[I,L];exact zsm g b N M C S l w K J I L O
theorem zso (x:Ep) (w:World):Calls prog 152 #[.agg #[.int .i64 x.kind,.string x.name,.string x.loc,.string x.spec],.agg #[.int .i64 x.kind,.string x.name,.string x.loc,.string x.spec]] w fun e w'=>e= .returned (.bool true)/\Bw w w':=by
 go_enter func152,ntmps152;go_wp2;go_ret;exact⟨rfl,(bA0).alloc (by show _<=(w.heap.push _).size;simp) _⟩
theorem zsp (z:World):Calls prog 114 #[.slice w 0 c,.slice W 0 d] z fun e w'=>e= .returned (.bool true)/\Bw z w':=by
 go_enter func114,ntmps114;go_wp2;go_loopg [5] 1 (fun k i wr=>k=1/\i= .int .i64 0/\wr=z)
 case atStart=>exact⟨rfl,rfl,rfl⟩
 case round=>
  obtain⟨rfl,rfl,rfl⟩:=hrel;go_wp2;go_ret;exact⟨rfl,Below.refl _ _⟩
theorem zsq (l:List Ep) (w:World) (q:OwnR w g 103 4 C l.length (l.flatMap epL)) (h:OwnR w b 103 4 S l.length (l.flatMap epL)) (e1:C.a=some ⟨c,0,none⟩) (e2:S.a=some ⟨d,0,none⟩) (hl:l.length<=4294967296):
  Calls prog 114 #[.slice (some ⟨c,0,none⟩) l.length C.cap,.slice (some ⟨d,0,none⟩) l.length S.cap] w fun e w'=>e= .returned (.bool true)/\Bw w w':=by
 have H1:=zc q;have H2:=zc h;have E1:=zc e1;have E2:=zc e2;clear q h e1 e2;go_enter func114,ntmps114;go_wp2;go_loopg [5] l.length (fun k i wr=>∃j:Nat,i= .int .i64 j/\j+k=l.length/\Bw w wr)
 case atStart=>exact⟨0,rfl,by omega,Below.refl _ _⟩
 case round=>
  obtain⟨j,rfl,hj,hb⟩:=hrel;have I:=zc hb;clear hb;by_cases M:j<l.length
  ·have J:(j:Int)<(l.length:Int):=by omega
   obtain⟨x,hx⟩:=zeR M;obtain⟨V,ga,q⟩:=OwnR.elem (f:=epL) (m:=4) (fun _=>rfl) (H1.o.keep fun k z=>I.o.block k (H1.o.typed z).2.1) hx;obtain rfl:V=c:=by have:=ga.symm.trans E1.o;simpa using this
   obtain⟨V,gb,h⟩:=OwnR.elem (f:=epL) (m:=4) (fun _=>rfl) (H2.o.keep fun k z=>I.o.block k (H2.o.typed z).2.1) hx;obtain rfl:V=d:=by have:=gb.symm.trans E2.o;simpa using this
   have C0:=zc (q 0 (by omega));have D0:=zc (h 0 (by omega));have C1:=zc (q 1 (by omega));have D1:=zc (h 1 (by omega));have C2:=zc (q 2 (by omega));have D2:=zc (h 2 (by omega));have C3:=zc (q 3 (by omega));have D3:=zc (h 3 (by omega));clear q h ga gb hx;have cQ: ∀s os,Calls prog 152 #[.agg #[.int .i64 x.kind,.string x.name,.string x.loc,.string x.spec],.agg #[.int .i64 x.kind,.string x.name,.string x.loc,.string x.spec]] (grow (redrawn wr s) os) fun e Z=>e= .returned (.bool true)/\∃p:Regrown,Z=grow (redrawn wr p.d) p.os:=fun s os=>Calls.regrown_of (zso x _);obtain⟨K,H⟩: ∃K,K=j+1:=⟨_,rfl⟩;have ej:(j:Int)+1=(K:Int):=by omega
   have HJ:=zc H;clear H;go_wp2;have k0:=cR0 C0.o;have l0:=cR0 D0.o;have k1:=cR0 C1.o;have l1:=cR0 D1.o;have k2:=cR0 C2.o;have l2:=cR0 D2.o;have k3:=cR0 C3.o;have l3:=cR0 D3.o;simp only[Nat.add_zero] at k0 l0;refine wp_region_quiet_below (by kernel_rfl) (by kernel_rfl) ?_
   repeat (go_big_quiet_step (exact cQ _ _))
   refine wpQuiet_nil ?_;intro w2 L;obtain⟨⟨dq,O⟩,A⟩:=L;have Y:Hid (Bw w w2):=by show Below _ _ _;rw[A];exact I.o.trans ((below_regrown wr dq O).mono I.o.size)
   clear A k0 l0 C0 D0 k1 l1 C1 D1 k2 l2 C2 D2 k3 l3 C3 D3 cQ;go_wp2;go_roundg (gk-1)
   case rel=>exact⟨K,rfl,by have:=HJ.o;omega,Y.o⟩
   case measure=>omega
  ·have J: ¬(j:Int)<(l.length:Int):=by omega
   go_wp2;go_ret;exact⟨rfl,I.o⟩
theorem zsr (l:List Ep) (w:World) (K:OwnR w g 103 4 C l.length (l.flatMap epL)) (J:OwnR w b 103 4 S l.length (l.flatMap epL)) (O:l.length<=4294967296):
  Calls prog 114 #[.slice C.a l.length C.cap,.slice S.a l.length S.cap] w fun e w'=>e= .returned (.bool true)/\Bw w w':=by
 by_cases A:l.length=0
 ·rw[A];exact zsp _ _ _ _ w
 ·rcases K.nil_or with ⟨_,_,e⟩|⟨N,I⟩
  ·exact absurd e A
  ·rcases J.nil_or with ⟨_,_,e⟩|⟨M,L⟩
   ·exact absurd e A
   ·rw[I,L];exact zsq g b N M C S l w K J I L O
theorem zss (x:Sm) (w:World):Calls prog 153 #[.agg #[.int .i64 x.kind,.string x.name,.int .i64 x.expr],.agg #[.int .i64 x.kind,.string x.name,.int .i64 x.expr]] w fun e w'=>e= .returned (.bool true)/\Bw w w':=by
 go_enter func153,ntmps153;go_wp2;go_ret;exact⟨rfl,(bA0).alloc (by show _<=(w.heap.push _).size;simp) _⟩
theorem zst (z:World):Calls prog 115 #[.slice w 0 c,.slice W 0 d] z fun e w'=>e= .returned (.bool true)/\Bw z w':=by
 go_enter func115,ntmps115;go_wp2;go_loopg [5] 1 (fun k i wr=>k=1/\i= .int .i64 0/\wr=z)
 case atStart=>exact⟨rfl,rfl,rfl⟩
 case round=>
  obtain⟨rfl,rfl,rfl⟩:=hrel;go_wp2;go_ret;exact⟨rfl,Below.refl _ _⟩
theorem zsu (l:List Sm) (w:World) (A:OwnR w g 108 3 C l.length (l.flatMap smL)) (q:OwnR w b 108 3 S l.length (l.flatMap smL)) (e1:C.a=some ⟨c,0,none⟩) (e2:S.a=some ⟨d,0,none⟩) (hl:l.length<=4294967296):
  Calls prog 115 #[.slice (some ⟨c,0,none⟩) l.length C.cap,.slice (some ⟨d,0,none⟩) l.length S.cap] w fun e w'=>e= .returned (.bool true)/\Bw w w':=by
 have H1:=zc A;have H2:=zc q;have E1:=zc e1;have E2:=zc e2;clear A q e1 e2;go_enter func115,ntmps115;go_wp2;go_loopg [5] l.length (fun k i wr=>∃j:Nat,i= .int .i64 j/\j+k=l.length/\Bw w wr)
 case atStart=>exact⟨0,rfl,by omega,Below.refl _ _⟩
 case round=>
  obtain⟨j,rfl,hj,hb⟩:=hrel;have I:=zc hb;clear hb;by_cases M:j<l.length
  ·have J:(j:Int)<(l.length:Int):=by omega
   obtain⟨x,hx⟩:=zeR M;obtain⟨V,ga,A⟩:=OwnR.elem (f:=smL) (m:=3) (fun _=>rfl) (H1.o.keep fun k z=>I.o.block k (H1.o.typed z).2.1) hx;obtain rfl:V=c:=by have:=ga.symm.trans E1.o;simpa using this
   obtain⟨V,gb,q⟩:=OwnR.elem (f:=smL) (m:=3) (fun _=>rfl) (H2.o.keep fun k z=>I.o.block k (H2.o.typed z).2.1) hx;obtain rfl:V=d:=by have:=gb.symm.trans E2.o;simpa using this
   have C0:=zc (A 0 (by omega));have D0:=zc (q 0 (by omega));have C1:=zc (A 1 (by omega));have D1:=zc (q 1 (by omega));have C2:=zc (A 2 (by omega));have D2:=zc (q 2 (by omega));clear A q ga gb hx;have cQ: ∀s os,Calls prog 153 #[.agg #[.int .i64 x.kind,.string x.name,.int .i64 x.expr],.agg #[.int .i64 x.kind,.string x.name,.int .i64 x.expr]] (grow (redrawn wr s) os) fun e Z=>e= .returned (.bool true)/\∃p:Regrown,Z=grow (redrawn wr p.d) p.os:=fun s os=>Calls.regrown_of (zss x _);obtain⟨K,H⟩: ∃K,K=j+1:=⟨_,rfl⟩;have ej:(j:Int)+1=(K:Int):=by omega
   have HJ:=zc H;clear H;go_wp2;have k0:=cR0 C0.o;have l0:=cR0 D0.o;have k1:=cR0 C1.o;have l1:=cR0 D1.o;have k2:=cR0 C2.o;have l2:=cR0 D2.o;simp only[Nat.add_zero] at k0 l0;refine wp_region_quiet_below (by kernel_rfl) (by kernel_rfl) ?_
   repeat (go_big_quiet_step (exact cQ _ _))
   refine wpQuiet_nil ?_;intro w2 L;obtain⟨⟨dq,O⟩,h⟩:=L;have Y:Hid (Bw w w2):=by show Below _ _ _;rw[h];exact I.o.trans ((below_regrown wr dq O).mono I.o.size)
   clear h k0 l0 C0 D0 k1 l1 C1 D1 k2 l2 C2 D2 cQ;go_wp2;go_roundg (gk-1)
   case rel=>exact⟨K,rfl,by have:=HJ.o;omega,Y.o⟩
   case measure=>omega
  ·have J: ¬(j:Int)<(l.length:Int):=by omega
   go_wp2;go_ret;exact⟨rfl,I.o⟩
theorem zsv (l:List Sm) (w:World) (K:OwnR w g 108 3 C l.length (l.flatMap smL)) (J:OwnR w b 108 3 S l.length (l.flatMap smL)) (O:l.length<=4294967296):
  Calls prog 115 #[.slice C.a l.length C.cap,.slice S.a l.length S.cap] w fun e w'=>e= .returned (.bool true)/\Bw w w':=by
 by_cases A:l.length=0
 ·rw[A];exact zst _ _ _ _ w
 ·rcases K.nil_or with ⟨_,_,e⟩|⟨N,I⟩
  ·exact absurd e A
  ·rcases J.nil_or with ⟨_,_,e⟩|⟨M,L⟩
   ·exact absurd e A
   ·rw[I,L];exact zsu g b N M C S l w K J I L O
theorem zsw (x:Ex) (w:World):Calls prog 154 #[.agg #[.int .i64 x.kind,.int .i64 x.num,.string x.name,.string x.field,.int .i64 x.l,.int .i64 x.r],.agg #[.int .i64 x.kind,.int .i64 x.num,.string x.name,.string x.field,.int .i64 x.l,.int .i64 x.r]] w fun e w'=>e= .returned (.bool true)/\Bw w w':=by
 go_enter func154,ntmps154;go_wp2;go_ret;exact⟨rfl,(bA0).alloc (by show _<=(w.heap.push _).size;simp) _⟩
theorem zsx (z:World):Calls prog 116 #[.slice w 0 c,.slice W 0 d] z fun e w'=>e= .returned (.bool true)/\Bw z w':=by
 go_enter func116,ntmps116;go_wp2;go_loopg [5] 1 (fun k i wr=>k=1/\i= .int .i64 0/\wr=z)
 case atStart=>exact⟨rfl,rfl,rfl⟩
 case round=>
  obtain⟨rfl,rfl,rfl⟩:=hrel;go_wp2;go_ret;exact⟨rfl,Below.refl _ _⟩
theorem zsy (l:List Ex) (w:World) (q:OwnR w g 106 6 C l.length (l.flatMap exL)) (h:OwnR w b 106 6 S l.length (l.flatMap exL)) (e1:C.a=some ⟨c,0,none⟩) (e2:S.a=some ⟨d,0,none⟩) (hl:l.length<=4294967296):
  Calls prog 116 #[.slice (some ⟨c,0,none⟩) l.length C.cap,.slice (some ⟨d,0,none⟩) l.length S.cap] w fun e w'=>e= .returned (.bool true)/\Bw w w':=by
 have H1:=zc q;have H2:=zc h;have E1:=zc e1;have E2:=zc e2;clear q h e1 e2;go_enter func116,ntmps116;go_wp2;go_loopg [5] l.length (fun k i wr=>∃j:Nat,i= .int .i64 j/\j+k=l.length/\Bw w wr)
 case atStart=>exact⟨0,rfl,by omega,Below.refl _ _⟩
 case round=>
  obtain⟨j,rfl,hj,hb⟩:=hrel;have I:=zc hb;clear hb;by_cases M:j<l.length
  ·have J:(j:Int)<(l.length:Int):=by omega
   obtain⟨x,hx⟩:=zeR M;obtain⟨V,ga,q⟩:=OwnR.elem (f:=exL) (m:=6) (fun _=>rfl) (H1.o.keep fun k z=>I.o.block k (H1.o.typed z).2.1) hx;obtain rfl:V=c:=by have:=ga.symm.trans E1.o;simpa using this
   obtain⟨V,gb,h⟩:=OwnR.elem (f:=exL) (m:=6) (fun _=>rfl) (H2.o.keep fun k z=>I.o.block k (H2.o.typed z).2.1) hx;obtain rfl:V=d:=by have:=gb.symm.trans E2.o;simpa using this
   have C0:=zc (q 0 (by omega));have D0:=zc (h 0 (by omega));have C1:=zc (q 1 (by omega));have D1:=zc (h 1 (by omega));have C2:=zc (q 2 (by omega));have D2:=zc (h 2 (by omega));have C3:=zc (q 3 (by omega));have D3:=zc (h 3 (by omega));have C4:=zc (q 4 (by omega));have D4:=zc (h 4 (by omega));have C5:=zc (q 5 (by omega));have D5:=zc (h 5 (by omega));clear q h ga gb hx;have cQ: ∀s os,Calls prog 154 #[.agg #[.int .i64 x.kind,.int .i64 x.num,.string x.name,.string x.field,.int .i64 x.l,.int .i64 x.r],.agg #[.int .i64 x.kind,.int .i64 x.num,.string x.name,.string x.field,.int .i64 x.l,.int .i64 x.r]] (grow (redrawn wr s) os) fun e Z=>e= .returned (.bool true)/\∃p:Regrown,Z=grow (redrawn wr p.d) p.os:=fun s os=>Calls.regrown_of (zsw x _);obtain⟨K,H⟩: ∃K,K=j+1:=⟨_,rfl⟩;have ej:(j:Int)+1=(K:Int):=by omega
   have HJ:=zc H;clear H;go_wp2;have k0:=cR0 C0.o;have l0:=cR0 D0.o;have k1:=cR0 C1.o;have l1:=cR0 D1.o;have k2:=cR0 C2.o;have l2:=cR0 D2.o;have k3:=cR0 C3.o;have l3:=cR0 D3.o;have k4:=cR0 C4.o;have l4:=cR0 D4.o;have k5:=cR0 C5.o;have l5:=cR0 D5.o;simp only[Nat.add_zero] at k0 l0;refine wp_region_quiet_below (by kernel_rfl) (by kernel_rfl) ?_
   repeat (go_big_quiet_step (exact cQ _ _))
   refine wpQuiet_nil ?_;intro w2 L;obtain⟨⟨dq,O⟩,A⟩:=L;have Y:Hid (Bw w w2):=by show Below _ _ _;rw[A];exact I.o.trans ((below_regrown wr dq O).mono I.o.size)
   clear A k0 l0 C0 D0 k1 l1 C1 D1 k2 l2 C2 D2 k3 l3 C3 D3 k4 l4 C4 D4 k5 l5 C5 D5 cQ;go_wp2;go_roundg (gk-1)
   case rel=>exact⟨K,rfl,by have:=HJ.o;omega,Y.o⟩
   case measure=>omega
  ·have J: ¬(j:Int)<(l.length:Int):=by omega
   go_wp2;go_ret;exact⟨rfl,I.o⟩
theorem zsz (l:List Ex) (w:World) (K:OwnR w g 106 6 C l.length (l.flatMap exL)) (J:OwnR w b 106 6 S l.length (l.flatMap exL)) (O:l.length<=4294967296):
  Calls prog 116 #[.slice C.a l.length C.cap,.slice S.a l.length S.cap] w fun e w'=>e= .returned (.bool true)/\Bw w w':=by
 by_cases A:l.length=0
 ·rw[A];exact zsx _ _ _ _ w
 ·rcases K.nil_or with ⟨_,_,e⟩|⟨N,I⟩
  ·exact absurd e A
  ·rcases J.nil_or with ⟨_,_,e⟩|⟨M,L⟩
   ·exact absurd e A
   ·rw[I,L];exact zsy g b N M C S l w K J I L O
theorem znj {α:Type} (f:α->List Value) (m:Nat) (q: ∀x,(f x).length=m): ∀(l:List α) (j i:Nat) (x y:α) (v:Value),l[j]? =some x->i<m->f y=(f x).set i v->(l.flatMap f).set (j*m+i) v=(l.set j y).flatMap f:=by
 intro l
 induction l with
 |nil=>intro j i x y v h;simp at h
 |cons z l H=>
  intro j i x y v h w A
  match j with
  |0=>
   simp only[List.getElem?_cons_zero,sI0] at h;subst h;rw[List.flatMap_cons,Nat.zero_mul,Nat.zero_add,List.set_append_left _ _ (by rw[q];exact w),List.set_cons_zero,List.flatMap_cons,A]
  |j+1=>
   simp only[List.getElem?_cons_succ] at h;rw[List.flatMap_cons,List.set_append_right _ _ (by rw[q,Nat.succ_mul];omega),q,List.set_cons_succ,List.flatMap_cons,<-H j i x y v h w A];congr 2;rw[Nat.succ_mul];omega
def mxE (s:BA0) (l:List Ep) (j:Nat):List Ep:=(l.take j).map (za2 s)++(l.drop j).map zL
variable (s:BA0) (w:List Ep) (C:Cx) (g b c d n:Nat) (W:Rw) (T q:Sv) (p:PS) (V:World) {t:BA0} {h:List Ep} {A:Nat} {B:Ep} {D:Cx} {u:Int} {E:PS}
theorem znk:(mxE s w g).length=w.length:=by simp[mxE];omega
theorem znl (F:h[A]? =some B):(mxE t h A)[A]? =some (zL B):=by
 obtain⟨w,rfl⟩:=gS F;have q:((h.take A).map (za2 t)).length=A:=by simp;omega
 rw[mxE,List.getElem?_append_right (by omega),q,Nat.sub_self,List.drop_eq_getElem_cons w];rfl
theorem zvF (F:h[A]? =some B):(mxE t h A).set A (za2 t B)=mxE t h (A+1):=by
 obtain⟨q,rfl⟩:=gS F;have w:((h.take A).map (za2 t)).length=A:=by simp;omega
 rw[mxE,List.set_append_right _ _ (by omega),w,Nat.sub_self,List.drop_eq_getElem_cons q,List.map_cons,List.set_cons_zero,mxE,tG q,List.map_append,List.append_assoc];rfl
theorem zvG:mxE s w 0=w.map zL:=by simp[mxE]
theorem zvH:mxE s w w.length=w.map (za2 s):=by simp[mxE]
theorem zvI (x:Ep) (w:World):
  Calls prog 265 #[epV x] w fun e w'=>e= .returned (.bool (x.loc.toList==[100,101,102,97,117,108,116]))/\Bw w w':=by
 unfold epV;cases h:(x.loc.toList==[100,101,102,97,117,108,116]) with
 |true=>
  go_enter func265,ntmps265;go_wp2;go_ret;exact⟨rfl,bA0⟩
 |false=>
  go_enter func265,ntmps265;go_wp2;go_ret;exact⟨rfl,bA0⟩
theorem zvJ (F:h[A]? =some B):zaN (h.drop A)=((B.loc.toList==[100,101,102,97,117,108,116])||zaN (h.drop (A+1))):=by
 obtain⟨q,rfl⟩:=gS F;rw[List.drop_eq_getElem_cons q];simp only[zaN,List.any_cons]
theorem zvK (F:Nat) (r:Rw) (l:List Ep) (w:World) (h:OwnR w g 103 4 r l.length (l.flatMap fun e=>epL (zL e))) (hl:l.length<=4000) (hg:r.a=some ⟨F,0,none⟩):
  Calls prog 271 #[.slice (some ⟨F,0,none⟩) l.length r.cap,.func (.func 265) #[] #[]] w fun e w'=>(∃v:Int,e= .returned (.int .i64 v)/\decide (0<=v)=zaN l)/\Bw w w':=by
 have HO:=zc h;have U:=zc hg;clear h hg;go_enter func271,ntmps271;go_wp2;go_loopg [8] (l.length+1) (fun k i wr=>∃j:Nat,i= .int .i64 j/\j+k=l.length+1/\zaN (l.drop j)=zaN l/\Bw w wr)
 case atStart=>exact⟨0,rfl,by omega,by simp,Below.refl _ _⟩
 case round=>
  obtain⟨j,rfl,hj,he,M⟩:=hrel;have X:=zc he;clear he;by_cases N:j<l.length
  ·have K:(j:Int)<(l.length:Int):=by omega
   obtain⟨x,V⟩:=zg4 N;have O:=zc (HO.o.keep fun k F=>M.block k (HO.o.typed F).2.1);obtain⟨g',H,q⟩:=OwnR.elem (f:=fun e=>epL (zL e)) (m:=4) (fun _=>rfl) O.o V;have eg:g'=F:=by have:=H.symm.trans U.o;simpa using this
   subst eg;have k0:=q 0 (by omega);have k1:=q 1 (by omega);have k2:=q 2 (by omega);have k3:=q 3 (by omega);simp only[epL,zL,Nat.add_zero,List.getElem?_cons_zero,List.getElem?_cons_succ] at k0 k1 k2 k3;have HS:=zvJ V;clear q H V;obtain⟨L,A⟩: ∃L,L=j+1:=⟨_,rfl⟩;have ej:(j:Int)+1=(L:Int):=by omega
   have Z:=zc A;clear A;go_wp2_with fail;refine (zvI (zL x) _).mono ?_;rintro e w1 ⟨rfl,J⟩;have I:=M.trans (J.mono M.size);clear J;rw[show (zL x).loc=x.loc from rfl];cases Y:(x.loc.toList==[100,101,102,97,117,108,116]) with
   |true=>
    go_wp2;go_ret;refine⟨⟨_,rfl,?_⟩,I⟩;rw[<-X.o,HS,Y];simp
   |false=>
    go_wp2;go_roundg (gk-1)
    case rel=>
     refine⟨L,rfl,by have:=Z.o;omega,?_,I⟩;rw[<-X.o,HS,Y,Z.o];simp
    case measure=>omega
  ·have K: ¬(j:Int)<(l.length:Int):=by omega
   go_wp2;go_ret;refine⟨⟨_,rfl,?_⟩,M⟩;rw[<-X.o,List.drop_eq_nil_of_le (by omega)];rfl
theorem znm (F:Nat) (r:Rw) (l:List Ep) (w:World) (h:OwnR w g 103 4 r l.length (l.flatMap fun e=>epL (zL e))) (J:l.length<=4000) (H:r.a=some ⟨F,0,none⟩):
  Calls prog 266 #[.slice (some ⟨F,0,none⟩) l.length r.cap,.func (.func 265) #[] #[]] w fun e w'=>e= .returned (.bool (zaN l))/\Bw w w':=by
 have I:=zc h;have q:=zc H;clear h H;go_enter func266,ntmps266;go_wp2_with fail;refine (zvK g F r l _ I.o J q.o).mono ?_;rintro e M ⟨⟨v,rfl,A⟩,K⟩;have L:=zc A;clear A;go_wp2;go_ret;exact⟨zk L.o,K⟩
def zaK (C:Cx) (l:List Ep) (q:PS):PR:=
 if isT C q.pos 1 zac||zaN l then bd (zd C 1 zac q) fun a=>bd (zR C a) fun b=>bd (zd C 4 cSemi b.1) fun c=>zaf (fun e=>zv C (za2 b.2 e)) l (.ok c)
 else bd (zd C 4 cSemi q) fun c=>zaf (fun e=>zv C (zL e)) l (.ok c)
theorem znn (X:Ep->Ep) (l:List Ep):(l.map X).flatMap epL=l.flatMap fun e=>epL (X e):=by rw[List.flatMap_map]
theorem zvL (F:Nat) (r:Rw) (S L:Sv) (q0 q:PS) (l:List Ep) (w wc:World) (hh:IM C g b c d S q0 w) (h:IM C g b c d L q wc) (h0:IS d S w L wc) (hl:l.length<=4000) (hf:Fr 103 4 wc n r l.length (l.flatMap (fun e=>epL (zL e))) L) (hg:r.a=some ⟨F,0,none⟩) (hi:isT C q.pos 1 zac=false) (ha:zaN l=false):
  Calls prog 248 #[.pointer (some ⟨d,0,none⟩),.slice (some ⟨F,0,none⟩) l.length r.cap] wc (zaa C g b c d (zaK C l q) id (fun _=>.tuple #[]) S w):=by
 have HF:=zc hf;have HG:=zc hg;have HY:Hid (zaK C l q=bd (zd C 4 cSemi q) fun G=>zaf (fun e=>zv C (zL e)) l (.ok G)):=by show _=_;rw[zaK,hi,ha];rfl
 clear hf hg;go_enter func248,ntmps248;go_wp2_with fail;refine (zc4 C g b c d L q 1 zac _ h).mono ?_;rintro e w1 ⟨rfl,H⟩;rw[hi];have av:=h.later H;have al:=(h0.trans (IS.below H));have ag:IS d L wc L w1:=IS.below H;clear H;have ah:Hid (Fr 103 4 w1 n r l.length (l.flatMap (fun e=>epL (zL e))) L):=HF.o.step h (by decide) ag;clear ag;go_wp2_with fail;refine (znm n F r l _ ah.o.1 hl HG.o).mono ?_;rintro e w2 ⟨rfl,H⟩;rw[ha];have ap:Hid (Fr 103 4 w2 n r l.length (l.flatMap (fun e=>epL (zL e))) L):=ah.o.later H;have Z:=av.later H;have ac:=(al.trans (IS.below H));clear H;go_wp2_with fail;refine (zcI C g b c d L q 59 _ Z).mono ?_;cases O:zd C 4 cSemi q with
 |error p=>
  rintro e w3 ⟨rfl,H⟩;have HB:=(hh.back ac).trans H;have HX:Hid (zaK C l q= .error p):=bdE HY.o O;unfold Pan;go_wp2;refine⟨rfl,?_⟩;rw[HX.o];exact⟨rfl,HB⟩
 |ok a3=>
  rintro e w3 ⟨rfl,S3,am,s⟩;have aq:Hid (Fr 103 4 w3 n r l.length (l.flatMap (fun e=>epL (zL e))) S3):=ap.o.step Z (by decide) s;have ar:=ac.trans s;clear s;have an:=zc (bdO HY.o O);have ad:0<a3.pos:=by rw[(zcj O).1];exact Nat.succ_pos _
  go_wp2;go_loopg [39] l.length (fun k i wr=>∃(j:Nat) (V:Sv) (M:PS),i= .int .i64 j/\j+k=l.length/\zaK C l q=zaf (fun e=>zv C (zL e)) (l.drop j) (.ok M)/\0<M.pos/\IM C g b c d V M wr/\IS d S w V wr/\Fr 103 4 wr n r l.length (l.flatMap fun e=>epL (zL e)) V)
  case atStart=>exact⟨0,S3,a3,rfl,by omega,an.o,ad,am,ar,aq.o⟩
  case round=>
   obtain⟨j,V,M,rfl,hj,hy,ab,m',s',f'⟩:=hrel;have ae:=zc hy;have K:=m';have X:=s';have af:Hid (Fr 103 4 wr n r l.length (l.flatMap fun e=>epL (zL e)) V):=f';clear hy m' s' f';by_cases aj:j<l.length
   ·have ai:(j:Int)<(l.length:Int):=by omega
    obtain⟨x,hx⟩:=zg4 aj;obtain⟨g',aa,J⟩:=OwnR.elem (f:=fun e=>epL (zL e)) (m:=4) (fun _=>rfl) af.o.1 hx;have eg:g'=F:=by have:=aa.symm.trans HG.o;simpa using this
    subst eg;have k0:=J 0 (by omega);have k1:=J 1 (by omega);have k2:=J 2 (by omega);have k3:=J 3 (by omega);simp only[epL,zL,Nat.add_zero,List.getElem?_cons_zero,List.getElem?_cons_succ] at k0 k1 k2 k3;have HZ:=zc (ae.o.trans (zjt (fun e=>zv C (zL e)) hx M));clear J aa hx;obtain⟨Y,N⟩: ∃Y,Y=j+1:=⟨_,rfl⟩;have ej:(j:Int)+1=(Y:Int):=by omega
    rw[<-N] at HZ;have az:=K.lt;have HJ:=zc N;clear N;go_wp2_with fail;refine (zgj C g b c d V M (zL x) _ (K.alloc _) ab).mono ?_;cases hn:zv C (zL x) M with
    |error p=>
     rintro e wy ⟨rfl,H⟩;have HB:Below c w wy:=(hh.back (X.alloc _)).trans H;have HX:Hid (zaK C l q= .error p):=by show _=_;rw[HZ.o,hn];exact zhK _ _ _
     unfold Pan;go_wp2;refine⟨rfl,?_⟩;rw[HX.o];exact⟨rfl,HB⟩
    |ok ay=>
     rintro e wy ⟨rfl,Sy,ak,s⟩;have ax:IS d S w Sy wy:=(X.alloc _).trans s;have ao:Hid (Fr 103 4 wy n r l.length (l.flatMap fun e=>epL (zL e)) Sy):=(af.o.later (bA0)).step (K.alloc _) (by decide) s;have au:Hid (zaK C l q=zaf (fun e=>zv C (zL e)) (l.drop Y) (.ok ay)):=by show _=_;rw[HZ.o,hn]
     have aw:Hid (0<ay.pos):=by show 0<ay.pos;rw[znh hn];exact ab
     clear s;go_wp2;go_roundg (gk-1)
     case rel=>exact⟨Y,Sy,ay,rfl,by have:=HJ.o;omega,au.o,aw.o,ak,ax,ao.o⟩
     case measure=>omega
   ·have ai: ¬(j:Int)<(l.length:Int):=by omega
    have HZ:Hid (zaK C l q= .ok M):=by show _=_;rw[ae.o,List.drop_eq_nil_of_le (by omega)];rfl
    go_wp2;go_end0;rw[HZ.o];exact⟨rfl,V,K,X⟩
theorem zvM (F:Nat) (r:Rw) (S I:Sv) (q0 q:PS) (l:List Ep) (w wc:World) (hh:IM C g b c d S q0 w) (h:IM C g b c d I q wc) (h0:IS d S w I wc) (hl:l.length<=4000) (hf:Fr 103 4 wc n r l.length (l.flatMap (fun e=>epL (zL e))) I) (Z:r.a=some ⟨F,0,none⟩) (N:isT C q.pos 1 zac=false) (ha:zaN l=true):
  Calls prog 248 #[.pointer (some ⟨d,0,none⟩),.slice (some ⟨F,0,none⟩) l.length r.cap] wc (zaa C g b c d (zaK C l q) id (fun _=>.tuple #[]) S w):=by
 have HF:=zc hf;have HG:=zc Z;have HY:Hid (zaK C l q= .error (zz C q.pos)):=by show _=_;rw[zaK,N,ha,if_pos (by decide),zi7 N];rfl
 clear hf Z;go_enter func248,ntmps248;go_wp2_with fail;refine (zc4 C g b c d I q 1 zac _ h).mono ?_;rintro e Y ⟨rfl,A⟩;rw[N];have X:=h.later A;have U:=(h0.trans (IS.below A));have K:IS d I wc I Y:=IS.below A;clear A;have M:Hid (Fr 103 4 Y n r l.length (l.flatMap (fun e=>epL (zL e))) I):=HF.o.step h (by decide) K;clear K;go_wp2_with fail;refine (znm n F r l _ M.o.1 hl HG.o).mono ?_;rintro e w2 ⟨rfl,A⟩;rw[ha];have aa:Hid (Fr 103 4 w2 n r l.length (l.flatMap (fun e=>epL (zL e))) I):=M.o.later A;have O:=X.later A;have V:=(U.trans (IS.below A));clear A;go_wp2_with fail;refine (zfu C g b c d I q zac _ O).mono ?_;rw[zi7 N];rintro e w3 ⟨rfl,A⟩;have HB:=(hh.back V).trans A;have HX:Hid (zaK C l q= .error (zz C q.pos)):=HY.o;unfold Pan;go_wp2;refine⟨rfl,?_⟩;rw[HX.o];exact⟨rfl,HB⟩
theorem zvN (F:Nat) (r:Rw) (S Sc:Sv) (q0 q:PS) (l:List Ep) (w wc:World) (hh:IM C g b c d S q0 w) (h:IM C g b c d Sc q wc) (h0:IS d S w Sc wc) (hC:zb2 C) (hl:l.length<=4000) (hf:Fr 103 4 wc n r l.length (l.flatMap (fun e=>epL (zL e))) Sc) (hg:r.a=some ⟨F,0,none⟩) (ai:w.heap.size<=F) (hi:isT C q.pos 1 zac=true):
  Calls prog 248 #[.pointer (some ⟨d,0,none⟩),.slice (some ⟨F,0,none⟩) l.length r.cap] wc (zaa C g b c d (zaK C l q) id (fun _=>.tuple #[]) S w):=by
 have HF:=zc hf;have HG:=zc hg;have av:=zc ai;have HY:Hid (zaK C l q=bd (zd C 1 zac q) fun a=>bd (zR C a) fun G=>bd (zd C 4 cSemi G.1) fun P=>zaf (fun e=>zv C (za2 G.2 e)) l (.ok P)):=by show _=_;rw[zaK,hi];rfl
 clear hf hg ai;go_enter func248,ntmps248;go_wp2_with fail;refine (zc4 C g b c d Sc q 1 zac _ h).mono ?_;rintro e w1 ⟨rfl,U⟩;rw[hi];have aA:=h.later U;have ah:=(h0.trans (IS.below U));have au:IS d Sc wc Sc w1:=IS.below U;clear U;have aC:Hid (Fr 103 4 w1 n r l.length (l.flatMap (fun e=>epL (zL e))) Sc):=HF.o.step h (by decide) au;clear au;go_wp2_with fail;refine (zfu C g b c d Sc q zac _ aA).mono ?_;cases az:zd C 1 zac q with
 |error p=>
  rintro e w2 ⟨rfl,U⟩;have HB:=(hh.back ah).trans U;have HX:Hid (zaK C l q= .error p):=bdE HY.o az;unfold Pan;go_wp2;refine⟨rfl,?_⟩;rw[HX.o];exact⟨rfl,HB⟩
 |ok a2=>
  rintro e w2 ⟨rfl,S2,aw,s⟩;have aN:Hid (Fr 103 4 w2 n r l.length (l.flatMap (fun e=>epL (zL e))) S2):=aC.o.step aA (by decide) s;have aj:=ah.trans s;clear s;have ax:=zc (bdO HY.o az);go_wp2_with fail;refine (zhh C g b c d S2 a2 _ aw hC).mono ?_;cases an:zR C a2 with
  |error p=>
   rintro e w3 ⟨rfl,U⟩;have HB:=(hh.back aj).trans U;have HX:Hid (zaK C l q= .error p):=bdE ax.o an;unfold Pan;go_wp2;refine⟨rfl,?_⟩;rw[HX.o];exact⟨rfl,HB⟩
  |ok A=>
   rintro e w3 ⟨rfl,S3,af,s⟩;have ab:Hid (Fr 103 4 w3 n r l.length (l.flatMap (fun e=>epL (zL e))) S3):=aN.o.step aw (by decide) s;have aD:=aj.trans s;clear s;have ao:=zc (bdO ax.o an);have ad:Hid (Fr 103 4 w3 n r l.length ((mxE A.2 l 0).flatMap epL) S3):=by show Fr _ _ _ _ _ _ _ _;rw[zvG,znn];exact ab.o
   have ac:F≠d:=ab.o.ngp af (by decide) (by rw[Rw.blk,HG.o];rfl);have aq:F≠g:=ab.o.ngt af (by decide) (by rw[Rw.blk,HG.o];rfl);have Z:Hid (¬S3.has F):=ab.o.2 F (by rw[Rw.blk,HG.o];rfl);have ar:=zc ac;have am:=zc aq;clear ac aq;go_wp2;go_loopg [22] l.length (fun k i wr=>∃(j:Nat),i= .int .i64 j/\j+k=l.length/\IM C g b c d S3 A.1 wr/\IS d S w S3 wr/\Fr 103 4 wr n r l.length ((mxE A.2 l j).flatMap epL) S3)
   case atStart=>exact⟨0,rfl,by omega,af,aD,ad.o⟩
   case round=>
    obtain⟨j,rfl,hj,m',s',f'⟩:=hrel;have J:=m';have L:=s';have O:Hid (Fr 103 4 wr n r l.length ((mxE A.2 l j).flatMap epL) S3):=f';clear m' s' f';by_cases aa:j<l.length
    ·have Y:(j:Int)<(l.length:Int):=by omega
     obtain⟨x,hx⟩:=zg4 aa;have HX:=zc hx;have N:=O.o.1;have ho:OwnR wr n 103 4 r (mxE A.2 l j).length ((mxE A.2 l j).flatMap epL):=by rw[znk];exact N
     obtain⟨g',V,I⟩:=OwnR.elem (f:=epL) (m:=4) (fun _=>rfl) ho (znl hx);have eg:g'=F:=by have:=V.symm.trans HG.o;simpa using this
     subst eg;have k0:=I 0 (by omega);have k3:=I 3 (by omega);simp only[epL,zL,Nat.add_zero,List.getElem?_cons_zero,List.getElem?_cons_succ] at k0 k3;unfold OwnR at N;rw[HG.o] at N;have aQ:=N.frozenAt;have aM:=zc N;clear I V hx N ho;obtain⟨j1,M⟩: ∃j1,j1=j+1:=⟨_,rfl⟩;have ej:(j:Int)+1=(j1:Int):=by omega
     have HJ:=zc M;clear M;go_wp2;go_roundg (gk-1)
     case rel=>
      refine⟨j1,rfl,by have:=HJ.o;omega,(J.set ar.o am.o Z.o _ _).set ar.o am.o Z.o _ _,(L.new av.o _ _).new av.o _ _,?_,O.o.2⟩;have aK:=(aM.o.stored (j*4+0) (.int .i64 2)).1;have ap:=(aK.stored (j*4+3) (.string A.2)).1;rw[znj epL 4 (fun _=>rfl) _ j 0 (zL x) ⟨2,x.name,x.loc,sNone⟩ (.int .i64 2) (znl HX.o) (by omega) rfl,znj epL 4 (fun _=>rfl) ((mxE A.2 l j).set j ⟨2,x.name,x.loc,sNone⟩) j 3 ⟨2,x.name,x.loc,sNone⟩ (za2 A.2 x) (.string A.2) (List.getElem?_set_self (by rw[znk];exact aa)) (by omega) rfl,List.set_set,zvF HX.o,<-HJ.o] at ap;unfold OwnR;rw[HG.o];exact ap
     case measure=>omega
    ·have Y: ¬(j:Int)<(l.length:Int):=by omega
     have aJ:j=l.length:=by omega
     subst aJ;have aF:Hid (Fr 103 4 wr n r l.length (l.flatMap fun e=>epL (za2 A.2 e)) S3):=by show Fr _ _ _ _ _ _ _ _;rw[<-znn,<-zvH A.2 l];exact O.o
     go_wp2_with fail;refine (zcI C g b c d S3 A.1 59 _ J).mono ?_;cases ae:zd C 4 cSemi A.1 with
     |error p=>
      rintro e w4 ⟨rfl,U⟩;have HB:=(hh.back L).trans U;have HX:Hid (zaK C l q= .error p):=bdE ao.o ae;unfold Pan;go_wp2;refine⟨rfl,?_⟩;rw[HX.o];exact⟨rfl,HB⟩
     |ok a4=>
      rintro e w4 ⟨rfl,S4,aL,s⟩;have ad:Hid (Fr 103 4 w4 n r l.length (l.flatMap fun e=>epL (za2 A.2 e)) S4):=aF.o.step J (by decide) s;have aH:=L.trans s;clear s;have aO:=zc (bdO ao.o ae);have ak:0<a4.pos:=by rw[(zcj ae).1];exact Nat.succ_pos _
      go_wp2;go_loopg [39] l.length (fun k i wr=>∃(j:Nat) (S':Sv) (q':PS),i= .int .i64 j/\j+k=l.length/\zaK C l q=zaf (fun e=>zv C (za2 A.2 e)) (l.drop j) (.ok q')/\0<q'.pos/\IM C g b c d S' q' wr/\IS d S w S' wr/\Fr 103 4 wr n r l.length (l.flatMap fun e=>epL (za2 A.2 e)) S')
      case atStart=>exact⟨0,S4,a4,rfl,by omega,aO.o,ak,aL,aH,ad.o⟩
      case round=>
       obtain⟨j,S',q',rfl,hj,hy,ag,m',s',f'⟩:=hrel;have al:=zc hy;have J:=m';have L:=s';have O:Hid (Fr 103 4 wr n r l.length (l.flatMap fun e=>epL (za2 A.2 e)) S'):=f';clear hy m' s' f';by_cases aa:j<l.length
       ·have Y:(j:Int)<(l.length:Int):=by omega
        obtain⟨x,hx⟩:=zg4 aa;obtain⟨g',V,I⟩:=OwnR.elem (f:=fun e=>epL (za2 A.2 e)) (m:=4) (fun _=>rfl) O.o.1 hx;have eg:g'=F:=by have:=V.symm.trans HG.o;simpa using this
        subst eg;have k0:=I 0 (by omega);have k1:=I 1 (by omega);have k2:=I 2 (by omega);have k3:=I 3 (by omega);simp only[epL,za2,Nat.add_zero,List.getElem?_cons_zero,List.getElem?_cons_succ] at k0 k1 k2 k3;have HZ:=zc (al.o.trans (zjt (fun e=>zv C (za2 A.2 e)) hx q'));clear I V hx;obtain⟨j1,M⟩: ∃j1,j1=j+1:=⟨_,rfl⟩;have ej:(j:Int)+1=(j1:Int):=by omega
        rw[<-M] at HZ;have ac:=J.lt;have HJ:=zc M;clear M;go_wp2_with fail;refine (zgj C g b c d S' q' (za2 A.2 x) _ (J.alloc _) ag).mono ?_;cases hn:zv C (za2 A.2 x) q' with
        |error p=>
         rintro e wy ⟨rfl,U⟩;have HB:Below c w wy:=(hh.back (L.alloc _)).trans U;have HX:Hid (zaK C l q= .error p):=by show _=_;rw[HZ.o,hn];exact zhK _ _ _
         unfold Pan;go_wp2;refine⟨rfl,?_⟩;rw[HX.o];exact⟨rfl,HB⟩
        |ok ay=>
         rintro e wy ⟨rfl,Sy,aI,s⟩;have aG:IS d S w Sy wy:=(L.alloc _).trans s;have aB:Hid (Fr 103 4 wy n r l.length (l.flatMap fun e=>epL (za2 A.2 e)) Sy):=(O.o.later (bA0)).step (J.alloc _) (by decide) s;have aE:Hid (zaK C l q=zaf (fun e=>zv C (za2 A.2 e)) (l.drop j1) (.ok ay)):=by show _=_;rw[HZ.o,hn]
         have aP:Hid (0<ay.pos):=by show 0<ay.pos;rw[znh hn];exact ag
         clear s;go_wp2;go_roundg (gk-1)
         case rel=>exact⟨j1,Sy,ay,rfl,by have:=HJ.o;omega,aE.o,aP.o,aI,aG,aB.o⟩
         case measure=>omega
       ·have Y: ¬(j:Int)<(l.length:Int):=by omega
        have HZ:Hid (zaK C l q= .ok q'):=by show _=_;rw[al.o,List.drop_eq_nil_of_le (by omega)];rfl
        go_wp2;go_end0;rw[HZ.o];exact⟨rfl,S',J,L⟩
theorem zvO (G:PS) (l:List Ep) (w wc:World) (U:IM C g b c d T p w) (h:IM C g b c d q G wc) (X:IS d T w q wc) (hC:zb2 C) (O:l.length<=4000) (V:l.length≠0) (K:Fr 103 4 wc n W l.length (l.flatMap (fun e=>epL (zL e))) q) (N:w.heap.size<=n):
  Calls prog 248 #[.pointer (some ⟨d,0,none⟩),.slice W.a l.length W.cap] wc (zaa C g b c d (zaK C l G) id (fun _=>.tuple #[]) T w):=by
 rcases K.1.nil_or with ⟨_,_,e⟩|⟨F,L⟩
 ·exact absurd e V
 ·have Z:w.heap.size<=F:=Nat.le_trans N (K.1.typed (show W.blk=some F by rw[Rw.blk,L];rfl)).1;rw[L];cases Y:isT C G.pos 1 zac with
  |true=>exact zvN C g b c d n F W T q p G l w wc U h X hC O K L Z Y
  |false=>
   cases ha:zaN l with
   |true=>exact zvM C g b c d n F W T q p G l w wc U h X O K L Y ha
   |false=>exact zvL C g b c d n F W T q p G l w wc U h X O K L Y ha
theorem zvP {b:PS} (h:zae D u t E= .ok b):b={E with st:=E.st++[⟨u,t,(E.ex.length:Int)-1⟩]}:=by
 unfold zae at h
 split at h
 ·cases h
 ·cases h;rfl
theorem zjv {s:BA0} {b:PS} (h:stmtI D u t s E= .ok b) (L:0<s.size):(∃l e,b.st=l++[⟨u,t,e⟩])/\0<b.pos:=by
 obtain⟨a,K,A⟩:=zr h;obtain⟨c,I,H⟩:=zr A;have w:=zkV _ I;have J:=zvP H;subst J;refine⟨⟨_,_,rfl⟩,?_⟩;rw[w];show 0<a.pos+s.size;omega
theorem zvQ {b:PS} (h:letJ D u E= .ok b):(∃l e,b.st=l++[⟨u,(ze D E.pos).text,e⟩])/\0<b.pos:=by
 obtain⟨a,w,A⟩:=zr h;obtain⟨c,I,H⟩:=zr A;have:=zjv H (by decide);rw[(zbF w).1] at this;exact this
theorem zvR {b:PS} (h:fnI D E= .ok b):(∃l e,b.st=l++[⟨2,(ze D E.pos).text,e⟩])/\0<b.pos:=by
 obtain⟨a,I,A⟩:=zr h;obtain⟨c,K,H⟩:=zr A;obtain⟨d,J,w⟩:=zr H;have:=zjv w (by decide);rw[(zbF I).1] at this;exact this
theorem zno (l:List Sm) (k e:Int) (n:BA0) (w:World) (h:IM C g b c d T p w) (L:p.st=l++[⟨k,n,e⟩]) (J:n.size<=281474976710656) (K:0<p.pos):
  Calls prog 251 #[.pointer (some ⟨d,0,none⟩)] w (zaa C g b c d (zv C ⟨1,n,n,sNone⟩ p) id (fun _=>.tuple #[]) T w):=zqQ C g b c d T p l ⟨k,n,e⟩ w h L J K
def za4 (C:Cx) (q:PS):PR:=
 if isT C q.pos 4 zU then bd (zaC C true (adv q) []) fun a=>zaK C a.2 a.1
 else if isT C q.pos 4 zG then bd (zd C 1 zac (adv q)) fun a=>bd (zR C a) fun b=>bd (zd C 4 cSemi b.1) fun c=>zv C ⟨3,sNone,sNone,b.2⟩ c
 else if isT C q.pos 1 sDefault then bd (stmtI C 1 zc2 cSemi (adv q)) fun a=>zv C ⟨1,sDefault,zc2,sNone⟩ a
 else if isT C q.pos 1 zN then bd (letJ C 1 (adv q)) fun a=>zv C ⟨1,(ze C (q.pos+1)).text,(ze C (q.pos+1)).text,sNone⟩ a
 else if isT C q.pos 1 zab then bd (fnI C (adv q)) fun a=>zv C ⟨1,(ze C (q.pos+1)).text,(ze C (q.pos+1)).text,sNone⟩ a
 else .error (zz C q.pos)
theorem zvS (h:IM C g b c d T p V) (hC:zb2 C) (h1:isT C p.pos 4 zU=true):
  Calls prog 233 #[.pointer (some ⟨d,0,none⟩)] V (zaa C g b c d (za4 C p) id (fun _=>.tuple #[]) T V):=by
 have HY:Hid (za4 C p=bd (zaC C true (adv p) []) fun a=>zaK C a.2 a.1):=by show _=_;rw[za4,h1];rfl
 go_enter func233,ntmps233;go_wp2_with fail;refine (zV C g b c d T p 4 zU _ h (by decide)).mono ?_;rintro e w1 ⟨rfl,N,H⟩;rw[h1] at N ⊢;go_wp2_with fail;refine (zvE C g b c d T (adv p) _ N).mono ?_;cases K:zaC C true (adv p) [] with
 |error F=>
  rintro e w3 ⟨rfl,hb⟩;have Y:=(h.back H).trans hb;have O:Hid (za4 C p= .error F):=bdE HY.o K;unfold Pan;go_wp2;refine⟨rfl,?_⟩;rw[O.o];exact⟨rfl,Y⟩
 |ok U=>
  rintro e w3 ⟨r,S3,rfl,Z,s,f,l0,l1⟩;have aa:=H.trans s;have ab:=zc f;clear s f;have L:=zc (bdO HY.o K);go_wp2_with fail;refine (zvO C g b c d _ r T S3 p U.1 U.2 V _ h Z aa hC l1 (by omega) ab.o H.size).mono ?_;cases J:zaK C U.2 U.1 with
  |error F=>
   rintro e w4 ⟨rfl,Y⟩;have O:=zc (L.o.trans J);unfold Pan;go_wp2;refine⟨rfl,?_⟩;rw[O.o];exact⟨rfl,Y⟩
  |ok a4=>
   rintro e w4 ⟨rfl,S4,X,G⟩;have O:=zc (L.o.trans J);go_wp2;go_end0;rw[O.o];exact⟨rfl,S4,X,G⟩
theorem zvT (h:IM C g b c d T p V) (hC:zb2 C) (h1:isT C p.pos 4 zU=false) (h2:isT C p.pos 4 zG=true):
  Calls prog 233 #[.pointer (some ⟨d,0,none⟩)] V (zaa C g b c d (za4 C p) id (fun _=>.tuple #[]) T V):=by
 have HY:Hid (za4 C p=bd (zd C 1 zac (adv p)) fun a=>bd (zR C a) fun F=>bd (zd C 4 cSemi F.1) fun G=>zv C ⟨3,sNone,sNone,F.2⟩ G):=by show _=_;rw[za4,h1,h2];rfl
 go_enter func233,ntmps233;go_wp2_with fail;refine (zV C g b c d T p 4 zU _ h (by decide)).mono ?_;rintro e w1 ⟨rfl,af,ai⟩;rw[h1] at af ⊢;go_wp2_with fail;refine (zV C g b c d T p 4 zG _ af (by decide)).mono ?_;rintro e w2 ⟨rfl,U,s⟩;rw[h2] at U ⊢;have X:=ai.trans s;clear s;go_wp2_with fail;refine (zfu C g b c d T (adv p) zac _ U).mono ?_;cases aa:zd C 1 zac (adv p) with
 |error P=>
  rintro e w3 ⟨rfl,K⟩;have L:=(h.back X).trans K;have M:Hid (za4 C p= .error P):=bdE HY.o aa;unfold Pan;go_wp2;refine⟨rfl,?_⟩;rw[M.o];exact⟨rfl,L⟩
 |ok a3=>
  rintro e w3 ⟨rfl,S3,ak,s⟩;have ac:=X.trans s;clear s;have ab:=zc (bdO HY.o aa);go_wp2_with fail;refine (zhh C g b c d S3 a3 _ ak hC).mono ?_;cases N:zR C a3 with
  |error P=>
   rintro e w4 ⟨rfl,K⟩;have L:=(h.back ac).trans K;have M:Hid (za4 C p= .error P):=bdE ab.o N;unfold Pan;go_wp2;refine⟨rfl,?_⟩;rw[M.o];exact⟨rfl,L⟩
  |ok a4=>
   rintro e w4 ⟨rfl,S4,ag,s⟩;have O:=ac.trans s;clear s;have ad:=zc (bdO ab.o N);go_wp2_with fail;refine (zcI C g b c d S4 a4.1 59 _ ag).mono ?_;cases J:zd C 4 cSemi a4.1 with
   |error P=>
    rintro e w5 ⟨rfl,K⟩;have L:=(h.back O).trans K;have M:Hid (za4 C p= .error P):=bdE ad.o J;unfold Pan;go_wp2;refine⟨rfl,?_⟩;rw[M.o];exact⟨rfl,L⟩
   |ok a5=>
    rintro e w5 ⟨rfl,S5,ah,s⟩;have ae:=O.trans s;clear s;have Q:=zc (bdO ad.o J);have Y:0<a5.pos:=by rw[(zcj J).1];exact Nat.succ_pos _
    go_wp2_with fail;refine (zgj C g b c d S5 a5 ⟨3,sNone,sNone,a4.2⟩ _ ah Y).mono ?_;cases Z:zv C ⟨3,sNone,sNone,a4.2⟩ a5 with
    |error P=>
     rintro e w6 ⟨rfl,K⟩;have L:=(h.back ae).trans K;have M:Hid (za4 C p= .error P):=Q.o.trans Z;unfold Pan;go_wp2;refine⟨rfl,?_⟩;rw[M.o];exact⟨rfl,L⟩
    |ok a6=>
     rintro e w6 ⟨rfl,S6,aj,s⟩;have al:=ae.trans s;clear s;have am:=zc (Q.o.trans Z);go_wp2;go_end0;rw[am.o];exact⟨rfl,S6,aj,al⟩
theorem zvU (h:IM C g b c d T p V) (h1:isT C p.pos 4 zU=false) (h2:isT C p.pos 4 zG=false) (h3:isT C p.pos 1 sDefault=true):
  Calls prog 233 #[.pointer (some ⟨d,0,none⟩)] V (zaa C g b c d (za4 C p) id (fun _=>.tuple #[]) T V):=by
 have HY:Hid (za4 C p=bd (stmtI C 1 zc2 cSemi (adv p)) fun a=>zv C ⟨1,sDefault,zc2,sNone⟩ a):=by show _=_;rw[za4,h1,h2,h3];rfl
 go_enter func233,ntmps233;go_wp2_with fail;refine (zV C g b c d T p 4 zU _ h (by decide)).mono ?_;rintro e w1 ⟨rfl,X,ad⟩;rw[h1] at X ⊢;go_wp2_with fail;refine (zV C g b c d T p 4 zG _ X (by decide)).mono ?_;rintro e w2 ⟨rfl,M,s⟩;rw[h2] at M ⊢;have ac:=ad.trans s;clear s;go_wp2_with fail;refine (zV C g b c d T p 1 sDefault _ M (by decide)).mono ?_;rintro e w3 ⟨rfl,O,s⟩;rw[h3] at O ⊢;have U:=ac.trans s;clear s;go_wp2_with fail;refine (zeJ C g b c d T (adv p) 1 zc2 cSemi _ O (by decide) (by decide)).mono ?_;cases I:stmtI C 1 zc2 cSemi (adv p) with
 |error F=>
  rintro e w4 ⟨rfl,Y⟩;have HB:=(h.back U).trans Y;have HX:Hid (za4 C p= .error F):=bdE HY.o I;unfold Pan;go_wp2;refine⟨rfl,?_⟩;rw[HX.o];exact⟨rfl,HB⟩
 |ok a4=>
  rintro e w4 ⟨rfl,S4,Z,s⟩;have L:=U.trans s;clear s;have G:=zc (bdO HY.o I);have N:=(zjv I (by decide)).2;go_wp2_with fail;refine (zgj C g b c d S4 a4 ⟨1,sDefault,zc2,sNone⟩ _ Z N).mono ?_;cases K:zv C ⟨1,sDefault,zc2,sNone⟩ a4 with
  |error F=>
   rintro e w5 ⟨rfl,Y⟩;have HB:=(h.back L).trans Y;have HX:Hid (za4 C p= .error F):=G.o.trans K;unfold Pan;go_wp2;refine⟨rfl,?_⟩;rw[HX.o];exact⟨rfl,HB⟩
  |ok a5=>
   rintro e w5 ⟨rfl,S5,aa,s⟩;have ae:=L.trans s;clear s;have ab:=zc (G.o.trans K);go_wp2;go_end0;rw[ab.o];exact⟨rfl,S5,aa,ae⟩
theorem zvV (h:IM C g b c d T p V) (hC:zb2 C) (h1:isT C p.pos 4 zU=false) (h2:isT C p.pos 4 zG=false) (h3:isT C p.pos 1 sDefault=false) (h4:isT C p.pos 1 zN=true):
  Calls prog 233 #[.pointer (some ⟨d,0,none⟩)] V (zaa C g b c d (za4 C p) id (fun _=>.tuple #[]) T V):=by
 have HY:Hid (za4 C p=bd (letJ C 1 (adv p)) fun a=>zv C ⟨1,(ze C (p.pos+1)).text,(ze C (p.pos+1)).text,sNone⟩ a):=by show _=_;rw[za4,h1,h2,h3,h4];rfl
 go_enter func233,ntmps233;go_wp2_with fail;refine (zV C g b c d T p 4 zU _ h (by decide)).mono ?_;rintro e w1 ⟨rfl,Z,ac⟩;rw[h1] at Z ⊢;go_wp2_with fail;refine (zV C g b c d T p 4 zG _ Z (by decide)).mono ?_;rintro e w2 ⟨rfl,L,s⟩;rw[h2] at L ⊢;have ab:=ac.trans s;clear s;go_wp2_with fail;refine (zV C g b c d T p 1 sDefault _ L (by decide)).mono ?_;rintro e w3 ⟨rfl,X,s⟩;rw[h3] at X ⊢;have af:=ab.trans s;clear s;go_wp2_with fail;refine (zV C g b c d T p 1 zN _ X (by decide)).mono ?_;rintro e w4 ⟨rfl,M,s⟩;rw[h4] at M ⊢;have K:=af.trans s;clear s;go_wp2_with fail;refine (ziE C g b c d T (adv p) _ M).mono ?_;cases J:letJ C 1 (adv p) with
 |error F=>
  rintro e w5 ⟨rfl,hb⟩;have HB:=(h.back K).trans hb;have HX:Hid (za4 C p= .error F):=bdE HY.o J;unfold Pan;go_wp2;refine⟨rfl,?_⟩;rw[HX.o];exact⟨rfl,HB⟩
 |ok a5=>
  rintro e w5 ⟨rfl,S5,aa,s⟩;have Y:=K.trans s;clear s;have O:=zc (bdO HY.o J);obtain⟨⟨l,e,N⟩,G⟩:=zvQ J;have ah:=zc N;clear N;go_wp2_with fail;refine (zno C g b c d S5 a5 l _ _ (ze C (p.pos+1)).text _ aa ah.o (hC _) G).mono ?_;cases U:zv C ⟨1,(ze C (p.pos+1)).text,(ze C (p.pos+1)).text,sNone⟩ a5 with
  |error F=>
   rintro e w6 ⟨rfl,hb⟩;have HB:=(h.back Y).trans hb;have HX:Hid (za4 C p= .error F):=O.o.trans U;unfold Pan;go_wp2;refine⟨rfl,?_⟩;rw[HX.o];exact⟨rfl,HB⟩
  |ok a6=>
   rintro e w6 ⟨rfl,S6,ad,s⟩;have ae:=Y.trans s;clear s;have ag:=zc (O.o.trans U);go_wp2;go_end0;rw[ag.o];exact⟨rfl,S6,ad,ae⟩
theorem zvW (h:IM C g b c d T p V) (hC:zb2 C) (h1:isT C p.pos 4 zU=false) (h2:isT C p.pos 4 zG=false) (h3:isT C p.pos 1 sDefault=false) (h4:isT C p.pos 1 zN=false) (h5:isT C p.pos 1 zab=true):
  Calls prog 233 #[.pointer (some ⟨d,0,none⟩)] V (zaa C g b c d (za4 C p) id (fun _=>.tuple #[]) T V):=by
 have HY:Hid (za4 C p=bd (fnI C (adv p)) fun a=>zv C ⟨1,(ze C (p.pos+1)).text,(ze C (p.pos+1)).text,sNone⟩ a):=by show _=_;rw[za4,h1,h2,h3,h4,h5];rfl
 go_enter func233,ntmps233;go_wp2_with fail;refine (zV C g b c d T p 4 zU _ h (by decide)).mono ?_;rintro e w1 ⟨rfl,Z,ae⟩;rw[h1] at Z ⊢;go_wp2_with fail;refine (zV C g b c d T p 4 zG _ Z (by decide)).mono ?_;rintro e w2 ⟨rfl,K,s⟩;rw[h2] at K ⊢;have af:=ae.trans s;clear s;go_wp2_with fail;refine (zV C g b c d T p 1 sDefault _ K (by decide)).mono ?_;rintro e w3 ⟨rfl,U,s⟩;rw[h3] at U ⊢;have ah:=af.trans s;clear s;go_wp2_with fail;refine (zV C g b c d T p 1 zN _ U (by decide)).mono ?_;rintro e w4 ⟨rfl,L,s⟩;rw[h4] at L ⊢;have ab:=ah.trans s;clear s;go_wp2_with fail;refine (zV C g b c d T p 1 zab _ L (by decide)).mono ?_;rintro e w5 ⟨rfl,N,s⟩;rw[h5] at N ⊢;have X:=ab.trans s;clear s;go_wp2_with fail;refine (ziF C g b c d T (adv p) _ N).mono ?_;cases J:fnI C (adv p) with
 |error F=>
  rintro e w6 ⟨rfl,hb⟩;have HB:=(h.back X).trans hb;have HX:Hid (za4 C p= .error F):=bdE HY.o J;unfold Pan;go_wp2;refine⟨rfl,?_⟩;rw[HX.o];exact⟨rfl,HB⟩
 |ok a6=>
  rintro e w6 ⟨rfl,S6,ag,s⟩;have G:=X.trans s;clear s;have aa:=zc (bdO HY.o J);obtain⟨⟨l,e,M⟩,O⟩:=zvR J;have aj:=zc M;clear M;go_wp2_with fail;refine (zno C g b c d S6 a6 l _ _ (ze C (p.pos+1)).text _ ag aj.o (hC _) O).mono ?_;cases Y:zv C ⟨1,(ze C (p.pos+1)).text,(ze C (p.pos+1)).text,sNone⟩ a6 with
  |error F=>
   rintro e w7 ⟨rfl,hb⟩;have HB:=(h.back G).trans hb;have HX:Hid (za4 C p= .error F):=aa.o.trans Y;unfold Pan;go_wp2;refine⟨rfl,?_⟩;rw[HX.o];exact⟨rfl,HB⟩
  |ok a7=>
   rintro e w7 ⟨rfl,S7,ad,s⟩;have ai:=G.trans s;clear s;have ac:=zc (aa.o.trans Y);go_wp2;go_end0;rw[ac.o];exact⟨rfl,S7,ad,ai⟩
theorem zvX (h:IM C g b c d T p V) (h1:isT C p.pos 4 zU=false) (Z:isT C p.pos 4 zG=false) (h3:isT C p.pos 1 sDefault=false) (h4:isT C p.pos 1 zN=false) (h5:isT C p.pos 1 zab=false):
  Calls prog 233 #[.pointer (some ⟨d,0,none⟩)] V (zaa C g b c d (za4 C p) id (fun _=>.tuple #[]) T V):=by
 have HY:Hid (za4 C p= .error (zz C p.pos)):=by show _=_;rw[za4,h1,Z,h3,h4,h5];rfl
 go_enter func233,ntmps233;go_wp2_with fail;refine (zV C g b c d T p 4 zU _ h (by decide)).mono ?_;rintro e w1 ⟨rfl,N,U⟩;rw[h1] at N ⊢;go_wp2_with fail;refine (zV C g b c d T p 4 zG _ N (by decide)).mono ?_;rintro e w2 ⟨rfl,K,s⟩;rw[Z] at K ⊢;have F:=U.trans s;clear s;go_wp2_with fail;refine (zV C g b c d T p 1 sDefault _ K (by decide)).mono ?_;rintro e w3 ⟨rfl,M,s⟩;rw[h3] at M ⊢;have X:=F.trans s;clear s;go_wp2_with fail;refine (zV C g b c d T p 1 zN _ M (by decide)).mono ?_;rintro e w4 ⟨rfl,L,s⟩;rw[h4] at L ⊢;have O:=X.trans s;clear s;go_wp2_with fail;refine (zV C g b c d T p 1 zab _ L (by decide)).mono ?_;rintro e w5 ⟨rfl,J,s⟩;rw[h5] at J ⊢;have Y:=O.trans s;clear s;go_wp2_with fail;refine (zft C g b c d T p _ J).mono ?_;rintro e wz ⟨rfl,hb⟩;have HB:=(h.back Y).trans (hb.mono J.mem.base);have HX:Hid (za4 C p= .error (zz C p.pos)):=HY.o;unfold Pan;go_wp2;refine⟨rfl,?_⟩;rw[HX.o];exact⟨rfl,HB⟩
theorem zvY (h:IM C g b c d T p V) (L:zb2 C):
  Calls prog 233 #[.pointer (some ⟨d,0,none⟩)] V (zaa C g b c d (za4 C p) id (fun _=>.tuple #[]) T V):=by
 cases J:isT C p.pos 4 zU with
 |true=>exact zvS C g b c d T p V h L J
 |false=>
  cases K:isT C p.pos 4 zG with
  |true=>exact zvT C g b c d T p V h L J K
  |false=>
   cases M:isT C p.pos 1 sDefault with
   |true=>exact zvU C g b c d T p V h J K M
   |false=>
    cases N:isT C p.pos 1 zN with
    |true=>exact zvV C g b c d T p V h L J K M N
    |false=>
     cases O:isT C p.pos 1 zab with
     |true=>exact zvW C g b c d T p V h L J K M N O
     |false=>exact zvX C g b c d T p V h J K M N O
