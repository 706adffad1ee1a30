/- Facts. -/
import Derived.RegionDies
import Derived.Test.YtegdaafmaookjaaGreatP13
namespace Go.Proofs.YtegdaafmaookjaaGreat
open Go.Proofs.Tryz
set_option maxRecDepth 100000
set_option maxHeartbeats 3200000
open Go.RowKit Go.PlainAid Go.Sort
variable (C:Cx) (g b c d:Nat) (S:Sv) (q:PS) (w:Ep) {V:World} {n:Nat} {T:Sv}
theorem zfv (L:Nat) (S:Sv) (q:PS) (z m:Int) (w:World) (h:IM C g b c L S q w) (hc:m<=z) (hp:0<q.pos):
  Calls prog 256 #[.pointer (some ⟨L,0,none⟩),.int .i64 z,.int .i64 m] w fun e w'=>e=Pan (zz C (q.pos-1))/\Bw w w':=by
 obtain⟨c0,c1,c2,c3,_,_,_,_,_,_,cf⟩:=zan h.cells;have hd:decide (m<=z)=true:=dT hc;have M:=(za1 h.mem.tok).1;have U:=h.mem.few;have A:=h.mem.inv.pos;obtain⟨k,Z⟩: ∃k,q.pos=k+1:=⟨q.pos-1,by omega⟩;have Y:(q.pos:Int)-1=(k:Int):=by omega
 have HK:Hid (q.pos-1=k):=by show q.pos-1=k;omega
 have H:k<C.ts.length:=by omega
 have X:(k:Int)<(C.ts.length:Int):=by omega
 have aa:IntKind.i64.wrap (k:Int)=(k:Int):=IntWalk.i64_in _ ⟨by omega,by omega⟩;obtain⟨N,O,J,K⟩:=h.mem.tok.cells H (d:=⟨0,sNone,0,C.fin⟩);change _=some (Value.int .i64 (ze C k).kind) at N;change _=some (Value.string (ze C k).text) at O;change _=some (Value.int .i64 (ze C k).num) at J;change _=some (Value.int .i64 (ze C k).pos) at K;have V:Hid (zz C k=(ze C k).pos):=rfl;generalize ze C k=t at N O J K V;clear h Z A hp;go_enter func256,ntmps256;go_wp2;go_region_dies
 all_goals
  refine⟨rfl,?_⟩;rw[HK.o,V.o];exact⟨rfl,(Below.refl _ _).drew⟩
theorem zfw (x:Ex) (w:World) (h:IM C g b c d S q w) (O:0<q.pos):
  Calls prog 269 #[.pointer (some ⟨d,0,none⟩),exV x] w (zaa C g b c d (zZ C x q) id (fun q'=>.int .i64 ((q'.ex.length:Int)-1)) S w):=by
 by_cases X:q.ex.length<300
 ·refine (zqr C g b c d S q x w h X).mono ?_;rintro e K ⟨rfl,Y,V,U⟩;rw[zZ,if_neg (by omega)];exact⟨by simp,Y,V,U⟩
 ·have J:Hid (IM C g b c d S q w):=h;have Z:Hid (zZ C x q= .error (zz C (q.pos-1))):=by show _=_;rw[zZ,if_pos (by omega)]
  obtain⟨c0,c1,c2,c3,c4,c5,c6,c7,c8,c9,cf⟩:=zan h.cells;have L:=h.lt;clear h;unfold exV;go_enter func269,ntmps269;go_wp2_with fail;refine (zfv C g b c d S q q.ex.length 300 _ (J.o.alloc _) (by omega) O).mono ?_;rintro e K ⟨rfl,M⟩;have N:Below c w K:=((bA0).mono J.o.mem.base).trans (M.mono (J.o.alloc _).mem.base);unfold Pan;go_wp2;refine⟨rfl,?_⟩;rw[Z.o];exact⟨rfl,N⟩
theorem zqt (x:Im) (w:World) (h:IM C g b c d S q w) (O:0<q.pos):
  Calls prog 263 #[.pointer (some ⟨d,0,none⟩),imV x] w (zaa C g b c d (zau C x q) id (fun _=>.tuple #[]) S w):=by
 by_cases X:q.im.length<40
 ·refine (zqs C g b c d S q x w h X).mono ?_;rintro e K ⟨rfl,Y,V,U⟩;rw[zau,if_neg (by omega)];exact⟨rfl,Y,V,U⟩
 ·have J:Hid (IM C g b c d S q w):=h;have Z:Hid (zau C x q= .error (zz C (q.pos-1))):=by show _=_;rw[zau,if_pos (by omega)]
  obtain⟨c0,c1,c2,c3,c4,c5,c6,c7,c8,c9,cf⟩:=zan h.cells;have L:=h.lt;clear h;unfold imV;go_enter func263,ntmps263;go_wp2_with fail;refine (zfv C g b c d S q q.im.length 40 _ (J.o.alloc _) (by omega) O).mono ?_;rintro e K ⟨rfl,M⟩;have N:Below c w K:=((bA0).mono J.o.mem.base).trans (M.mono (J.o.alloc _).mem.base);unfold Pan;go_wp2;refine⟨rfl,?_⟩;rw[Z.o];exact⟨rfl,N⟩
theorem zp {P:Program} {q:Code} {Q:Exit->Act->World->Prop} {a:Act} {R:World->Prop} (w:R V) (h: ∀W,R W->Code.wp P q Q a W):Code.wp P q Q a V:=h V w
theorem zhf: ∀u∈epL w,u.oneCell'=true:=by
 intro u h;simp[epL] at h;rcases h with rfl|rfl|rfl|rfl<;>rfl
theorem IM.back {C:Cx} {A base H:Nat} {J:Sv} {q:PS} {w':World} (h:IM C n A base H T q V) (s:IS H T V J w'):Below base V w':=s.under h.mem.base h.mem.own h.ge
theorem IS.grownI {q:Sv} {A w':World} (h:Bw V A) (k:IS n T A q w'):IS n T V q w':=(IS.below h).trans k
theorem zqu (s:World) (h:IM C g b c d S q s) (hn:q.ep.length+q.la.length<40) (he:(w.loc.toList==[42,100,101,102,97,117,108,116])=false):
  Calls prog 250 #[.pointer (some ⟨d,0,none⟩),epV w] s fun e w'=>e= .returned (.tuple #[])/\∃S',IM C g b c d S' {q with ep:=q.ep++[w]} w'/\IS d S s S' w':=by
 obtain⟨i0,hi,aa,ad,af⟩:=info_parts Tryz.infoExp;have aj:=h.lt;have HA:Hid (IM C g b c d S q (s.alloc (.cells #[.int .i64 w.kind,.string w.name,.string w.loc,.string w.spec] 103))):=h.alloc _;have cR: ∀z os,Calls prog 256 #[.pointer (some ⟨d,0,none⟩),.int .i64 ((q.ep.length:Int)+q.la.length),.int .i64 40] (grow (redrawn (s.alloc (.cells #[.int .i64 w.kind,.string w.name,.string w.loc,.string w.spec] 103)) z) os) fun e ah=>e= .returned (.tuple #[])/\∃p:Regrown,ah=grow (redrawn (s.alloc (.cells #[.int .i64 w.kind,.string w.name,.string w.loc,.string w.spec] 103)) p.d) p.os:=
  fun z os=>Calls.regrown_of ((zeE d _ 40 _ (by omega)).mono (by rintro e w' ⟨rfl,rfl⟩;exact⟨rfl,Below.refl _ _⟩))
 obtain⟨_,_,_,_,_,_,Y,_,_,V,_⟩:=zan HA.o.cells;have C6:=zc Y;have C9:=zc V;have am:IntKind.i64.wrap ((q.ep.length:Int)+(q.la.length:Int))=(q.ep.length:Int)+(q.la.length:Int):=IntWalk.i64_in _ ⟨by omega,by omega⟩;clear Y V;unfold epV;go_enter func250,ntmps250;go_wp2_with fail;have k6:=cR0 C6.o;have k9:=cR0 C9.o;refine wp_region_quiet_below (by kernel_rfl) (by kernel_rfl) ?_
 repeat (go_big_quiet_step (exact cR _ _))
 refine wpQuiet_nil ?_;intro I Z;obtain⟨⟨dq,al⟩,J⟩:=Z;have N:Below (s.alloc (.cells #[.int .i64 w.kind,.string w.name,.string w.loc,.string w.spec] 103)).heap.size (s.alloc (.cells #[.int .i64 w.kind,.string w.name,.string w.loc,.string w.spec] 103)) I:=by show Below _ _ _;rw[J];exact below_regrown _ _ _
 clear J k6 k9 cR C6 C9;have M:Hid (IM C g b c d S q I):=HA.o.later N;have HG:Hid (I.heap[s.heap.size]? =some (.cells #[.int .i64 w.kind,.string w.name,.string w.loc,.string w.spec] 103 (0,0))):=(N.block _ (by rw[zh];omega)).trans (hN0 s _);have HW:Bw s I:=(bA0).trans (N.mono (by rw[zh];omega));obtain⟨b0,b1,b2,b3,bf⟩:=zbW HG.o;obtain⟨c0,c1,c2,c3,c4,c5,Y,c7,c8,V,cf⟩:=zan M.o.cells;have O:=fun L=>(M.o.mem.own.ep.drew.alloc L);have ak:=M.o.mem.base;have ai:=M.o.lt;have HN:Hid (some d≠S.ep.blk):=fun e=>M.o.free (.inr (.inr (.inl e.symm)));have ae: ∀L,c<=(I.alloc L).heap.size:=fun L=>by rw[zh];omega
 have ag: ∀L,d<(I.alloc L).heap.size:=fun L=>by rw[zh];omega
 go_wp2_with fail;go_region_law (first|(refine zgg rfl (.tmp 36) (.tmp 38) 55 rfl c 103 i0 _ 4 56 underlying55 hi aa ad af rfl (by decide) (by decide) S.ep q.ep.length (q.ep.flatMap epL) (by rfl) (by exact O _) I.heap.size (epL w) (by rfl) (by exact hN0 I _) rfl (zhf w) (by omega) (by exact ae _) ?_;intro r' w2 hr K U;have g2:=(K.block d (by exact ag _) HN.o).trans (by exact (M.o.alloc _).cells);obtain⟨d0,d1,d2,d3,d4,d5,d6,d7,d8,d9,df⟩:=zan g2))
 all_goals
  have HR:=zc hr;have ac:=zc K;have ab:=zc U;clear hr K U g2 c0 c1 c2 c3 c4 c5 Y c7 c8 V cf b0 b1 b2 b3 bf;go_wp2;go_end0;obtain⟨m',s'⟩:=M.o.grow_ep (bA0).drew ac.o HR.o ab.o hn;exact⟨rfl,_,m',s'.grownI HW⟩
theorem zqv (s:World) (h:IM C g b c d S q s) (hn:q.ep.length+q.la.length<40) (he:(w.loc.toList==[42,100,101,102,97,117,108,116])=true):
  Calls prog 250 #[.pointer (some ⟨d,0,none⟩),epV w] s fun e w'=>e= .returned (.tuple #[])/\∃S',IM C g b c d S' {q with la:=q.la++[w]} w'/\IS d S s S' w':=by
 obtain⟨i0,hi,aa,ad,af⟩:=info_parts Tryz.infoExp;have aj:=h.lt;have HA:Hid (IM C g b c d S q (s.alloc (.cells #[.int .i64 w.kind,.string w.name,.string w.loc,.string w.spec] 103))):=h.alloc _;have cR: ∀z os,Calls prog 256 #[.pointer (some ⟨d,0,none⟩),.int .i64 ((q.ep.length:Int)+q.la.length),.int .i64 40] (grow (redrawn (s.alloc (.cells #[.int .i64 w.kind,.string w.name,.string w.loc,.string w.spec] 103)) z) os) fun e ah=>e= .returned (.tuple #[])/\∃p:Regrown,ah=grow (redrawn (s.alloc (.cells #[.int .i64 w.kind,.string w.name,.string w.loc,.string w.spec] 103)) p.d) p.os:=
  fun z os=>Calls.regrown_of ((zeE d _ 40 _ (by omega)).mono (by rintro e w' ⟨rfl,rfl⟩;exact⟨rfl,Below.refl _ _⟩))
 obtain⟨_,_,_,_,_,_,Y,_,_,V,_⟩:=zan HA.o.cells;have C6:=zc Y;have C9:=zc V;have am:IntKind.i64.wrap ((q.ep.length:Int)+(q.la.length:Int))=(q.ep.length:Int)+(q.la.length:Int):=IntWalk.i64_in _ ⟨by omega,by omega⟩;clear Y V;unfold epV;go_enter func250,ntmps250;go_wp2_with fail;have k6:=cR0 C6.o;have k9:=cR0 C9.o;refine wp_region_quiet_below (by kernel_rfl) (by kernel_rfl) ?_
 repeat (go_big_quiet_step (exact cR _ _))
 refine wpQuiet_nil ?_;intro I Z;obtain⟨⟨dq,al⟩,J⟩:=Z;have N:Below (s.alloc (.cells #[.int .i64 w.kind,.string w.name,.string w.loc,.string w.spec] 103)).heap.size (s.alloc (.cells #[.int .i64 w.kind,.string w.name,.string w.loc,.string w.spec] 103)) I:=by show Below _ _ _;rw[J];exact below_regrown _ _ _
 clear J k6 k9 cR C6 C9;have M:Hid (IM C g b c d S q I):=HA.o.later N;have HG:Hid (I.heap[s.heap.size]? =some (.cells #[.int .i64 w.kind,.string w.name,.string w.loc,.string w.spec] 103 (0,0))):=(N.block _ (by rw[zh];omega)).trans (hN0 s _);have HW:Bw s I:=(bA0).trans (N.mono (by rw[zh];omega));obtain⟨b0,b1,b2,b3,bf⟩:=zbW HG.o;obtain⟨c0,c1,c2,c3,c4,c5,Y,c7,c8,V,cf⟩:=zan M.o.cells;have O:=fun L=>(M.o.mem.own.la.drew.alloc L);have ak:=M.o.mem.base;have ai:=M.o.lt;have HN:Hid (some d≠S.la.blk):=fun e=>M.o.free (.inr (.inr (.inr (.inr (.inr e.symm)))));have ae: ∀L,c<=(I.alloc L).heap.size:=fun L=>by rw[zh];omega
 have ag: ∀L,d<(I.alloc L).heap.size:=fun L=>by rw[zh];omega
 go_wp2_with fail;go_region_law (first|(refine zgg rfl (.tmp 25) (.tmp 27) 55 rfl c 103 i0 _ 4 56 underlying55 hi aa ad af rfl (by decide) (by decide) S.la q.la.length (q.la.flatMap epL) (by rfl) (by exact O _) I.heap.size (epL w) (by rfl) (by exact hN0 I _) rfl (zhf w) (by omega) (by exact ae _) ?_;intro r' w2 hr K U;have g2:=(K.block d (by exact ag _) HN.o).trans (by exact (M.o.alloc _).cells);obtain⟨d0,d1,d2,d3,d4,d5,d6,d7,d8,d9,df⟩:=zan g2))
 all_goals
  have HR:=zc hr;have ac:=zc K;have ab:=zc U;clear hr K U g2 c0 c1 c2 c3 c4 c5 Y c7 c8 V cf b0 b1 b2 b3 bf;go_wp2;go_end0;obtain⟨m',s'⟩:=M.o.grow_la (bA0).drew ac.o HR.o ab.o hn;exact⟨rfl,_,m',s'.grownI HW⟩
theorem zqw (z:World) (h:IM C g b c d S q z) (hn: ¬q.ep.length+q.la.length<40) (O:0<q.pos):
  Calls prog 250 #[.pointer (some ⟨d,0,none⟩),epV w] z fun e w'=>e=Pan (zz C (q.pos-1))/\Below c z w':=by
 have L:=h.lt;have U:=h.mem.inv.ep;have I:Hid (IM C g b c d S q (z.alloc (.cells #[.int .i64 w.kind,.string w.name,.string w.loc,.string w.spec] 103))):=h.alloc _;obtain⟨c0,c1,c2,c3,c4,c5,c6,Z,X,Y,cf⟩:=zan I.o.cells;have V:IntKind.i64.wrap ((q.ep.length:Int)+(q.la.length:Int))=(q.ep.length:Int)+(q.la.length:Int):=IntWalk.i64_in _ ⟨by omega,by omega⟩;unfold epV;go_enter func250,ntmps250;go_wp2_with fail;go_region_dies
 all_goals
  refine (zfv C g b c d S q _ 40 _ I.o.drew (by omega) O).mono ?_;rintro e K ⟨rfl,M⟩;have N:Below c z K:=((bA0).drew.mono h.mem.base).trans (M.mono I.o.drew.mem.base);exact⟨rfl,rfl,N⟩
theorem zgj (z:World) (h:IM C g b c d S q z) (U:0<q.pos):
  Calls prog 250 #[.pointer (some ⟨d,0,none⟩),epV w] z (zaa C g b c d (zv C w q) id (fun _=>.tuple #[]) S z):=by
 by_cases N:q.ep.length+q.la.length<40
 ·cases J:(w.loc.toList==[42,100,101,102,97,117,108,116]) with
  |true=>
   refine (zqv C g b c d S q w z h N J).mono ?_;rintro e O ⟨rfl,K,M,L⟩;rw[zv,if_neg (by omega),if_pos J];exact⟨rfl,K,M,L⟩
  |false=>
   refine (zqu C g b c d S q w z h N J).mono ?_;rintro e O ⟨rfl,K,M,L⟩;rw[zv,if_neg (by omega),if_neg (by rw[J];decide)];exact⟨rfl,K,M,L⟩
 ·refine (zqw C g b c d S q w z h N U).mono ?_;rintro e O ⟨rfl,V⟩;rw[zv,if_pos (by omega)];exact⟨rfl,V⟩
