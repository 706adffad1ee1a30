/- Facts and walks. -/
import Derived.RegionDies
import Derived.Test.YtgcbmogmniahjaaGreatK12
namespace Go.Proofs.YtgcbmogmniahjaaGreat
open Go.Proofs.Tryz
set_option maxRecDepth 100000
set_option maxHeartbeats 3200000
open Go.RowKit Go.PlainAid Go.Sort
variable (C:Cx) (g b c d:Nat) (S:Sv) (q:PS) (w:Ep) {V:World} {n:Nat} {T:Sv}
theorem zeU (I:Nat) (S:Sv) (q:PS) (s m:Int) (w:World) (h:IM C g b c I S q w) (hc:m<=s) (Y:0<q.pos):
  Calls prog 240 #[.pointer (some ⟨I,0,none⟩),.int .i64 s,.int .i64 m] w fun e O=>e=Pan (zt C (q.pos-1))/\Bw w O:=by
 obtain⟨c0,c1,c2,c3,_,_,_,_,_,_,cf⟩:=zai h.cells;have hd:decide (m<=s)=true:=decide_eq_true hc;have J:=(zaw h.mem.tok).1;have M:=h.mem.few;have z:=h.mem.inv.pos;obtain⟨k,X⟩: ∃k,q.pos=k+1:=⟨q.pos-1,by omega⟩;have V:(q.pos:Int)-1=(k:Int):=by omega
 have HK:Hid (q.pos-1=k):=by show q.pos-1=k;omega
 have A:k<C.ts.length:=by omega
 have U:(k:Int)<(C.ts.length:Int):=by omega
 have aa:IntKind.i64.wrap (k:Int)=(k:Int):=IntWalk.i64_in _ ⟨by omega,by omega⟩;obtain⟨K,L,E,H⟩:=h.mem.tok.cells A (d:=⟨0,sNone,0,C.fin⟩);change _=some (Value.int .i64 (ze C k).kind) at K;change _=some (Value.string (ze C k).text) at L;change _=some (Value.int .i64 (ze C k).num) at E;change _=some (Value.int .i64 (ze C k).pos) at H;have N:Hid (zt C k=(ze C k).pos):=rfl;generalize ze C k=t at K L E H N;clear h X z Y;go_enter func240,ntmps240;go_wp2;go_region_dies
 all_goals
  refine⟨rfl,?_⟩;rw[HK.o,N.o];exact⟨rfl,(Below.refl _ _).drew⟩
theorem zeV (x:Ex) (w:World) (h:IM C g b c d S q w) (L:0<q.pos):
  Calls prog 253 #[.pointer (some ⟨d,0,none⟩),exV x] w (zV C g b c d (zT C x q) id (fun q'=>.int .i64 ((q'.ex.length:Int)-1)) S w):=by
 by_cases O:q.ex.length<300
 ·refine (zo5 C g b c d S q x w h O).mono ?_;rintro e H ⟨rfl,U,N,M⟩;rw[zT,if_neg (by omega)];exact⟨by simp,U,N,M⟩
 ·have E:Hid (IM C g b c d S q w):=h;have V:Hid (zT C x q= .error (zt C (q.pos-1))):=by show _=_;rw[zT,if_pos (by omega)]
  obtain⟨c0,c1,c2,c3,c4,c5,c6,Z,X,Y,cf⟩:=zai h.cells;have I:=h.lt;clear h;unfold exV;go_enter func253,ntmps253;go_wp2_with fail;refine (zeU C g b c d S q q.ex.length 300 _ (E.o.alloc _) (by omega) L).mono ?_;rintro e H ⟨rfl,J⟩;have K:Below c w H:=((bA0).mono E.o.mem.base).trans (J.mono (E.o.alloc _).mem.base);unfold Pan;go_wp2;refine⟨rfl,?_⟩;rw[V.o];exact⟨rfl,K⟩
theorem zo7 (x:Im) (w:World) (h:IM C g b c d S q w) (L:0<q.pos):
  Calls prog 247 #[.pointer (some ⟨d,0,none⟩),imV x] w (zV C g b c d (zap C x q) id (fun _=>.tuple #[]) S w):=by
 by_cases O:q.im.length<40
 ·refine (zo6 C g b c d S q x w h O).mono ?_;rintro e H ⟨rfl,U,N,M⟩;rw[zap,if_neg (by omega)];exact⟨rfl,U,N,M⟩
 ·have E:Hid (IM C g b c d S q w):=h;have V:Hid (zap C x q= .error (zt C (q.pos-1))):=by show _=_;rw[zap,if_pos (by omega)]
  obtain⟨c0,c1,c2,c3,c4,c5,c6,Z,X,Y,cf⟩:=zai h.cells;have I:=h.lt;clear h;unfold imV;go_enter func247,ntmps247;go_wp2_with fail;refine (zeU C g b c d S q q.im.length 40 _ (E.o.alloc _) (by omega) L).mono ?_;rintro e H ⟨rfl,J⟩;have K:Below c w H:=((bA0).mono E.o.mem.base).trans (J.mono (E.o.alloc _).mem.base);unfold Pan;go_wp2;refine⟨rfl,?_⟩;rw[V.o];exact⟨rfl,K⟩
theorem zu {P:Program} {q:Code} {Q:Exit->Act->World->Prop} {a:Act} {R:World->Prop} (w:R V) (h: ∀W,R W->Code.wp P q Q a W):Code.wp P q Q a V:=h V w
theorem zg0: ∀u∈epL w,u.oneCell'=true:=by
 intro u h;simp[epL] at h;rcases h with rfl|rfl|rfl|rfl<;>rfl
theorem IM.back {C:Cx} {z base A:Nat} {E:Sv} {q:PS} {D:World} (h:IM C n z base A T q V) (s:IS A T V E D):Below base V D:=s.under h.mem.base h.mem.own h.ge
theorem IS.grownI {q:Sv} {A z:World} (h:Bw V A) (k:IS n T A q z):IS n T V q z:=(IS.below h).trans k
theorem zo8 (k:World) (h:IM C g b c d S q k) (hn:q.ep.length+q.la.length<40) (he:(w.loc.toList==[42,100,101,102,97,117,108,116])=false):
  Calls prog 234 #[.pointer (some ⟨d,0,none⟩),epV w] k fun e w'=>e= .returned (.tuple #[])/\∃S',IM C g b c d S' {q with ep:=q.ep++[w]} w'/\IS d S k S' w':=by
 obtain⟨i0,hi,Z,ae,ac⟩:=info_parts Tryz.infoExp;have ah:=h.lt;have HA:Hid (IM C g b c d S q (k.alloc (.cells #[.int .i64 w.kind,.string w.name,.string w.loc,.string w.spec] 97))):=h.alloc _;have cR: ∀s os,Calls prog 240 #[.pointer (some ⟨d,0,none⟩),.int .i64 ((q.ep.length:Int)+q.la.length),.int .i64 40] (grow (redrawn (k.alloc (.cells #[.int .i64 w.kind,.string w.name,.string w.loc,.string w.spec] 97)) s) os) fun e ad=>e= .returned (.tuple #[])/\∃p:Regrown,ad=grow (redrawn (k.alloc (.cells #[.int .i64 w.kind,.string w.name,.string w.loc,.string w.spec] 97)) p.d) p.os:=
  fun s os=>Calls.regrown_of ((zeq d _ 40 _ (by omega)).mono (by rintro e w' ⟨rfl,rfl⟩;exact⟨rfl,Below.refl _ _⟩))
 obtain⟨_,_,_,_,_,_,U,_,_,N,_⟩:=zai HA.o.cells;have C6:=zc U;have C9:=zc N;have ai:IntKind.i64.wrap ((q.ep.length:Int)+(q.la.length:Int))=(q.ep.length:Int)+(q.la.length:Int):=IntWalk.i64_in _ ⟨by omega,by omega⟩;clear U N;unfold epV;go_enter func234,ntmps234;go_wp2_with fail;have k6:=cell_regrown C6.o;have k9:=cell_regrown C9.o;refine wp_region_quiet_below (by kernel_rfl) (by kernel_rfl) ?_
 repeat (go_big_quiet_step (exact cR _ _))
 refine wpQuiet_nil ?_;intro E Y;obtain⟨⟨dq,aj⟩,D⟩:=Y;have J:Below (k.alloc (.cells #[.int .i64 w.kind,.string w.name,.string w.loc,.string w.spec] 97)).heap.size (k.alloc (.cells #[.int .i64 w.kind,.string w.name,.string w.loc,.string w.spec] 97)) E:=by show Below _ _ _;rw[D];exact below_regrown _ _ _
 clear D k6 k9 cR C6 C9;have H:Hid (IM C g b c d S q E):=HA.o.later J;have HG:Hid (E.heap[k.heap.size]? =some (.cells #[.int .i64 w.kind,.string w.name,.string w.loc,.string w.spec] 97 (0,0))):=(J.block _ (by rw[zg];omega)).trans (heap_alloc_new k _);have HW:Bw k E:=(bA0).trans (J.mono (by rw[zg];omega));obtain⟨b0,b1,b2,b3,bf⟩:=zbN HG.o;obtain⟨c0,c1,c2,c3,c4,c5,U,c7,c8,N,cf⟩:=zai H.o.cells;have L:=fun I=>(H.o.mem.own.ep.drew.alloc I);have ag:=H.o.mem.base;have af:=H.o.lt;have HN:Hid (some d≠S.ep.blk):=fun e=>H.o.free (.inr (.inr (.inl e.symm)));have V: ∀I,c<=(E.alloc I).heap.size:=fun I=>by rw[zg];omega
 have X: ∀I,d<(E.alloc I).heap.size:=fun I=>by rw[zg];omega
 go_wp2_with fail;go_region_law (first|(refine zfA rfl (.tmp 36) (.tmp 38) 50 rfl c 97 i0 _ 4 56 underlying50 hi Z ae ac rfl (by decide) (by decide) S.ep q.ep.length (q.ep.flatMap epL) (by rfl) (by exact L _) E.heap.size (epL w) (by rfl) (by exact heap_alloc_new E _) rfl (zg0 w) (by omega) (by exact V _) ?_;intro r' w2 hr K M;have g2:=(K.block d (by exact X _) HN.o).trans (by exact (H.o.alloc _).cells);obtain⟨d0,d1,d2,d3,d4,d5,d6,d7,d8,d9,df⟩:=zai g2))
 all_goals
  have HR:=zc hr;have ab:=zc K;have aa:=zc M;clear hr K M g2 c0 c1 c2 c3 c4 c5 U c7 c8 N cf b0 b1 b2 b3 bf;go_wp2;go_end0;obtain⟨m',s'⟩:=H.o.grow_ep (bA0).drew ab.o HR.o aa.o hn;exact⟨rfl,_,m',s'.grownI HW⟩
theorem zo9 (k:World) (h:IM C g b c d S q k) (hn:q.ep.length+q.la.length<40) (he:(w.loc.toList==[42,100,101,102,97,117,108,116])=true):
  Calls prog 234 #[.pointer (some ⟨d,0,none⟩),epV w] k fun e w'=>e= .returned (.tuple #[])/\∃S',IM C g b c d S' {q with la:=q.la++[w]} w'/\IS d S k S' w':=by
 obtain⟨i0,hi,Z,ae,ac⟩:=info_parts Tryz.infoExp;have ah:=h.lt;have HA:Hid (IM C g b c d S q (k.alloc (.cells #[.int .i64 w.kind,.string w.name,.string w.loc,.string w.spec] 97))):=h.alloc _;have cR: ∀s os,Calls prog 240 #[.pointer (some ⟨d,0,none⟩),.int .i64 ((q.ep.length:Int)+q.la.length),.int .i64 40] (grow (redrawn (k.alloc (.cells #[.int .i64 w.kind,.string w.name,.string w.loc,.string w.spec] 97)) s) os) fun e ad=>e= .returned (.tuple #[])/\∃p:Regrown,ad=grow (redrawn (k.alloc (.cells #[.int .i64 w.kind,.string w.name,.string w.loc,.string w.spec] 97)) p.d) p.os:=
  fun s os=>Calls.regrown_of ((zeq d _ 40 _ (by omega)).mono (by rintro e w' ⟨rfl,rfl⟩;exact⟨rfl,Below.refl _ _⟩))
 obtain⟨_,_,_,_,_,_,U,_,_,N,_⟩:=zai HA.o.cells;have C6:=zc U;have C9:=zc N;have ai:IntKind.i64.wrap ((q.ep.length:Int)+(q.la.length:Int))=(q.ep.length:Int)+(q.la.length:Int):=IntWalk.i64_in _ ⟨by omega,by omega⟩;clear U N;unfold epV;go_enter func234,ntmps234;go_wp2_with fail;have k6:=cell_regrown C6.o;have k9:=cell_regrown C9.o;refine wp_region_quiet_below (by kernel_rfl) (by kernel_rfl) ?_
 repeat (go_big_quiet_step (exact cR _ _))
 refine wpQuiet_nil ?_;intro E Y;obtain⟨⟨dq,aj⟩,D⟩:=Y;have J:Below (k.alloc (.cells #[.int .i64 w.kind,.string w.name,.string w.loc,.string w.spec] 97)).heap.size (k.alloc (.cells #[.int .i64 w.kind,.string w.name,.string w.loc,.string w.spec] 97)) E:=by show Below _ _ _;rw[D];exact below_regrown _ _ _
 clear D k6 k9 cR C6 C9;have H:Hid (IM C g b c d S q E):=HA.o.later J;have HG:Hid (E.heap[k.heap.size]? =some (.cells #[.int .i64 w.kind,.string w.name,.string w.loc,.string w.spec] 97 (0,0))):=(J.block _ (by rw[zg];omega)).trans (heap_alloc_new k _);have HW:Bw k E:=(bA0).trans (J.mono (by rw[zg];omega));obtain⟨b0,b1,b2,b3,bf⟩:=zbN HG.o;obtain⟨c0,c1,c2,c3,c4,c5,U,c7,c8,N,cf⟩:=zai H.o.cells;have L:=fun I=>(H.o.mem.own.la.drew.alloc I);have ag:=H.o.mem.base;have af:=H.o.lt;have HN:Hid (some d≠S.la.blk):=fun e=>H.o.free (.inr (.inr (.inr (.inr (.inr e.symm)))));have V: ∀I,c<=(E.alloc I).heap.size:=fun I=>by rw[zg];omega
 have X: ∀I,d<(E.alloc I).heap.size:=fun I=>by rw[zg];omega
 go_wp2_with fail;go_region_law (first|(refine zfA rfl (.tmp 25) (.tmp 27) 50 rfl c 97 i0 _ 4 56 underlying50 hi Z ae ac rfl (by decide) (by decide) S.la q.la.length (q.la.flatMap epL) (by rfl) (by exact L _) E.heap.size (epL w) (by rfl) (by exact heap_alloc_new E _) rfl (zg0 w) (by omega) (by exact V _) ?_;intro r' w2 hr K M;have g2:=(K.block d (by exact X _) HN.o).trans (by exact (H.o.alloc _).cells);obtain⟨d0,d1,d2,d3,d4,d5,d6,d7,d8,d9,df⟩:=zai g2))
 all_goals
  have HR:=zc hr;have ab:=zc K;have aa:=zc M;clear hr K M g2 c0 c1 c2 c3 c4 c5 U c7 c8 N cf b0 b1 b2 b3 bf;go_wp2;go_end0;obtain⟨m',s'⟩:=H.o.grow_la (bA0).drew ab.o HR.o aa.o hn;exact⟨rfl,_,m',s'.grownI HW⟩
theorem zoA (s:World) (h:IM C g b c d S q s) (hn: ¬q.ep.length+q.la.length<40) (M:0<q.pos):
  Calls prog 234 #[.pointer (some ⟨d,0,none⟩),epV w] s fun e J=>e=Pan (zt C (q.pos-1))/\Below c s J:=by
 have I:=h.lt;have N:=h.mem.inv.ep;have D:Hid (IM C g b c d S q (s.alloc (.cells #[.int .i64 w.kind,.string w.name,.string w.loc,.string w.spec] 97))):=h.alloc _;obtain⟨c0,Y,Z,c3,c4,c5,c6,X,U,V,cf⟩:=zai D.o.cells;have O:IntKind.i64.wrap ((q.ep.length:Int)+(q.la.length:Int))=(q.ep.length:Int)+(q.la.length:Int):=IntWalk.i64_in _ ⟨by omega,by omega⟩;unfold epV;go_enter func234,ntmps234;go_wp2_with fail;go_region_dies
 all_goals
  refine (zeU C g b c d S q _ 40 _ D.o.drew (by omega) M).mono ?_;rintro e H ⟨rfl,K⟩;have L:Below c s H:=((bA0).drew.mono h.mem.base).trans (K.mono D.o.drew.mem.base);exact⟨rfl,rfl,L⟩
theorem zfD (s:World) (h:IM C g b c d S q s) (M:0<q.pos):
  Calls prog 234 #[.pointer (some ⟨d,0,none⟩),epV w] s (zV C g b c d (zq C w q) id (fun _=>.tuple #[]) S s):=by
 by_cases K:q.ep.length+q.la.length<40
 ·cases E:(w.loc.toList==[42,100,101,102,97,117,108,116]) with
  |true=>
   refine (zo9 C g b c d S q w s h K E).mono ?_;rintro e L ⟨rfl,H,J,I⟩;rw[zq,if_neg (by omega),if_pos E];exact⟨rfl,H,J,I⟩
  |false=>
   refine (zo8 C g b c d S q w s h K E).mono ?_;rintro e L ⟨rfl,H,J,I⟩;rw[zq,if_neg (by omega),if_neg (by rw[E];decide)];exact⟨rfl,H,J,I⟩
 ·refine (zoA C g b c d S q w s h K M).mono ?_;rintro e L ⟨rfl,N⟩;rw[zq,if_pos (by omega)];exact⟨rfl,N⟩
end Go.Proofs.YtgcbmogmniahjaaGreat
