/- Facts and walks that the theorem stands on. -/
import Derived.RegionDies
import Derived.Test.YtgcbmogmniahjaaGreatG12
namespace Go.Proofs.YtgcbmogmniahjaaGreat
open Go.Proofs.Tryz
set_option maxRecDepth 100000
set_option maxHeartbeats 3200000
open Go.RowKit Go.PlainAid Go.Sort
theorem zeC (C:Cx) (Z D base I:Nat) (S:Sv) (q:PS) (c m:Int) (w:World) (h:IM C Z D base I S q w) (hc:m<=c) (Y:0<q.pos):
  Calls prog 240 #[.pointer (some ⟨I,0,none⟩),.int .i64 c,.int .i64 m] w fun e O=>e=Pan (zs C (q.pos-1))/\Below w.heap.size w O:=by
 obtain⟨c0,c1,c2,c3,_,_,_,_,_,_,cf⟩:=zag h.cells;have hd:decide (m<=c)=true:=decide_eq_true hc;have J:=(zat h.mem.tok).1;have M:=h.mem.few;have z:=h.mem.inv.pos;obtain⟨k,X⟩: ∃k,q.pos=k+1:=⟨q.pos-1,by omega⟩;have V:(q.pos:Int)-1=(k:Int):=by omega
 have HK:Hid (q.pos-1=k):=by show q.pos-1=k;omega
 have A:k<C.ts.length:=by omega
 have U:(k:Int)<(C.ts.length:Int):=by omega
 have aa:IntKind.i64.wrap (k:Int)=(k:Int):=IntWalk.i64_in _ ⟨by omega,by omega⟩;obtain⟨K,L,E,H⟩:=h.mem.tok.cells A (d:=⟨0,sNone,0,C.fin⟩);change _=some (Value.int .i64 (ze C k).kind) at K;change _=some (Value.string (ze C k).text) at L;change _=some (Value.int .i64 (ze C k).num) at E;change _=some (Value.int .i64 (ze C k).pos) at H;have N:Hid (zs C k=(ze C k).pos):=rfl;generalize ze C k=t at K L E H N;clear h X z Y;go_enter func240,ntmps240;go_wp2;go_region_dies
 all_goals
  refine⟨rfl,?_⟩;rw[HK.o,N.o];exact⟨rfl,(Below.refl _ _).drew⟩
theorem zeD (C:Cx) (D z base A:Nat) (S:Sv) (q:PS) (x:Ex) (w:World) (h:IM C D z base A S q w) (L:0<q.pos):
  Calls prog 253 #[.pointer (some ⟨A,0,none⟩),exV x] w (zT C D z base A (zQ C x q) id (fun q'=>.int .i64 ((q'.ex.length:Int)-1)) S w):=by
 by_cases O:q.ex.length<300
 ·refine (znI C D z base A S q x w h O).mono ?_;rintro e H ⟨rfl,U,N,M⟩;rw[zQ,if_neg (by omega)];exact⟨by simp,U,N,M⟩
 ·have E:Hid (IM C D z base A S q w):=h;have V:Hid (zQ C x q= .error (zs C (q.pos-1))):=by show _=_;rw[zQ,if_pos (by omega)]
  obtain⟨c0,c1,c2,c3,c4,c5,c6,Z,X,Y,cf⟩:=zag h.cells;have I:=h.lt;clear h;unfold exV;go_enter func253,ntmps253;go_wp2_with fail;refine (zeC C D z base A S q q.ex.length 300 _ (E.o.alloc _) (by omega) L).mono ?_;rintro e H ⟨rfl,J⟩;have K:Below base w H:=(((Below.refl _ _).alloc (Nat.le_refl _) _).mono E.o.mem.base).trans (J.mono (E.o.alloc _).mem.base);unfold Pan;go_wp2;refine⟨rfl,?_⟩;rw[V.o];exact⟨rfl,K⟩
theorem znK (C:Cx) (D z base A:Nat) (S:Sv) (q:PS) (x:Im) (w:World) (h:IM C D z base A S q w) (L:0<q.pos):
  Calls prog 247 #[.pointer (some ⟨A,0,none⟩),imV x] w (zT C D z base A (zal C x q) id (fun _=>.tuple #[]) S w):=by
 by_cases O:q.im.length<40
 ·refine (znJ C D z base A S q x w h O).mono ?_;rintro e H ⟨rfl,U,N,M⟩;rw[zal,if_neg (by omega)];exact⟨rfl,U,N,M⟩
 ·have E:Hid (IM C D z base A S q w):=h;have V:Hid (zal C x q= .error (zs C (q.pos-1))):=by show _=_;rw[zal,if_pos (by omega)]
  obtain⟨c0,c1,c2,c3,c4,c5,c6,Z,X,Y,cf⟩:=zag h.cells;have I:=h.lt;clear h;unfold imV;go_enter func247,ntmps247;go_wp2_with fail;refine (zeC C D z base A S q q.im.length 40 _ (E.o.alloc _) (by omega) L).mono ?_;rintro e H ⟨rfl,J⟩;have K:Below base w H:=(((Below.refl _ _).alloc (Nat.le_refl _) _).mono E.o.mem.base).trans (J.mono (E.o.alloc _).mem.base);unfold Pan;go_wp2;refine⟨rfl,?_⟩;rw[V.o];exact⟨rfl,K⟩
theorem zy {P:Program} {q:Code} {Q:Exit->Act->World->Prop} {a:Act} {w0:World} {R:World->Prop} (w:R w0) (h: ∀W,R W->Code.wp P q Q a W):Code.wp P q Q a w0:=h w0 w
theorem zgi (x:Ep): ∀u∈epL x,u.oneCell'=true:=by
 intro u h;simp[epL] at h;rcases h with rfl|rfl|rfl|rfl<;>rfl
theorem IM.back {C:Cx} {H z base A:Nat} {S E:Sv} {q:PS} {w D:World} (h:IM C H z base A S q w) (s:IS A S w E D):Below base w D:=s.under h.mem.base h.mem.own h.ge
theorem IS.grownI {D:Nat} {S q:Sv} {w A z:World} (h:Below w.heap.size w A) (k:IS D S A q z):IS D S w q z:=(IS.below h).trans k
theorem znL (C:Cx) (O A base z:Nat) (S:Sv) (q:PS) (x:Ep) (w:World) (h:IM C O A base z S q w) (hn:q.ep.length+q.la.length<40) (he:(x.loc.toList==[42,100,101,102,97,117,108,116])=false):
  Calls prog 234 #[.pointer (some ⟨z,0,none⟩),epV x] w fun e w'=>e= .returned (.tuple #[])/\∃S',IM C O A base z S' {q with ep:=q.ep++[x]} w'/\IS z S w S' w':=by
 obtain⟨i0,hi,Z,ae,ac⟩:=info_parts Tryz.infoExp;have ah:=h.lt;have HA:Hid (IM C O A base z S q (w.alloc (.cells #[.int .i64 x.kind,.string x.name,.string x.loc,.string x.spec] 97))):=h.alloc _;have cR: ∀d os,Calls prog 240 #[.pointer (some ⟨z,0,none⟩),.int .i64 ((q.ep.length:Int)+q.la.length),.int .i64 40] (grow (redrawn (w.alloc (.cells #[.int .i64 x.kind,.string x.name,.string x.loc,.string x.spec] 97)) d) os) fun e ad=>e= .returned (.tuple #[])/\∃p:Regrown,ad=grow (redrawn (w.alloc (.cells #[.int .i64 x.kind,.string x.name,.string x.loc,.string x.spec] 97)) p.d) p.os:=
  fun d os=>Calls.regrown_of ((zdY z _ 40 _ (by omega)).mono (by rintro e w' ⟨rfl,rfl⟩;exact⟨rfl,Below.refl _ _⟩))
 obtain⟨_,_,_,_,_,_,U,_,_,N,_⟩:=zag HA.o.cells;have C6:=zc U;have C9:=zc N;have ai:IntKind.i64.wrap ((q.ep.length:Int)+(q.la.length:Int))=(q.ep.length:Int)+(q.la.length:Int):=IntWalk.i64_in _ ⟨by omega,by omega⟩;clear U N;unfold epV;go_enter func234,ntmps234;go_wp2_with fail;have k6:=cell_regrown C6.o;have k9:=cell_regrown C9.o;refine wp_region_quiet_below (by kernel_rfl) (by kernel_rfl) ?_
 repeat (go_big_quiet_step (exact cR _ _))
 refine wpQuiet_nil ?_;intro E Y;obtain⟨⟨dq,aj⟩,D⟩:=Y;have J:Below (w.alloc (.cells #[.int .i64 x.kind,.string x.name,.string x.loc,.string x.spec] 97)).heap.size (w.alloc (.cells #[.int .i64 x.kind,.string x.name,.string x.loc,.string x.spec] 97)) E:=by show Below _ _ _;rw[D];exact below_regrown _ _ _
 clear D k6 k9 cR C6 C9;have H:Hid (IM C O A base z S q E):=HA.o.later J;have HG:Hid (E.heap[w.heap.size]? =some (.cells #[.int .i64 x.kind,.string x.name,.string x.loc,.string x.spec] 97 (0,0))):=(J.block _ (by rw[zg];omega)).trans (heap_alloc_new w _);have HW:Below w.heap.size w E:=((Below.refl _ _).alloc (Nat.le_refl _) _).trans (J.mono (by rw[zg];omega));obtain⟨b0,b1,b2,b3,bf⟩:=zbH HG.o;obtain⟨c0,c1,c2,c3,c4,c5,U,c7,c8,N,cf⟩:=zag H.o.cells;have L:=fun I=>(H.o.mem.own.ep.drew.alloc I);have ag:=H.o.mem.base;have af:=H.o.lt;have HN:Hid (some z≠S.ep.blk):=fun e=>H.o.free (.inr (.inr (.inl e.symm)));have V: ∀I,base<=(E.alloc I).heap.size:=fun I=>by rw[zg];omega
 have X: ∀I,z<(E.alloc I).heap.size:=fun I=>by rw[zg];omega
 go_wp2_with fail;go_region_law (first|(refine zfs rfl (.tmp 36) (.tmp 38) 50 rfl base 97 i0 _ 4 56 underlying50 hi Z ae ac rfl (by decide) (by decide) S.ep q.ep.length (q.ep.flatMap epL) (by rfl) (by exact L _) E.heap.size (epL x) (by rfl) (by exact heap_alloc_new E _) rfl (zgi x) (by omega) (by exact V _) ?_;intro r' w2 hr K M;have g2:=(K.block z (by exact X _) HN.o).trans (by exact (H.o.alloc _).cells);obtain⟨d0,d1,d2,d3,d4,d5,d6,d7,d8,d9,df⟩:=zag g2))
 all_goals
  have HR:=zc hr;have ab:=zc K;have aa:=zc M;clear hr K M g2 c0 c1 c2 c3 c4 c5 U c7 c8 N cf b0 b1 b2 b3 bf;go_wp2;go_end0;obtain⟨m',s'⟩:=H.o.grow_ep ((Below.refl _ _).alloc (Nat.le_refl _) _).drew ab.o HR.o aa.o hn;exact⟨rfl,_,m',s'.grownI HW⟩
theorem znM (C:Cx) (O A base z:Nat) (S:Sv) (q:PS) (x:Ep) (w:World) (h:IM C O A base z S q w) (hn:q.ep.length+q.la.length<40) (he:(x.loc.toList==[42,100,101,102,97,117,108,116])=true):
  Calls prog 234 #[.pointer (some ⟨z,0,none⟩),epV x] w fun e w'=>e= .returned (.tuple #[])/\∃S',IM C O A base z S' {q with la:=q.la++[x]} w'/\IS z S w S' w':=by
 obtain⟨i0,hi,Z,ae,ac⟩:=info_parts Tryz.infoExp;have ah:=h.lt;have HA:Hid (IM C O A base z S q (w.alloc (.cells #[.int .i64 x.kind,.string x.name,.string x.loc,.string x.spec] 97))):=h.alloc _;have cR: ∀d os,Calls prog 240 #[.pointer (some ⟨z,0,none⟩),.int .i64 ((q.ep.length:Int)+q.la.length),.int .i64 40] (grow (redrawn (w.alloc (.cells #[.int .i64 x.kind,.string x.name,.string x.loc,.string x.spec] 97)) d) os) fun e ad=>e= .returned (.tuple #[])/\∃p:Regrown,ad=grow (redrawn (w.alloc (.cells #[.int .i64 x.kind,.string x.name,.string x.loc,.string x.spec] 97)) p.d) p.os:=
  fun d os=>Calls.regrown_of ((zdY z _ 40 _ (by omega)).mono (by rintro e w' ⟨rfl,rfl⟩;exact⟨rfl,Below.refl _ _⟩))
 obtain⟨_,_,_,_,_,_,U,_,_,N,_⟩:=zag HA.o.cells;have C6:=zc U;have C9:=zc N;have ai:IntKind.i64.wrap ((q.ep.length:Int)+(q.la.length:Int))=(q.ep.length:Int)+(q.la.length:Int):=IntWalk.i64_in _ ⟨by omega,by omega⟩;clear U N;unfold epV;go_enter func234,ntmps234;go_wp2_with fail;have k6:=cell_regrown C6.o;have k9:=cell_regrown C9.o;refine wp_region_quiet_below (by kernel_rfl) (by kernel_rfl) ?_
 repeat (go_big_quiet_step (exact cR _ _))
 refine wpQuiet_nil ?_;intro E Y;obtain⟨⟨dq,aj⟩,D⟩:=Y;have J:Below (w.alloc (.cells #[.int .i64 x.kind,.string x.name,.string x.loc,.string x.spec] 97)).heap.size (w.alloc (.cells #[.int .i64 x.kind,.string x.name,.string x.loc,.string x.spec] 97)) E:=by show Below _ _ _;rw[D];exact below_regrown _ _ _
 clear D k6 k9 cR C6 C9;have H:Hid (IM C O A base z S q E):=HA.o.later J;have HG:Hid (E.heap[w.heap.size]? =some (.cells #[.int .i64 x.kind,.string x.name,.string x.loc,.string x.spec] 97 (0,0))):=(J.block _ (by rw[zg];omega)).trans (heap_alloc_new w _);have HW:Below w.heap.size w E:=((Below.refl _ _).alloc (Nat.le_refl _) _).trans (J.mono (by rw[zg];omega));obtain⟨b0,b1,b2,b3,bf⟩:=zbH HG.o;obtain⟨c0,c1,c2,c3,c4,c5,U,c7,c8,N,cf⟩:=zag H.o.cells;have L:=fun I=>(H.o.mem.own.la.drew.alloc I);have ag:=H.o.mem.base;have af:=H.o.lt;have HN:Hid (some z≠S.la.blk):=fun e=>H.o.free (.inr (.inr (.inr (.inr (.inr e.symm)))));have V: ∀I,base<=(E.alloc I).heap.size:=fun I=>by rw[zg];omega
 have X: ∀I,z<(E.alloc I).heap.size:=fun I=>by rw[zg];omega
 go_wp2_with fail;go_region_law (first|(refine zfs rfl (.tmp 25) (.tmp 27) 50 rfl base 97 i0 _ 4 56 underlying50 hi Z ae ac rfl (by decide) (by decide) S.la q.la.length (q.la.flatMap epL) (by rfl) (by exact L _) E.heap.size (epL x) (by rfl) (by exact heap_alloc_new E _) rfl (zgi x) (by omega) (by exact V _) ?_;intro r' w2 hr K M;have g2:=(K.block z (by exact X _) HN.o).trans (by exact (H.o.alloc _).cells);obtain⟨d0,d1,d2,d3,d4,d5,d6,d7,d8,d9,df⟩:=zag g2))
 all_goals
  have HR:=zc hr;have ab:=zc K;have aa:=zc M;clear hr K M g2 c0 c1 c2 c3 c4 c5 U c7 c8 N cf b0 b1 b2 b3 bf;go_wp2;go_end0;obtain⟨m',s'⟩:=H.o.grow_la ((Below.refl _ _).alloc (Nat.le_refl _) _).drew ab.o HR.o aa.o hn;exact⟨rfl,_,m',s'.grownI HW⟩
theorem znN (C:Cx) (E z base A:Nat) (S:Sv) (q:PS) (x:Ep) (w:World) (h:IM C E z base A S q w) (hn: ¬q.ep.length+q.la.length<40) (M:0<q.pos):
  Calls prog 234 #[.pointer (some ⟨A,0,none⟩),epV x] w fun e J=>e=Pan (zs C (q.pos-1))/\Below base w J:=by
 have I:=h.lt;have N:=h.mem.inv.ep;have D:Hid (IM C E z base A S q (w.alloc (.cells #[.int .i64 x.kind,.string x.name,.string x.loc,.string x.spec] 97))):=h.alloc _;obtain⟨c0,Y,Z,c3,c4,c5,c6,X,U,V,cf⟩:=zag D.o.cells;have O:IntKind.i64.wrap ((q.ep.length:Int)+(q.la.length:Int))=(q.ep.length:Int)+(q.la.length:Int):=IntWalk.i64_in _ ⟨by omega,by omega⟩;unfold epV;go_enter func234,ntmps234;go_wp2_with fail;go_region_dies
 all_goals
  refine (zeC C E z base A S q _ 40 _ D.o.drew (by omega) M).mono ?_;rintro e H ⟨rfl,K⟩;have L:Below base w H:=(((Below.refl _ _).alloc (Nat.le_refl _) _).drew.mono h.mem.base).trans (K.mono D.o.drew.mem.base);exact⟨rfl,rfl,L⟩
theorem zfv (C:Cx) (D z base A:Nat) (S:Sv) (q:PS) (x:Ep) (w:World) (h:IM C D z base A S q w) (M:0<q.pos):
  Calls prog 234 #[.pointer (some ⟨A,0,none⟩),epV x] w (zT C D z base A (zp C x q) id (fun _=>.tuple #[]) S w):=by
 by_cases K:q.ep.length+q.la.length<40
 ·cases E:(x.loc.toList==[42,100,101,102,97,117,108,116]) with
  |true=>
   refine (znM C D z base A S q x w h K E).mono ?_;rintro e L ⟨rfl,H,J,I⟩;rw[zp,if_neg (by omega),if_pos E];exact⟨rfl,H,J,I⟩
  |false=>
   refine (znL C D z base A S q x w h K E).mono ?_;rintro e L ⟨rfl,H,J,I⟩;rw[zp,if_neg (by omega),if_neg (by rw[E];decide)];exact⟨rfl,H,J,I⟩
 ·refine (znN C D z base A S q x w h K M).mono ?_;rintro e L ⟨rfl,N⟩;rw[zp,if_pos (by omega)];exact⟨rfl,N⟩
end Go.Proofs.YtgcbmogmniahjaaGreat
