/- Facts and walks that the theorem stands on. -/
import Derived.RegionDies
import Derived.Test.YtgcbmogmniahjaaGreatA12
namespace Go.Proofs.YtgcbmogmniahjaaGreat
open Go.Proofs.Tryz
set_option maxRecDepth 100000
set_option maxHeartbeats 3200000
open Go.RowKit Go.PlainAid Go.Sort
theorem zeK (C:Cx) (gt H base K:Nat) (S:Sv) (q:PS) (c m:Int) (w:World) (h:IM C gt H base K S q w) (hc:m<=c) (Z:0<q.pos):
  Calls prog 240 #[.pointer (some ⟨K,0,none⟩),.int .i64 c,.int .i64 m] w fun e w'=>e=Pan (zs C (q.pos-1))/\Below w.heap.size w w':=by
 obtain⟨c0,c1,c2,c3,_,_,_,_,_,_,cf⟩:=zah h.cells;have hd:decide (m<=c)=true:=decide_eq_true hc;have L:=(zau h.mem.tok).1;have O:=h.mem.few;have z:=h.mem.inv.pos;obtain⟨k,Y⟩: ∃k,q.pos=k+1:=⟨q.pos-1,by omega⟩;have X:(q.pos:Int)-1=(k:Int):=by omega
 have HK:Hid (q.pos-1=k):=by show q.pos-1=k;omega
 have A:k<C.ts.length:=by omega
 have V:(k:Int)<(C.ts.length:Int):=by omega
 have aa:IntKind.i64.wrap (k:Int)=(k:Int):=IntWalk.i64_in _ ⟨by omega,by omega⟩;obtain⟨M,N,I,J⟩:=h.mem.tok.cells A (d:=⟨0,sNone,0,C.fin⟩);change _=some (Value.int .i64 (ze C k).kind) at M;change _=some (Value.string (ze C k).text) at N;change _=some (Value.int .i64 (ze C k).num) at I;change _=some (Value.int .i64 (ze C k).pos) at J;have U:Hid (zs C k=(ze C k).pos):=rfl;generalize ze C k=t at M N I J U;clear h Y z Z;go_enter func240,ntmps240;go_wp2;go_region_dies
 all_goals
  refine⟨rfl,?_⟩;rw[HK.o,U.o];exact⟨rfl,(Below.refl _ _).drew⟩
theorem zeL (C:Cx) (H z base A:Nat) (S:Sv) (q:PS) (x:Ex) (w:World) (h:IM C H z base A S q w) (N:0<q.pos):
  Calls prog 253 #[.pointer (some ⟨A,0,none⟩),exV x] w (zU C H z base A (zR C x q) id (fun q'=>.int .i64 ((q'.ex.length:Int)-1)) S w):=by
 by_cases V:q.ex.length<300
 ·refine (zoj C H z base A S q x w h V).mono ?_;rintro e J ⟨rfl,X,U,O⟩;rw[zR,if_neg (by omega)];exact⟨by simp,X,U,O⟩
 ·have I:Hid (IM C H z base A S q w):=h;have Y:Hid (zR C x q= .error (zs C (q.pos-1))):=by show _=_;rw[zR,if_pos (by omega)]
  obtain⟨c0,c1,c2,c3,c4,c5,c6,c7,Z,c9,cf⟩:=zah h.cells;have K:=h.lt;clear h;unfold exV;go_enter func253,ntmps253;go_wp2_with fail;refine (zeK C H z base A S q q.ex.length 300 _ (I.o.alloc _) (by omega) N).mono ?_;rintro e J ⟨rfl,L⟩;have M:Below base w J:=(((Below.refl _ _).alloc (Nat.le_refl _) _).mono I.o.mem.base).trans (L.mono (I.o.alloc _).mem.base);unfold Pan;go_wp2;refine⟨rfl,?_⟩;rw[Y.o];exact⟨rfl,M⟩
theorem zol (C:Cx) (H z base A:Nat) (S:Sv) (q:PS) (x:Im) (w:World) (h:IM C H z base A S q w) (N:0<q.pos):
  Calls prog 247 #[.pointer (some ⟨A,0,none⟩),imV x] w (zU C H z base A (zan C x q) id (fun _=>.tuple #[]) S w):=by
 by_cases V:q.im.length<40
 ·refine (zok C H z base A S q x w h V).mono ?_;rintro e J ⟨rfl,X,U,O⟩;rw[zan,if_neg (by omega)];exact⟨rfl,X,U,O⟩
 ·have I:Hid (IM C H z base A S q w):=h;have Y:Hid (zan C x q= .error (zs C (q.pos-1))):=by show _=_;rw[zan,if_pos (by omega)]
  obtain⟨c0,c1,c2,c3,c4,c5,c6,c7,Z,c9,cf⟩:=zah h.cells;have K:=h.lt;clear h;unfold imV;go_enter func247,ntmps247;go_wp2_with fail;refine (zeK C H z base A S q q.im.length 40 _ (I.o.alloc _) (by omega) N).mono ?_;rintro e J ⟨rfl,L⟩;have M:Below base w J:=(((Below.refl _ _).alloc (Nat.le_refl _) _).mono I.o.mem.base).trans (L.mono (I.o.alloc _).mem.base);unfold Pan;go_wp2;refine⟨rfl,?_⟩;rw[Y.o];exact⟨rfl,M⟩
theorem zx {P:Program} {q:Code} {Q:Exit->Act->World->Prop} {a:Act} {w0:World} {R:World->Prop} (w:R w0) (h: ∀W,R W->Code.wp P q Q a W):Code.wp P q Q a w0:=h w0 w
theorem zgr (x:Ep): ∀u∈epL x,u.oneCell'=true:=by
 intro u h;simp[epL] at h;rcases h with rfl|rfl|rfl|rfl<;>rfl
theorem IM.back {C:Cx} {H z base A:Nat} {S I:Sv} {q:PS} {w w':World} (h:IM C H z base A S q w) (s:IS A S w I w'):Below base w w':=s.under h.mem.base h.mem.own h.ge
theorem IS.grownI {A:Nat} {S q:Sv} {w z w':World} (h:Below w.heap.size w z) (k:IS A S z q w'):IS A S w q w':=(IS.below h).trans k
theorem zom (C:Cx) (V A base z:Nat) (S:Sv) (q:PS) (x:Ep) (w:World) (h:IM C V A base z S q w) (hn:q.ep.length+q.la.length<40) (he:(x.loc.toList==[42,100,101,102,97,117,108,116])=false):
  Calls prog 234 #[.pointer (some ⟨z,0,none⟩),epV x] w fun e w'=>e= .returned (.tuple #[])/\∃S',IM C V A base z S' {q with ep:=q.ep++[x]} w'/\IS z S w S' w':=by
 obtain⟨i0,hi,Z,ac,ae⟩:=info_parts Tryz.infoExp;have ai:=h.lt;have HA:Hid (IM C V A base z S q (w.alloc (.cells #[.int .i64 x.kind,.string x.name,.string x.loc,.string x.spec] 97))):=h.alloc _;have cR: ∀d os,Calls prog 240 #[.pointer (some ⟨z,0,none⟩),.int .i64 ((q.ep.length:Int)+q.la.length),.int .i64 40] (grow (redrawn (w.alloc (.cells #[.int .i64 x.kind,.string x.name,.string x.loc,.string x.spec] 97)) d) os) fun e ag=>e= .returned (.tuple #[])/\∃p:Regrown,ag=grow (redrawn (w.alloc (.cells #[.int .i64 x.kind,.string x.name,.string x.loc,.string x.spec] 97)) p.d) p.os:=
  fun d os=>Calls.regrown_of ((zeg z _ 40 _ (by omega)).mono (by rintro e w' ⟨rfl,rfl⟩;exact⟨rfl,Below.refl _ _⟩))
 obtain⟨_,_,_,_,_,_,X,_,_,U,_⟩:=zah HA.o.cells;have C6:=zc X;have C9:=zc U;have al:IntKind.i64.wrap ((q.ep.length:Int)+(q.la.length:Int))=(q.ep.length:Int)+(q.la.length:Int):=IntWalk.i64_in _ ⟨by omega,by omega⟩;clear X U;unfold epV;go_enter func234,ntmps234;go_wp2_with fail;have k6:=cell_regrown C6.o;have k9:=cell_regrown C9.o;refine wp_region_quiet_below (by kernel_rfl) (by kernel_rfl) ?_
 repeat (go_big_quiet_step (exact cR _ _))
 refine wpQuiet_nil ?_;intro H Y;obtain⟨⟨dq,ak⟩,I⟩:=Y;have M:Below (w.alloc (.cells #[.int .i64 x.kind,.string x.name,.string x.loc,.string x.spec] 97)).heap.size (w.alloc (.cells #[.int .i64 x.kind,.string x.name,.string x.loc,.string x.spec] 97)) H:=by show Below _ _ _;rw[I];exact below_regrown _ _ _
 clear I k6 k9 cR C6 C9;have L:Hid (IM C V A base z S q H):=HA.o.later M;have HG:Hid (H.heap[w.heap.size]? =some (.cells #[.int .i64 x.kind,.string x.name,.string x.loc,.string x.spec] 97 (0,0))):=(M.block _ (by rw[zg];omega)).trans (heap_alloc_new w _);have HW:Below w.heap.size w H:=((Below.refl _ _).alloc (Nat.le_refl _) _).trans (M.mono (by rw[zg];omega));obtain⟨b0,b1,b2,b3,bf⟩:=zbJ HG.o;obtain⟨c0,c1,c2,c3,c4,c5,X,c7,c8,U,cf⟩:=zah L.o.cells;have N:=fun K=>(L.o.mem.own.ep.drew.alloc K);have aj:=L.o.mem.base;have ah:=L.o.lt;have HN:Hid (some z≠S.ep.blk):=fun e=>L.o.free (.inr (.inr (.inl e.symm)));have ad: ∀K,base<=(H.alloc K).heap.size:=fun K=>by rw[zg];omega
 have af: ∀K,z<(H.alloc K).heap.size:=fun K=>by rw[zg];omega
 go_wp2_with fail;go_region_law (first|(refine zf0 rfl (.tmp 36) (.tmp 38) 50 rfl base 97 i0 _ 4 56 underlying50 hi Z ac ae rfl (by decide) (by decide) S.ep q.ep.length (q.ep.flatMap epL) (by rfl) (by exact N _) H.heap.size (epL x) (by rfl) (by exact heap_alloc_new H _) rfl (zgr x) (by omega) (by exact ad _) ?_;intro r' w2 hr J O;have g2:=(J.block z (by exact af _) HN.o).trans (by exact (L.o.alloc _).cells);obtain⟨d0,d1,d2,d3,d4,d5,d6,d7,d8,d9,df⟩:=zah g2))
 all_goals
  have HR:=zc hr;have ab:=zc J;have aa:=zc O;clear hr J O g2 c0 c1 c2 c3 c4 c5 X c7 c8 U cf b0 b1 b2 b3 bf;go_wp2;go_end0;obtain⟨m',s'⟩:=L.o.grow_ep ((Below.refl _ _).alloc (Nat.le_refl _) _).drew ab.o HR.o aa.o hn;exact⟨rfl,_,m',s'.grownI HW⟩
theorem zon (C:Cx) (V A base z:Nat) (S:Sv) (q:PS) (x:Ep) (w:World) (h:IM C V A base z S q w) (hn:q.ep.length+q.la.length<40) (he:(x.loc.toList==[42,100,101,102,97,117,108,116])=true):
  Calls prog 234 #[.pointer (some ⟨z,0,none⟩),epV x] w fun e w'=>e= .returned (.tuple #[])/\∃S',IM C V A base z S' {q with la:=q.la++[x]} w'/\IS z S w S' w':=by
 obtain⟨i0,hi,Z,ac,ae⟩:=info_parts Tryz.infoExp;have ai:=h.lt;have HA:Hid (IM C V A base z S q (w.alloc (.cells #[.int .i64 x.kind,.string x.name,.string x.loc,.string x.spec] 97))):=h.alloc _;have cR: ∀d os,Calls prog 240 #[.pointer (some ⟨z,0,none⟩),.int .i64 ((q.ep.length:Int)+q.la.length),.int .i64 40] (grow (redrawn (w.alloc (.cells #[.int .i64 x.kind,.string x.name,.string x.loc,.string x.spec] 97)) d) os) fun e ag=>e= .returned (.tuple #[])/\∃p:Regrown,ag=grow (redrawn (w.alloc (.cells #[.int .i64 x.kind,.string x.name,.string x.loc,.string x.spec] 97)) p.d) p.os:=
  fun d os=>Calls.regrown_of ((zeg z _ 40 _ (by omega)).mono (by rintro e w' ⟨rfl,rfl⟩;exact⟨rfl,Below.refl _ _⟩))
 obtain⟨_,_,_,_,_,_,X,_,_,U,_⟩:=zah HA.o.cells;have C6:=zc X;have C9:=zc U;have al:IntKind.i64.wrap ((q.ep.length:Int)+(q.la.length:Int))=(q.ep.length:Int)+(q.la.length:Int):=IntWalk.i64_in _ ⟨by omega,by omega⟩;clear X U;unfold epV;go_enter func234,ntmps234;go_wp2_with fail;have k6:=cell_regrown C6.o;have k9:=cell_regrown C9.o;refine wp_region_quiet_below (by kernel_rfl) (by kernel_rfl) ?_
 repeat (go_big_quiet_step (exact cR _ _))
 refine wpQuiet_nil ?_;intro H Y;obtain⟨⟨dq,ak⟩,I⟩:=Y;have M:Below (w.alloc (.cells #[.int .i64 x.kind,.string x.name,.string x.loc,.string x.spec] 97)).heap.size (w.alloc (.cells #[.int .i64 x.kind,.string x.name,.string x.loc,.string x.spec] 97)) H:=by show Below _ _ _;rw[I];exact below_regrown _ _ _
 clear I k6 k9 cR C6 C9;have L:Hid (IM C V A base z S q H):=HA.o.later M;have HG:Hid (H.heap[w.heap.size]? =some (.cells #[.int .i64 x.kind,.string x.name,.string x.loc,.string x.spec] 97 (0,0))):=(M.block _ (by rw[zg];omega)).trans (heap_alloc_new w _);have HW:Below w.heap.size w H:=((Below.refl _ _).alloc (Nat.le_refl _) _).trans (M.mono (by rw[zg];omega));obtain⟨b0,b1,b2,b3,bf⟩:=zbJ HG.o;obtain⟨c0,c1,c2,c3,c4,c5,X,c7,c8,U,cf⟩:=zah L.o.cells;have N:=fun K=>(L.o.mem.own.la.drew.alloc K);have aj:=L.o.mem.base;have ah:=L.o.lt;have HN:Hid (some z≠S.la.blk):=fun e=>L.o.free (.inr (.inr (.inr (.inr (.inr e.symm)))));have ad: ∀K,base<=(H.alloc K).heap.size:=fun K=>by rw[zg];omega
 have af: ∀K,z<(H.alloc K).heap.size:=fun K=>by rw[zg];omega
 go_wp2_with fail;go_region_law (first|(refine zf0 rfl (.tmp 25) (.tmp 27) 50 rfl base 97 i0 _ 4 56 underlying50 hi Z ac ae rfl (by decide) (by decide) S.la q.la.length (q.la.flatMap epL) (by rfl) (by exact N _) H.heap.size (epL x) (by rfl) (by exact heap_alloc_new H _) rfl (zgr x) (by omega) (by exact ad _) ?_;intro r' w2 hr J O;have g2:=(J.block z (by exact af _) HN.o).trans (by exact (L.o.alloc _).cells);obtain⟨d0,d1,d2,d3,d4,d5,d6,d7,d8,d9,df⟩:=zah g2))
 all_goals
  have HR:=zc hr;have ab:=zc J;have aa:=zc O;clear hr J O g2 c0 c1 c2 c3 c4 c5 X c7 c8 U cf b0 b1 b2 b3 bf;go_wp2;go_end0;obtain⟨m',s'⟩:=L.o.grow_la ((Below.refl _ _).alloc (Nat.le_refl _) _).drew ab.o HR.o aa.o hn;exact⟨rfl,_,m',s'.grownI HW⟩
theorem zoo (C:Cx) (I z base A:Nat) (S:Sv) (q:PS) (x:Ep) (w:World) (h:IM C I z base A S q w) (hn: ¬q.ep.length+q.la.length<40) (N:0<q.pos):
  Calls prog 234 #[.pointer (some ⟨A,0,none⟩),epV x] w fun e w'=>e=Pan (zs C (q.pos-1))/\Below base w w':=by
 have K:=h.lt;have O:=h.mem.inv.ep;have H:Hid (IM C I z base A S q (w.alloc (.cells #[.int .i64 x.kind,.string x.name,.string x.loc,.string x.spec] 97))):=h.alloc _;obtain⟨c0,Z,c2,c3,c4,c5,c6,Y,V,X,cf⟩:=zah H.o.cells;have U:IntKind.i64.wrap ((q.ep.length:Int)+(q.la.length:Int))=(q.ep.length:Int)+(q.la.length:Int):=IntWalk.i64_in _ ⟨by omega,by omega⟩;unfold epV;go_enter func234,ntmps234;go_wp2_with fail;go_region_dies
 all_goals
  refine (zeK C I z base A S q _ 40 _ H.o.drew (by omega) N).mono ?_;rintro e J ⟨rfl,L⟩;have M:Below base w J:=(((Below.refl _ _).alloc (Nat.le_refl _) _).drew.mono h.mem.base).trans (L.mono H.o.drew.mem.base);exact⟨rfl,rfl,M⟩
theorem zf3 (C:Cx) (H z base A:Nat) (S:Sv) (q:PS) (x:Ep) (w:World) (h:IM C H z base A S q w) (O:0<q.pos):
  Calls prog 234 #[.pointer (some ⟨A,0,none⟩),epV x] w (zU C H z base A (zq C x q) id (fun _=>.tuple #[]) S w):=by
 by_cases M:q.ep.length+q.la.length<40
 ·cases I:(x.loc.toList==[42,100,101,102,97,117,108,116]) with
  |true=>
   refine (zon C H z base A S q x w h M I).mono ?_;rintro e N ⟨rfl,J,L,K⟩;rw[zq,if_neg (by omega),if_pos I];exact⟨rfl,J,L,K⟩
  |false=>
   refine (zom C H z base A S q x w h M I).mono ?_;rintro e N ⟨rfl,J,L,K⟩;rw[zq,if_neg (by omega),if_neg (by rw[I];decide)];exact⟨rfl,J,L,K⟩
 ·refine (zoo C H z base A S q x w h M O).mono ?_;rintro e N ⟨rfl,U⟩;rw[zq,if_pos (by omega)];exact⟨rfl,U⟩
end Go.Proofs.YtgcbmogmniahjaaGreat
