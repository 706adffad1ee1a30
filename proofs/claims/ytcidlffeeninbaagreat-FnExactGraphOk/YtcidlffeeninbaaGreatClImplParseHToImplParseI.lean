/-
  What room of impl's parser answers where there is none; addExpr,addImp whole: the walks.
  What addExp of impl's parser answers: the walks.
-/
import Derived.RegionDies
import Derived.Test.YtcidlffeeninbaaGreatClImplParseEToImplParseG
namespace Go.Proofs.YtcidlffeeninbaaGreat
set_option maxRecDepth 100000
set_option maxHeartbeats 3200000
open Go.RowKit Go.PlainAid Go.Sort
theorem zeE (C:Cx) (gt E A H:Nat) (S:Sv) (q:PS) (c m:Int) (w:World) (h:IM C gt E A H S q w) (hc:m≤c) (U:0<q.pos):
  Calls Tryz.prog 207 #[.pointer (some ⟨H,0,none⟩),.int .i64 c,.int .i64 m] w fun e V=>e=Pan (zs C (q.pos-1))∧Below w.heap.size w V:=by
 obtain⟨c0,c1,c2,c3,_,_,_,_,_,_,cf⟩:=zah h.cells
 have hd:decide (m≤c)=true:=decide_eq_true hc
 have I:=(zau h.mem.tok).1
 have M:=h.mem.few
 have z:=h.mem.inv.pos
 obtain⟨k,hk⟩: ∃k,q.pos=k+1:=⟨q.pos-1,by omega⟩
 have X:(q.pos:Int)-1=(k:Int):=by omega
 have Z:Hid (q.pos-1=k):=by show q.pos-1=k;omega
 have D:k<C.ts.length:=by omega
 have aa:(k:Int)<(C.ts.length:Int):=by omega
 have Y:IntKind.i64.wrap (k:Int)=(k:Int):=IntWalk.i64_in _ ⟨by omega,by omega⟩
 obtain⟨O,J,N,L⟩:=h.mem.tok.cells D (d:=⟨0,sNone,0,C.fin⟩)
 change _=some (Value.int .i64 (ze C k).kind) at O
 change _=some (Value.string (ze C k).text) at J
 change _=some (Value.int .i64 (ze C k).num) at N
 change _=some (Value.int .i64 (ze C k).pos) at L
 have K:Hid (zs C k=(ze C k).pos):=rfl
 generalize ze C k=t at O J N L K
 clear h hk z U
 go_enter Tryz.func207,Tryz.ntmps207
 go_wp2
 go_region_dies
 all_goals
  refine⟨rfl,?_⟩
  rw[Z.out,K.out]
  exact⟨rfl,(Below.refl _ _).drew⟩
theorem zeF (C:Cx) (E A z D:Nat) (S:Sv) (q:PS) (x:Ex) (w:World) (h:IM C E A z D S q w) (J:0<q.pos):
  Calls Tryz.prog 220 #[.pointer (some ⟨D,0,none⟩),exV x] w (zT C E A z D (zQ C x q) id (fun q'=>.int .i64 ((q'.ex.length:Int)-1)) S w):=by
 by_cases V:q.ex.length<300
 ·refine (znx C E A z D S q x w h V).mono ?_
  rintro e I ⟨rfl,N,O,X⟩
  rw[zQ,if_neg (by omega)]
  exact⟨by simp,N,O,X⟩
 ·have H:Hid (IM C E A z D S q w):=h
  have U:Hid (zQ C x q= .error (zs C (q.pos-1))):=by show _=_;rw[zQ,if_pos (by omega)]
  obtain⟨c0,c1,c2,c3,c4,Z,c6,Y,c8,c9,cf⟩:=zah h.cells
  have M:=h.lt
  clear h
  unfold exV
  go_enter Tryz.func220,Tryz.ntmps220
  go_wp2_with fail
  refine (zeE C E A z D S q q.ex.length 300 _ (H.out.alloc _) (by omega) J).mono ?_
  rintro e I ⟨rfl,L⟩
  have K:Hid (Below z w I):=(((Below.refl _ _).alloc (Nat.le_refl _) _).mono H.out.mem.base).trans (L.mono (H.out.alloc _).mem.base)
  unfold Pan
  go_wp2
  refine⟨rfl,?_⟩
  rw[U.out]
  exact⟨rfl,K.out⟩
theorem znz (C:Cx) (E A z D:Nat) (S:Sv) (q:PS) (x:Im) (w:World) (h:IM C E A z D S q w) (J:0<q.pos):
  Calls Tryz.prog 214 #[.pointer (some ⟨D,0,none⟩),imV x] w (zT C E A z D (zap C x q) id (fun _=>.tuple #[]) S w):=by
 by_cases V:q.im.length<40
 ·refine (zny C E A z D S q x w h V).mono ?_
  rintro e I ⟨rfl,N,O,X⟩
  rw[zap,if_neg (by omega)]
  exact⟨rfl,N,O,X⟩
 ·have H:Hid (IM C E A z D S q w):=h
  have U:Hid (zap C x q= .error (zs C (q.pos-1))):=by show _=_;rw[zap,if_pos (by omega)]
  obtain⟨c0,c1,c2,c3,c4,Z,c6,Y,c8,c9,cf⟩:=zah h.cells
  have M:=h.lt
  clear h
  unfold imV
  go_enter Tryz.func214,Tryz.ntmps214
  go_wp2_with fail
  refine (zeE C E A z D S q q.im.length 40 _ (H.out.alloc _) (by omega) J).mono ?_
  rintro e I ⟨rfl,L⟩
  have K:Hid (Below z w I):=(((Below.refl _ _).alloc (Nat.le_refl _) _).mono H.out.mem.base).trans (L.mono (H.out.alloc _).mem.base)
  unfold Pan
  go_wp2
  refine⟨rfl,?_⟩
  rw[U.out]
  exact⟨rfl,K.out⟩
theorem zx {P:Program} {q:Code} {Q:Exit→Act→World→Prop} {a:Act} {w0:World} {R:World→Prop} (w:R w0) (h: ∀W,R W→Code.wp P q Q a W):Code.wp P q Q a w0:=h w0 w
theorem zgf (x:Ep): ∀u∈epL x,u.oneCell'=true:=by
 intro u h
 simp[epL] at h
 rcases h with rfl|rfl|rfl|rfl<;>rfl
theorem IM.back {C:Cx} {I A z E:Nat} {S H:Sv} {q:PS} {w D:World} (h:IM C I A z E S q w) (s:IS E S w H D):Below z w D:=s.under h.mem.base h.mem.own h.ge
theorem IS.grownI {D:Nat} {S q:Sv} {w z A:World} (h:Below w.heap.size w z) (k:IS D S z q A):IS D S w q A:=(IS.below h).trans k
theorem zn0 (C:Cx) (O D z A:Nat) (S:Sv) (q:PS) (x:Ep) (w:World) (h:IM C O D z A S q w) (hn:q.ep.length+q.la.length<40) (he:(x.loc.toList==[42,100,101,102,97,117,108,116])=false):
  Calls Tryz.prog 201 #[.pointer (some ⟨A,0,none⟩),epV x] w fun e Y=>e= .returned (.tuple #[])∧∃S',IM C O D z A S' {q with ep:=q.ep++[x]} Y∧IS A S w S' Y:=by
 obtain⟨i0,hi,af,ae,ad⟩:=info_parts Tryz.infoExp
 have HH:=zc h
 have al:=h.lt
 have HA:Hid (IM C O D z A S q (w.alloc (.cells #[.int .i64 x.kind,.string x.name,.string x.loc,.string x.spec] 82))):=h.alloc _
 have cR: ∀d os,Calls Tryz.prog 207 #[.pointer (some ⟨A,0,none⟩),.int .i64 ((q.ep.length:Int)+q.la.length),.int .i64 40] (grow (redrawn (w.alloc (.cells #[.int .i64 x.kind,.string x.name,.string x.loc,.string x.spec] 82)) d) os) fun e ab=>e= .returned (.tuple #[])∧∃p:Regrown,ab=grow (redrawn (w.alloc (.cells #[.int .i64 x.kind,.string x.name,.string x.loc,.string x.spec] 82)) p.d) p.os:=
  fun d os=>Calls.regrown_of ((zdX A _ 40 _ (by omega)).mono (by rintro e Y ⟨rfl,rfl⟩;exact⟨rfl,Below.refl _ _⟩))
 obtain⟨_,_,_,_,_,_,V,_,_,U,_⟩:=zah HA.out.cells
 have C6:=zc V
 have C9:=zc U
 have ai:IntKind.i64.wrap ((q.ep.length:Int)+(q.la.length:Int))=(q.ep.length:Int)+(q.la.length:Int):=IntWalk.i64_in _ ⟨by omega,by omega⟩
 clear h V U
 unfold epV
 go_enter Tryz.func201,Tryz.ntmps201
 go_wp2_with fail
 have k6:=cell_regrown C6.out
 have k9:=cell_regrown C9.out
 refine wp_region_quiet_below (by kernel_rfl) (by kernel_rfl) ?_
 repeat (go_big_quiet_step (exact cR _ _))
 refine wpQuiet_nil ?_
 intro H X
 obtain⟨⟨dq,ak⟩,E⟩:=X
 have J:Hid (Below (w.alloc (.cells #[.int .i64 x.kind,.string x.name,.string x.loc,.string x.spec] 82)).heap.size (w.alloc (.cells #[.int .i64 x.kind,.string x.name,.string x.loc,.string x.spec] 82)) H):=by show Below _ _ _;rw[E];exact below_regrown _ _ _
 clear E k6 k9 cR C6 C9
 have I:Hid (IM C O D z A S q H):=HA.out.later J.out
 have HG:Hid (H.heap[w.heap.size]? =some (.cells #[.int .i64 x.kind,.string x.name,.string x.loc,.string x.spec] 82 (0,0))):=(J.out.block _ (by rw[zg];omega)).trans (heap_alloc_new w _)
 have HW:Hid (Below w.heap.size w H):=((Below.refl _ _).alloc (Nat.le_refl _) _).trans (J.out.mono (by rw[zg];omega))
 obtain⟨b0,b1,b2,b3,bf⟩:=zb1 HG.out
 obtain⟨c0,c1,c2,c3,c4,c5,V,c7,c8,U,cf⟩:=zah I.out.cells
 have M:=fun K=>(I.out.mem.own.ep.drew.alloc K)
 have aj:=I.out.mem.base
 have ah:=I.out.lt
 have HN:Hid (some A≠S.ep.blk):=fun e=>I.out.free (.inr (.inr (.inl e.symm)))
 have Z: ∀K,z≤(H.alloc K).heap.size:=fun K=>by rw[zg];omega
 have ag: ∀K,A<(H.alloc K).heap.size:=fun K=>by rw[zg];omega
 go_wp2_with fail
 go_region_law (first|(refine zfp rfl (.tmp 36) (.tmp 38) 44 rfl z 82 i0 _ 4 56 Tryz.underlying44 hi af ae ad rfl (by decide) (by decide) S.ep q.ep.length (q.ep.flatMap epL) (by rfl) (by exact M _) H.heap.size (epL x) (by rfl) (by exact heap_alloc_new H _) rfl (zgf x) (by omega) (by exact Z _) ?_;intro r' w2 hr L N;have g2:=(L.block A (by exact ag _) HN.out).trans (by exact (I.out.alloc _).cells);obtain⟨d0,d1,d2,d3,d4,d5,d6,d7,d8,d9,df⟩:=zah g2))
 all_goals
  have HR:=zc hr
  have aa:=zc L
  have ac:=zc N
  clear hr L N g2 c0 c1 c2 c3 c4 c5 V c7 c8 U cf b0 b1 b2 b3 bf
  go_wp2
  go_end0
  obtain⟨m',s'⟩:=I.out.grow_ep ((Below.refl _ _).alloc (Nat.le_refl _) _).drew aa.out HR.out ac.out hn
  exact⟨rfl,_,m',s'.grownI HW.out⟩
theorem zn1 (C:Cx) (O D z A:Nat) (S:Sv) (q:PS) (x:Ep) (w:World) (h:IM C O D z A S q w) (hn:q.ep.length+q.la.length<40) (he:(x.loc.toList==[42,100,101,102,97,117,108,116])=true):
  Calls Tryz.prog 201 #[.pointer (some ⟨A,0,none⟩),epV x] w fun e Y=>e= .returned (.tuple #[])∧∃S',IM C O D z A S' {q with la:=q.la++[x]} Y∧IS A S w S' Y:=by
 obtain⟨i0,hi,af,ae,ad⟩:=info_parts Tryz.infoExp
 have HH:=zc h
 have al:=h.lt
 have HA:Hid (IM C O D z A S q (w.alloc (.cells #[.int .i64 x.kind,.string x.name,.string x.loc,.string x.spec] 82))):=h.alloc _
 have cR: ∀d os,Calls Tryz.prog 207 #[.pointer (some ⟨A,0,none⟩),.int .i64 ((q.ep.length:Int)+q.la.length),.int .i64 40] (grow (redrawn (w.alloc (.cells #[.int .i64 x.kind,.string x.name,.string x.loc,.string x.spec] 82)) d) os) fun e ab=>e= .returned (.tuple #[])∧∃p:Regrown,ab=grow (redrawn (w.alloc (.cells #[.int .i64 x.kind,.string x.name,.string x.loc,.string x.spec] 82)) p.d) p.os:=
  fun d os=>Calls.regrown_of ((zdX A _ 40 _ (by omega)).mono (by rintro e Y ⟨rfl,rfl⟩;exact⟨rfl,Below.refl _ _⟩))
 obtain⟨_,_,_,_,_,_,V,_,_,U,_⟩:=zah HA.out.cells
 have C6:=zc V
 have C9:=zc U
 have ai:IntKind.i64.wrap ((q.ep.length:Int)+(q.la.length:Int))=(q.ep.length:Int)+(q.la.length:Int):=IntWalk.i64_in _ ⟨by omega,by omega⟩
 clear h V U
 unfold epV
 go_enter Tryz.func201,Tryz.ntmps201
 go_wp2_with fail
 have k6:=cell_regrown C6.out
 have k9:=cell_regrown C9.out
 refine wp_region_quiet_below (by kernel_rfl) (by kernel_rfl) ?_
 repeat (go_big_quiet_step (exact cR _ _))
 refine wpQuiet_nil ?_
 intro H X
 obtain⟨⟨dq,ak⟩,E⟩:=X
 have J:Hid (Below (w.alloc (.cells #[.int .i64 x.kind,.string x.name,.string x.loc,.string x.spec] 82)).heap.size (w.alloc (.cells #[.int .i64 x.kind,.string x.name,.string x.loc,.string x.spec] 82)) H):=by show Below _ _ _;rw[E];exact below_regrown _ _ _
 clear E k6 k9 cR C6 C9
 have I:Hid (IM C O D z A S q H):=HA.out.later J.out
 have HG:Hid (H.heap[w.heap.size]? =some (.cells #[.int .i64 x.kind,.string x.name,.string x.loc,.string x.spec] 82 (0,0))):=(J.out.block _ (by rw[zg];omega)).trans (heap_alloc_new w _)
 have HW:Hid (Below w.heap.size w H):=((Below.refl _ _).alloc (Nat.le_refl _) _).trans (J.out.mono (by rw[zg];omega))
 obtain⟨b0,b1,b2,b3,bf⟩:=zb1 HG.out
 obtain⟨c0,c1,c2,c3,c4,c5,V,c7,c8,U,cf⟩:=zah I.out.cells
 have M:=fun K=>(I.out.mem.own.la.drew.alloc K)
 have aj:=I.out.mem.base
 have ah:=I.out.lt
 have HN:Hid (some A≠S.la.blk):=fun e=>I.out.free (.inr (.inr (.inr (.inr (.inr e.symm)))))
 have Z: ∀K,z≤(H.alloc K).heap.size:=fun K=>by rw[zg];omega
 have ag: ∀K,A<(H.alloc K).heap.size:=fun K=>by rw[zg];omega
 go_wp2_with fail
 go_region_law (first|(refine zfp rfl (.tmp 25) (.tmp 27) 44 rfl z 82 i0 _ 4 56 Tryz.underlying44 hi af ae ad rfl (by decide) (by decide) S.la q.la.length (q.la.flatMap epL) (by rfl) (by exact M _) H.heap.size (epL x) (by rfl) (by exact heap_alloc_new H _) rfl (zgf x) (by omega) (by exact Z _) ?_;intro r' w2 hr L N;have g2:=(L.block A (by exact ag _) HN.out).trans (by exact (I.out.alloc _).cells);obtain⟨d0,d1,d2,d3,d4,d5,d6,d7,d8,d9,df⟩:=zah g2))
 all_goals
  have HR:=zc hr
  have aa:=zc L
  have ac:=zc N
  clear hr L N g2 c0 c1 c2 c3 c4 c5 V c7 c8 U cf b0 b1 b2 b3 bf
  go_wp2
  go_end0
  obtain⟨m',s'⟩:=I.out.grow_la ((Below.refl _ _).alloc (Nat.le_refl _) _).drew aa.out HR.out ac.out hn
  exact⟨rfl,_,m',s'.grownI HW.out⟩
theorem zn2 (C:Cx) (H A z D:Nat) (S:Sv) (q:PS) (x:Ep) (w:World) (h:IM C H A z D S q w) (hn: ¬q.ep.length+q.la.length<40) (I:0<q.pos):
  Calls Tryz.prog 201 #[.pointer (some ⟨D,0,none⟩),epV x] w fun e K=>e=Pan (zs C (q.pos-1))∧Below z w K:=by
 have O:=zc h
 have N:=h.lt
 have J:=h.mem.inv.ep
 have E:Hid (IM C H A z D S q (w.alloc (.cells #[.int .i64 x.kind,.string x.name,.string x.loc,.string x.spec] 82))):=h.alloc _
 obtain⟨c0,c1,c2,c3,c4,Y,c6,X,c8,c9,Z⟩:=zah E.out.cells
 have U:IntKind.i64.wrap ((q.ep.length:Int)+(q.la.length:Int))=(q.ep.length:Int)+(q.la.length:Int):=IntWalk.i64_in _ ⟨by omega,by omega⟩
 clear h
 unfold epV
 go_enter Tryz.func201,Tryz.ntmps201
 go_wp2_with fail
 go_region_dies
 all_goals
  refine (zeE C H A z D S q _ 40 _ E.out.drew (by omega) I).mono ?_
  rintro e V ⟨rfl,M⟩
  have L:Hid (Below z w V):=(((Below.refl _ _).alloc (Nat.le_refl _) _).drew.mono O.out.mem.base).trans (M.mono E.out.drew.mem.base)
  exact⟨rfl,rfl,L.out⟩
theorem zfs (C:Cx) (E A z D:Nat) (S:Sv) (q:PS) (x:Ep) (w:World) (h:IM C E A z D S q w) (N:0<q.pos):
  Calls Tryz.prog 201 #[.pointer (some ⟨D,0,none⟩),epV x] w (zT C E A z D (zp C x q) id (fun _=>.tuple #[]) S w):=by
 by_cases J:q.ep.length+q.la.length<40
 ·cases H:(x.loc.toList==[42,100,101,102,97,117,108,116]) with
  |true=>
   refine (zn1 C E A z D S q x w h J H).mono ?_
   rintro e M ⟨rfl,K,I,L⟩
   rw[zp,if_neg (by omega),if_pos H]
   exact⟨rfl,K,I,L⟩
  |false=>
   refine (zn0 C E A z D S q x w h J H).mono ?_
   rintro e M ⟨rfl,K,I,L⟩
   rw[zp,if_neg (by omega),if_neg (by rw[H];decide)]
   exact⟨rfl,K,I,L⟩
 ·refine (zn2 C E A z D S q x w h J N).mono ?_
  rintro e M ⟨rfl,O⟩
  rw[zp,if_pos (by omega)]
  exact⟨rfl,O⟩
end Go.Proofs.YtcidlffeeninbaaGreat
