/-
  What room of impl's parser answers where there is none; addExpr,addImp whole: the walks.
  What addExp of impl's parser answers: the walks.
-/
import Derived.RegionDies
import Derived.Test.YticdggnnpjachaaGreatCbImplParseEToImplParseG
namespace Go.Proofs.YticdggnnpjachaaGreat
set_option maxRecDepth 100000
set_option maxHeartbeats 3200000
open Go.RowKit Go.PlainAid Go.Sort
theorem zeb (C:Cx) (M z j E:Nat) (S:Sv) (q:PS) (c m:Int) (w:World) (h:IM C M z j E S q w) (O:m≤c) (Y:0<q.pos):
  Calls Tryz.prog 184 #[.pointer (some ⟨E,0,none⟩),.int .i64 c,.int .i64 m] w fun e Z=>e=Pan (zr C (q.pos-1))∧Below w.heap.size w Z:=by
 obtain⟨c0,c1,c2,c3,_,_,_,_,_,_,cf⟩:=zac h.cells
 have hd:decide (m≤c)=true:=decide_eq_true O
 have L:=(zan h.mem.tok).1
 have J:=h.mem.few
 have n:=h.mem.inv.pos
 obtain⟨k,U⟩: ∃k,q.pos=k+1:=⟨q.pos-1,by omega⟩
 have N:(q.pos:Int)-1=(k:Int):=by omega
 have V:Hid (q.pos-1=k):=by show q.pos-1=k;omega
 have o:k<C.ts.length:=by omega
 have X:(k:Int)<(C.ts.length:Int):=by omega
 have Q:IntKind.i64.wrap (k:Int)=(k:Int):=IntWalk.i64_in _ ⟨by omega,by omega⟩
 obtain⟨H,I,A,D⟩:=h.mem.tok.cells o (d:=⟨0,sNone,0,C.fin⟩)
 change _=some (Value.int .i64 (ze C k).kind) at H
 change _=some (Value.string (ze C k).text) at I
 change _=some (Value.int .i64 (ze C k).num) at A
 change _=some (Value.int .i64 (ze C k).pos) at D
 have K:Hid (zr C k=(ze C k).pos):=rfl
 generalize ze C k=t at H I A D K
 clear h U n Y
 go_enter Tryz.func184,Tryz.ntmps184
 go_wp2
 go_region_dies
 all_goals
  refine⟨rfl,?_⟩
  rw[V.out,K.out]
  exact⟨rfl,(Below.refl _ _).drew⟩
theorem zec (C:Cx) (z n j o:Nat) (S:Sv) (q:PS) (x:Ex) (w:World) (h:IM C z n j o S q w) (N:0<q.pos):
  Calls Tryz.prog 202 #[.pointer (some ⟨o,0,none⟩),exV x] w (zQ C z n j o (zN C x q) id (fun q'=>.int .i64 ((q'.ex.length:Int)-1)) S w):=by
 by_cases H:q.ex.length<300
 ·refine (zlL C z n j o S q x w h H).mono ?_
  rintro e D ⟨rfl,J,M,E⟩
  rw[zN,if_neg (by omega)]
  exact⟨by simp,J,M,E⟩
 ·have A:Hid (IM C z n j o S q w):=h
  have O:Hid (zN C x q= .error (zr C (q.pos-1))):=by show _=_;rw[zN,if_pos (by omega)]
  obtain⟨c0,Y,Q,c3,Z,c5,X,c7,c8,V,U⟩:=zac h.cells
  have L:=h.lt
  clear h
  unfold exV
  go_enter Tryz.func202,Tryz.ntmps202
  go_wp2_with fail
  refine (zeb C z n j o S q q.ex.length 300 _ (A.out.alloc _) (by omega) N).mono ?_
  rintro e D ⟨rfl,K⟩
  have I:Hid (Below j w D):=(((Below.refl _ _).alloc (Nat.le_refl _) _).mono A.out.mem.base).trans (K.mono (A.out.alloc _).mem.base)
  unfold Pan
  go_wp2
  refine⟨rfl,?_⟩
  rw[O.out]
  exact⟨rfl,I.out⟩
theorem zlN (C:Cx) (z n j o:Nat) (S:Sv) (q:PS) (x:Im) (w:World) (h:IM C z n j o S q w) (N:0<q.pos):
  Calls Tryz.prog 196 #[.pointer (some ⟨o,0,none⟩),imV x] w (zQ C z n j o (zak C x q) id (fun _=>.tuple #[]) S w):=by
 by_cases H:q.im.length<40
 ·refine (zlM C z n j o S q x w h H).mono ?_
  rintro e D ⟨rfl,J,M,E⟩
  rw[zak,if_neg (by omega)]
  exact⟨rfl,J,M,E⟩
 ·have A:Hid (IM C z n j o S q w):=h
  have O:Hid (zak C x q= .error (zr C (q.pos-1))):=by show _=_;rw[zak,if_pos (by omega)]
  obtain⟨c0,Y,Q,c3,Z,c5,X,c7,c8,V,U⟩:=zac h.cells
  have L:=h.lt
  clear h
  unfold imV
  go_enter Tryz.func196,Tryz.ntmps196
  go_wp2_with fail
  refine (zeb C z n j o S q q.im.length 40 _ (A.out.alloc _) (by omega) N).mono ?_
  rintro e D ⟨rfl,K⟩
  have I:Hid (Below j w D):=(((Below.refl _ _).alloc (Nat.le_refl _) _).mono A.out.mem.base).trans (K.mono (A.out.alloc _).mem.base)
  unfold Pan
  go_wp2
  refine⟨rfl,?_⟩
  rw[O.out]
  exact⟨rfl,I.out⟩
theorem zau {P:Program} {j:Code} {Q:Exit→Act→World→Prop} {a:Act} {w0:World} {R:World→Prop} (n:R w0) (h: ∀W,R W→Code.wp P j Q a W):Code.wp P j Q a w0:=h w0 n
theorem zeI (x:Ep): ∀u∈epL x,u.oneCell'=true:=by
 intro u j
 simp[epL] at j
 rcases j with rfl|rfl|rfl|rfl<;>rfl
theorem IM.back {C:Cx} {A n j o:Nat} {S D:Sv} {q:PS} {w z:World} (h:IM C A n j o S q w) (s:IS o S w D z):Below j w z:=s.under h.mem.base h.mem.own h.ge
theorem IS.grownI {o:Nat} {S q:Sv} {w n j:World} (h:Below w.heap.size w n) (k:IS o S n q j):IS o S w q j:=(IS.below h).trans k
theorem zlO (C:Cx) (M o j n:Nat) (S:Sv) (q:PS) (x:Ep) (w:World) (h:IM C M o j n S q w) (hn:q.ep.length+q.la.length<40) (he:(x.loc.toList==[42,100,101,102,97,117,108,116])=false):
  Calls Tryz.prog 178 #[.pointer (some ⟨n,0,none⟩),epV x] w fun e O=>e= .returned (.tuple #[])∧∃S',IM C M o j n S' {q with ep:=q.ep++[x]} O∧IS n S w S' O:=by
 obtain⟨i0,hi,Y,Q,ac⟩:=info_parts Tryz.infoExp
 have HH:=zc h
 have ag:=h.lt
 have HA:Hid (IM C M o j n S q (w.alloc (.cells #[.int .i64 x.kind,.string x.name,.string x.loc,.string x.spec] 102))):=h.alloc _
 have cR: ∀d os,Calls Tryz.prog 184 #[.pointer (some ⟨n,0,none⟩),.int .i64 ((q.ep.length:Int)+q.la.length),.int .i64 40] (grow (redrawn (w.alloc (.cells #[.int .i64 x.kind,.string x.name,.string x.loc,.string x.spec] 102)) d) os) fun e Z=>e= .returned (.tuple #[])∧∃p:Regrown,Z=grow (redrawn (w.alloc (.cells #[.int .i64 x.kind,.string x.name,.string x.loc,.string x.spec] 102)) p.d) p.os:=
  fun d os=>Calls.regrown_of ((zd3 n _ 40 _ (by omega)).mono (by rintro e O ⟨rfl,rfl⟩;exact⟨rfl,Below.refl _ _⟩))
 obtain⟨_,_,_,_,_,_,L,_,_,N,_⟩:=zac HA.out.cells
 have C6:=zc L
 have C9:=zc N
 have af:IntKind.i64.wrap ((q.ep.length:Int)+(q.la.length:Int))=(q.ep.length:Int)+(q.la.length:Int):=IntWalk.i64_in _ ⟨by omega,by omega⟩
 clear h L N
 unfold epV
 go_enter Tryz.func178,Tryz.ntmps178
 go_wp2_with fail
 have k6:=cell_regrown C6.out
 have k9:=cell_regrown C9.out
 refine wp_region_quiet_below (by kernel_rfl) (by kernel_rfl) ?_
 repeat (go_big_quiet_step (exact cR _ _))
 refine wpQuiet_nil ?_
 intro z aa
 obtain⟨⟨dq,ae⟩,A⟩:=aa
 have D:Hid (Below (w.alloc (.cells #[.int .i64 x.kind,.string x.name,.string x.loc,.string x.spec] 102)).heap.size (w.alloc (.cells #[.int .i64 x.kind,.string x.name,.string x.loc,.string x.spec] 102)) z):=by show Below _ _ _;rw[A];exact below_regrown _ _ _
 clear A k6 k9 cR C6 C9
 have I:Hid (IM C M o j n S q z):=HA.out.later D.out
 have HG:Hid (z.heap[w.heap.size]? =some (.cells #[.int .i64 x.kind,.string x.name,.string x.loc,.string x.spec] 102 (0,0))):=(D.out.block _ (by rw[zk];omega)).trans (heap_alloc_new w _)
 have HW:Hid (Below w.heap.size w z):=((Below.refl _ _).alloc (Nat.le_refl _) _).trans (D.out.mono (by rw[zk];omega))
 obtain⟨b0,b1,b2,b3,bf⟩:=zdn HG.out
 obtain⟨c0,c1,c2,c3,c4,c5,L,c7,c8,N,cf⟩:=zac I.out.cells
 have J:=fun E=>(I.out.mem.own.ep.drew.alloc E)
 have ah:=I.out.mem.base
 have ad:=I.out.lt
 have HN:Hid (some n≠S.ep.blk):=fun e=>I.out.free (.inr (.inr (.inl e.symm)))
 have U: ∀E,j≤(z.alloc E).heap.size:=fun E=>by rw[zk];omega
 have V: ∀E,n<(z.alloc E).heap.size:=fun E=>by rw[zk];omega
 go_wp2_with fail
 go_region_law (first|(refine zcI rfl (.tmp 36) (.tmp 38) 24 rfl j 102 i0 _ 4 56 Tryz.underlying24 hi Y Q ac rfl (by decide) (by decide) S.ep q.ep.length (q.ep.flatMap epL) (by rfl) (by exact J _) z.heap.size (epL x) (by rfl) (by exact heap_alloc_new z _) rfl (zeI x) (by omega) (by exact U _) ?_;intro r' w2 hr H K;have g2:=(H.block n (by exact V _) HN.out).trans (by exact (I.out.alloc _).cells);obtain⟨d0,d1,d2,d3,d4,d5,d6,d7,d8,d9,df⟩:=zac g2))
 all_goals
  have HR:=zc hr
  have ab:=zc H
  have X:=zc K
  clear hr H K g2 c0 c1 c2 c3 c4 c5 L c7 c8 N cf b0 b1 b2 b3 bf
  go_wp2
  go_end0
  obtain⟨m',s'⟩:=I.out.grow_ep ((Below.refl _ _).alloc (Nat.le_refl _) _).drew ab.out HR.out X.out hn
  exact⟨rfl,_,m',s'.grownI HW.out⟩
theorem zlP (C:Cx) (M o j n:Nat) (S:Sv) (q:PS) (x:Ep) (w:World) (h:IM C M o j n S q w) (hn:q.ep.length+q.la.length<40) (he:(x.loc.toList==[42,100,101,102,97,117,108,116])=true):
  Calls Tryz.prog 178 #[.pointer (some ⟨n,0,none⟩),epV x] w fun e O=>e= .returned (.tuple #[])∧∃S',IM C M o j n S' {q with la:=q.la++[x]} O∧IS n S w S' O:=by
 obtain⟨i0,hi,Y,Q,ac⟩:=info_parts Tryz.infoExp
 have HH:=zc h
 have ag:=h.lt
 have HA:Hid (IM C M o j n S q (w.alloc (.cells #[.int .i64 x.kind,.string x.name,.string x.loc,.string x.spec] 102))):=h.alloc _
 have cR: ∀d os,Calls Tryz.prog 184 #[.pointer (some ⟨n,0,none⟩),.int .i64 ((q.ep.length:Int)+q.la.length),.int .i64 40] (grow (redrawn (w.alloc (.cells #[.int .i64 x.kind,.string x.name,.string x.loc,.string x.spec] 102)) d) os) fun e Z=>e= .returned (.tuple #[])∧∃p:Regrown,Z=grow (redrawn (w.alloc (.cells #[.int .i64 x.kind,.string x.name,.string x.loc,.string x.spec] 102)) p.d) p.os:=
  fun d os=>Calls.regrown_of ((zd3 n _ 40 _ (by omega)).mono (by rintro e O ⟨rfl,rfl⟩;exact⟨rfl,Below.refl _ _⟩))
 obtain⟨_,_,_,_,_,_,L,_,_,N,_⟩:=zac HA.out.cells
 have C6:=zc L
 have C9:=zc N
 have af:IntKind.i64.wrap ((q.ep.length:Int)+(q.la.length:Int))=(q.ep.length:Int)+(q.la.length:Int):=IntWalk.i64_in _ ⟨by omega,by omega⟩
 clear h L N
 unfold epV
 go_enter Tryz.func178,Tryz.ntmps178
 go_wp2_with fail
 have k6:=cell_regrown C6.out
 have k9:=cell_regrown C9.out
 refine wp_region_quiet_below (by kernel_rfl) (by kernel_rfl) ?_
 repeat (go_big_quiet_step (exact cR _ _))
 refine wpQuiet_nil ?_
 intro z aa
 obtain⟨⟨dq,ae⟩,A⟩:=aa
 have D:Hid (Below (w.alloc (.cells #[.int .i64 x.kind,.string x.name,.string x.loc,.string x.spec] 102)).heap.size (w.alloc (.cells #[.int .i64 x.kind,.string x.name,.string x.loc,.string x.spec] 102)) z):=by show Below _ _ _;rw[A];exact below_regrown _ _ _
 clear A k6 k9 cR C6 C9
 have I:Hid (IM C M o j n S q z):=HA.out.later D.out
 have HG:Hid (z.heap[w.heap.size]? =some (.cells #[.int .i64 x.kind,.string x.name,.string x.loc,.string x.spec] 102 (0,0))):=(D.out.block _ (by rw[zk];omega)).trans (heap_alloc_new w _)
 have HW:Hid (Below w.heap.size w z):=((Below.refl _ _).alloc (Nat.le_refl _) _).trans (D.out.mono (by rw[zk];omega))
 obtain⟨b0,b1,b2,b3,bf⟩:=zdn HG.out
 obtain⟨c0,c1,c2,c3,c4,c5,L,c7,c8,N,cf⟩:=zac I.out.cells
 have J:=fun E=>(I.out.mem.own.la.drew.alloc E)
 have ah:=I.out.mem.base
 have ad:=I.out.lt
 have HN:Hid (some n≠S.la.blk):=fun e=>I.out.free (.inr (.inr (.inr (.inr (.inr e.symm)))))
 have U: ∀E,j≤(z.alloc E).heap.size:=fun E=>by rw[zk];omega
 have V: ∀E,n<(z.alloc E).heap.size:=fun E=>by rw[zk];omega
 go_wp2_with fail
 go_region_law (first|(refine zcI rfl (.tmp 25) (.tmp 27) 24 rfl j 102 i0 _ 4 56 Tryz.underlying24 hi Y Q ac rfl (by decide) (by decide) S.la q.la.length (q.la.flatMap epL) (by rfl) (by exact J _) z.heap.size (epL x) (by rfl) (by exact heap_alloc_new z _) rfl (zeI x) (by omega) (by exact U _) ?_;intro r' w2 hr H K;have g2:=(H.block n (by exact V _) HN.out).trans (by exact (I.out.alloc _).cells);obtain⟨d0,d1,d2,d3,d4,d5,d6,d7,d8,d9,df⟩:=zac g2))
 all_goals
  have HR:=zc hr
  have ab:=zc H
  have X:=zc K
  clear hr H K g2 c0 c1 c2 c3 c4 c5 L c7 c8 N cf b0 b1 b2 b3 bf
  go_wp2
  go_end0
  obtain⟨m',s'⟩:=I.out.grow_la ((Below.refl _ _).alloc (Nat.le_refl _) _).drew ab.out HR.out X.out hn
  exact⟨rfl,_,m',s'.grownI HW.out⟩
theorem zlQ (C:Cx) (z n j o:Nat) (S:Sv) (q:PS) (x:Ep) (w:World) (h:IM C z n j o S q w) (Y: ¬q.ep.length+q.la.length<40) (M:0<q.pos):
  Calls Tryz.prog 178 #[.pointer (some ⟨o,0,none⟩),epV x] w fun e N=>e=Pan (zr C (q.pos-1))∧Below j w N:=by
 have E:=zc h
 have L:=h.lt
 have J:=h.mem.inv.ep
 have A:Hid (IM C z n j o S q (w.alloc (.cells #[.int .i64 x.kind,.string x.name,.string x.loc,.string x.spec] 102))):=h.alloc _
 obtain⟨c0,X,O,c3,Z,c5,V,c7,c8,U,Q⟩:=zac A.out.cells
 have H:IntKind.i64.wrap ((q.ep.length:Int)+(q.la.length:Int))=(q.ep.length:Int)+(q.la.length:Int):=IntWalk.i64_in _ ⟨by omega,by omega⟩
 clear h
 unfold epV
 go_enter Tryz.func178,Tryz.ntmps178
 go_wp2_with fail
 go_region_dies
 all_goals
  refine (zeb C z n j o S q _ 40 _ A.out.drew (by omega) M).mono ?_
  rintro e D ⟨rfl,K⟩
  have I:Hid (Below j w D):=(((Below.refl _ _).alloc (Nat.le_refl _) _).drew.mono E.out.mem.base).trans (K.mono A.out.drew.mem.base)
  exact⟨rfl,rfl,I.out⟩
theorem zeJ (C:Cx) (z n j o:Nat) (S:Sv) (q:PS) (x:Ep) (w:World) (h:IM C z n j o S q w) (K:0<q.pos):
  Calls Tryz.prog 178 #[.pointer (some ⟨o,0,none⟩),epV x] w (zQ C z n j o (zo C x q) id (fun _=>.tuple #[]) S w):=by
 by_cases D:q.ep.length+q.la.length<40
 ·cases A:(x.loc.toList==[42,100,101,102,97,117,108,116]) with
  |true=>
   refine (zlP C z n j o S q x w h D A).mono ?_
   rintro e J ⟨rfl,H,I,E⟩
   rw[zo,if_neg (by omega),if_pos A]
   exact⟨rfl,H,I,E⟩
  |false=>
   refine (zlO C z n j o S q x w h D A).mono ?_
   rintro e J ⟨rfl,H,I,E⟩
   rw[zo,if_neg (by omega),if_neg (by rw[A];decide)]
   exact⟨rfl,H,I,E⟩
 ·refine (zlQ C z n j o S q x w h D K).mono ?_
  rintro e J ⟨rfl,L⟩
  rw[zo,if_pos (by omega)]
  exact⟨rfl,L⟩
end Go.Proofs.YticdggnnpjachaaGreat
