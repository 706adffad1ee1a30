/-
  What room of impl's parser answers where there is none; addExpr,addImp whole: the walks.
  What addExp of impl's parser answers: the walks.
-/
import Derived.RegionDies
import Derived.Test.YticdggnnpjachaaGreatCbImplParseEToImplParseG
namespace Go.Proofs.YticdggnnpjachaaGreat
set_option maxRecDepth 100000
set_option maxHeartbeats 3200000
open Go.RowKit Go.PlainAid Go.Sort
theorem zeb (C:Cx) (Z o j J:Nat) (S:Sv) (q:PS) (c m:Int) (w:World) (h:IM C Z o j J S q w) (O:m≤c) (X:0<q.pos):
  Calls Tryz.prog 184 #[.pointer (some ⟨J,0,none⟩),.int .i64 c,.int .i64 m] w fun e U=>e=Pan (zr C (q.pos-1))∧Below w.heap.size w U:=by
 obtain⟨c0,c1,c2,c3,_,_,_,_,_,_,cf⟩:=zac h.cells
 have hd:decide (m≤c)=true:=decide_eq_true O
 have K:=(zan h.mem.tok).1
 have A:=h.mem.few
 have n:=h.mem.inv.pos
 obtain⟨k,Q⟩: ∃k,q.pos=k+1:=⟨q.pos-1,by omega⟩
 have Y:(q.pos:Int)-1=(k:Int):=by omega
 have N:Hid (q.pos-1=k):=by show q.pos-1=k;omega
 have z:k<C.ts.length:=by omega
 have V:(k:Int)<(C.ts.length:Int):=by omega
 have M:IntKind.i64.wrap (k:Int)=(k:Int):=IntWalk.i64_in _ ⟨by omega,by omega⟩
 obtain⟨I,L,D,E⟩:=h.mem.tok.cells z (d:=⟨0,sNone,0,C.fin⟩)
 change _=some (Value.int .i64 (ze C k).kind) at I
 change _=some (Value.string (ze C k).text) at L
 change _=some (Value.int .i64 (ze C k).num) at D
 change _=some (Value.int .i64 (ze C k).pos) at E
 have H:Hid (zr C k=(ze C k).pos):=rfl
 generalize ze C k=t at I L D E H
 clear h Q n X
 go_enter Tryz.func184,Tryz.ntmps184
 go_wp2
 go_region_dies
 all_goals
  refine⟨rfl,?_⟩
  rw[N.out,H.out]
  exact⟨rfl,(Below.refl _ _).drew⟩
theorem zec (C:Cx) (z n j o:Nat) (S:Sv) (q:PS) (x:Ex) (w:World) (h:IM C z n j o S q w) (L:0<q.pos):
  Calls Tryz.prog 202 #[.pointer (some ⟨o,0,none⟩),exV x] w (zQ C z n j o (zN C x q) id (fun q'=>.int .i64 ((q'.ex.length:Int)-1)) S w):=by
 by_cases H:q.ex.length<300
 ·refine (zlL C z n j o S q x w h H).mono ?_
  rintro e D ⟨rfl,O,I,N⟩
  rw[zN,if_neg (by omega)]
  exact⟨by simp,O,I,N⟩
 ·have A:Hid (IM C z n j o S q w):=h
  have K:Hid (zN C x q= .error (zr C (q.pos-1))):=by show _=_;rw[zN,if_pos (by omega)]
  obtain⟨X,c1,Q,c3,c4,c5,Z,V,Y,U,cf⟩:=zac h.cells
  have M:=h.lt
  clear h
  unfold exV
  go_enter Tryz.func202,Tryz.ntmps202
  go_wp2_with fail
  refine (zeb C z n j o S q q.ex.length 300 _ (A.out.alloc _) (by omega) L).mono ?_
  rintro e D ⟨rfl,J⟩
  have E:Hid (Below j w D):=(((Below.refl _ _).alloc (Nat.le_refl _) _).mono A.out.mem.base).trans (J.mono (A.out.alloc _).mem.base)
  unfold Pan
  go_wp2
  refine⟨rfl,?_⟩
  rw[K.out]
  exact⟨rfl,E.out⟩
theorem zlN (C:Cx) (z n j o:Nat) (S:Sv) (q:PS) (x:Im) (w:World) (h:IM C z n j o S q w) (L:0<q.pos):
  Calls Tryz.prog 196 #[.pointer (some ⟨o,0,none⟩),imV x] w (zQ C z n j o (zak C x q) id (fun _=>.tuple #[]) S w):=by
 by_cases H:q.im.length<40
 ·refine (zlM C z n j o S q x w h H).mono ?_
  rintro e D ⟨rfl,O,I,N⟩
  rw[zak,if_neg (by omega)]
  exact⟨rfl,O,I,N⟩
 ·have A:Hid (IM C z n j o S q w):=h
  have K:Hid (zak C x q= .error (zr C (q.pos-1))):=by show _=_;rw[zak,if_pos (by omega)]
  obtain⟨X,c1,Q,c3,c4,c5,Z,V,Y,U,cf⟩:=zac h.cells
  have M:=h.lt
  clear h
  unfold imV
  go_enter Tryz.func196,Tryz.ntmps196
  go_wp2_with fail
  refine (zeb C z n j o S q q.im.length 40 _ (A.out.alloc _) (by omega) L).mono ?_
  rintro e D ⟨rfl,J⟩
  have E:Hid (Below j w D):=(((Below.refl _ _).alloc (Nat.le_refl _) _).mono A.out.mem.base).trans (J.mono (A.out.alloc _).mem.base)
  unfold Pan
  go_wp2
  refine⟨rfl,?_⟩
  rw[K.out]
  exact⟨rfl,E.out⟩
theorem zau {P:Program} {j:Code} {Q:Exit→Act→World→Prop} {a:Act} {w0:World} {R:World→Prop} (n:R w0) (h: ∀W,R W→Code.wp P j Q a W):Code.wp P j Q a w0:=h w0 n
theorem zeI (x:Ep): ∀u∈epL x,u.oneCell'=true:=by
 intro u j
 simp[epL] at j
 rcases j with rfl|rfl|rfl|rfl<;>rfl
theorem IM.back {C:Cx} {D n j o:Nat} {S A:Sv} {q:PS} {w z:World} (h:IM C D n j o S q w) (s:IS o S w A z):Below j w z:=s.under h.mem.base h.mem.own h.ge
theorem IS.grownI {o:Nat} {S n:Sv} {w q j:World} (h:Below w.heap.size w q) (k:IS o S q n j):IS o S w n j:=(IS.below h).trans k
theorem zlO (C:Cx) (L o j n:Nat) (S:Sv) (q:PS) (x:Ep) (w:World) (h:IM C L o j n S q w) (hn:q.ep.length+q.la.length<40) (he:(x.loc.toList==[42,100,101,102,97,117,108,116])=false):
  Calls Tryz.prog 178 #[.pointer (some ⟨n,0,none⟩),epV x] w fun e Y=>e= .returned (.tuple #[])∧∃S',IM C L o j n S' {q with ep:=q.ep++[x]} Y∧IS n S w S' Y:=by
 obtain⟨i0,hi,X,Q,V⟩:=info_parts Tryz.infoExp
 have HH:=zc h
 have ae:=h.lt
 have HA:Hid (IM C L o j n S q (w.alloc (.cells #[.int .i64 x.kind,.string x.name,.string x.loc,.string x.spec] 102))):=h.alloc _
 have cR: ∀d os,Calls Tryz.prog 184 #[.pointer (some ⟨n,0,none⟩),.int .i64 ((q.ep.length:Int)+q.la.length),.int .i64 40] (grow (redrawn (w.alloc (.cells #[.int .i64 x.kind,.string x.name,.string x.loc,.string x.spec] 102)) d) os) fun e O=>e= .returned (.tuple #[])∧∃p:Regrown,O=grow (redrawn (w.alloc (.cells #[.int .i64 x.kind,.string x.name,.string x.loc,.string x.spec] 102)) p.d) p.os:=
  fun d os=>Calls.regrown_of ((zd3 n _ 40 _ (by omega)).mono (by rintro e Y ⟨rfl,rfl⟩;exact⟨rfl,Below.refl _ _⟩))
 obtain⟨_,_,_,_,_,_,N,_,_,M,_⟩:=zac HA.out.cells
 have C6:=zc N
 have C9:=zc M
 have ag:IntKind.i64.wrap ((q.ep.length:Int)+(q.la.length:Int))=(q.ep.length:Int)+(q.la.length:Int):=IntWalk.i64_in _ ⟨by omega,by omega⟩
 clear h N M
 unfold epV
 go_enter Tryz.func178,Tryz.ntmps178
 go_wp2_with fail
 have k6:=cell_regrown C6.out
 have k9:=cell_regrown C9.out
 refine wp_region_quiet_below (by kernel_rfl) (by kernel_rfl) ?_
 repeat (go_big_quiet_step (exact cR _ _))
 refine wpQuiet_nil ?_
 intro z Z
 obtain⟨⟨dq,ah⟩,A⟩:=Z
 have E:Hid (Below (w.alloc (.cells #[.int .i64 x.kind,.string x.name,.string x.loc,.string x.spec] 102)).heap.size (w.alloc (.cells #[.int .i64 x.kind,.string x.name,.string x.loc,.string x.spec] 102)) z):=by show Below _ _ _;rw[A];exact below_regrown _ _ _
 clear A k6 k9 cR C6 C9
 have I:Hid (IM C L o j n S q z):=HA.out.later E.out
 have HG:Hid (z.heap[w.heap.size]? =some (.cells #[.int .i64 x.kind,.string x.name,.string x.loc,.string x.spec] 102 (0,0))):=(E.out.block _ (by rw[zk];omega)).trans (heap_alloc_new w _)
 have HW:Hid (Below w.heap.size w z):=((Below.refl _ _).alloc (Nat.le_refl _) _).trans (E.out.mono (by rw[zk];omega))
 obtain⟨b0,b1,b2,b3,bf⟩:=zdn HG.out
 obtain⟨c0,c1,c2,c3,c4,c5,N,c7,c8,M,cf⟩:=zac I.out.cells
 have J:=fun D=>(I.out.mem.own.ep.drew.alloc D)
 have af:=I.out.mem.base
 have ad:=I.out.lt
 have HN:Hid (some n≠S.ep.blk):=fun e=>I.out.free (.inr (.inr (.inl e.symm)))
 have aa: ∀D,j≤(z.alloc D).heap.size:=fun D=>by rw[zk];omega
 have ac: ∀D,n<(z.alloc D).heap.size:=fun D=>by rw[zk];omega
 go_wp2_with fail
 go_region_law (first|(refine zcI rfl (.tmp 36) (.tmp 38) 24 rfl j 102 i0 _ 4 56 Tryz.underlying24 hi X Q V rfl (by decide) (by decide) S.ep q.ep.length (q.ep.flatMap epL) (by rfl) (by exact J _) z.heap.size (epL x) (by rfl) (by exact heap_alloc_new z _) rfl (zeI x) (by omega) (by exact aa _) ?_;intro r' w2 hr H K;have g2:=(H.block n (by exact ac _) HN.out).trans (by exact (I.out.alloc _).cells);obtain⟨d0,d1,d2,d3,d4,d5,d6,d7,d8,d9,df⟩:=zac g2))
 all_goals
  have HR:=zc hr
  have U:=zc H
  have ab:=zc K
  clear hr H K g2 c0 c1 c2 c3 c4 c5 N c7 c8 M cf b0 b1 b2 b3 bf
  go_wp2
  go_end0
  obtain⟨m',s'⟩:=I.out.grow_ep ((Below.refl _ _).alloc (Nat.le_refl _) _).drew U.out HR.out ab.out hn
  exact⟨rfl,_,m',s'.grownI HW.out⟩
theorem zlP (C:Cx) (L o j n:Nat) (S:Sv) (q:PS) (x:Ep) (w:World) (h:IM C L o j n S q w) (hn:q.ep.length+q.la.length<40) (he:(x.loc.toList==[42,100,101,102,97,117,108,116])=true):
  Calls Tryz.prog 178 #[.pointer (some ⟨n,0,none⟩),epV x] w fun e Y=>e= .returned (.tuple #[])∧∃S',IM C L o j n S' {q with la:=q.la++[x]} Y∧IS n S w S' Y:=by
 obtain⟨i0,hi,X,Q,V⟩:=info_parts Tryz.infoExp
 have HH:=zc h
 have ae:=h.lt
 have HA:Hid (IM C L o j n S q (w.alloc (.cells #[.int .i64 x.kind,.string x.name,.string x.loc,.string x.spec] 102))):=h.alloc _
 have cR: ∀d os,Calls Tryz.prog 184 #[.pointer (some ⟨n,0,none⟩),.int .i64 ((q.ep.length:Int)+q.la.length),.int .i64 40] (grow (redrawn (w.alloc (.cells #[.int .i64 x.kind,.string x.name,.string x.loc,.string x.spec] 102)) d) os) fun e O=>e= .returned (.tuple #[])∧∃p:Regrown,O=grow (redrawn (w.alloc (.cells #[.int .i64 x.kind,.string x.name,.string x.loc,.string x.spec] 102)) p.d) p.os:=
  fun d os=>Calls.regrown_of ((zd3 n _ 40 _ (by omega)).mono (by rintro e Y ⟨rfl,rfl⟩;exact⟨rfl,Below.refl _ _⟩))
 obtain⟨_,_,_,_,_,_,N,_,_,M,_⟩:=zac HA.out.cells
 have C6:=zc N
 have C9:=zc M
 have ag:IntKind.i64.wrap ((q.ep.length:Int)+(q.la.length:Int))=(q.ep.length:Int)+(q.la.length:Int):=IntWalk.i64_in _ ⟨by omega,by omega⟩
 clear h N M
 unfold epV
 go_enter Tryz.func178,Tryz.ntmps178
 go_wp2_with fail
 have k6:=cell_regrown C6.out
 have k9:=cell_regrown C9.out
 refine wp_region_quiet_below (by kernel_rfl) (by kernel_rfl) ?_
 repeat (go_big_quiet_step (exact cR _ _))
 refine wpQuiet_nil ?_
 intro z Z
 obtain⟨⟨dq,ah⟩,A⟩:=Z
 have E:Hid (Below (w.alloc (.cells #[.int .i64 x.kind,.string x.name,.string x.loc,.string x.spec] 102)).heap.size (w.alloc (.cells #[.int .i64 x.kind,.string x.name,.string x.loc,.string x.spec] 102)) z):=by show Below _ _ _;rw[A];exact below_regrown _ _ _
 clear A k6 k9 cR C6 C9
 have I:Hid (IM C L o j n S q z):=HA.out.later E.out
 have HG:Hid (z.heap[w.heap.size]? =some (.cells #[.int .i64 x.kind,.string x.name,.string x.loc,.string x.spec] 102 (0,0))):=(E.out.block _ (by rw[zk];omega)).trans (heap_alloc_new w _)
 have HW:Hid (Below w.heap.size w z):=((Below.refl _ _).alloc (Nat.le_refl _) _).trans (E.out.mono (by rw[zk];omega))
 obtain⟨b0,b1,b2,b3,bf⟩:=zdn HG.out
 obtain⟨c0,c1,c2,c3,c4,c5,N,c7,c8,M,cf⟩:=zac I.out.cells
 have J:=fun D=>(I.out.mem.own.la.drew.alloc D)
 have af:=I.out.mem.base
 have ad:=I.out.lt
 have HN:Hid (some n≠S.la.blk):=fun e=>I.out.free (.inr (.inr (.inr (.inr (.inr e.symm)))))
 have aa: ∀D,j≤(z.alloc D).heap.size:=fun D=>by rw[zk];omega
 have ac: ∀D,n<(z.alloc D).heap.size:=fun D=>by rw[zk];omega
 go_wp2_with fail
 go_region_law (first|(refine zcI rfl (.tmp 25) (.tmp 27) 24 rfl j 102 i0 _ 4 56 Tryz.underlying24 hi X Q V rfl (by decide) (by decide) S.la q.la.length (q.la.flatMap epL) (by rfl) (by exact J _) z.heap.size (epL x) (by rfl) (by exact heap_alloc_new z _) rfl (zeI x) (by omega) (by exact aa _) ?_;intro r' w2 hr H K;have g2:=(H.block n (by exact ac _) HN.out).trans (by exact (I.out.alloc _).cells);obtain⟨d0,d1,d2,d3,d4,d5,d6,d7,d8,d9,df⟩:=zac g2))
 all_goals
  have HR:=zc hr
  have U:=zc H
  have ab:=zc K
  clear hr H K g2 c0 c1 c2 c3 c4 c5 N c7 c8 M cf b0 b1 b2 b3 bf
  go_wp2
  go_end0
  obtain⟨m',s'⟩:=I.out.grow_la ((Below.refl _ _).alloc (Nat.le_refl _) _).drew U.out HR.out ab.out hn
  exact⟨rfl,_,m',s'.grownI HW.out⟩
theorem zlQ (C:Cx) (A n j o:Nat) (S:Sv) (q:PS) (x:Ep) (w:World) (h:IM C A n j o S q w) (Q: ¬q.ep.length+q.la.length<40) (L:0<q.pos):
  Calls Tryz.prog 178 #[.pointer (some ⟨o,0,none⟩),epV x] w fun e J=>e=Pan (zr C (q.pos-1))∧Below j w J:=by
 have N:=zc h
 have M:=h.lt
 have D:=h.mem.inv.ep
 have z:Hid (IM C A n j o S q (w.alloc (.cells #[.int .i64 x.kind,.string x.name,.string x.loc,.string x.spec] 102))):=h.alloc _
 obtain⟨X,c1,O,c3,c4,c5,Z,V,Y,U,cf⟩:=zac z.out.cells
 have I:IntKind.i64.wrap ((q.ep.length:Int)+(q.la.length:Int))=(q.ep.length:Int)+(q.la.length:Int):=IntWalk.i64_in _ ⟨by omega,by omega⟩
 clear h
 unfold epV
 go_enter Tryz.func178,Tryz.ntmps178
 go_wp2_with fail
 go_region_dies
 all_goals
  refine (zeb C A n j o S q _ 40 _ z.out.drew (by omega) L).mono ?_
  rintro e H ⟨rfl,K⟩
  have E:Hid (Below j w H):=(((Below.refl _ _).alloc (Nat.le_refl _) _).drew.mono N.out.mem.base).trans (K.mono z.out.drew.mem.base)
  exact⟨rfl,rfl,E.out⟩
theorem zeJ (C:Cx) (z n j o:Nat) (S:Sv) (q:PS) (x:Ep) (w:World) (h:IM C z n j o S q w) (L:0<q.pos):
  Calls Tryz.prog 178 #[.pointer (some ⟨o,0,none⟩),epV x] w (zQ C z n j o (zo C x q) id (fun _=>.tuple #[]) S w):=by
 by_cases I:q.ep.length+q.la.length<40
 ·cases A:(x.loc.toList==[42,100,101,102,97,117,108,116]) with
  |true=>
   refine (zlP C z n j o S q x w h I A).mono ?_
   rintro e J ⟨rfl,H,D,E⟩
   rw[zo,if_neg (by omega),if_pos A]
   exact⟨rfl,H,D,E⟩
  |false=>
   refine (zlO C z n j o S q x w h I A).mono ?_
   rintro e J ⟨rfl,H,D,E⟩
   rw[zo,if_neg (by omega),if_neg (by rw[A];decide)]
   exact⟨rfl,H,D,E⟩
 ·refine (zlQ C z n j o S q x w h I L).mono ?_
  rintro e J ⟨rfl,K⟩
  rw[zo,if_pos (by omega)]
  exact⟨rfl,K⟩
end Go.Proofs.YticdggnnpjachaaGreat
