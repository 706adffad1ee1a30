/-
  What room of impl's parser answers where there is none; addExpr,addImp whole: the walks.
  What addExp of impl's parser answers: the walks.
-/
import Derived.RegionDies
import Derived.Test.YticdggnnpjachaaGreatCbImplParseEToImplParseG
namespace Go.Proofs.YticdggnnpjachaaGreat
set_option maxRecDepth 100000
set_option maxHeartbeats 3200000
open Go.RowKit Go.PlainAid Go.Sort
theorem zeb (C:Cx) (Z z n D:Nat) (S:Sv) (q:PS) (c m:Int) (w:World) (h:IM C Z z n D S q w) (N:m≤c) (U:0<q.pos):
  Calls Tryz.prog 184 #[.pointer (some ⟨D,0,none⟩),.int .i64 c,.int .i64 m] w fun e V=>e=Pan (zr C (q.pos-1))∧Below w.heap.size w V:=by
 obtain⟨c0,c1,c2,c3,_,_,_,_,_,_,cf⟩:=zac h.cells
 have hd:decide (m≤c)=true:=decide_eq_true N
 have H:=(zan h.mem.tok).1
 have L:=h.mem.few
 have j:=h.mem.inv.pos
 obtain⟨k,Y⟩: ∃k,q.pos=k+1:=⟨q.pos-1,by omega⟩
 have O:(q.pos:Int)-1=(k:Int):=by omega
 have X:Hid (q.pos-1=k):=by show q.pos-1=k;omega
 have o:k<C.ts.length:=by omega
 have M:(k:Int)<(C.ts.length:Int):=by omega
 have Q:IntKind.i64.wrap (k:Int)=(k:Int):=IntWalk.i64_in _ ⟨by omega,by omega⟩
 obtain⟨K,I,J,A⟩:=h.mem.tok.cells o (d:=⟨0,sNone,0,C.fin⟩)
 change _=some (Value.int .i64 (ze C k).kind) at K
 change _=some (Value.string (ze C k).text) at I
 change _=some (Value.int .i64 (ze C k).num) at J
 change _=some (Value.int .i64 (ze C k).pos) at A
 have E:Hid (zr C k=(ze C k).pos):=rfl
 generalize ze C k=t at K I J A E
 clear h Y j U
 go_enter Tryz.func184,Tryz.ntmps184
 go_wp2
 go_region_dies
 all_goals
  refine⟨rfl,?_⟩
  rw[X.out,E.out]
  exact⟨rfl,(Below.refl _ _).drew⟩
theorem zec (C:Cx) (z n j o:Nat) (S:Sv) (q:PS) (x:Ex) (w:World) (h:IM C z n j o S q w) (H:0<q.pos):
  Calls Tryz.prog 202 #[.pointer (some ⟨o,0,none⟩),exV x] w (zQ C z n j o (zN C x q) id (fun q'=>.int .i64 ((q'.ex.length:Int)-1)) S w):=by
 by_cases M:q.ex.length<300
 ·refine (zlL C z n j o S q x w h M).mono ?_
  rintro e D ⟨rfl,I,E,O⟩
  rw[zN,if_neg (by omega)]
  exact⟨by simp,I,E,O⟩
 ·have A:Hid (IM C z n j o S q w):=h
  have K:Hid (zN C x q= .error (zr C (q.pos-1))):=by show _=_;rw[zN,if_pos (by omega)]
  obtain⟨c0,Z,c2,V,c4,Y,U,X,Q,c9,cf⟩:=zac h.cells
  have N:=h.lt
  clear h
  unfold exV
  go_enter Tryz.func202,Tryz.ntmps202
  go_wp2_with fail
  refine (zeb C z n j o S q q.ex.length 300 _ (A.out.alloc _) (by omega) H).mono ?_
  rintro e D ⟨rfl,L⟩
  have J:Hid (Below j w D):=(((Below.refl _ _).alloc (Nat.le_refl _) _).mono A.out.mem.base).trans (L.mono (A.out.alloc _).mem.base)
  unfold Pan
  go_wp2
  refine⟨rfl,?_⟩
  rw[K.out]
  exact⟨rfl,J.out⟩
theorem zlN (C:Cx) (z n j o:Nat) (S:Sv) (q:PS) (x:Im) (w:World) (h:IM C z n j o S q w) (H:0<q.pos):
  Calls Tryz.prog 196 #[.pointer (some ⟨o,0,none⟩),imV x] w (zQ C z n j o (zak C x q) id (fun _=>.tuple #[]) S w):=by
 by_cases M:q.im.length<40
 ·refine (zlM C z n j o S q x w h M).mono ?_
  rintro e D ⟨rfl,I,E,O⟩
  rw[zak,if_neg (by omega)]
  exact⟨rfl,I,E,O⟩
 ·have A:Hid (IM C z n j o S q w):=h
  have K:Hid (zak C x q= .error (zr C (q.pos-1))):=by show _=_;rw[zak,if_pos (by omega)]
  obtain⟨c0,Z,c2,V,c4,Y,U,X,Q,c9,cf⟩:=zac h.cells
  have N:=h.lt
  clear h
  unfold imV
  go_enter Tryz.func196,Tryz.ntmps196
  go_wp2_with fail
  refine (zeb C z n j o S q q.im.length 40 _ (A.out.alloc _) (by omega) H).mono ?_
  rintro e D ⟨rfl,L⟩
  have J:Hid (Below j w D):=(((Below.refl _ _).alloc (Nat.le_refl _) _).mono A.out.mem.base).trans (L.mono (A.out.alloc _).mem.base)
  unfold Pan
  go_wp2
  refine⟨rfl,?_⟩
  rw[K.out]
  exact⟨rfl,J.out⟩
theorem zau {P:Program} {j:Code} {Q:Exit→Act→World→Prop} {a:Act} {w0:World} {R:World→Prop} (n:R w0) (h: ∀W,R W→Code.wp P j Q a W):Code.wp P j Q a w0:=h w0 n
theorem zeI (x:Ep): ∀u∈epL x,u.oneCell'=true:=by
 intro u j
 simp[epL] at j
 rcases j with rfl|rfl|rfl|rfl<;>rfl
theorem IM.back {C:Cx} {A n j z:Nat} {S D:Sv} {q:PS} {w o:World} (h:IM C A n j z S q w) (s:IS z S w D o):Below j w o:=s.under h.mem.base h.mem.own h.ge
theorem IS.grownI {n:Nat} {S q:Sv} {w j o:World} (h:Below w.heap.size w j) (k:IS n S j q o):IS n S w q o:=(IS.below h).trans k
theorem zlO (C:Cx) (N o j n:Nat) (S:Sv) (q:PS) (x:Ep) (w:World) (h:IM C N o j n S q w) (hn:q.ep.length+q.la.length<40) (he:(x.loc.toList==[42,100,101,102,97,117,108,116])=false):
  Calls Tryz.prog 178 #[.pointer (some ⟨n,0,none⟩),epV x] w fun e V=>e= .returned (.tuple #[])∧∃S',IM C N o j n S' {q with ep:=q.ep++[x]} V∧IS n S w S' V:=by
 obtain⟨i0,hi,O,ac,ab⟩:=info_parts Tryz.infoExp
 have HH:=zc h
 have ag:=h.lt
 have HA:Hid (IM C N o j n S q (w.alloc (.cells #[.int .i64 x.kind,.string x.name,.string x.loc,.string x.spec] 102))):=h.alloc _
 have cR: ∀d os,Calls Tryz.prog 184 #[.pointer (some ⟨n,0,none⟩),.int .i64 ((q.ep.length:Int)+q.la.length),.int .i64 40] (grow (redrawn (w.alloc (.cells #[.int .i64 x.kind,.string x.name,.string x.loc,.string x.spec] 102)) d) os) fun e U=>e= .returned (.tuple #[])∧∃p:Regrown,U=grow (redrawn (w.alloc (.cells #[.int .i64 x.kind,.string x.name,.string x.loc,.string x.spec] 102)) p.d) p.os:=
  fun d os=>Calls.regrown_of ((zd3 n _ 40 _ (by omega)).mono (by rintro e V ⟨rfl,rfl⟩;exact⟨rfl,Below.refl _ _⟩))
 obtain⟨_,_,_,_,_,_,M,_,_,L,_⟩:=zac HA.out.cells
 have C6:=zc M
 have C9:=zc L
 have ae:IntKind.i64.wrap ((q.ep.length:Int)+(q.la.length:Int))=(q.ep.length:Int)+(q.la.length:Int):=IntWalk.i64_in _ ⟨by omega,by omega⟩
 clear h M L
 unfold epV
 go_enter Tryz.func178,Tryz.ntmps178
 go_wp2_with fail
 have k6:=cell_regrown C6.out
 have k9:=cell_regrown C9.out
 refine wp_region_quiet_below (by kernel_rfl) (by kernel_rfl) ?_
 repeat (go_big_quiet_step (exact cR _ _))
 refine wpQuiet_nil ?_
 intro z aa
 obtain⟨⟨dq,ah⟩,A⟩:=aa
 have I:Hid (Below (w.alloc (.cells #[.int .i64 x.kind,.string x.name,.string x.loc,.string x.spec] 102)).heap.size (w.alloc (.cells #[.int .i64 x.kind,.string x.name,.string x.loc,.string x.spec] 102)) z):=by show Below _ _ _;rw[A];exact below_regrown _ _ _
 clear A k6 k9 cR C6 C9
 have D:Hid (IM C N o j n S q z):=HA.out.later I.out
 have HG:Hid (z.heap[w.heap.size]? =some (.cells #[.int .i64 x.kind,.string x.name,.string x.loc,.string x.spec] 102 (0,0))):=(I.out.block _ (by rw[zk];omega)).trans (heap_alloc_new w _)
 have HW:Hid (Below w.heap.size w z):=((Below.refl _ _).alloc (Nat.le_refl _) _).trans (I.out.mono (by rw[zk];omega))
 obtain⟨b0,b1,b2,b3,bf⟩:=zdn HG.out
 obtain⟨c0,c1,c2,c3,c4,c5,M,c7,c8,L,cf⟩:=zac D.out.cells
 have K:=fun E=>(D.out.mem.own.ep.drew.alloc E)
 have af:=D.out.mem.base
 have ad:=D.out.lt
 have HN:Hid (some n≠S.ep.blk):=fun e=>D.out.free (.inr (.inr (.inl e.symm)))
 have Q: ∀E,j≤(z.alloc E).heap.size:=fun E=>by rw[zk];omega
 have Y: ∀E,n<(z.alloc E).heap.size:=fun E=>by rw[zk];omega
 go_wp2_with fail
 go_region_law (first|(refine zcI rfl (.tmp 36) (.tmp 38) 24 rfl j 102 i0 _ 4 56 Tryz.underlying24 hi O ac ab rfl (by decide) (by decide) S.ep q.ep.length (q.ep.flatMap epL) (by rfl) (by exact K _) z.heap.size (epL x) (by rfl) (by exact heap_alloc_new z _) rfl (zeI x) (by omega) (by exact Q _) ?_;intro r' w2 hr H J;have g2:=(H.block n (by exact Y _) HN.out).trans (by exact (D.out.alloc _).cells);obtain⟨d0,d1,d2,d3,d4,d5,d6,d7,d8,d9,df⟩:=zac g2))
 all_goals
  have HR:=zc hr
  have Z:=zc H
  have X:=zc J
  clear hr H J g2 c0 c1 c2 c3 c4 c5 M c7 c8 L cf b0 b1 b2 b3 bf
  go_wp2
  go_end0
  obtain⟨m',s'⟩:=D.out.grow_ep ((Below.refl _ _).alloc (Nat.le_refl _) _).drew Z.out HR.out X.out hn
  exact⟨rfl,_,m',s'.grownI HW.out⟩
theorem zlP (C:Cx) (N o j n:Nat) (S:Sv) (q:PS) (x:Ep) (w:World) (h:IM C N o j n S q w) (hn:q.ep.length+q.la.length<40) (he:(x.loc.toList==[42,100,101,102,97,117,108,116])=true):
  Calls Tryz.prog 178 #[.pointer (some ⟨n,0,none⟩),epV x] w fun e V=>e= .returned (.tuple #[])∧∃S',IM C N o j n S' {q with la:=q.la++[x]} V∧IS n S w S' V:=by
 obtain⟨i0,hi,O,ac,ab⟩:=info_parts Tryz.infoExp
 have HH:=zc h
 have ag:=h.lt
 have HA:Hid (IM C N o j n S q (w.alloc (.cells #[.int .i64 x.kind,.string x.name,.string x.loc,.string x.spec] 102))):=h.alloc _
 have cR: ∀d os,Calls Tryz.prog 184 #[.pointer (some ⟨n,0,none⟩),.int .i64 ((q.ep.length:Int)+q.la.length),.int .i64 40] (grow (redrawn (w.alloc (.cells #[.int .i64 x.kind,.string x.name,.string x.loc,.string x.spec] 102)) d) os) fun e U=>e= .returned (.tuple #[])∧∃p:Regrown,U=grow (redrawn (w.alloc (.cells #[.int .i64 x.kind,.string x.name,.string x.loc,.string x.spec] 102)) p.d) p.os:=
  fun d os=>Calls.regrown_of ((zd3 n _ 40 _ (by omega)).mono (by rintro e V ⟨rfl,rfl⟩;exact⟨rfl,Below.refl _ _⟩))
 obtain⟨_,_,_,_,_,_,M,_,_,L,_⟩:=zac HA.out.cells
 have C6:=zc M
 have C9:=zc L
 have ae:IntKind.i64.wrap ((q.ep.length:Int)+(q.la.length:Int))=(q.ep.length:Int)+(q.la.length:Int):=IntWalk.i64_in _ ⟨by omega,by omega⟩
 clear h M L
 unfold epV
 go_enter Tryz.func178,Tryz.ntmps178
 go_wp2_with fail
 have k6:=cell_regrown C6.out
 have k9:=cell_regrown C9.out
 refine wp_region_quiet_below (by kernel_rfl) (by kernel_rfl) ?_
 repeat (go_big_quiet_step (exact cR _ _))
 refine wpQuiet_nil ?_
 intro z aa
 obtain⟨⟨dq,ah⟩,A⟩:=aa
 have I:Hid (Below (w.alloc (.cells #[.int .i64 x.kind,.string x.name,.string x.loc,.string x.spec] 102)).heap.size (w.alloc (.cells #[.int .i64 x.kind,.string x.name,.string x.loc,.string x.spec] 102)) z):=by show Below _ _ _;rw[A];exact below_regrown _ _ _
 clear A k6 k9 cR C6 C9
 have D:Hid (IM C N o j n S q z):=HA.out.later I.out
 have HG:Hid (z.heap[w.heap.size]? =some (.cells #[.int .i64 x.kind,.string x.name,.string x.loc,.string x.spec] 102 (0,0))):=(I.out.block _ (by rw[zk];omega)).trans (heap_alloc_new w _)
 have HW:Hid (Below w.heap.size w z):=((Below.refl _ _).alloc (Nat.le_refl _) _).trans (I.out.mono (by rw[zk];omega))
 obtain⟨b0,b1,b2,b3,bf⟩:=zdn HG.out
 obtain⟨c0,c1,c2,c3,c4,c5,M,c7,c8,L,cf⟩:=zac D.out.cells
 have K:=fun E=>(D.out.mem.own.la.drew.alloc E)
 have af:=D.out.mem.base
 have ad:=D.out.lt
 have HN:Hid (some n≠S.la.blk):=fun e=>D.out.free (.inr (.inr (.inr (.inr (.inr e.symm)))))
 have Q: ∀E,j≤(z.alloc E).heap.size:=fun E=>by rw[zk];omega
 have Y: ∀E,n<(z.alloc E).heap.size:=fun E=>by rw[zk];omega
 go_wp2_with fail
 go_region_law (first|(refine zcI rfl (.tmp 25) (.tmp 27) 24 rfl j 102 i0 _ 4 56 Tryz.underlying24 hi O ac ab rfl (by decide) (by decide) S.la q.la.length (q.la.flatMap epL) (by rfl) (by exact K _) z.heap.size (epL x) (by rfl) (by exact heap_alloc_new z _) rfl (zeI x) (by omega) (by exact Q _) ?_;intro r' w2 hr H J;have g2:=(H.block n (by exact Y _) HN.out).trans (by exact (D.out.alloc _).cells);obtain⟨d0,d1,d2,d3,d4,d5,d6,d7,d8,d9,df⟩:=zac g2))
 all_goals
  have HR:=zc hr
  have Z:=zc H
  have X:=zc J
  clear hr H J g2 c0 c1 c2 c3 c4 c5 M c7 c8 L cf b0 b1 b2 b3 bf
  go_wp2
  go_end0
  obtain⟨m',s'⟩:=D.out.grow_la ((Below.refl _ _).alloc (Nat.le_refl _) _).drew Z.out HR.out X.out hn
  exact⟨rfl,_,m',s'.grownI HW.out⟩
theorem zlQ (C:Cx) (A n j o:Nat) (S:Sv) (q:PS) (x:Ep) (w:World) (h:IM C A n j o S q w) (hn: ¬q.ep.length+q.la.length<40) (D:0<q.pos):
  Calls Tryz.prog 178 #[.pointer (some ⟨o,0,none⟩),epV x] w fun e H=>e=Pan (zr C (q.pos-1))∧Below j w H:=by
 have L:=zc h
 have N:=h.lt
 have J:=h.mem.inv.ep
 have z:Hid (IM C A n j o S q (w.alloc (.cells #[.int .i64 x.kind,.string x.name,.string x.loc,.string x.spec] 102))):=h.alloc _
 obtain⟨c0,Y,Z,U,c4,X,Q,V,O,c9,cf⟩:=zac z.out.cells
 have E:IntKind.i64.wrap ((q.ep.length:Int)+(q.la.length:Int))=(q.ep.length:Int)+(q.la.length:Int):=IntWalk.i64_in _ ⟨by omega,by omega⟩
 clear h
 unfold epV
 go_enter Tryz.func178,Tryz.ntmps178
 go_wp2_with fail
 go_region_dies
 all_goals
  refine (zeb C A n j o S q _ 40 _ z.out.drew (by omega) D).mono ?_
  rintro e M ⟨rfl,K⟩
  have I:Hid (Below j w M):=(((Below.refl _ _).alloc (Nat.le_refl _) _).drew.mono L.out.mem.base).trans (K.mono z.out.drew.mem.base)
  exact⟨rfl,rfl,I.out⟩
theorem zeJ (C:Cx) (z n j o:Nat) (S:Sv) (q:PS) (x:Ep) (w:World) (h:IM C z n j o S q w) (L:0<q.pos):
  Calls Tryz.prog 178 #[.pointer (some ⟨o,0,none⟩),epV x] w (zQ C z n j o (zo C x q) id (fun _=>.tuple #[]) S w):=by
 by_cases I:q.ep.length+q.la.length<40
 ·cases A:(x.loc.toList==[42,100,101,102,97,117,108,116]) with
  |true=>
   refine (zlP C z n j o S q x w h I A).mono ?_
   rintro e J ⟨rfl,D,E,H⟩
   rw[zo,if_neg (by omega),if_pos A]
   exact⟨rfl,D,E,H⟩
  |false=>
   refine (zlO C z n j o S q x w h I A).mono ?_
   rintro e J ⟨rfl,D,E,H⟩
   rw[zo,if_neg (by omega),if_neg (by rw[A];decide)]
   exact⟨rfl,D,E,H⟩
 ·refine (zlQ C z n j o S q x w h I L).mono ?_
  rintro e J ⟨rfl,K⟩
  rw[zo,if_pos (by omega)]
  exact⟨rfl,K⟩
end Go.Proofs.YticdggnnpjachaaGreat
