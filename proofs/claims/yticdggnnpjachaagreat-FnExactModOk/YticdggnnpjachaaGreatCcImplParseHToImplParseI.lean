/-
  What room of impl's parser answers where there is none; addExpr,addImp whole: the walks.
  What addExp of impl's parser answers: the walks.
-/
import Derived.RegionDies
import Derived.Test.YticdggnnpjachaaGreatCcImplParseEToImplParseG
namespace Go.Proofs.YticdggnnpjachaaGreat
set_option maxRecDepth 100000
set_option maxHeartbeats 3200000
open Go.RowKit Go.PlainAid Go.Sort
theorem zdI (C:Cx) (gt o n J:Nat) (S:Sv) (q:PS) (c m:Int) (w:World) (h:IM C gt o n J S q w) (Z:m≤c) (V:0<q.pos):
  Calls Tryz.prog 184 #[.pointer (some ⟨J,0,none⟩),.int .i64 c,.int .i64 m] w fun e X=>e=Pan (zq C (q.pos-1))∧Below w.heap.size w X:=by
 obtain⟨c0,c1,c2,c3,_,_,_,_,_,_,cf⟩:=zaa h.cells
 have hd:decide (m≤c)=true:=decide_eq_true Z
 have K:=(zak h.mem.tok).1
 have L:=h.mem.few
 have j:=h.mem.inv.pos
 obtain⟨k,U⟩: ∃k,q.pos=k+1:=⟨q.pos-1,by omega⟩
 have N:(q.pos:Int)-1=(k:Int):=by omega
 have O:Hid (q.pos-1=k):=by show q.pos-1=k;omega
 have z:k<C.ts.length:=by omega
 have Y:(k:Int)<(C.ts.length:Int):=by omega
 have M:IntKind.i64.wrap (k:Int)=(k:Int):=IntWalk.i64_in _ ⟨by omega,by omega⟩
 obtain⟨A,I,H,E⟩:=h.mem.tok.cells z (d:=⟨0,sNone,0,C.fin⟩)
 change _=some (Value.int .i64 (ze C k).kind) at A
 change _=some (Value.string (ze C k).text) at I
 change _=some (Value.int .i64 (ze C k).num) at H
 change _=some (Value.int .i64 (ze C k).pos) at E
 have D:Hid (zq C k=(ze C k).pos):=rfl
 generalize ze C k=t at A I H E D
 clear h U j V
 go_enter Tryz.func184,Tryz.ntmps184
 go_wp2
 go_region_dies
 all_goals
  refine⟨rfl,?_⟩
  rw[O.out,D.out]
  exact⟨rfl,(Below.refl _ _).drew⟩
theorem zdJ (C:Cx) (z n j o:Nat) (S:Sv) (q:PS) (x:Ex) (w:World) (h:IM C z n j o S q w) (J:0<q.pos):
  Calls Tryz.prog 202 #[.pointer (some ⟨o,0,none⟩),exV x] w (zN C z n j o (zM C x q) id (fun q'=>.int .i64 ((q'.ex.length:Int)-1)) S w):=by
 by_cases L:q.ex.length<300
 ·refine (zkz C z n j o S q x w h L).mono ?_
  rintro e D ⟨rfl,H,E,I⟩
  rw[zM,if_neg (by omega)]
  exact⟨by simp,H,E,I⟩
 ·have A:Hid (IM C z n j o S q w):=h
  have M:Hid (zM C x q= .error (zq C (q.pos-1))):=by show _=_;rw[zM,if_pos (by omega)]
  obtain⟨c0,c1,c2,c3,Y,V,X,Z,c8,U,cf⟩:=zaa h.cells
  have O:=h.lt
  clear h
  unfold exV
  go_enter Tryz.func202,Tryz.ntmps202
  go_wp2_with fail
  refine (zdI C z n j o S q q.ex.length 300 _ (A.out.alloc _) (by omega) J).mono ?_
  rintro e D ⟨rfl,N⟩
  have K:Hid (Below j w D):=(((Below.refl _ _).alloc (Nat.le_refl _) _).mono A.out.mem.base).trans (N.mono (A.out.alloc _).mem.base)
  unfold Pan
  go_wp2
  refine⟨rfl,?_⟩
  rw[M.out]
  exact⟨rfl,K.out⟩
theorem zk1 (C:Cx) (z n j o:Nat) (S:Sv) (q:PS) (x:Im) (w:World) (h:IM C z n j o S q w) (J:0<q.pos):
  Calls Tryz.prog 196 #[.pointer (some ⟨o,0,none⟩),imV x] w (zN C z n j o (zao C x q) id (fun _=>.tuple #[]) S w):=by
 by_cases L:q.im.length<40
 ·refine (zk0 C z n j o S q x w h L).mono ?_
  rintro e D ⟨rfl,H,E,I⟩
  rw[zao,if_neg (by omega)]
  exact⟨rfl,H,E,I⟩
 ·have A:Hid (IM C z n j o S q w):=h
  have M:Hid (zao C x q= .error (zq C (q.pos-1))):=by show _=_;rw[zao,if_pos (by omega)]
  obtain⟨c0,c1,c2,c3,Y,V,X,Z,c8,U,cf⟩:=zaa h.cells
  have O:=h.lt
  clear h
  unfold imV
  go_enter Tryz.func196,Tryz.ntmps196
  go_wp2_with fail
  refine (zdI C z n j o S q q.im.length 40 _ (A.out.alloc _) (by omega) J).mono ?_
  rintro e D ⟨rfl,N⟩
  have K:Hid (Below j w D):=(((Below.refl _ _).alloc (Nat.le_refl _) _).mono A.out.mem.base).trans (N.mono (A.out.alloc _).mem.base)
  unfold Pan
  go_wp2
  refine⟨rfl,?_⟩
  rw[M.out]
  exact⟨rfl,K.out⟩
theorem zah {P:Program} {j:Code} {Q:Exit→Act→World→Prop} {a:Act} {w0:World} {R:World→Prop} (n:R w0) (h: ∀W,R W→Code.wp P j Q a W):Code.wp P j Q a w0:=h w0 n
theorem zeZ (x:Ep): ∀u∈epL x,u.oneCell'=true:=by
 intro u h
 simp[epL] at h
 rcases h with rfl|rfl|rfl|rfl<;>rfl
theorem IM.back {C:Cx} {D n j z:Nat} {S A:Sv} {q:PS} {w o:World} (h:IM C D n j z S q w) (s:IS z S w A o):Below j w o:=s.under h.mem.base h.mem.own h.ge
theorem IS.grownI {j:Nat} {S n:Sv} {w o q:World} (h:Below w.heap.size w o) (k:IS j S o n q):IS j S w n q:=(IS.below h).trans k
theorem zk2 (C:Cx) (M o j n:Nat) (S:Sv) (q:PS) (x:Ep) (w:World) (h:IM C M o j n S q w) (hn:q.ep.length+q.la.length<40) (he:(x.loc.toList==[42,100,101,102,97,117,108,116])=false):
  Calls Tryz.prog 178 #[.pointer (some ⟨n,0,none⟩),epV x] w fun e Y=>e= .returned (.tuple #[])∧∃S',IM C M o j n S' {q with ep:=q.ep++[x]} Y∧IS n S w S' Y:=by
 obtain⟨i0,hi,U,ab,X⟩:=info_parts Tryz.infoExp
 have HH:=zc h
 have ah:=h.lt
 have HA:Hid (IM C M o j n S q (w.alloc (.cells #[.int .i64 x.kind,.string x.name,.string x.loc,.string x.spec] 102))):=h.alloc _
 have cR: ∀d os,Calls Tryz.prog 184 #[.pointer (some ⟨n,0,none⟩),.int .i64 ((q.ep.length:Int)+q.la.length),.int .i64 40] (grow (redrawn (w.alloc (.cells #[.int .i64 x.kind,.string x.name,.string x.loc,.string x.spec] 102)) d) os) fun e ac=>e= .returned (.tuple #[])∧∃p:Regrown,ac=grow (redrawn (w.alloc (.cells #[.int .i64 x.kind,.string x.name,.string x.loc,.string x.spec] 102)) p.d) p.os:=
  fun d os=>Calls.regrown_of ((zdj n _ 40 _ (by omega)).mono (by rintro e Y ⟨rfl,rfl⟩;exact⟨rfl,Below.refl _ _⟩))
 obtain⟨_,_,_,_,_,_,L,_,_,N,_⟩:=zaa HA.out.cells
 have C6:=zc L
 have C9:=zc N
 have af:IntKind.i64.wrap ((q.ep.length:Int)+(q.la.length:Int))=(q.ep.length:Int)+(q.la.length:Int):=IntWalk.i64_in _ ⟨by omega,by omega⟩
 clear h L N
 unfold epV
 go_enter Tryz.func178,Tryz.ntmps178
 go_wp2_with fail
 have k6:=cell_regrown C6.out
 have k9:=cell_regrown C9.out
 refine wp_region_quiet_below (by kernel_rfl) (by kernel_rfl) ?_
 repeat (go_big_quiet_step (exact cR _ _))
 refine wpQuiet_nil ?_
 intro A V
 obtain⟨⟨dq,ai⟩,z⟩:=V
 have E:Hid (Below (w.alloc (.cells #[.int .i64 x.kind,.string x.name,.string x.loc,.string x.spec] 102)).heap.size (w.alloc (.cells #[.int .i64 x.kind,.string x.name,.string x.loc,.string x.spec] 102)) A):=by show Below _ _ _;rw[z];exact below_regrown _ _ _
 clear z k6 k9 cR C6 C9
 have D:Hid (IM C M o j n S q A):=HA.out.later E.out
 have HG:Hid (A.heap[w.heap.size]? =some (.cells #[.int .i64 x.kind,.string x.name,.string x.loc,.string x.spec] 102 (0,0))):=(E.out.block _ (by rw[zj];omega)).trans (heap_alloc_new w _)
 have HW:Hid (Below w.heap.size w A):=((Below.refl _ _).alloc (Nat.le_refl _) _).trans (E.out.mono (by rw[zj];omega))
 obtain⟨b0,b1,b2,b3,bf⟩:=zcV HG.out
 obtain⟨c0,c1,c2,c3,c4,c5,L,c7,c8,N,cf⟩:=zaa D.out.cells
 have J:=fun H=>(D.out.mem.own.ep.drew.alloc H)
 have ag:=D.out.mem.base
 have ae:=D.out.lt
 have HN:Hid (some n≠S.ep.blk):=fun e=>D.out.free (.inr (.inr (.inl e.symm)))
 have aa: ∀H,j≤(A.alloc H).heap.size:=fun H=>by rw[zj];omega
 have ad: ∀H,n<(A.alloc H).heap.size:=fun H=>by rw[zj];omega
 go_wp2_with fail
 go_region_law (first|(refine zeq rfl (.tmp 36) (.tmp 38) 24 rfl j 102 i0 _ 4 56 Tryz.underlying24 hi U ab X rfl (by decide) (by decide) S.ep q.ep.length (q.ep.flatMap epL) (by rfl) (by exact J _) A.heap.size (epL x) (by rfl) (by exact heap_alloc_new A _) rfl (zeZ x) (by omega) (by exact aa _) ?_;intro r' w2 hr I K;have g2:=(I.block n (by exact ad _) HN.out).trans (by exact (D.out.alloc _).cells);obtain⟨d0,d1,d2,d3,d4,d5,d6,d7,d8,d9,df⟩:=zaa g2))
 all_goals
  have HR:=zc hr
  have Z:=zc I
  have O:=zc K
  clear hr I K g2 c0 c1 c2 c3 c4 c5 L c7 c8 N cf b0 b1 b2 b3 bf
  go_wp2
  go_end0
  obtain⟨m',s'⟩:=D.out.grow_ep ((Below.refl _ _).alloc (Nat.le_refl _) _).drew Z.out HR.out O.out hn
  exact⟨rfl,_,m',s'.grownI HW.out⟩
theorem zk3 (C:Cx) (M o j n:Nat) (S:Sv) (q:PS) (x:Ep) (w:World) (h:IM C M o j n S q w) (hn:q.ep.length+q.la.length<40) (he:(x.loc.toList==[42,100,101,102,97,117,108,116])=true):
  Calls Tryz.prog 178 #[.pointer (some ⟨n,0,none⟩),epV x] w fun e Y=>e= .returned (.tuple #[])∧∃S',IM C M o j n S' {q with la:=q.la++[x]} Y∧IS n S w S' Y:=by
 obtain⟨i0,hi,U,ab,X⟩:=info_parts Tryz.infoExp
 have HH:=zc h
 have ah:=h.lt
 have HA:Hid (IM C M o j n S q (w.alloc (.cells #[.int .i64 x.kind,.string x.name,.string x.loc,.string x.spec] 102))):=h.alloc _
 have cR: ∀d os,Calls Tryz.prog 184 #[.pointer (some ⟨n,0,none⟩),.int .i64 ((q.ep.length:Int)+q.la.length),.int .i64 40] (grow (redrawn (w.alloc (.cells #[.int .i64 x.kind,.string x.name,.string x.loc,.string x.spec] 102)) d) os) fun e ac=>e= .returned (.tuple #[])∧∃p:Regrown,ac=grow (redrawn (w.alloc (.cells #[.int .i64 x.kind,.string x.name,.string x.loc,.string x.spec] 102)) p.d) p.os:=
  fun d os=>Calls.regrown_of ((zdj n _ 40 _ (by omega)).mono (by rintro e Y ⟨rfl,rfl⟩;exact⟨rfl,Below.refl _ _⟩))
 obtain⟨_,_,_,_,_,_,L,_,_,N,_⟩:=zaa HA.out.cells
 have C6:=zc L
 have C9:=zc N
 have af:IntKind.i64.wrap ((q.ep.length:Int)+(q.la.length:Int))=(q.ep.length:Int)+(q.la.length:Int):=IntWalk.i64_in _ ⟨by omega,by omega⟩
 clear h L N
 unfold epV
 go_enter Tryz.func178,Tryz.ntmps178
 go_wp2_with fail
 have k6:=cell_regrown C6.out
 have k9:=cell_regrown C9.out
 refine wp_region_quiet_below (by kernel_rfl) (by kernel_rfl) ?_
 repeat (go_big_quiet_step (exact cR _ _))
 refine wpQuiet_nil ?_
 intro A V
 obtain⟨⟨dq,ai⟩,z⟩:=V
 have E:Hid (Below (w.alloc (.cells #[.int .i64 x.kind,.string x.name,.string x.loc,.string x.spec] 102)).heap.size (w.alloc (.cells #[.int .i64 x.kind,.string x.name,.string x.loc,.string x.spec] 102)) A):=by show Below _ _ _;rw[z];exact below_regrown _ _ _
 clear z k6 k9 cR C6 C9
 have D:Hid (IM C M o j n S q A):=HA.out.later E.out
 have HG:Hid (A.heap[w.heap.size]? =some (.cells #[.int .i64 x.kind,.string x.name,.string x.loc,.string x.spec] 102 (0,0))):=(E.out.block _ (by rw[zj];omega)).trans (heap_alloc_new w _)
 have HW:Hid (Below w.heap.size w A):=((Below.refl _ _).alloc (Nat.le_refl _) _).trans (E.out.mono (by rw[zj];omega))
 obtain⟨b0,b1,b2,b3,bf⟩:=zcV HG.out
 obtain⟨c0,c1,c2,c3,c4,c5,L,c7,c8,N,cf⟩:=zaa D.out.cells
 have J:=fun H=>(D.out.mem.own.la.drew.alloc H)
 have ag:=D.out.mem.base
 have ae:=D.out.lt
 have HN:Hid (some n≠S.la.blk):=fun e=>D.out.free (.inr (.inr (.inr (.inr (.inr e.symm)))))
 have aa: ∀H,j≤(A.alloc H).heap.size:=fun H=>by rw[zj];omega
 have ad: ∀H,n<(A.alloc H).heap.size:=fun H=>by rw[zj];omega
 go_wp2_with fail
 go_region_law (first|(refine zeq rfl (.tmp 25) (.tmp 27) 24 rfl j 102 i0 _ 4 56 Tryz.underlying24 hi U ab X rfl (by decide) (by decide) S.la q.la.length (q.la.flatMap epL) (by rfl) (by exact J _) A.heap.size (epL x) (by rfl) (by exact heap_alloc_new A _) rfl (zeZ x) (by omega) (by exact aa _) ?_;intro r' w2 hr I K;have g2:=(I.block n (by exact ad _) HN.out).trans (by exact (D.out.alloc _).cells);obtain⟨d0,d1,d2,d3,d4,d5,d6,d7,d8,d9,df⟩:=zaa g2))
 all_goals
  have HR:=zc hr
  have Z:=zc I
  have O:=zc K
  clear hr I K g2 c0 c1 c2 c3 c4 c5 L c7 c8 N cf b0 b1 b2 b3 bf
  go_wp2
  go_end0
  obtain⟨m',s'⟩:=D.out.grow_la ((Below.refl _ _).alloc (Nat.le_refl _) _).drew Z.out HR.out O.out hn
  exact⟨rfl,_,m',s'.grownI HW.out⟩
theorem zk4 (C:Cx) (A n j o:Nat) (S:Sv) (q:PS) (x:Ep) (w:World) (h:IM C A n j o S q w) (Z: ¬q.ep.length+q.la.length<40) (H:0<q.pos):
  Calls Tryz.prog 178 #[.pointer (some ⟨o,0,none⟩),epV x] w fun e K=>e=Pan (zq C (q.pos-1))∧Below j w K:=by
 have L:=zc h
 have N:=h.lt
 have E:=h.mem.inv.ep
 have z:Hid (IM C A n j o S q (w.alloc (.cells #[.int .i64 x.kind,.string x.name,.string x.loc,.string x.spec] 102))):=h.alloc _
 obtain⟨c0,c1,c2,c3,X,U,V,Y,c8,O,cf⟩:=zaa z.out.cells
 have D:IntKind.i64.wrap ((q.ep.length:Int)+(q.la.length:Int))=(q.ep.length:Int)+(q.la.length:Int):=IntWalk.i64_in _ ⟨by omega,by omega⟩
 clear h
 unfold epV
 go_enter Tryz.func178,Tryz.ntmps178
 go_wp2_with fail
 go_region_dies
 all_goals
  refine (zdI C A n j o S q _ 40 _ z.out.drew (by omega) H).mono ?_
  rintro e J ⟨rfl,M⟩
  have I:Hid (Below j w J):=(((Below.refl _ _).alloc (Nat.le_refl _) _).drew.mono L.out.mem.base).trans (M.mono z.out.drew.mem.base)
  exact⟨rfl,rfl,I.out⟩
theorem zet (C:Cx) (z n j o:Nat) (S:Sv) (q:PS) (x:Ep) (w:World) (h:IM C z n j o S q w) (L:0<q.pos):
  Calls Tryz.prog 178 #[.pointer (some ⟨o,0,none⟩),epV x] w (zN C z n j o (zn C x q) id (fun _=>.tuple #[]) S w):=by
 by_cases H:q.ep.length+q.la.length<40
 ·cases A:(x.loc.toList==[42,100,101,102,97,117,108,116]) with
  |true=>
   refine (zk3 C z n j o S q x w h H A).mono ?_
   rintro e J ⟨rfl,D,I,E⟩
   rw[zn,if_neg (by omega),if_pos A]
   exact⟨rfl,D,I,E⟩
  |false=>
   refine (zk2 C z n j o S q x w h H A).mono ?_
   rintro e J ⟨rfl,D,I,E⟩
   rw[zn,if_neg (by omega),if_neg (by rw[A];decide)]
   exact⟨rfl,D,I,E⟩
 ·refine (zk4 C z n j o S q x w h H L).mono ?_
  rintro e J ⟨rfl,K⟩
  rw[zn,if_pos (by omega)]
  exact⟨rfl,K⟩
end Go.Proofs.YticdggnnpjachaaGreat
