/-
  What room of impl's parser answers where there is none; addExpr,addImp whole: the walks.
  What addExp of impl's parser answers: the walks.
-/
import Derived.RegionDies
import Derived.Test.YthfeoomfiafldaaGreatCdImplParseEToImplParseG
namespace Go.Proofs.YthfeoomfiafldaaGreat
set_option maxRecDepth 100000
set_option maxHeartbeats 3200000
open Go.RowKit Go.PlainAid Go.Sort
theorem zeV (C:Cx) (Q z j K:Nat) (S:Sv) (q:PS) (c m:Int) (w:World) (h:IM C Q z j K S q w) (Y:m≤c) (hp:0<q.pos):
  Calls Tryz.prog 125 #[.pointer (some ⟨K,0,none⟩),.int .i64 c,.int .i64 m] w fun e V=>e=Pan (zu C (q.pos-1))∧Below w.heap.size w V:=by
 obtain⟨c0,c1,c2,c3,_,_,_,_,_,_,cf⟩:=zag h.cells
 have hd:decide (m≤c)=true:=decide_eq_true Y
 have I:=(zan h.mem.tok).1
 have H:=h.mem.few
 have o:=h.mem.inv.pos
 obtain⟨k,hk⟩: ∃k,q.pos=k+1:=⟨q.pos-1,by omega⟩
 have O:(q.pos:Int)-1=(k:Int):=by omega
 have Z:Hid (q.pos-1=k):=by show q.pos-1=k;omega
 have D:k<C.ts.length:=by omega
 have X:(k:Int)<(C.ts.length:Int):=by omega
 have U:IntKind.i64.wrap (k:Int)=(k:Int):=IntWalk.i64_in _ ⟨by omega,by omega⟩
 obtain⟨E,J,L,N⟩:=h.mem.tok.cells D (d:=⟨0,sNone,0,C.fin⟩)
 change _=some (Value.int .i64 (zf C k).kind) at E
 change _=some (Value.string (zf C k).text) at J
 change _=some (Value.int .i64 (zf C k).num) at L
 change _=some (Value.int .i64 (zf C k).pos) at N
 have M:Hid (zu C k=(zf C k).pos):=rfl
 generalize zf C k=t at E J L N M
 clear h hk o hp
 go_enter Tryz.func125,Tryz.ntmps125
 go_wp2
 go_region_dies
 all_goals
  refine⟨rfl,?_⟩
  rw[Z.out,M.out]
  exact⟨rfl,(Below.refl _ _).drew⟩
theorem zeW (C:Cx) (D o j z:Nat) (S:Sv) (q:PS) (x:Ex) (w:World) (h:IM C D o j z S q w) (U:0<q.pos):
  Calls Tryz.prog 143 #[.pointer (some ⟨z,0,none⟩),exV x] w (zT C D o j z (zJ C x q) id (fun q'=>.int .i64 ((q'.ex.length:Int)-1)) S w):=by
 by_cases I:q.ex.length<300
 ·refine (zou C D o j z S q x w h I).mono ?_
  rintro e H ⟨rfl,M,Q,L⟩
  rw[zJ,if_neg (by omega)]
  exact⟨by simp,M,Q,L⟩
 ·have E:Hid (IM C D o j z S q w):=h
  have J:Hid (zJ C x q= .error (zu C (q.pos-1))):=by show _=_;rw[zJ,if_pos (by omega)]
  obtain⟨X,c1,c2,Z,c4,c5,c6,V,c8,Y,cf⟩:=zag h.cells
  have K:=h.lt
  clear h
  unfold exV
  go_enter Tryz.func143,Tryz.ntmps143
  go_wp2_with fail
  refine (zeV C D o j z S q q.ex.length 300 _ (E.out.alloc _) (by omega) U).mono ?_
  rintro e H ⟨rfl,O⟩
  have N:Hid (Below j w H):=(((Below.refl _ _).alloc (Nat.le_refl _) _).mono E.out.mem.base).trans (O.mono (E.out.alloc _).mem.base)
  unfold Pan
  go_wp2
  refine⟨rfl,?_⟩
  rw[J.out]
  exact⟨rfl,N.out⟩
theorem zow (C:Cx) (D o j z:Nat) (S:Sv) (q:PS) (x:Im) (w:World) (h:IM C D o j z S q w) (U:0<q.pos):
  Calls Tryz.prog 137 #[.pointer (some ⟨z,0,none⟩),imV x] w (zT C D o j z (zX C x q) id (fun _=>.tuple #[]) S w):=by
 by_cases I:q.im.length<40
 ·refine (zov C D o j z S q x w h I).mono ?_
  rintro e H ⟨rfl,M,Q,L⟩
  rw[zX,if_neg (by omega)]
  exact⟨rfl,M,Q,L⟩
 ·have E:Hid (IM C D o j z S q w):=h
  have J:Hid (zX C x q= .error (zu C (q.pos-1))):=by show _=_;rw[zX,if_pos (by omega)]
  obtain⟨X,c1,c2,Z,c4,c5,c6,V,c8,Y,cf⟩:=zag h.cells
  have K:=h.lt
  clear h
  unfold imV
  go_enter Tryz.func137,Tryz.ntmps137
  go_wp2_with fail
  refine (zeV C D o j z S q q.im.length 40 _ (E.out.alloc _) (by omega) U).mono ?_
  rintro e H ⟨rfl,O⟩
  have N:Hid (Below j w H):=(((Below.refl _ _).alloc (Nat.le_refl _) _).mono E.out.mem.base).trans (O.mono (E.out.alloc _).mem.base)
  unfold Pan
  go_wp2
  refine⟨rfl,?_⟩
  rw[J.out]
  exact⟨rfl,N.out⟩
theorem zaA {P:Program} {j:Code} {Q:Exit→Act→World→Prop} {a:Act} {w0:World} {R:World→Prop} (o:R w0) (h: ∀W,R W→Code.wp P j Q a W):Code.wp P j Q a w0:=h w0 o
theorem zg9 (x:Ep): ∀u∈epL x,u.oneCell'=true:=by
 intro u j
 simp[epL] at j
 rcases j with rfl|rfl|rfl|rfl<;>rfl
theorem IM.back {C:Cx} {H o j z:Nat} {S E:Sv} {q:PS} {w D:World} (h:IM C H o j z S q w) (s:IS z S w E D):Below j w D:=s.under h.mem.base h.mem.own h.ge
theorem IS.grownI {z:Nat} {S o:Sv} {w D j:World} (h:Below w.heap.size w D) (k:IS z S D o j):IS z S w o j:=(IS.below h).trans k
theorem zox (C:Cx) (O z j o:Nat) (S:Sv) (q:PS) (x:Ep) (w:World) (h:IM C O z j o S q w) (hn:q.ep.length+q.la.length<40) (he:(x.loc.toList==[42,100,101,102,97,117,108,116])=false):
  Calls Tryz.prog 119 #[.pointer (some ⟨o,0,none⟩),epV x] w fun e X=>e= .returned (.tuple #[])∧∃S',IM C O z j o S' {q with ep:=q.ep++[x]} X∧IS o S w S' X:=by
 obtain⟨i0,hi,V,ac,ab⟩:=info_parts Tryz.infoExp
 have HH:=zc h
 have ah:=h.lt
 have HA:Hid (IM C O z j o S q (w.alloc (.cells #[.int .i64 x.kind,.string x.name,.string x.loc,.string x.spec] 77))):=h.alloc _
 have cR: ∀d os,Calls Tryz.prog 125 #[.pointer (some ⟨o,0,none⟩),.int .i64 ((q.ep.length:Int)+q.la.length),.int .i64 40] (grow (redrawn (w.alloc (.cells #[.int .i64 x.kind,.string x.name,.string x.loc,.string x.spec] 77)) d) os) fun e ad=>e= .returned (.tuple #[])∧∃p:Regrown,ad=grow (redrawn (w.alloc (.cells #[.int .i64 x.kind,.string x.name,.string x.loc,.string x.spec] 77)) p.d) p.os:=
  fun d os=>Calls.regrown_of ((zem o _ 40 _ (by omega)).mono (by rintro e X ⟨rfl,rfl⟩;exact⟨rfl,Below.refl _ _⟩))
 obtain⟨_,_,_,_,_,_,Q,_,_,N,_⟩:=zag HA.out.cells
 have C6:=zc Q
 have C9:=zc N
 have ag:IntKind.i64.wrap ((q.ep.length:Int)+(q.la.length:Int))=(q.ep.length:Int)+(q.la.length:Int):=IntWalk.i64_in _ ⟨by omega,by omega⟩
 clear h Q N
 unfold epV
 go_enter Tryz.func119,Tryz.ntmps119
 go_wp2_with fail
 have k6:=cell_regrown C6.out
 have k9:=cell_regrown C9.out
 refine wp_region_quiet_below (by kernel_rfl) (by kernel_rfl) ?_
 repeat (go_big_quiet_step (exact cR _ _))
 refine wpQuiet_nil ?_
 intro D ae
 obtain⟨⟨dq,ai⟩,E⟩:=ae
 have J:Hid (Below (w.alloc (.cells #[.int .i64 x.kind,.string x.name,.string x.loc,.string x.spec] 77)).heap.size (w.alloc (.cells #[.int .i64 x.kind,.string x.name,.string x.loc,.string x.spec] 77)) D):=by show Below _ _ _;rw[E];exact below_regrown _ _ _
 clear E k6 k9 cR C6 C9
 have I:Hid (IM C O z j o S q D):=HA.out.later J.out
 have HG:Hid (D.heap[w.heap.size]? =some (.cells #[.int .i64 x.kind,.string x.name,.string x.loc,.string x.spec] 77 (0,0))):=(J.out.block _ (by rw[zW];omega)).trans (heap_alloc_new w _)
 have HW:Hid (Below w.heap.size w D):=((Below.refl _ _).alloc (Nat.le_refl _) _).trans (J.out.mono (by rw[zW];omega))
 obtain⟨b0,b1,b2,b3,bf⟩:=zek HG.out
 obtain⟨c0,c1,c2,c3,c4,c5,Q,c7,c8,N,cf⟩:=zag I.out.cells
 have L:=fun K=>(I.out.mem.own.ep.drew.alloc K)
 have aj:=I.out.mem.base
 have af:=I.out.lt
 have HN:Hid (some o≠S.ep.blk):=fun e=>I.out.free (.inr (.inr (.inl e.symm)))
 have aa: ∀K,j≤(D.alloc K).heap.size:=fun K=>by rw[zW];omega
 have Z: ∀K,o<(D.alloc K).heap.size:=fun K=>by rw[zW];omega
 go_wp2_with fail
 go_region_law (first|(refine zfC rfl (.tmp 36) (.tmp 38) 28 rfl j 77 i0 _ 4 56 Tryz.underlying28 hi V ac ab rfl (by decide) (by decide) S.ep q.ep.length (q.ep.flatMap epL) (by rfl) (by exact L _) D.heap.size (epL x) (by rfl) (by exact heap_alloc_new D _) rfl (zg9 x) (by omega) (by exact aa _) ?_;intro r' w2 hr H M;have g2:=(H.block o (by exact Z _) HN.out).trans (by exact (I.out.alloc _).cells);obtain⟨d0,d1,d2,d3,d4,d5,d6,d7,d8,d9,df⟩:=zag g2))
 all_goals
  have HR:=zc hr
  have Y:=zc H
  have U:=zc M
  clear hr H M g2 c0 c1 c2 c3 c4 c5 Q c7 c8 N cf b0 b1 b2 b3 bf
  go_wp2
  go_end0
  obtain⟨m',s'⟩:=I.out.grow_ep ((Below.refl _ _).alloc (Nat.le_refl _) _).drew Y.out HR.out U.out hn
  exact⟨rfl,_,m',s'.grownI HW.out⟩
theorem zoy (C:Cx) (O z j o:Nat) (S:Sv) (q:PS) (x:Ep) (w:World) (h:IM C O z j o S q w) (hn:q.ep.length+q.la.length<40) (he:(x.loc.toList==[42,100,101,102,97,117,108,116])=true):
  Calls Tryz.prog 119 #[.pointer (some ⟨o,0,none⟩),epV x] w fun e X=>e= .returned (.tuple #[])∧∃S',IM C O z j o S' {q with la:=q.la++[x]} X∧IS o S w S' X:=by
 obtain⟨i0,hi,V,ac,ab⟩:=info_parts Tryz.infoExp
 have HH:=zc h
 have ah:=h.lt
 have HA:Hid (IM C O z j o S q (w.alloc (.cells #[.int .i64 x.kind,.string x.name,.string x.loc,.string x.spec] 77))):=h.alloc _
 have cR: ∀d os,Calls Tryz.prog 125 #[.pointer (some ⟨o,0,none⟩),.int .i64 ((q.ep.length:Int)+q.la.length),.int .i64 40] (grow (redrawn (w.alloc (.cells #[.int .i64 x.kind,.string x.name,.string x.loc,.string x.spec] 77)) d) os) fun e ad=>e= .returned (.tuple #[])∧∃p:Regrown,ad=grow (redrawn (w.alloc (.cells #[.int .i64 x.kind,.string x.name,.string x.loc,.string x.spec] 77)) p.d) p.os:=
  fun d os=>Calls.regrown_of ((zem o _ 40 _ (by omega)).mono (by rintro e X ⟨rfl,rfl⟩;exact⟨rfl,Below.refl _ _⟩))
 obtain⟨_,_,_,_,_,_,Q,_,_,N,_⟩:=zag HA.out.cells
 have C6:=zc Q
 have C9:=zc N
 have ag:IntKind.i64.wrap ((q.ep.length:Int)+(q.la.length:Int))=(q.ep.length:Int)+(q.la.length:Int):=IntWalk.i64_in _ ⟨by omega,by omega⟩
 clear h Q N
 unfold epV
 go_enter Tryz.func119,Tryz.ntmps119
 go_wp2_with fail
 have k6:=cell_regrown C6.out
 have k9:=cell_regrown C9.out
 refine wp_region_quiet_below (by kernel_rfl) (by kernel_rfl) ?_
 repeat (go_big_quiet_step (exact cR _ _))
 refine wpQuiet_nil ?_
 intro D ae
 obtain⟨⟨dq,ai⟩,E⟩:=ae
 have J:Hid (Below (w.alloc (.cells #[.int .i64 x.kind,.string x.name,.string x.loc,.string x.spec] 77)).heap.size (w.alloc (.cells #[.int .i64 x.kind,.string x.name,.string x.loc,.string x.spec] 77)) D):=by show Below _ _ _;rw[E];exact below_regrown _ _ _
 clear E k6 k9 cR C6 C9
 have I:Hid (IM C O z j o S q D):=HA.out.later J.out
 have HG:Hid (D.heap[w.heap.size]? =some (.cells #[.int .i64 x.kind,.string x.name,.string x.loc,.string x.spec] 77 (0,0))):=(J.out.block _ (by rw[zW];omega)).trans (heap_alloc_new w _)
 have HW:Hid (Below w.heap.size w D):=((Below.refl _ _).alloc (Nat.le_refl _) _).trans (J.out.mono (by rw[zW];omega))
 obtain⟨b0,b1,b2,b3,bf⟩:=zek HG.out
 obtain⟨c0,c1,c2,c3,c4,c5,Q,c7,c8,N,cf⟩:=zag I.out.cells
 have L:=fun K=>(I.out.mem.own.la.drew.alloc K)
 have aj:=I.out.mem.base
 have af:=I.out.lt
 have HN:Hid (some o≠S.la.blk):=fun e=>I.out.free (.inr (.inr (.inr (.inr (.inr e.symm)))))
 have aa: ∀K,j≤(D.alloc K).heap.size:=fun K=>by rw[zW];omega
 have Z: ∀K,o<(D.alloc K).heap.size:=fun K=>by rw[zW];omega
 go_wp2_with fail
 go_region_law (first|(refine zfC rfl (.tmp 25) (.tmp 27) 28 rfl j 77 i0 _ 4 56 Tryz.underlying28 hi V ac ab rfl (by decide) (by decide) S.la q.la.length (q.la.flatMap epL) (by rfl) (by exact L _) D.heap.size (epL x) (by rfl) (by exact heap_alloc_new D _) rfl (zg9 x) (by omega) (by exact aa _) ?_;intro r' w2 hr H M;have g2:=(H.block o (by exact Z _) HN.out).trans (by exact (I.out.alloc _).cells);obtain⟨d0,d1,d2,d3,d4,d5,d6,d7,d8,d9,df⟩:=zag g2))
 all_goals
  have HR:=zc hr
  have Y:=zc H
  have U:=zc M
  clear hr H M g2 c0 c1 c2 c3 c4 c5 Q c7 c8 N cf b0 b1 b2 b3 bf
  go_wp2
  go_end0
  obtain⟨m',s'⟩:=I.out.grow_la ((Below.refl _ _).alloc (Nat.le_refl _) _).drew Y.out HR.out U.out hn
  exact⟨rfl,_,m',s'.grownI HW.out⟩
theorem zoz (C:Cx) (E o j z:Nat) (S:Sv) (q:PS) (x:Ep) (w:World) (h:IM C E o j z S q w) (U: ¬q.ep.length+q.la.length<40) (O:0<q.pos):
  Calls Tryz.prog 119 #[.pointer (some ⟨z,0,none⟩),epV x] w fun e L=>e=Pan (zu C (q.pos-1))∧Below j w L:=by
 have H:=zc h
 have I:=h.lt
 have K:=h.mem.inv.ep
 have D:Hid (IM C E o j z S q (w.alloc (.cells #[.int .i64 x.kind,.string x.name,.string x.loc,.string x.spec] 77))):=h.alloc _
 obtain⟨X,c1,c2,Z,c4,c5,c6,V,c8,Y,cf⟩:=zag D.out.cells
 have J:IntKind.i64.wrap ((q.ep.length:Int)+(q.la.length:Int))=(q.ep.length:Int)+(q.la.length:Int):=IntWalk.i64_in _ ⟨by omega,by omega⟩
 clear h
 unfold epV
 go_enter Tryz.func119,Tryz.ntmps119
 go_wp2_with fail
 go_region_dies
 all_goals
  refine (zeV C E o j z S q _ 40 _ D.out.drew (by omega) O).mono ?_
  rintro e Q ⟨rfl,N⟩
  have M:Hid (Below j w Q):=(((Below.refl _ _).alloc (Nat.le_refl _) _).drew.mono H.out.mem.base).trans (N.mono D.out.drew.mem.base)
  exact⟨rfl,rfl,M.out⟩
theorem zfF (C:Cx) (D o j z:Nat) (S:Sv) (q:PS) (x:Ep) (w:World) (h:IM C D o j z S q w) (N:0<q.pos):
  Calls Tryz.prog 119 #[.pointer (some ⟨z,0,none⟩),epV x] w (zT C D o j z (zm C x q) id (fun _=>.tuple #[]) S w):=by
 by_cases I:q.ep.length+q.la.length<40
 ·cases E:(x.loc.toList==[42,100,101,102,97,117,108,116]) with
  |true=>
   refine (zoy C D o j z S q x w h I E).mono ?_
   rintro e L ⟨rfl,K,H,J⟩
   rw[zm,if_neg (by omega),if_pos E]
   exact⟨rfl,K,H,J⟩
  |false=>
   refine (zox C D o j z S q x w h I E).mono ?_
   rintro e L ⟨rfl,K,H,J⟩
   rw[zm,if_neg (by omega),if_neg (by rw[E];decide)]
   exact⟨rfl,K,H,J⟩
 ·refine (zoz C D o j z S q x w h I N).mono ?_
  rintro e L ⟨rfl,M⟩
  rw[zm,if_pos (by omega)]
  exact⟨rfl,M⟩
end Go.Proofs.YthfeoomfiafldaaGreat
