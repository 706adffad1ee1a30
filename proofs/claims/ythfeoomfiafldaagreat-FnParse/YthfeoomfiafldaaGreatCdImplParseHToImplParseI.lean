/-
  What room of impl's parser answers where there is none; addExpr,addImp whole: the walks.
  What addExp of impl's parser answers: the walks.
-/
import Derived.RegionDies
import Derived.Test.YthfeoomfiafldaaGreatCdImplParseEToImplParseG
namespace Go.Proofs.YthfeoomfiafldaaGreat
set_option maxRecDepth 100000
set_option maxHeartbeats 3200000
open Go.RowKit Go.PlainAid Go.Sort
theorem zeV (C:Cx) (Q D j I:Nat) (S:Sv) (q:PS) (c m:Int) (w:World) (h:IM C Q D j I S q w) (X:m≤c) (O:0<q.pos):
  Calls Tryz.prog 125 #[.pointer (some ⟨I,0,none⟩),.int .i64 c,.int .i64 m] w fun e Y=>e=Pan (zu C (q.pos-1))∧Below w.heap.size w Y:=by
 obtain⟨c0,c1,c2,c3,_,_,_,_,_,_,cf⟩:=zag h.cells
 have hd:decide (m≤c)=true:=decide_eq_true X
 have N:=(zan h.mem.tok).1
 have K:=h.mem.few
 have o:=h.mem.inv.pos
 obtain⟨k,U⟩: ∃k,q.pos=k+1:=⟨q.pos-1,by omega⟩
 have aa:(q.pos:Int)-1=(k:Int):=by omega
 have Z:Hid (q.pos-1=k):=by show q.pos-1=k;omega
 have z:k<C.ts.length:=by omega
 have V:(k:Int)<(C.ts.length:Int):=by omega
 have ab:IntKind.i64.wrap (k:Int)=(k:Int):=IntWalk.i64_in _ ⟨by omega,by omega⟩
 obtain⟨J,L,M,E⟩:=h.mem.tok.cells z (d:=⟨0,sNone,0,C.fin⟩)
 change _=some (Value.int .i64 (zf C k).kind) at J
 change _=some (Value.string (zf C k).text) at L
 change _=some (Value.int .i64 (zf C k).num) at M
 change _=some (Value.int .i64 (zf C k).pos) at E
 have H:Hid (zu C k=(zf C k).pos):=rfl
 generalize zf C k=t at J L M E H
 clear h U o O
 go_enter Tryz.func125,Tryz.ntmps125
 go_wp2
 go_region_dies
 all_goals
  refine⟨rfl,?_⟩
  rw[Z.out,H.out]
  exact⟨rfl,(Below.refl _ _).drew⟩
theorem zeW (C:Cx) (D o j z:Nat) (S:Sv) (q:PS) (x:Ex) (w:World) (h:IM C D o j z S q w) (J:0<q.pos):
  Calls Tryz.prog 143 #[.pointer (some ⟨z,0,none⟩),exV x] w (zT C D o j z (zJ C x q) id (fun q'=>.int .i64 ((q'.ex.length:Int)-1)) S w):=by
 by_cases L:q.ex.length<300
 ·refine (zou C D o j z S q x w h L).mono ?_
  rintro e H ⟨rfl,M,I,U⟩
  rw[zJ,if_neg (by omega)]
  exact⟨by simp,M,I,U⟩
 ·have E:Hid (IM C D o j z S q w):=h
  have O:Hid (zJ C x q= .error (zu C (q.pos-1))):=by show _=_;rw[zJ,if_pos (by omega)]
  obtain⟨c0,c1,c2,Y,X,V,c6,c7,Z,c9,cf⟩:=zag h.cells
  have K:=h.lt
  clear h
  unfold exV
  go_enter Tryz.func143,Tryz.ntmps143
  go_wp2_with fail
  refine (zeV C D o j z S q q.ex.length 300 _ (E.out.alloc _) (by omega) J).mono ?_
  rintro e H ⟨rfl,N⟩
  have Q:Hid (Below j w H):=(((Below.refl _ _).alloc (Nat.le_refl _) _).mono E.out.mem.base).trans (N.mono (E.out.alloc _).mem.base)
  unfold Pan
  go_wp2
  refine⟨rfl,?_⟩
  rw[O.out]
  exact⟨rfl,Q.out⟩
theorem zow (C:Cx) (D o j z:Nat) (S:Sv) (q:PS) (x:Im) (w:World) (h:IM C D o j z S q w) (J:0<q.pos):
  Calls Tryz.prog 137 #[.pointer (some ⟨z,0,none⟩),imV x] w (zT C D o j z (zX C x q) id (fun _=>.tuple #[]) S w):=by
 by_cases L:q.im.length<40
 ·refine (zov C D o j z S q x w h L).mono ?_
  rintro e H ⟨rfl,M,I,U⟩
  rw[zX,if_neg (by omega)]
  exact⟨rfl,M,I,U⟩
 ·have E:Hid (IM C D o j z S q w):=h
  have O:Hid (zX C x q= .error (zu C (q.pos-1))):=by show _=_;rw[zX,if_pos (by omega)]
  obtain⟨c0,c1,c2,Y,X,V,c6,c7,Z,c9,cf⟩:=zag h.cells
  have K:=h.lt
  clear h
  unfold imV
  go_enter Tryz.func137,Tryz.ntmps137
  go_wp2_with fail
  refine (zeV C D o j z S q q.im.length 40 _ (E.out.alloc _) (by omega) J).mono ?_
  rintro e H ⟨rfl,N⟩
  have Q:Hid (Below j w H):=(((Below.refl _ _).alloc (Nat.le_refl _) _).mono E.out.mem.base).trans (N.mono (E.out.alloc _).mem.base)
  unfold Pan
  go_wp2
  refine⟨rfl,?_⟩
  rw[O.out]
  exact⟨rfl,Q.out⟩
theorem zaA {P:Program} {j:Code} {Q:Exit→Act→World→Prop} {a:Act} {w0:World} {R:World→Prop} (o:R w0) (h: ∀W,R W→Code.wp P j Q a W):Code.wp P j Q a w0:=h w0 o
theorem zg9 (x:Ep): ∀u∈epL x,u.oneCell'=true:=by
 intro u j
 simp[epL] at j
 rcases j with rfl|rfl|rfl|rfl<;>rfl
theorem IM.back {C:Cx} {H o j D:Nat} {S E:Sv} {q:PS} {w z:World} (h:IM C H o j D S q w) (s:IS D S w E z):Below j w z:=s.under h.mem.base h.mem.own h.ge
theorem IS.grownI {j:Nat} {S D:Sv} {w o z:World} (h:Below w.heap.size w o) (k:IS j S o D z):IS j S w D z:=(IS.below h).trans k
theorem zox (C:Cx) (O z j o:Nat) (S:Sv) (q:PS) (x:Ep) (w:World) (h:IM C O z j o S q w) (hn:q.ep.length+q.la.length<40) (he:(x.loc.toList==[42,100,101,102,97,117,108,116])=false):
  Calls Tryz.prog 119 #[.pointer (some ⟨o,0,none⟩),epV x] w fun e w'=>e= .returned (.tuple #[])∧∃S',IM C O z j o S' {q with ep:=q.ep++[x]} w'∧IS o S w S' w':=by
 obtain⟨i0,hi,ad,Z,aa⟩:=info_parts Tryz.infoExp
 have HH:=zc h
 have ai:=h.lt
 have HA:Hid (IM C O z j o S q (w.alloc (.cells #[.int .i64 x.kind,.string x.name,.string x.loc,.string x.spec] 77))):=h.alloc _
 have cR: ∀d os,Calls Tryz.prog 125 #[.pointer (some ⟨o,0,none⟩),.int .i64 ((q.ep.length:Int)+q.la.length),.int .i64 40] (grow (redrawn (w.alloc (.cells #[.int .i64 x.kind,.string x.name,.string x.loc,.string x.spec] 77)) d) os) fun e ac=>e= .returned (.tuple #[])∧∃p:Regrown,ac=grow (redrawn (w.alloc (.cells #[.int .i64 x.kind,.string x.name,.string x.loc,.string x.spec] 77)) p.d) p.os:=
  fun d os=>Calls.regrown_of ((zem o _ 40 _ (by omega)).mono (by rintro e w' ⟨rfl,rfl⟩;exact⟨rfl,Below.refl _ _⟩))
 obtain⟨_,_,_,_,_,_,Q,_,_,N,_⟩:=zag HA.out.cells
 have C6:=zc Q
 have C9:=zc N
 have ah:IntKind.i64.wrap ((q.ep.length:Int)+(q.la.length:Int))=(q.ep.length:Int)+(q.la.length:Int):=IntWalk.i64_in _ ⟨by omega,by omega⟩
 clear h Q N
 unfold epV
 go_enter Tryz.func119,Tryz.ntmps119
 go_wp2_with fail
 have k6:=cell_regrown C6.out
 have k9:=cell_regrown C9.out
 refine wp_region_quiet_below (by kernel_rfl) (by kernel_rfl) ?_
 repeat (go_big_quiet_step (exact cR _ _))
 refine wpQuiet_nil ?_
 intro E V
 obtain⟨⟨dq,ag⟩,D⟩:=V
 have H:Hid (Below (w.alloc (.cells #[.int .i64 x.kind,.string x.name,.string x.loc,.string x.spec] 77)).heap.size (w.alloc (.cells #[.int .i64 x.kind,.string x.name,.string x.loc,.string x.spec] 77)) E):=by show Below _ _ _;rw[D];exact below_regrown _ _ _
 clear D k6 k9 cR C6 C9
 have J:Hid (IM C O z j o S q E):=HA.out.later H.out
 have HG:Hid (E.heap[w.heap.size]? =some (.cells #[.int .i64 x.kind,.string x.name,.string x.loc,.string x.spec] 77 (0,0))):=(H.out.block _ (by rw[zW];omega)).trans (heap_alloc_new w _)
 have HW:Hid (Below w.heap.size w E):=((Below.refl _ _).alloc (Nat.le_refl _) _).trans (H.out.mono (by rw[zW];omega))
 obtain⟨b0,b1,b2,b3,bf⟩:=zek HG.out
 obtain⟨c0,c1,c2,c3,c4,c5,Q,c7,c8,N,cf⟩:=zag J.out.cells
 have M:=fun I=>(J.out.mem.own.ep.drew.alloc I)
 have af:=J.out.mem.base
 have ae:=J.out.lt
 have HN:Hid (some o≠S.ep.blk):=fun e=>J.out.free (.inr (.inr (.inl e.symm)))
 have Y: ∀I,j≤(E.alloc I).heap.size:=fun I=>by rw[zW];omega
 have U: ∀I,o<(E.alloc I).heap.size:=fun I=>by rw[zW];omega
 go_wp2_with fail
 go_region_law (first|(refine zfC rfl (.tmp 36) (.tmp 38) 28 rfl j 77 i0 _ 4 56 Tryz.underlying28 hi ad Z aa rfl (by decide) (by decide) S.ep q.ep.length (q.ep.flatMap epL) (by rfl) (by exact M _) E.heap.size (epL x) (by rfl) (by exact heap_alloc_new E _) rfl (zg9 x) (by omega) (by exact Y _) ?_;intro r' w2 hr K L;have g2:=(K.block o (by exact U _) HN.out).trans (by exact (J.out.alloc _).cells);obtain⟨d0,d1,d2,d3,d4,d5,d6,d7,d8,d9,df⟩:=zag g2))
 all_goals
  have HR:=zc hr
  have X:=zc K
  have ab:=zc L
  clear hr K L g2 c0 c1 c2 c3 c4 c5 Q c7 c8 N cf b0 b1 b2 b3 bf
  go_wp2
  go_end0
  obtain⟨m',s'⟩:=J.out.grow_ep ((Below.refl _ _).alloc (Nat.le_refl _) _).drew X.out HR.out ab.out hn
  exact⟨rfl,_,m',s'.grownI HW.out⟩
theorem zoy (C:Cx) (O z j o:Nat) (S:Sv) (q:PS) (x:Ep) (w:World) (h:IM C O z j o S q w) (hn:q.ep.length+q.la.length<40) (he:(x.loc.toList==[42,100,101,102,97,117,108,116])=true):
  Calls Tryz.prog 119 #[.pointer (some ⟨o,0,none⟩),epV x] w fun e w'=>e= .returned (.tuple #[])∧∃S',IM C O z j o S' {q with la:=q.la++[x]} w'∧IS o S w S' w':=by
 obtain⟨i0,hi,ad,Z,aa⟩:=info_parts Tryz.infoExp
 have HH:=zc h
 have ai:=h.lt
 have HA:Hid (IM C O z j o S q (w.alloc (.cells #[.int .i64 x.kind,.string x.name,.string x.loc,.string x.spec] 77))):=h.alloc _
 have cR: ∀d os,Calls Tryz.prog 125 #[.pointer (some ⟨o,0,none⟩),.int .i64 ((q.ep.length:Int)+q.la.length),.int .i64 40] (grow (redrawn (w.alloc (.cells #[.int .i64 x.kind,.string x.name,.string x.loc,.string x.spec] 77)) d) os) fun e ac=>e= .returned (.tuple #[])∧∃p:Regrown,ac=grow (redrawn (w.alloc (.cells #[.int .i64 x.kind,.string x.name,.string x.loc,.string x.spec] 77)) p.d) p.os:=
  fun d os=>Calls.regrown_of ((zem o _ 40 _ (by omega)).mono (by rintro e w' ⟨rfl,rfl⟩;exact⟨rfl,Below.refl _ _⟩))
 obtain⟨_,_,_,_,_,_,Q,_,_,N,_⟩:=zag HA.out.cells
 have C6:=zc Q
 have C9:=zc N
 have ah:IntKind.i64.wrap ((q.ep.length:Int)+(q.la.length:Int))=(q.ep.length:Int)+(q.la.length:Int):=IntWalk.i64_in _ ⟨by omega,by omega⟩
 clear h Q N
 unfold epV
 go_enter Tryz.func119,Tryz.ntmps119
 go_wp2_with fail
 have k6:=cell_regrown C6.out
 have k9:=cell_regrown C9.out
 refine wp_region_quiet_below (by kernel_rfl) (by kernel_rfl) ?_
 repeat (go_big_quiet_step (exact cR _ _))
 refine wpQuiet_nil ?_
 intro E V
 obtain⟨⟨dq,ag⟩,D⟩:=V
 have H:Hid (Below (w.alloc (.cells #[.int .i64 x.kind,.string x.name,.string x.loc,.string x.spec] 77)).heap.size (w.alloc (.cells #[.int .i64 x.kind,.string x.name,.string x.loc,.string x.spec] 77)) E):=by show Below _ _ _;rw[D];exact below_regrown _ _ _
 clear D k6 k9 cR C6 C9
 have J:Hid (IM C O z j o S q E):=HA.out.later H.out
 have HG:Hid (E.heap[w.heap.size]? =some (.cells #[.int .i64 x.kind,.string x.name,.string x.loc,.string x.spec] 77 (0,0))):=(H.out.block _ (by rw[zW];omega)).trans (heap_alloc_new w _)
 have HW:Hid (Below w.heap.size w E):=((Below.refl _ _).alloc (Nat.le_refl _) _).trans (H.out.mono (by rw[zW];omega))
 obtain⟨b0,b1,b2,b3,bf⟩:=zek HG.out
 obtain⟨c0,c1,c2,c3,c4,c5,Q,c7,c8,N,cf⟩:=zag J.out.cells
 have M:=fun I=>(J.out.mem.own.la.drew.alloc I)
 have af:=J.out.mem.base
 have ae:=J.out.lt
 have HN:Hid (some o≠S.la.blk):=fun e=>J.out.free (.inr (.inr (.inr (.inr (.inr e.symm)))))
 have Y: ∀I,j≤(E.alloc I).heap.size:=fun I=>by rw[zW];omega
 have U: ∀I,o<(E.alloc I).heap.size:=fun I=>by rw[zW];omega
 go_wp2_with fail
 go_region_law (first|(refine zfC rfl (.tmp 25) (.tmp 27) 28 rfl j 77 i0 _ 4 56 Tryz.underlying28 hi ad Z aa rfl (by decide) (by decide) S.la q.la.length (q.la.flatMap epL) (by rfl) (by exact M _) E.heap.size (epL x) (by rfl) (by exact heap_alloc_new E _) rfl (zg9 x) (by omega) (by exact Y _) ?_;intro r' w2 hr K L;have g2:=(K.block o (by exact U _) HN.out).trans (by exact (J.out.alloc _).cells);obtain⟨d0,d1,d2,d3,d4,d5,d6,d7,d8,d9,df⟩:=zag g2))
 all_goals
  have HR:=zc hr
  have X:=zc K
  have ab:=zc L
  clear hr K L g2 c0 c1 c2 c3 c4 c5 Q c7 c8 N cf b0 b1 b2 b3 bf
  go_wp2
  go_end0
  obtain⟨m',s'⟩:=J.out.grow_la ((Below.refl _ _).alloc (Nat.le_refl _) _).drew X.out HR.out ab.out hn
  exact⟨rfl,_,m',s'.grownI HW.out⟩
theorem zoz (C:Cx) (D o j z:Nat) (S:Sv) (q:PS) (x:Ep) (w:World) (h:IM C D o j z S q w) (hn: ¬q.ep.length+q.la.length<40) (H:0<q.pos):
  Calls Tryz.prog 119 #[.pointer (some ⟨z,0,none⟩),epV x] w fun e L=>e=Pan (zu C (q.pos-1))∧Below j w L:=by
 have K:=zc h
 have I:=h.lt
 have O:=h.mem.inv.ep
 have E:Hid (IM C D o j z S q (w.alloc (.cells #[.int .i64 x.kind,.string x.name,.string x.loc,.string x.spec] 77))):=h.alloc _
 obtain⟨c0,c1,Z,X,V,U,c6,c7,Y,c9,cf⟩:=zag E.out.cells
 have M:IntKind.i64.wrap ((q.ep.length:Int)+(q.la.length:Int))=(q.ep.length:Int)+(q.la.length:Int):=IntWalk.i64_in _ ⟨by omega,by omega⟩
 clear h
 unfold epV
 go_enter Tryz.func119,Tryz.ntmps119
 go_wp2_with fail
 go_region_dies
 all_goals
  refine (zeV C D o j z S q _ 40 _ E.out.drew (by omega) H).mono ?_
  rintro e Q ⟨rfl,J⟩
  have N:Hid (Below j w Q):=(((Below.refl _ _).alloc (Nat.le_refl _) _).drew.mono K.out.mem.base).trans (J.mono E.out.drew.mem.base)
  exact⟨rfl,rfl,N.out⟩
theorem zfF (C:Cx) (D o j z:Nat) (S:Sv) (q:PS) (x:Ep) (w:World) (h:IM C D o j z S q w) (N:0<q.pos):
  Calls Tryz.prog 119 #[.pointer (some ⟨z,0,none⟩),epV x] w (zT C D o j z (zm C x q) id (fun _=>.tuple #[]) S w):=by
 by_cases H:q.ep.length+q.la.length<40
 ·cases E:(x.loc.toList==[42,100,101,102,97,117,108,116]) with
  |true=>
   refine (zoy C D o j z S q x w h H E).mono ?_
   rintro e L ⟨rfl,I,K,J⟩
   rw[zm,if_neg (by omega),if_pos E]
   exact⟨rfl,I,K,J⟩
  |false=>
   refine (zox C D o j z S q x w h H E).mono ?_
   rintro e L ⟨rfl,I,K,J⟩
   rw[zm,if_neg (by omega),if_neg (by rw[E];decide)]
   exact⟨rfl,I,K,J⟩
 ·refine (zoz C D o j z S q x w h H N).mono ?_
  rintro e L ⟨rfl,M⟩
  rw[zm,if_pos (by omega)]
  exact⟨rfl,M⟩
end Go.Proofs.YthfeoomfiafldaaGreat
