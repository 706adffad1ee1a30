/-
  What room of impl's parser answers where there is none; addExpr,addImp whole: the walks.
  What addExp of impl's parser answers: the walks.
-/
import Derived.RegionDies
import Derived.Test.YthfeoomfiafldaaGreatCdImplParseEToImplParseG
namespace Go.Proofs.YthfeoomfiafldaaGreat
set_option maxRecDepth 100000
set_option maxHeartbeats 3200000
open Go.RowKit Go.PlainAid Go.Sort
theorem zeV (C:Cx) (Z D j H:Nat) (S:Sv) (q:PS) (c m:Int) (w:World) (h:IM C Z D j H S q w) (X:m≤c) (hp:0<q.pos):
  Calls Tryz.prog 125 #[.pointer (some ⟨H,0,none⟩),.int .i64 c,.int .i64 m] w fun e O=>e=Pan (zu C (q.pos-1))∧Below w.heap.size w O:=by
 obtain⟨c0,c1,c2,c3,_,_,_,_,_,_,cf⟩:=zag h.cells
 have hd:decide (m≤c)=true:=decide_eq_true X
 have L:=(zan h.mem.tok).1
 have N:=h.mem.few
 have o:=h.mem.inv.pos
 obtain⟨k,U⟩: ∃k,q.pos=k+1:=⟨q.pos-1,by omega⟩
 have aa:(q.pos:Int)-1=(k:Int):=by omega
 have Y:Hid (q.pos-1=k):=by show q.pos-1=k;omega
 have z:k<C.ts.length:=by omega
 have V:(k:Int)<(C.ts.length:Int):=by omega
 have Q:IntKind.i64.wrap (k:Int)=(k:Int):=IntWalk.i64_in _ ⟨by omega,by omega⟩
 obtain⟨E,I,M,J⟩:=h.mem.tok.cells z (d:=⟨0,sNone,0,C.fin⟩)
 change _=some (Value.int .i64 (zf C k).kind) at E
 change _=some (Value.string (zf C k).text) at I
 change _=some (Value.int .i64 (zf C k).num) at M
 change _=some (Value.int .i64 (zf C k).pos) at J
 have K:Hid (zu C k=(zf C k).pos):=rfl
 generalize zf C k=t at E I M J K
 clear h U o hp
 go_enter Tryz.func125,Tryz.ntmps125
 go_wp2
 go_region_dies
 all_goals
  refine⟨rfl,?_⟩
  rw[Y.out,K.out]
  exact⟨rfl,(Below.refl _ _).drew⟩
theorem zeW (C:Cx) (D o j z:Nat) (S:Sv) (q:PS) (x:Ex) (w:World) (h:IM C D o j z S q w) (M:0<q.pos):
  Calls Tryz.prog 143 #[.pointer (some ⟨z,0,none⟩),exV x] w (zT C D o j z (zJ C x q) id (fun q'=>.int .i64 ((q'.ex.length:Int)-1)) S w):=by
 by_cases K:q.ex.length<300
 ·refine (zou C D o j z S q x w h K).mono ?_
  rintro e H ⟨rfl,O,L,I⟩
  rw[zJ,if_neg (by omega)]
  exact⟨by simp,O,L,I⟩
 ·have E:Hid (IM C D o j z S q w):=h
  have N:Hid (zJ C x q= .error (zu C (q.pos-1))):=by show _=_;rw[zJ,if_pos (by omega)]
  obtain⟨c0,V,Y,c3,X,c5,c6,c7,c8,Z,cf⟩:=zag h.cells
  have U:=h.lt
  clear h
  unfold exV
  go_enter Tryz.func143,Tryz.ntmps143
  go_wp2_with fail
  refine (zeV C D o j z S q q.ex.length 300 _ (E.out.alloc _) (by omega) M).mono ?_
  rintro e H ⟨rfl,Q⟩
  have J:Hid (Below j w H):=(((Below.refl _ _).alloc (Nat.le_refl _) _).mono E.out.mem.base).trans (Q.mono (E.out.alloc _).mem.base)
  unfold Pan
  go_wp2
  refine⟨rfl,?_⟩
  rw[N.out]
  exact⟨rfl,J.out⟩
theorem zow (C:Cx) (D o j z:Nat) (S:Sv) (q:PS) (x:Im) (w:World) (h:IM C D o j z S q w) (M:0<q.pos):
  Calls Tryz.prog 137 #[.pointer (some ⟨z,0,none⟩),imV x] w (zT C D o j z (zX C x q) id (fun _=>.tuple #[]) S w):=by
 by_cases K:q.im.length<40
 ·refine (zov C D o j z S q x w h K).mono ?_
  rintro e H ⟨rfl,O,L,I⟩
  rw[zX,if_neg (by omega)]
  exact⟨rfl,O,L,I⟩
 ·have E:Hid (IM C D o j z S q w):=h
  have N:Hid (zX C x q= .error (zu C (q.pos-1))):=by show _=_;rw[zX,if_pos (by omega)]
  obtain⟨c0,V,Y,c3,X,c5,c6,c7,c8,Z,cf⟩:=zag h.cells
  have U:=h.lt
  clear h
  unfold imV
  go_enter Tryz.func137,Tryz.ntmps137
  go_wp2_with fail
  refine (zeV C D o j z S q q.im.length 40 _ (E.out.alloc _) (by omega) M).mono ?_
  rintro e H ⟨rfl,Q⟩
  have J:Hid (Below j w H):=(((Below.refl _ _).alloc (Nat.le_refl _) _).mono E.out.mem.base).trans (Q.mono (E.out.alloc _).mem.base)
  unfold Pan
  go_wp2
  refine⟨rfl,?_⟩
  rw[N.out]
  exact⟨rfl,J.out⟩
theorem zaA {P:Program} {j:Code} {Q:Exit→Act→World→Prop} {a:Act} {w0:World} {R:World→Prop} (o:R w0) (h: ∀W,R W→Code.wp P j Q a W):Code.wp P j Q a w0:=h w0 o
theorem zg9 (x:Ep): ∀u∈epL x,u.oneCell'=true:=by
 intro u j
 simp[epL] at j
 rcases j with rfl|rfl|rfl|rfl<;>rfl
theorem IM.back {C:Cx} {H o j D:Nat} {S E:Sv} {q:PS} {w z:World} (h:IM C H o j D S q w) (s:IS D S w E z):Below j w z:=s.under h.mem.base h.mem.own h.ge
theorem IS.grownI {z:Nat} {S D:Sv} {w o j:World} (h:Below w.heap.size w o) (k:IS z S o D j):IS z S w D j:=(IS.below h).trans k
theorem zox (C:Cx) (N z j o:Nat) (S:Sv) (q:PS) (x:Ep) (w:World) (h:IM C N z j o S q w) (hn:q.ep.length+q.la.length<40) (he:(x.loc.toList==[42,100,101,102,97,117,108,116])=false):
  Calls Tryz.prog 119 #[.pointer (some ⟨o,0,none⟩),epV x] w fun e U=>e= .returned (.tuple #[])∧∃S',IM C N z j o S' {q with ep:=q.ep++[x]} U∧IS o S w S' U:=by
 obtain⟨i0,hi,ae,aa,Y⟩:=info_parts Tryz.infoExp
 have HH:=zc h
 have aj:=h.lt
 have HA:Hid (IM C N z j o S q (w.alloc (.cells #[.int .i64 x.kind,.string x.name,.string x.loc,.string x.spec] 77))):=h.alloc _
 have cR: ∀d os,Calls Tryz.prog 125 #[.pointer (some ⟨o,0,none⟩),.int .i64 ((q.ep.length:Int)+q.la.length),.int .i64 40] (grow (redrawn (w.alloc (.cells #[.int .i64 x.kind,.string x.name,.string x.loc,.string x.spec] 77)) d) os) fun e ac=>e= .returned (.tuple #[])∧∃p:Regrown,ac=grow (redrawn (w.alloc (.cells #[.int .i64 x.kind,.string x.name,.string x.loc,.string x.spec] 77)) p.d) p.os:=
  fun d os=>Calls.regrown_of ((zem o _ 40 _ (by omega)).mono (by rintro e U ⟨rfl,rfl⟩;exact⟨rfl,Below.refl _ _⟩))
 obtain⟨_,_,_,_,_,_,O,_,_,Q,_⟩:=zag HA.out.cells
 have C6:=zc O
 have C9:=zc Q
 have ag:IntKind.i64.wrap ((q.ep.length:Int)+(q.la.length:Int))=(q.ep.length:Int)+(q.la.length:Int):=IntWalk.i64_in _ ⟨by omega,by omega⟩
 clear h O Q
 unfold epV
 go_enter Tryz.func119,Tryz.ntmps119
 go_wp2_with fail
 have k6:=cell_regrown C6.out
 have k9:=cell_regrown C9.out
 refine wp_region_quiet_below (by kernel_rfl) (by kernel_rfl) ?_
 repeat (go_big_quiet_step (exact cR _ _))
 refine wpQuiet_nil ?_
 intro E ab
 obtain⟨⟨dq,ah⟩,D⟩:=ab
 have J:Hid (Below (w.alloc (.cells #[.int .i64 x.kind,.string x.name,.string x.loc,.string x.spec] 77)).heap.size (w.alloc (.cells #[.int .i64 x.kind,.string x.name,.string x.loc,.string x.spec] 77)) E):=by show Below _ _ _;rw[D];exact below_regrown _ _ _
 clear D k6 k9 cR C6 C9
 have K:Hid (IM C N z j o S q E):=HA.out.later J.out
 have HG:Hid (E.heap[w.heap.size]? =some (.cells #[.int .i64 x.kind,.string x.name,.string x.loc,.string x.spec] 77 (0,0))):=(J.out.block _ (by rw[zW];omega)).trans (heap_alloc_new w _)
 have HW:Hid (Below w.heap.size w E):=((Below.refl _ _).alloc (Nat.le_refl _) _).trans (J.out.mono (by rw[zW];omega))
 obtain⟨b0,b1,b2,b3,bf⟩:=zek HG.out
 obtain⟨c0,c1,c2,c3,c4,c5,O,c7,c8,Q,cf⟩:=zag K.out.cells
 have L:=fun H=>(K.out.mem.own.ep.drew.alloc H)
 have ai:=K.out.mem.base
 have af:=K.out.lt
 have HN:Hid (some o≠S.ep.blk):=fun e=>K.out.free (.inr (.inr (.inl e.symm)))
 have ad: ∀H,j≤(E.alloc H).heap.size:=fun H=>by rw[zW];omega
 have V: ∀H,o<(E.alloc H).heap.size:=fun H=>by rw[zW];omega
 go_wp2_with fail
 go_region_law (first|(refine zfC rfl (.tmp 36) (.tmp 38) 28 rfl j 77 i0 _ 4 56 Tryz.underlying28 hi ae aa Y rfl (by decide) (by decide) S.ep q.ep.length (q.ep.flatMap epL) (by rfl) (by exact L _) E.heap.size (epL x) (by rfl) (by exact heap_alloc_new E _) rfl (zg9 x) (by omega) (by exact ad _) ?_;intro r' w2 hr I M;have g2:=(I.block o (by exact V _) HN.out).trans (by exact (K.out.alloc _).cells);obtain⟨d0,d1,d2,d3,d4,d5,d6,d7,d8,d9,df⟩:=zag g2))
 all_goals
  have HR:=zc hr
  have X:=zc I
  have Z:=zc M
  clear hr I M g2 c0 c1 c2 c3 c4 c5 O c7 c8 Q cf b0 b1 b2 b3 bf
  go_wp2
  go_end0
  obtain⟨m',s'⟩:=K.out.grow_ep ((Below.refl _ _).alloc (Nat.le_refl _) _).drew X.out HR.out Z.out hn
  exact⟨rfl,_,m',s'.grownI HW.out⟩
theorem zoy (C:Cx) (N z j o:Nat) (S:Sv) (q:PS) (x:Ep) (w:World) (h:IM C N z j o S q w) (hn:q.ep.length+q.la.length<40) (he:(x.loc.toList==[42,100,101,102,97,117,108,116])=true):
  Calls Tryz.prog 119 #[.pointer (some ⟨o,0,none⟩),epV x] w fun e U=>e= .returned (.tuple #[])∧∃S',IM C N z j o S' {q with la:=q.la++[x]} U∧IS o S w S' U:=by
 obtain⟨i0,hi,ae,aa,Y⟩:=info_parts Tryz.infoExp
 have HH:=zc h
 have aj:=h.lt
 have HA:Hid (IM C N z j o S q (w.alloc (.cells #[.int .i64 x.kind,.string x.name,.string x.loc,.string x.spec] 77))):=h.alloc _
 have cR: ∀d os,Calls Tryz.prog 125 #[.pointer (some ⟨o,0,none⟩),.int .i64 ((q.ep.length:Int)+q.la.length),.int .i64 40] (grow (redrawn (w.alloc (.cells #[.int .i64 x.kind,.string x.name,.string x.loc,.string x.spec] 77)) d) os) fun e ac=>e= .returned (.tuple #[])∧∃p:Regrown,ac=grow (redrawn (w.alloc (.cells #[.int .i64 x.kind,.string x.name,.string x.loc,.string x.spec] 77)) p.d) p.os:=
  fun d os=>Calls.regrown_of ((zem o _ 40 _ (by omega)).mono (by rintro e U ⟨rfl,rfl⟩;exact⟨rfl,Below.refl _ _⟩))
 obtain⟨_,_,_,_,_,_,O,_,_,Q,_⟩:=zag HA.out.cells
 have C6:=zc O
 have C9:=zc Q
 have ag:IntKind.i64.wrap ((q.ep.length:Int)+(q.la.length:Int))=(q.ep.length:Int)+(q.la.length:Int):=IntWalk.i64_in _ ⟨by omega,by omega⟩
 clear h O Q
 unfold epV
 go_enter Tryz.func119,Tryz.ntmps119
 go_wp2_with fail
 have k6:=cell_regrown C6.out
 have k9:=cell_regrown C9.out
 refine wp_region_quiet_below (by kernel_rfl) (by kernel_rfl) ?_
 repeat (go_big_quiet_step (exact cR _ _))
 refine wpQuiet_nil ?_
 intro E ab
 obtain⟨⟨dq,ah⟩,D⟩:=ab
 have J:Hid (Below (w.alloc (.cells #[.int .i64 x.kind,.string x.name,.string x.loc,.string x.spec] 77)).heap.size (w.alloc (.cells #[.int .i64 x.kind,.string x.name,.string x.loc,.string x.spec] 77)) E):=by show Below _ _ _;rw[D];exact below_regrown _ _ _
 clear D k6 k9 cR C6 C9
 have K:Hid (IM C N z j o S q E):=HA.out.later J.out
 have HG:Hid (E.heap[w.heap.size]? =some (.cells #[.int .i64 x.kind,.string x.name,.string x.loc,.string x.spec] 77 (0,0))):=(J.out.block _ (by rw[zW];omega)).trans (heap_alloc_new w _)
 have HW:Hid (Below w.heap.size w E):=((Below.refl _ _).alloc (Nat.le_refl _) _).trans (J.out.mono (by rw[zW];omega))
 obtain⟨b0,b1,b2,b3,bf⟩:=zek HG.out
 obtain⟨c0,c1,c2,c3,c4,c5,O,c7,c8,Q,cf⟩:=zag K.out.cells
 have L:=fun H=>(K.out.mem.own.la.drew.alloc H)
 have ai:=K.out.mem.base
 have af:=K.out.lt
 have HN:Hid (some o≠S.la.blk):=fun e=>K.out.free (.inr (.inr (.inr (.inr (.inr e.symm)))))
 have ad: ∀H,j≤(E.alloc H).heap.size:=fun H=>by rw[zW];omega
 have V: ∀H,o<(E.alloc H).heap.size:=fun H=>by rw[zW];omega
 go_wp2_with fail
 go_region_law (first|(refine zfC rfl (.tmp 25) (.tmp 27) 28 rfl j 77 i0 _ 4 56 Tryz.underlying28 hi ae aa Y rfl (by decide) (by decide) S.la q.la.length (q.la.flatMap epL) (by rfl) (by exact L _) E.heap.size (epL x) (by rfl) (by exact heap_alloc_new E _) rfl (zg9 x) (by omega) (by exact ad _) ?_;intro r' w2 hr I M;have g2:=(I.block o (by exact V _) HN.out).trans (by exact (K.out.alloc _).cells);obtain⟨d0,d1,d2,d3,d4,d5,d6,d7,d8,d9,df⟩:=zag g2))
 all_goals
  have HR:=zc hr
  have X:=zc I
  have Z:=zc M
  clear hr I M g2 c0 c1 c2 c3 c4 c5 O c7 c8 Q cf b0 b1 b2 b3 bf
  go_wp2
  go_end0
  obtain⟨m',s'⟩:=K.out.grow_la ((Below.refl _ _).alloc (Nat.le_refl _) _).drew X.out HR.out Z.out hn
  exact⟨rfl,_,m',s'.grownI HW.out⟩
theorem zoz (C:Cx) (E o j z:Nat) (S:Sv) (q:PS) (x:Ep) (w:World) (h:IM C E o j z S q w) (hn: ¬q.ep.length+q.la.length<40) (L:0<q.pos):
  Calls Tryz.prog 119 #[.pointer (some ⟨z,0,none⟩),epV x] w fun e H=>e=Pan (zu C (q.pos-1))∧Below j w H:=by
 have O:=zc h
 have Q:=h.lt
 have M:=h.mem.inv.ep
 have D:Hid (IM C E o j z S q (w.alloc (.cells #[.int .i64 x.kind,.string x.name,.string x.loc,.string x.spec] 77))):=h.alloc _
 obtain⟨c0,U,X,c3,V,c5,c6,c7,c8,Y,Z⟩:=zag D.out.cells
 have J:IntKind.i64.wrap ((q.ep.length:Int)+(q.la.length:Int))=(q.ep.length:Int)+(q.la.length:Int):=IntWalk.i64_in _ ⟨by omega,by omega⟩
 clear h
 unfold epV
 go_enter Tryz.func119,Tryz.ntmps119
 go_wp2_with fail
 go_region_dies
 all_goals
  refine (zeV C E o j z S q _ 40 _ D.out.drew (by omega) L).mono ?_
  rintro e I ⟨rfl,N⟩
  have K:Hid (Below j w I):=(((Below.refl _ _).alloc (Nat.le_refl _) _).drew.mono O.out.mem.base).trans (N.mono D.out.drew.mem.base)
  exact⟨rfl,rfl,K.out⟩
theorem zfF (C:Cx) (D o j z:Nat) (S:Sv) (q:PS) (x:Ep) (w:World) (h:IM C D o j z S q w) (M:0<q.pos):
  Calls Tryz.prog 119 #[.pointer (some ⟨z,0,none⟩),epV x] w (zT C D o j z (zm C x q) id (fun _=>.tuple #[]) S w):=by
 by_cases H:q.ep.length+q.la.length<40
 ·cases E:(x.loc.toList==[42,100,101,102,97,117,108,116]) with
  |true=>
   refine (zoy C D o j z S q x w h H E).mono ?_
   rintro e L ⟨rfl,J,I,K⟩
   rw[zm,if_neg (by omega),if_pos E]
   exact⟨rfl,J,I,K⟩
  |false=>
   refine (zox C D o j z S q x w h H E).mono ?_
   rintro e L ⟨rfl,J,I,K⟩
   rw[zm,if_neg (by omega),if_neg (by rw[E];decide)]
   exact⟨rfl,J,I,K⟩
 ·refine (zoz C D o j z S q x w h H M).mono ?_
  rintro e L ⟨rfl,N⟩
  rw[zm,if_pos (by omega)]
  exact⟨rfl,N⟩
end Go.Proofs.YthfeoomfiafldaaGreat
