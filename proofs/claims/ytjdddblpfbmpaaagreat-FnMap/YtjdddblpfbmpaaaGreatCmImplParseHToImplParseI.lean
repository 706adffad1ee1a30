/-
  What room of impl's parser answers where there is none; addExpr,addImp whole: the walks.
  What addExp of impl's parser answers: the walks.
-/
import Derived.RegionDies
import Derived.Test.YtjdddblpfbmpaaaGreatCmImplParseEToImplParseG
namespace Go.Proofs.YtjdddblpfbmpaaaGreat
set_option maxRecDepth 100000
set_option maxHeartbeats 3200000
open Go.RowKit Go.PlainAid Go.Sort
theorem ze8 (C:Cx) (gt H j L:Nat) (S:Sv) (q:PS) (c m:Int) (w:World) (h:IM C gt H j L S q w) (hc:m≤c) (hp:0<q.pos):
  Calls Tryz.prog 218 #[.pointer (some ⟨L,0,none⟩),.int .i64 c,.int .i64 m] w fun e w'=>e=Pan (zu C (q.pos-1))∧Below w.heap.size w w':=by
 obtain⟨c0,c1,c2,c3,_,_,_,_,_,_,cf⟩:=zag h.cells
 have hd:decide (m≤c)=true:=decide_eq_true hc
 have M:=(zav h.mem.tok).1
 have U:=h.mem.few
 have z:=h.mem.inv.pos
 obtain⟨k,Z⟩: ∃k,q.pos=k+1:=⟨q.pos-1,by omega⟩
 have Y:(q.pos:Int)-1=(k:Int):=by omega
 have HK:Hid (q.pos-1=k):=by show q.pos-1=k;omega
 have A:k<C.ts.length:=by omega
 have X:(k:Int)<(C.ts.length:Int):=by omega
 have aa:IntKind.i64.wrap (k:Int)=(k:Int):=IntWalk.i64_in _ ⟨by omega,by omega⟩
 obtain⟨N,O,I,J⟩:=h.mem.tok.cells A (d:=⟨0,sNone,0,C.fin⟩)
 change _=some (Value.int .i64 (ze C k).kind) at N
 change _=some (Value.string (ze C k).text) at O
 change _=some (Value.int .i64 (ze C k).num) at I
 change _=some (Value.int .i64 (ze C k).pos) at J
 have V:Hid (zu C k=(ze C k).pos):=rfl
 generalize ze C k=t at N O I J V
 clear h Z z hp
 go_enter Tryz.func218,Tryz.ntmps218
 go_wp2
 go_region_dies
 all_goals
  refine⟨rfl,?_⟩
  rw[HK.out,V.out]
  exact⟨rfl,(Below.refl _ _).drew⟩
theorem ze9 (C:Cx) (H z j A:Nat) (S:Sv) (q:PS) (x:Ex) (w:World) (h:IM C H z j A S q w) (O:0<q.pos):
  Calls Tryz.prog 232 #[.pointer (some ⟨A,0,none⟩),exV x] w (zW C H z j A (zQ C x q) id (fun q'=>.int .i64 ((q'.ex.length:Int)-1)) S w):=by
 by_cases X:q.ex.length<300
 ·refine (znn C H z j A S q x w h X).mono ?_
  rintro e J ⟨rfl,Y,V,U⟩
  rw[zQ,if_neg (by omega)]
  exact⟨by simp,Y,V,U⟩
 ·have I:Hid (IM C H z j A S q w):=h
  have Z:Hid (zQ C x q= .error (zu C (q.pos-1))):=by show _=_;rw[zQ,if_pos (by omega)]
  obtain⟨c0,c1,c2,c3,c4,c5,c6,c7,c8,c9,cf⟩:=zag h.cells
  have L:=h.lt
  clear h
  unfold exV
  go_enter Tryz.func232,Tryz.ntmps232
  go_wp2_with fail
  refine (ze8 C H z j A S q q.ex.length 300 _ (I.out.alloc _) (by omega) O).mono ?_
  rintro e J ⟨rfl,M⟩
  have N:Below j w J:=(((Below.refl _ _).alloc (Nat.le_refl _) _).mono I.out.mem.base).trans (M.mono (I.out.alloc _).mem.base)
  unfold Pan
  go_wp2
  refine⟨rfl,?_⟩
  rw[Z.out]
  exact⟨rfl,N⟩
theorem znp (C:Cx) (H z j A:Nat) (S:Sv) (q:PS) (x:Im) (w:World) (h:IM C H z j A S q w) (O:0<q.pos):
  Calls Tryz.prog 226 #[.pointer (some ⟨A,0,none⟩),imV x] w (zW C H z j A (zal C x q) id (fun _=>.tuple #[]) S w):=by
 by_cases X:q.im.length<40
 ·refine (zno C H z j A S q x w h X).mono ?_
  rintro e J ⟨rfl,Y,V,U⟩
  rw[zal,if_neg (by omega)]
  exact⟨rfl,Y,V,U⟩
 ·have I:Hid (IM C H z j A S q w):=h
  have Z:Hid (zal C x q= .error (zu C (q.pos-1))):=by show _=_;rw[zal,if_pos (by omega)]
  obtain⟨c0,c1,c2,c3,c4,c5,c6,c7,c8,c9,cf⟩:=zag h.cells
  have L:=h.lt
  clear h
  unfold imV
  go_enter Tryz.func226,Tryz.ntmps226
  go_wp2_with fail
  refine (ze8 C H z j A S q q.im.length 40 _ (I.out.alloc _) (by omega) O).mono ?_
  rintro e J ⟨rfl,M⟩
  have N:Below j w J:=(((Below.refl _ _).alloc (Nat.le_refl _) _).mono I.out.mem.base).trans (M.mono (I.out.alloc _).mem.base)
  unfold Pan
  go_wp2
  refine⟨rfl,?_⟩
  rw[Z.out]
  exact⟨rfl,N⟩
theorem zac {P:Program} {j:Code} {Q:Exit→Act→World→Prop} {a:Act} {w0:World} {R:World→Prop} (q:R w0) (h: ∀W,R W→Code.wp P j Q a W):Code.wp P j Q a w0:=h w0 q
theorem zfp (x:Ep): ∀u∈epL x,u.oneCell'=true:=by
 intro u j
 simp[epL] at j
 rcases j with rfl|rfl|rfl|rfl<;>rfl
theorem IM.back {C:Cx} {H z j A:Nat} {S S':Sv} {q:PS} {w w':World} (h:IM C H z j A S q w) (s:IS A S w S' w'):Below j w w':=s.under h.mem.base h.mem.own h.ge
theorem IS.grownI {q:Nat} {S S':Sv} {w j w':World} (h:Below w.heap.size w j) (k:IS q S j S' w'):IS q S w S' w':=(IS.below h).trans k
theorem znq (C:Cx) (X A j z:Nat) (S:Sv) (q:PS) (x:Ep) (w:World) (h:IM C X A j z S q w) (hn:q.ep.length+q.la.length<40) (he:(x.loc.toList==[42,100,101,102,97,117,108,116])=false):
  Calls Tryz.prog 212 #[.pointer (some ⟨z,0,none⟩),epV x] w fun e w'=>e= .returned (.tuple #[])∧∃S',IM C X A j z S' {q with ep:=q.ep++[x]} w'∧IS z S w S' w':=by
 obtain⟨i0,hi,aa,ad,af⟩:=info_parts Tryz.infoExp
 have aj:=h.lt
 have HA:Hid (IM C X A j z S q (w.alloc (.cells #[.int .i64 x.kind,.string x.name,.string x.loc,.string x.spec] 86))):=h.alloc _
 have cR: ∀d os,Calls Tryz.prog 218 #[.pointer (some ⟨z,0,none⟩),.int .i64 ((q.ep.length:Int)+q.la.length),.int .i64 40] (grow (redrawn (w.alloc (.cells #[.int .i64 x.kind,.string x.name,.string x.loc,.string x.spec] 86)) d) os) fun e ah=>e= .returned (.tuple #[])∧∃p:Regrown,ah=grow (redrawn (w.alloc (.cells #[.int .i64 x.kind,.string x.name,.string x.loc,.string x.spec] 86)) p.d) p.os:=
  fun d os=>Calls.regrown_of ((zdY z _ 40 _ (by omega)).mono (by rintro e w' ⟨rfl,rfl⟩;exact⟨rfl,Below.refl _ _⟩))
 obtain⟨_,_,_,_,_,_,Y,_,_,V,_⟩:=zag HA.out.cells
 have C6:=zc Y
 have C9:=zc V
 have am:IntKind.i64.wrap ((q.ep.length:Int)+(q.la.length:Int))=(q.ep.length:Int)+(q.la.length:Int):=IntWalk.i64_in _ ⟨by omega,by omega⟩
 clear Y V
 unfold epV
 go_enter Tryz.func212,Tryz.ntmps212
 go_wp2_with fail
 have k6:=cell_regrown C6.out
 have k9:=cell_regrown C9.out
 refine wp_region_quiet_below (by kernel_rfl) (by kernel_rfl) ?_
 repeat (go_big_quiet_step (exact cR _ _))
 refine wpQuiet_nil ?_
 intro H Z
 obtain⟨⟨dq,al⟩,I⟩:=Z
 have N:Below (w.alloc (.cells #[.int .i64 x.kind,.string x.name,.string x.loc,.string x.spec] 86)).heap.size (w.alloc (.cells #[.int .i64 x.kind,.string x.name,.string x.loc,.string x.spec] 86)) H:=by show Below _ _ _;rw[I];exact below_regrown _ _ _
 clear I k6 k9 cR C6 C9
 have M:Hid (IM C X A j z S q H):=HA.out.later N
 have HG:Hid (H.heap[w.heap.size]? =some (.cells #[.int .i64 x.kind,.string x.name,.string x.loc,.string x.spec] 86 (0,0))):=(N.block _ (by rw[zl];omega)).trans (heap_alloc_new w _)
 have HW:Below w.heap.size w H:=((Below.refl _ _).alloc (Nat.le_refl _) _).trans (N.mono (by rw[zl];omega))
 obtain⟨b0,b1,b2,b3,bf⟩:=zdH HG.out
 obtain⟨c0,c1,c2,c3,c4,c5,Y,c7,c8,V,cf⟩:=zag M.out.cells
 have O:=fun L=>(M.out.mem.own.ep.drew.alloc L)
 have ak:=M.out.mem.base
 have ai:=M.out.lt
 have HN:Hid (some z≠S.ep.blk):=fun e=>M.out.free (.inr (.inr (.inl e.symm)))
 have ae: ∀L,j≤(H.alloc L).heap.size:=fun L=>by rw[zl];omega
 have ag: ∀L,z<(H.alloc L).heap.size:=fun L=>by rw[zl];omega
 go_wp2_with fail
 go_region_law (first|(refine zdi rfl (.tmp 36) (.tmp 38) 32 rfl j 86 i0 _ 4 56 Tryz.underlying32 hi aa ad af rfl (by decide) (by decide) S.ep q.ep.length (q.ep.flatMap epL) (by rfl) (by exact O _) H.heap.size (epL x) (by rfl) (by exact heap_alloc_new H _) rfl (zfp x) (by omega) (by exact ae _) ?_;intro r' w2 hr J U;have g2:=(J.block z (by exact ag _) HN.out).trans (by exact (M.out.alloc _).cells);obtain⟨d0,d1,d2,d3,d4,d5,d6,d7,d8,d9,df⟩:=zag g2))
 all_goals
  have HR:=zc hr
  have ac:=zc J
  have ab:=zc U
  clear hr J U g2 c0 c1 c2 c3 c4 c5 Y c7 c8 V cf b0 b1 b2 b3 bf
  go_wp2
  go_end0
  obtain⟨m',s'⟩:=M.out.grow_ep ((Below.refl _ _).alloc (Nat.le_refl _) _).drew ac.out HR.out ab.out hn
  exact⟨rfl,_,m',s'.grownI HW⟩
theorem znr (C:Cx) (X A j z:Nat) (S:Sv) (q:PS) (x:Ep) (w:World) (h:IM C X A j z S q w) (hn:q.ep.length+q.la.length<40) (he:(x.loc.toList==[42,100,101,102,97,117,108,116])=true):
  Calls Tryz.prog 212 #[.pointer (some ⟨z,0,none⟩),epV x] w fun e w'=>e= .returned (.tuple #[])∧∃S',IM C X A j z S' {q with la:=q.la++[x]} w'∧IS z S w S' w':=by
 obtain⟨i0,hi,aa,ad,af⟩:=info_parts Tryz.infoExp
 have aj:=h.lt
 have HA:Hid (IM C X A j z S q (w.alloc (.cells #[.int .i64 x.kind,.string x.name,.string x.loc,.string x.spec] 86))):=h.alloc _
 have cR: ∀d os,Calls Tryz.prog 218 #[.pointer (some ⟨z,0,none⟩),.int .i64 ((q.ep.length:Int)+q.la.length),.int .i64 40] (grow (redrawn (w.alloc (.cells #[.int .i64 x.kind,.string x.name,.string x.loc,.string x.spec] 86)) d) os) fun e ah=>e= .returned (.tuple #[])∧∃p:Regrown,ah=grow (redrawn (w.alloc (.cells #[.int .i64 x.kind,.string x.name,.string x.loc,.string x.spec] 86)) p.d) p.os:=
  fun d os=>Calls.regrown_of ((zdY z _ 40 _ (by omega)).mono (by rintro e w' ⟨rfl,rfl⟩;exact⟨rfl,Below.refl _ _⟩))
 obtain⟨_,_,_,_,_,_,Y,_,_,V,_⟩:=zag HA.out.cells
 have C6:=zc Y
 have C9:=zc V
 have am:IntKind.i64.wrap ((q.ep.length:Int)+(q.la.length:Int))=(q.ep.length:Int)+(q.la.length:Int):=IntWalk.i64_in _ ⟨by omega,by omega⟩
 clear Y V
 unfold epV
 go_enter Tryz.func212,Tryz.ntmps212
 go_wp2_with fail
 have k6:=cell_regrown C6.out
 have k9:=cell_regrown C9.out
 refine wp_region_quiet_below (by kernel_rfl) (by kernel_rfl) ?_
 repeat (go_big_quiet_step (exact cR _ _))
 refine wpQuiet_nil ?_
 intro H Z
 obtain⟨⟨dq,al⟩,I⟩:=Z
 have N:Below (w.alloc (.cells #[.int .i64 x.kind,.string x.name,.string x.loc,.string x.spec] 86)).heap.size (w.alloc (.cells #[.int .i64 x.kind,.string x.name,.string x.loc,.string x.spec] 86)) H:=by show Below _ _ _;rw[I];exact below_regrown _ _ _
 clear I k6 k9 cR C6 C9
 have M:Hid (IM C X A j z S q H):=HA.out.later N
 have HG:Hid (H.heap[w.heap.size]? =some (.cells #[.int .i64 x.kind,.string x.name,.string x.loc,.string x.spec] 86 (0,0))):=(N.block _ (by rw[zl];omega)).trans (heap_alloc_new w _)
 have HW:Below w.heap.size w H:=((Below.refl _ _).alloc (Nat.le_refl _) _).trans (N.mono (by rw[zl];omega))
 obtain⟨b0,b1,b2,b3,bf⟩:=zdH HG.out
 obtain⟨c0,c1,c2,c3,c4,c5,Y,c7,c8,V,cf⟩:=zag M.out.cells
 have O:=fun L=>(M.out.mem.own.la.drew.alloc L)
 have ak:=M.out.mem.base
 have ai:=M.out.lt
 have HN:Hid (some z≠S.la.blk):=fun e=>M.out.free (.inr (.inr (.inr (.inr (.inr e.symm)))))
 have ae: ∀L,j≤(H.alloc L).heap.size:=fun L=>by rw[zl];omega
 have ag: ∀L,z<(H.alloc L).heap.size:=fun L=>by rw[zl];omega
 go_wp2_with fail
 go_region_law (first|(refine zdi rfl (.tmp 25) (.tmp 27) 32 rfl j 86 i0 _ 4 56 Tryz.underlying32 hi aa ad af rfl (by decide) (by decide) S.la q.la.length (q.la.flatMap epL) (by rfl) (by exact O _) H.heap.size (epL x) (by rfl) (by exact heap_alloc_new H _) rfl (zfp x) (by omega) (by exact ae _) ?_;intro r' w2 hr J U;have g2:=(J.block z (by exact ag _) HN.out).trans (by exact (M.out.alloc _).cells);obtain⟨d0,d1,d2,d3,d4,d5,d6,d7,d8,d9,df⟩:=zag g2))
 all_goals
  have HR:=zc hr
  have ac:=zc J
  have ab:=zc U
  clear hr J U g2 c0 c1 c2 c3 c4 c5 Y c7 c8 V cf b0 b1 b2 b3 bf
  go_wp2
  go_end0
  obtain⟨m',s'⟩:=M.out.grow_la ((Below.refl _ _).alloc (Nat.le_refl _) _).drew ac.out HR.out ab.out hn
  exact⟨rfl,_,m',s'.grownI HW⟩
theorem zns (C:Cx) (I z j A:Nat) (S:Sv) (q:PS) (x:Ep) (w:World) (h:IM C I z j A S q w) (hn: ¬q.ep.length+q.la.length<40) (O:0<q.pos):
  Calls Tryz.prog 212 #[.pointer (some ⟨A,0,none⟩),epV x] w fun e w'=>e=Pan (zu C (q.pos-1))∧Below j w w':=by
 have L:=h.lt
 have U:=h.mem.inv.ep
 have H:Hid (IM C I z j A S q (w.alloc (.cells #[.int .i64 x.kind,.string x.name,.string x.loc,.string x.spec] 86))):=h.alloc _
 obtain⟨c0,c1,c2,c3,c4,c5,c6,Z,X,Y,cf⟩:=zag H.out.cells
 have V:IntKind.i64.wrap ((q.ep.length:Int)+(q.la.length:Int))=(q.ep.length:Int)+(q.la.length:Int):=IntWalk.i64_in _ ⟨by omega,by omega⟩
 unfold epV
 go_enter Tryz.func212,Tryz.ntmps212
 go_wp2_with fail
 go_region_dies
 all_goals
  refine (ze8 C I z j A S q _ 40 _ H.out.drew (by omega) O).mono ?_
  rintro e J ⟨rfl,M⟩
  have N:Below j w J:=(((Below.refl _ _).alloc (Nat.le_refl _) _).drew.mono h.mem.base).trans (M.mono H.out.drew.mem.base)
  exact⟨rfl,rfl,N⟩
theorem zfq (C:Cx) (H z j A:Nat) (S:Sv) (q:PS) (x:Ep) (w:World) (h:IM C H z j A S q w) (U:0<q.pos):
  Calls Tryz.prog 212 #[.pointer (some ⟨A,0,none⟩),epV x] w (zW C H z j A (zq C x q) id (fun _=>.tuple #[]) S w):=by
 by_cases N:q.ep.length+q.la.length<40
 ·cases I:(x.loc.toList==[42,100,101,102,97,117,108,116]) with
  |true=>
   refine (znr C H z j A S q x w h N I).mono ?_
   rintro e O ⟨rfl,J,M,L⟩
   rw[zq,if_neg (by omega),if_pos I]
   exact⟨rfl,J,M,L⟩
  |false=>
   refine (znq C H z j A S q x w h N I).mono ?_
   rintro e O ⟨rfl,J,M,L⟩
   rw[zq,if_neg (by omega),if_neg (by rw[I];decide)]
   exact⟨rfl,J,M,L⟩
 ·refine (zns C H z j A S q x w h N U).mono ?_
  rintro e O ⟨rfl,V⟩
  rw[zq,if_pos (by omega)]
  exact⟨rfl,V⟩
end Go.Proofs.YtjdddblpfbmpaaaGreat
