/-
  What room of impl's parser answers where there is none; addExpr,addImp whole: the walks.
  What addExp of impl's parser answers: the walks.
-/
import Derived.RegionDies
import Derived.Test.YtjdddblpfbmpaaaGreatCoImplParseEToImplParseG
namespace Go.Proofs.YtjdddblpfbmpaaaGreat
set_option maxRecDepth 100000
set_option maxHeartbeats 3200000
open Go.RowKit Go.PlainAid Go.Sort
theorem zdF (C:Cx) (Y A j H:Nat) (S:Sv) (q:PS) (c m:Int) (w:World) (h:IM C Y A j H S q w) (hc:m≤c) (X:0<q.pos):
  Calls Tryz.prog 218 #[.pointer (some ⟨H,0,none⟩),.int .i64 c,.int .i64 m] w fun e N=>e=Pan (zp C (q.pos-1))∧Below w.heap.size w N:=by
 obtain⟨c0,c1,c2,c3,_,_,_,_,_,_,cf⟩:=zY h.cells
 have hd:decide (m≤c)=true:=decide_eq_true hc
 have I:=(zaj h.mem.tok).1
 have L:=h.mem.few
 have n:=h.mem.inv.pos
 obtain⟨k,V⟩: ∃k,q.pos=k+1:=⟨q.pos-1,by omega⟩
 have U:(q.pos:Int)-1=(k:Int):=by omega
 have Z:Hid (q.pos-1=k):=by show q.pos-1=k;omega
 have z:k<C.ts.length:=by omega
 have O:(k:Int)<(C.ts.length:Int):=by omega
 have aa:IntKind.i64.wrap (k:Int)=(k:Int):=IntWalk.i64_in _ ⟨by omega,by omega⟩
 obtain⟨J,K,D,E⟩:=h.mem.tok.cells z (d:=⟨0,sNone,0,C.fin⟩)
 change _=some (Value.int .i64 (ze C k).kind) at J
 change _=some (Value.string (ze C k).text) at K
 change _=some (Value.int .i64 (ze C k).num) at D
 change _=some (Value.int .i64 (ze C k).pos) at E
 have M:Hid (zp C k=(ze C k).pos):=rfl
 generalize ze C k=t at J K D E M
 clear h V n X
 go_enter Tryz.func218,Tryz.ntmps218
 go_wp2
 go_region_dies
 all_goals
  refine⟨rfl,?_⟩
  rw[Z.out,M.out]
  exact⟨rfl,(Below.refl _ _).drew⟩
theorem zdG (C:Cx) (A n j z:Nat) (S:Sv) (q:PS) (x:Ex) (w:World) (h:IM C A n j z S q w) (K:0<q.pos):
  Calls Tryz.prog 232 #[.pointer (some ⟨z,0,none⟩),exV x] w (zM C A n j z (zL C x q) id (fun q'=>.int .i64 ((q'.ex.length:Int)-1)) S w):=by
 by_cases N:q.ex.length<300
 ·refine (zk4 C A n j z S q x w h N).mono ?_
  rintro e E ⟨rfl,O,M,L⟩
  rw[zL,if_neg (by omega)]
  exact⟨by simp,O,M,L⟩
 ·have D:Hid (IM C A n j z S q w):=h
  have U:Hid (zL C x q= .error (zp C (q.pos-1))):=by show _=_;rw[zL,if_pos (by omega)]
  obtain⟨c0,Z,c2,c3,c4,c5,c6,Y,V,X,cf⟩:=zY h.cells
  have H:=h.lt
  clear h
  unfold exV
  go_enter Tryz.func232,Tryz.ntmps232
  go_wp2_with fail
  refine (zdF C A n j z S q q.ex.length 300 _ (D.out.alloc _) (by omega) K).mono ?_
  rintro e E ⟨rfl,I⟩
  have J:Below j w E:=(((Below.refl _ _).alloc (Nat.le_refl _) _).mono D.out.mem.base).trans (I.mono (D.out.alloc _).mem.base)
  unfold Pan
  go_wp2
  refine⟨rfl,?_⟩
  rw[U.out]
  exact⟨rfl,J⟩
theorem zk6 (C:Cx) (A n j z:Nat) (S:Sv) (q:PS) (x:Im) (w:World) (h:IM C A n j z S q w) (K:0<q.pos):
  Calls Tryz.prog 226 #[.pointer (some ⟨z,0,none⟩),imV x] w (zM C A n j z (zan C x q) id (fun _=>.tuple #[]) S w):=by
 by_cases N:q.im.length<40
 ·refine (zk5 C A n j z S q x w h N).mono ?_
  rintro e E ⟨rfl,O,M,L⟩
  rw[zan,if_neg (by omega)]
  exact⟨rfl,O,M,L⟩
 ·have D:Hid (IM C A n j z S q w):=h
  have U:Hid (zan C x q= .error (zp C (q.pos-1))):=by show _=_;rw[zan,if_pos (by omega)]
  obtain⟨c0,Z,c2,c3,c4,c5,c6,Y,V,X,cf⟩:=zY h.cells
  have H:=h.lt
  clear h
  unfold imV
  go_enter Tryz.func226,Tryz.ntmps226
  go_wp2_with fail
  refine (zdF C A n j z S q q.im.length 40 _ (D.out.alloc _) (by omega) K).mono ?_
  rintro e E ⟨rfl,I⟩
  have J:Below j w E:=(((Below.refl _ _).alloc (Nat.le_refl _) _).mono D.out.mem.base).trans (I.mono (D.out.alloc _).mem.base)
  unfold Pan
  go_wp2
  refine⟨rfl,?_⟩
  rw[U.out]
  exact⟨rfl,J⟩
theorem zac {P:Program} {j:Code} {Q:Exit→Act→World→Prop} {a:Act} {w0:World} {R:World→Prop} (n:R w0) (h: ∀W,R W→Code.wp P j Q a W):Code.wp P j Q a w0:=h w0 n
theorem zeW (x:Ep): ∀u∈epL x,u.oneCell'=true:=by
 intro u h
 simp[epL] at h
 rcases h with rfl|rfl|rfl|rfl<;>rfl
theorem IM.back {C:Cx} {E n j z:Nat} {S D:Sv} {q:PS} {w A:World} (h:IM C E n j z S q w) (s:IS z S w D A):Below j w A:=s.under h.mem.base h.mem.own h.ge
theorem IS.grownI {z:Nat} {S j:Sv} {w q n:World} (h:Below w.heap.size w q) (k:IS z S q j n):IS z S w j n:=(IS.below h).trans k
theorem zk7 (C:Cx) (N z j n:Nat) (S:Sv) (q:PS) (x:Ep) (w:World) (h:IM C N z j n S q w) (hn:q.ep.length+q.la.length<40) (he:(x.loc.toList==[42,100,101,102,97,117,108,116])=false):
  Calls Tryz.prog 212 #[.pointer (some ⟨n,0,none⟩),epV x] w fun e w'=>e= .returned (.tuple #[])∧∃S',IM C N z j n S' {q with ep:=q.ep++[x]} w'∧IS n S w S' w':=by
 obtain⟨i0,hi,Y,ad,ab⟩:=info_parts Tryz.infoExp
 have ag:=h.lt
 have HA:Hid (IM C N z j n S q (w.alloc (.cells #[.int .i64 x.kind,.string x.name,.string x.loc,.string x.spec] 86))):=h.alloc _
 have cR: ∀d os,Calls Tryz.prog 218 #[.pointer (some ⟨n,0,none⟩),.int .i64 ((q.ep.length:Int)+q.la.length),.int .i64 40] (grow (redrawn (w.alloc (.cells #[.int .i64 x.kind,.string x.name,.string x.loc,.string x.spec] 86)) d) os) fun e ac=>e= .returned (.tuple #[])∧∃p:Regrown,ac=grow (redrawn (w.alloc (.cells #[.int .i64 x.kind,.string x.name,.string x.loc,.string x.spec] 86)) p.d) p.os:=
  fun d os=>Calls.regrown_of ((zdg n _ 40 _ (by omega)).mono (by rintro e w' ⟨rfl,rfl⟩;exact⟨rfl,Below.refl _ _⟩))
 obtain⟨_,_,_,_,_,_,O,_,_,M,_⟩:=zY HA.out.cells
 have C6:=zc O
 have C9:=zc M
 have ah:IntKind.i64.wrap ((q.ep.length:Int)+(q.la.length:Int))=(q.ep.length:Int)+(q.la.length:Int):=IntWalk.i64_in _ ⟨by omega,by omega⟩
 clear O M
 unfold epV
 go_enter Tryz.func212,Tryz.ntmps212
 go_wp2_with fail
 have k6:=cell_regrown C6.out
 have k9:=cell_regrown C9.out
 refine wp_region_quiet_below (by kernel_rfl) (by kernel_rfl) ?_
 repeat (go_big_quiet_step (exact cR _ _))
 refine wpQuiet_nil ?_
 intro D X
 obtain⟨⟨dq,ai⟩,A⟩:=X
 have I:Below (w.alloc (.cells #[.int .i64 x.kind,.string x.name,.string x.loc,.string x.spec] 86)).heap.size (w.alloc (.cells #[.int .i64 x.kind,.string x.name,.string x.loc,.string x.spec] 86)) D:=by show Below _ _ _;rw[A];exact below_regrown _ _ _
 clear A k6 k9 cR C6 C9
 have E:Hid (IM C N z j n S q D):=HA.out.later I
 have HG:Hid (D.heap[w.heap.size]? =some (.cells #[.int .i64 x.kind,.string x.name,.string x.loc,.string x.spec] 86 (0,0))):=(I.block _ (by rw[zk];omega)).trans (heap_alloc_new w _)
 have HW:Below w.heap.size w D:=((Below.refl _ _).alloc (Nat.le_refl _) _).trans (I.mono (by rw[zk];omega))
 obtain⟨b0,b1,b2,b3,bf⟩:=zcT HG.out
 obtain⟨c0,c1,c2,c3,c4,c5,O,c7,c8,M,cf⟩:=zY E.out.cells
 have K:=fun H=>(E.out.mem.own.ep.drew.alloc H)
 have af:=E.out.mem.base
 have ae:=E.out.lt
 have HN:Hid (some n≠S.ep.blk):=fun e=>E.out.free (.inr (.inr (.inl e.symm)))
 have U: ∀H,j≤(D.alloc H).heap.size:=fun H=>by rw[zk];omega
 have V: ∀H,n<(D.alloc H).heap.size:=fun H=>by rw[zk];omega
 go_wp2_with fail
 go_region_law (first|(refine zen rfl (.tmp 36) (.tmp 38) 32 rfl j 86 i0 _ 4 56 Tryz.underlying32 hi Y ad ab rfl (by decide) (by decide) S.ep q.ep.length (q.ep.flatMap epL) (by rfl) (by exact K _) D.heap.size (epL x) (by rfl) (by exact heap_alloc_new D _) rfl (zeW x) (by omega) (by exact U _) ?_;intro r' w2 hr J L;have g2:=(J.block n (by exact V _) HN.out).trans (by exact (E.out.alloc _).cells);obtain⟨d0,d1,d2,d3,d4,d5,d6,d7,d8,d9,df⟩:=zY g2))
 all_goals
  have HR:=zc hr
  have aa:=zc J
  have Z:=zc L
  clear hr J L g2 c0 c1 c2 c3 c4 c5 O c7 c8 M cf b0 b1 b2 b3 bf
  go_wp2
  go_end0
  obtain⟨m',s'⟩:=E.out.grow_ep ((Below.refl _ _).alloc (Nat.le_refl _) _).drew aa.out HR.out Z.out hn
  exact⟨rfl,_,m',s'.grownI HW⟩
theorem zk8 (C:Cx) (N z j n:Nat) (S:Sv) (q:PS) (x:Ep) (w:World) (h:IM C N z j n S q w) (hn:q.ep.length+q.la.length<40) (he:(x.loc.toList==[42,100,101,102,97,117,108,116])=true):
  Calls Tryz.prog 212 #[.pointer (some ⟨n,0,none⟩),epV x] w fun e w'=>e= .returned (.tuple #[])∧∃S',IM C N z j n S' {q with la:=q.la++[x]} w'∧IS n S w S' w':=by
 obtain⟨i0,hi,Y,ad,ab⟩:=info_parts Tryz.infoExp
 have ag:=h.lt
 have HA:Hid (IM C N z j n S q (w.alloc (.cells #[.int .i64 x.kind,.string x.name,.string x.loc,.string x.spec] 86))):=h.alloc _
 have cR: ∀d os,Calls Tryz.prog 218 #[.pointer (some ⟨n,0,none⟩),.int .i64 ((q.ep.length:Int)+q.la.length),.int .i64 40] (grow (redrawn (w.alloc (.cells #[.int .i64 x.kind,.string x.name,.string x.loc,.string x.spec] 86)) d) os) fun e ac=>e= .returned (.tuple #[])∧∃p:Regrown,ac=grow (redrawn (w.alloc (.cells #[.int .i64 x.kind,.string x.name,.string x.loc,.string x.spec] 86)) p.d) p.os:=
  fun d os=>Calls.regrown_of ((zdg n _ 40 _ (by omega)).mono (by rintro e w' ⟨rfl,rfl⟩;exact⟨rfl,Below.refl _ _⟩))
 obtain⟨_,_,_,_,_,_,O,_,_,M,_⟩:=zY HA.out.cells
 have C6:=zc O
 have C9:=zc M
 have ah:IntKind.i64.wrap ((q.ep.length:Int)+(q.la.length:Int))=(q.ep.length:Int)+(q.la.length:Int):=IntWalk.i64_in _ ⟨by omega,by omega⟩
 clear O M
 unfold epV
 go_enter Tryz.func212,Tryz.ntmps212
 go_wp2_with fail
 have k6:=cell_regrown C6.out
 have k9:=cell_regrown C9.out
 refine wp_region_quiet_below (by kernel_rfl) (by kernel_rfl) ?_
 repeat (go_big_quiet_step (exact cR _ _))
 refine wpQuiet_nil ?_
 intro D X
 obtain⟨⟨dq,ai⟩,A⟩:=X
 have I:Below (w.alloc (.cells #[.int .i64 x.kind,.string x.name,.string x.loc,.string x.spec] 86)).heap.size (w.alloc (.cells #[.int .i64 x.kind,.string x.name,.string x.loc,.string x.spec] 86)) D:=by show Below _ _ _;rw[A];exact below_regrown _ _ _
 clear A k6 k9 cR C6 C9
 have E:Hid (IM C N z j n S q D):=HA.out.later I
 have HG:Hid (D.heap[w.heap.size]? =some (.cells #[.int .i64 x.kind,.string x.name,.string x.loc,.string x.spec] 86 (0,0))):=(I.block _ (by rw[zk];omega)).trans (heap_alloc_new w _)
 have HW:Below w.heap.size w D:=((Below.refl _ _).alloc (Nat.le_refl _) _).trans (I.mono (by rw[zk];omega))
 obtain⟨b0,b1,b2,b3,bf⟩:=zcT HG.out
 obtain⟨c0,c1,c2,c3,c4,c5,O,c7,c8,M,cf⟩:=zY E.out.cells
 have K:=fun H=>(E.out.mem.own.la.drew.alloc H)
 have af:=E.out.mem.base
 have ae:=E.out.lt
 have HN:Hid (some n≠S.la.blk):=fun e=>E.out.free (.inr (.inr (.inr (.inr (.inr e.symm)))))
 have U: ∀H,j≤(D.alloc H).heap.size:=fun H=>by rw[zk];omega
 have V: ∀H,n<(D.alloc H).heap.size:=fun H=>by rw[zk];omega
 go_wp2_with fail
 go_region_law (first|(refine zen rfl (.tmp 25) (.tmp 27) 32 rfl j 86 i0 _ 4 56 Tryz.underlying32 hi Y ad ab rfl (by decide) (by decide) S.la q.la.length (q.la.flatMap epL) (by rfl) (by exact K _) D.heap.size (epL x) (by rfl) (by exact heap_alloc_new D _) rfl (zeW x) (by omega) (by exact U _) ?_;intro r' w2 hr J L;have g2:=(J.block n (by exact V _) HN.out).trans (by exact (E.out.alloc _).cells);obtain⟨d0,d1,d2,d3,d4,d5,d6,d7,d8,d9,df⟩:=zY g2))
 all_goals
  have HR:=zc hr
  have aa:=zc J
  have Z:=zc L
  clear hr J L g2 c0 c1 c2 c3 c4 c5 O c7 c8 M cf b0 b1 b2 b3 bf
  go_wp2
  go_end0
  obtain⟨m',s'⟩:=E.out.grow_la ((Below.refl _ _).alloc (Nat.le_refl _) _).drew aa.out HR.out Z.out hn
  exact⟨rfl,_,m',s'.grownI HW⟩
theorem zk9 (C:Cx) (D n j z:Nat) (S:Sv) (q:PS) (x:Ep) (w:World) (h:IM C D n j z S q w) (hn: ¬q.ep.length+q.la.length<40) (L:0<q.pos):
  Calls Tryz.prog 212 #[.pointer (some ⟨z,0,none⟩),epV x] w fun e I=>e=Pan (zp C (q.pos-1))∧Below j w I:=by
 have H:=h.lt
 have M:=h.mem.inv.ep
 have A:Hid (IM C D n j z S q (w.alloc (.cells #[.int .i64 x.kind,.string x.name,.string x.loc,.string x.spec] 86))):=h.alloc _
 obtain⟨c0,X,Y,c3,c4,c5,c6,V,O,U,Z⟩:=zY A.out.cells
 have N:IntKind.i64.wrap ((q.ep.length:Int)+(q.la.length:Int))=(q.ep.length:Int)+(q.la.length:Int):=IntWalk.i64_in _ ⟨by omega,by omega⟩
 unfold epV
 go_enter Tryz.func212,Tryz.ntmps212
 go_wp2_with fail
 go_region_dies
 all_goals
  refine (zdF C D n j z S q _ 40 _ A.out.drew (by omega) L).mono ?_
  rintro e E ⟨rfl,J⟩
  have K:Below j w E:=(((Below.refl _ _).alloc (Nat.le_refl _) _).drew.mono h.mem.base).trans (J.mono A.out.drew.mem.base)
  exact⟨rfl,rfl,K⟩
theorem zeq (C:Cx) (A n j z:Nat) (S:Sv) (q:PS) (x:Ep) (w:World) (h:IM C A n j z S q w) (L:0<q.pos):
  Calls Tryz.prog 212 #[.pointer (some ⟨z,0,none⟩),epV x] w (zM C A n j z (zn C x q) id (fun _=>.tuple #[]) S w):=by
 by_cases J:q.ep.length+q.la.length<40
 ·cases D:(x.loc.toList==[42,100,101,102,97,117,108,116]) with
  |true=>
   refine (zk8 C A n j z S q x w h J D).mono ?_
   rintro e K ⟨rfl,E,I,H⟩
   rw[zn,if_neg (by omega),if_pos D]
   exact⟨rfl,E,I,H⟩
  |false=>
   refine (zk7 C A n j z S q x w h J D).mono ?_
   rintro e K ⟨rfl,E,I,H⟩
   rw[zn,if_neg (by omega),if_neg (by rw[D];decide)]
   exact⟨rfl,E,I,H⟩
 ·refine (zk9 C A n j z S q x w h J L).mono ?_
  rintro e K ⟨rfl,M⟩
  rw[zn,if_pos (by omega)]
  exact⟨rfl,M⟩
end Go.Proofs.YtjdddblpfbmpaaaGreat
