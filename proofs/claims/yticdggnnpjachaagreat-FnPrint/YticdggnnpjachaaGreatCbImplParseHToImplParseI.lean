/-
  What room of impl's parser answers where there is none; addExpr,addImp whole: the walks.
  What addExp of impl's parser answers: the walks.
-/
import Derived.RegionDies
import Derived.Test.YticdggnnpjachaaGreatCbImplParseEToImplParseG
namespace Go.Proofs.YticdggnnpjachaaGreat
set_option maxRecDepth 100000
set_option maxHeartbeats 3200000
open Go.RowKit Go.PlainAid Go.Sort
theorem zeb (C:Cx) (N z j D:Nat) (S:Sv) (q:PS) (c m:Int) (w:World) (h:IM C N z j D S q w) (Z:m≤c) (M:0<q.pos):
  Calls Tryz.prog 184 #[.pointer (some ⟨D,0,none⟩),.int .i64 c,.int .i64 m] w fun e X=>e=Pan (zr C (q.pos-1))∧Below w.heap.size w X:=by
 obtain⟨c0,c1,c2,c3,_,_,_,_,_,_,cf⟩:=zac h.cells
 have hd:decide (m≤c)=true:=decide_eq_true Z
 have H:=(zan h.mem.tok).1
 have L:=h.mem.few
 have n:=h.mem.inv.pos
 obtain⟨k,Y⟩: ∃k,q.pos=k+1:=⟨q.pos-1,by omega⟩
 have O:(q.pos:Int)-1=(k:Int):=by omega
 have Q:Hid (q.pos-1=k):=by show q.pos-1=k;omega
 have o:k<C.ts.length:=by omega
 have V:(k:Int)<(C.ts.length:Int):=by omega
 have U:IntKind.i64.wrap (k:Int)=(k:Int):=IntWalk.i64_in _ ⟨by omega,by omega⟩
 obtain⟨J,I,K,A⟩:=h.mem.tok.cells o (d:=⟨0,sNone,0,C.fin⟩)
 change _=some (Value.int .i64 (ze C k).kind) at J
 change _=some (Value.string (ze C k).text) at I
 change _=some (Value.int .i64 (ze C k).num) at K
 change _=some (Value.int .i64 (ze C k).pos) at A
 have E:Hid (zr C k=(ze C k).pos):=rfl
 generalize ze C k=t at J I K A E
 clear h Y n M
 go_enter Tryz.func184,Tryz.ntmps184
 go_wp2
 go_region_dies
 all_goals
  refine⟨rfl,?_⟩
  rw[Q.out,E.out]
  exact⟨rfl,(Below.refl _ _).drew⟩
theorem zec (C:Cx) (z n j o:Nat) (S:Sv) (q:PS) (x:Ex) (w:World) (h:IM C z n j o S q w) (H:0<q.pos):
  Calls Tryz.prog 202 #[.pointer (some ⟨o,0,none⟩),exV x] w (zQ C z n j o (zN C x q) id (fun q'=>.int .i64 ((q'.ex.length:Int)-1)) S w):=by
 by_cases L:q.ex.length<300
 ·refine (zl8 C z n j o S q x w h L).mono ?_
  rintro e D ⟨rfl,N,K,M⟩
  rw[zN,if_neg (by omega)]
  exact⟨by simp,N,K,M⟩
 ·have A:Hid (IM C z n j o S q w):=h
  have I:Hid (zN C x q= .error (zr C (q.pos-1))):=by show _=_;rw[zN,if_pos (by omega)]
  obtain⟨c0,c1,U,V,Z,Y,X,c7,Q,c9,cf⟩:=zac h.cells
  have O:=h.lt
  clear h
  unfold exV
  go_enter Tryz.func202,Tryz.ntmps202
  go_wp2_with fail
  refine (zeb C z n j o S q q.ex.length 300 _ (A.out.alloc _) (by omega) H).mono ?_
  rintro e D ⟨rfl,J⟩
  have E:Hid (Below j w D):=(((Below.refl _ _).alloc (Nat.le_refl _) _).mono A.out.mem.base).trans (J.mono (A.out.alloc _).mem.base)
  unfold Pan
  go_wp2
  refine⟨rfl,?_⟩
  rw[I.out]
  exact⟨rfl,E.out⟩
theorem zlA (C:Cx) (z n j o:Nat) (S:Sv) (q:PS) (x:Im) (w:World) (h:IM C z n j o S q w) (H:0<q.pos):
  Calls Tryz.prog 196 #[.pointer (some ⟨o,0,none⟩),imV x] w (zQ C z n j o (zak C x q) id (fun _=>.tuple #[]) S w):=by
 by_cases L:q.im.length<40
 ·refine (zl9 C z n j o S q x w h L).mono ?_
  rintro e D ⟨rfl,N,K,M⟩
  rw[zak,if_neg (by omega)]
  exact⟨rfl,N,K,M⟩
 ·have A:Hid (IM C z n j o S q w):=h
  have I:Hid (zak C x q= .error (zr C (q.pos-1))):=by show _=_;rw[zak,if_pos (by omega)]
  obtain⟨c0,c1,U,V,Z,Y,X,c7,Q,c9,cf⟩:=zac h.cells
  have O:=h.lt
  clear h
  unfold imV
  go_enter Tryz.func196,Tryz.ntmps196
  go_wp2_with fail
  refine (zeb C z n j o S q q.im.length 40 _ (A.out.alloc _) (by omega) H).mono ?_
  rintro e D ⟨rfl,J⟩
  have E:Hid (Below j w D):=(((Below.refl _ _).alloc (Nat.le_refl _) _).mono A.out.mem.base).trans (J.mono (A.out.alloc _).mem.base)
  unfold Pan
  go_wp2
  refine⟨rfl,?_⟩
  rw[I.out]
  exact⟨rfl,E.out⟩
theorem zau {P:Program} {j:Code} {Q:Exit→Act→World→Prop} {a:Act} {w0:World} {R:World→Prop} (n:R w0) (h: ∀W,R W→Code.wp P j Q a W):Code.wp P j Q a w0:=h w0 n
theorem zeG (x:Ep): ∀u∈epL x,u.oneCell'=true:=by
 intro u j
 simp[epL] at j
 rcases j with rfl|rfl|rfl|rfl<;>rfl
theorem IM.back {C:Cx} {A n j o:Nat} {S D:Sv} {q:PS} {w z:World} (h:IM C A n j o S q w) (s:IS o S w D z):Below j w z:=s.under h.mem.base h.mem.own h.ge
theorem IS.grownI {o:Nat} {S j:Sv} {w q n:World} (h:Below w.heap.size w q) (k:IS o S q j n):IS o S w j n:=(IS.below h).trans k
theorem zlB (C:Cx) (N o j n:Nat) (S:Sv) (q:PS) (x:Ep) (w:World) (h:IM C N o j n S q w) (hn:q.ep.length+q.la.length<40) (he:(x.loc.toList==[42,100,101,102,97,117,108,116])=false):
  Calls Tryz.prog 178 #[.pointer (some ⟨n,0,none⟩),epV x] w fun e V=>e= .returned (.tuple #[])∧∃S',IM C N o j n S' {q with ep:=q.ep++[x]} V∧IS n S w S' V:=by
 obtain⟨i0,hi,ab,Y,ac⟩:=info_parts Tryz.infoExp
 have HH:=zc h
 have ag:=h.lt
 have HA:Hid (IM C N o j n S q (w.alloc (.cells #[.int .i64 x.kind,.string x.name,.string x.loc,.string x.spec] 102))):=h.alloc _
 have cR: ∀d os,Calls Tryz.prog 184 #[.pointer (some ⟨n,0,none⟩),.int .i64 ((q.ep.length:Int)+q.la.length),.int .i64 40] (grow (redrawn (w.alloc (.cells #[.int .i64 x.kind,.string x.name,.string x.loc,.string x.spec] 102)) d) os) fun e Q=>e= .returned (.tuple #[])∧∃p:Regrown,Q=grow (redrawn (w.alloc (.cells #[.int .i64 x.kind,.string x.name,.string x.loc,.string x.spec] 102)) p.d) p.os:=
  fun d os=>Calls.regrown_of ((zd2 n _ 40 _ (by omega)).mono (by rintro e V ⟨rfl,rfl⟩;exact⟨rfl,Below.refl _ _⟩))
 obtain⟨_,_,_,_,_,_,L,_,_,M,_⟩:=zac HA.out.cells
 have C6:=zc L
 have C9:=zc M
 have af:IntKind.i64.wrap ((q.ep.length:Int)+(q.la.length:Int))=(q.ep.length:Int)+(q.la.length:Int):=IntWalk.i64_in _ ⟨by omega,by omega⟩
 clear h L M
 unfold epV
 go_enter Tryz.func178,Tryz.ntmps178
 go_wp2_with fail
 have k6:=cell_regrown C6.out
 have k9:=cell_regrown C9.out
 refine wp_region_quiet_below (by kernel_rfl) (by kernel_rfl) ?_
 repeat (go_big_quiet_step (exact cR _ _))
 refine wpQuiet_nil ?_
 intro A U
 obtain⟨⟨dq,ah⟩,z⟩:=U
 have D:Hid (Below (w.alloc (.cells #[.int .i64 x.kind,.string x.name,.string x.loc,.string x.spec] 102)).heap.size (w.alloc (.cells #[.int .i64 x.kind,.string x.name,.string x.loc,.string x.spec] 102)) A):=by show Below _ _ _;rw[z];exact below_regrown _ _ _
 clear z k6 k9 cR C6 C9
 have H:Hid (IM C N o j n S q A):=HA.out.later D.out
 have HG:Hid (A.heap[w.heap.size]? =some (.cells #[.int .i64 x.kind,.string x.name,.string x.loc,.string x.spec] 102 (0,0))):=(D.out.block _ (by rw[zk];omega)).trans (heap_alloc_new w _)
 have HW:Hid (Below w.heap.size w A):=((Below.refl _ _).alloc (Nat.le_refl _) _).trans (D.out.mono (by rw[zk];omega))
 obtain⟨b0,b1,b2,b3,bf⟩:=zdn HG.out
 obtain⟨c0,c1,c2,c3,c4,c5,L,c7,c8,M,cf⟩:=zac H.out.cells
 have K:=fun E=>(H.out.mem.own.ep.drew.alloc E)
 have ae:=H.out.mem.base
 have ad:=H.out.lt
 have HN:Hid (some n≠S.ep.blk):=fun e=>H.out.free (.inr (.inr (.inl e.symm)))
 have Z: ∀E,j≤(A.alloc E).heap.size:=fun E=>by rw[zk];omega
 have O: ∀E,n<(A.alloc E).heap.size:=fun E=>by rw[zk];omega
 go_wp2_with fail
 go_region_law (first|(refine zcH rfl (.tmp 36) (.tmp 38) 24 rfl j 102 i0 _ 4 56 Tryz.underlying24 hi ab Y ac rfl (by decide) (by decide) S.ep q.ep.length (q.ep.flatMap epL) (by rfl) (by exact K _) A.heap.size (epL x) (by rfl) (by exact heap_alloc_new A _) rfl (zeG x) (by omega) (by exact Z _) ?_;intro r' w2 hr I J;have g2:=(I.block n (by exact O _) HN.out).trans (by exact (H.out.alloc _).cells);obtain⟨d0,d1,d2,d3,d4,d5,d6,d7,d8,d9,df⟩:=zac g2))
 all_goals
  have HR:=zc hr
  have X:=zc I
  have aa:=zc J
  clear hr I J g2 c0 c1 c2 c3 c4 c5 L c7 c8 M cf b0 b1 b2 b3 bf
  go_wp2
  go_end0
  obtain⟨m',s'⟩:=H.out.grow_ep ((Below.refl _ _).alloc (Nat.le_refl _) _).drew X.out HR.out aa.out hn
  exact⟨rfl,_,m',s'.grownI HW.out⟩
theorem zlC (C:Cx) (N o j n:Nat) (S:Sv) (q:PS) (x:Ep) (w:World) (h:IM C N o j n S q w) (hn:q.ep.length+q.la.length<40) (he:(x.loc.toList==[42,100,101,102,97,117,108,116])=true):
  Calls Tryz.prog 178 #[.pointer (some ⟨n,0,none⟩),epV x] w fun e V=>e= .returned (.tuple #[])∧∃S',IM C N o j n S' {q with la:=q.la++[x]} V∧IS n S w S' V:=by
 obtain⟨i0,hi,ab,Y,ac⟩:=info_parts Tryz.infoExp
 have HH:=zc h
 have ag:=h.lt
 have HA:Hid (IM C N o j n S q (w.alloc (.cells #[.int .i64 x.kind,.string x.name,.string x.loc,.string x.spec] 102))):=h.alloc _
 have cR: ∀d os,Calls Tryz.prog 184 #[.pointer (some ⟨n,0,none⟩),.int .i64 ((q.ep.length:Int)+q.la.length),.int .i64 40] (grow (redrawn (w.alloc (.cells #[.int .i64 x.kind,.string x.name,.string x.loc,.string x.spec] 102)) d) os) fun e Q=>e= .returned (.tuple #[])∧∃p:Regrown,Q=grow (redrawn (w.alloc (.cells #[.int .i64 x.kind,.string x.name,.string x.loc,.string x.spec] 102)) p.d) p.os:=
  fun d os=>Calls.regrown_of ((zd2 n _ 40 _ (by omega)).mono (by rintro e V ⟨rfl,rfl⟩;exact⟨rfl,Below.refl _ _⟩))
 obtain⟨_,_,_,_,_,_,L,_,_,M,_⟩:=zac HA.out.cells
 have C6:=zc L
 have C9:=zc M
 have af:IntKind.i64.wrap ((q.ep.length:Int)+(q.la.length:Int))=(q.ep.length:Int)+(q.la.length:Int):=IntWalk.i64_in _ ⟨by omega,by omega⟩
 clear h L M
 unfold epV
 go_enter Tryz.func178,Tryz.ntmps178
 go_wp2_with fail
 have k6:=cell_regrown C6.out
 have k9:=cell_regrown C9.out
 refine wp_region_quiet_below (by kernel_rfl) (by kernel_rfl) ?_
 repeat (go_big_quiet_step (exact cR _ _))
 refine wpQuiet_nil ?_
 intro A U
 obtain⟨⟨dq,ah⟩,z⟩:=U
 have D:Hid (Below (w.alloc (.cells #[.int .i64 x.kind,.string x.name,.string x.loc,.string x.spec] 102)).heap.size (w.alloc (.cells #[.int .i64 x.kind,.string x.name,.string x.loc,.string x.spec] 102)) A):=by show Below _ _ _;rw[z];exact below_regrown _ _ _
 clear z k6 k9 cR C6 C9
 have H:Hid (IM C N o j n S q A):=HA.out.later D.out
 have HG:Hid (A.heap[w.heap.size]? =some (.cells #[.int .i64 x.kind,.string x.name,.string x.loc,.string x.spec] 102 (0,0))):=(D.out.block _ (by rw[zk];omega)).trans (heap_alloc_new w _)
 have HW:Hid (Below w.heap.size w A):=((Below.refl _ _).alloc (Nat.le_refl _) _).trans (D.out.mono (by rw[zk];omega))
 obtain⟨b0,b1,b2,b3,bf⟩:=zdn HG.out
 obtain⟨c0,c1,c2,c3,c4,c5,L,c7,c8,M,cf⟩:=zac H.out.cells
 have K:=fun E=>(H.out.mem.own.la.drew.alloc E)
 have ae:=H.out.mem.base
 have ad:=H.out.lt
 have HN:Hid (some n≠S.la.blk):=fun e=>H.out.free (.inr (.inr (.inr (.inr (.inr e.symm)))))
 have Z: ∀E,j≤(A.alloc E).heap.size:=fun E=>by rw[zk];omega
 have O: ∀E,n<(A.alloc E).heap.size:=fun E=>by rw[zk];omega
 go_wp2_with fail
 go_region_law (first|(refine zcH rfl (.tmp 25) (.tmp 27) 24 rfl j 102 i0 _ 4 56 Tryz.underlying24 hi ab Y ac rfl (by decide) (by decide) S.la q.la.length (q.la.flatMap epL) (by rfl) (by exact K _) A.heap.size (epL x) (by rfl) (by exact heap_alloc_new A _) rfl (zeG x) (by omega) (by exact Z _) ?_;intro r' w2 hr I J;have g2:=(I.block n (by exact O _) HN.out).trans (by exact (H.out.alloc _).cells);obtain⟨d0,d1,d2,d3,d4,d5,d6,d7,d8,d9,df⟩:=zac g2))
 all_goals
  have HR:=zc hr
  have X:=zc I
  have aa:=zc J
  clear hr I J g2 c0 c1 c2 c3 c4 c5 L c7 c8 M cf b0 b1 b2 b3 bf
  go_wp2
  go_end0
  obtain⟨m',s'⟩:=H.out.grow_la ((Below.refl _ _).alloc (Nat.le_refl _) _).drew X.out HR.out aa.out hn
  exact⟨rfl,_,m',s'.grownI HW.out⟩
theorem zlD (C:Cx) (z n j o:Nat) (S:Sv) (q:PS) (x:Ep) (w:World) (h:IM C z n j o S q w) (hn: ¬q.ep.length+q.la.length<40) (E:0<q.pos):
  Calls Tryz.prog 178 #[.pointer (some ⟨o,0,none⟩),epV x] w fun e M=>e=Pan (zr C (q.pos-1))∧Below j w M:=by
 have H:=zc h
 have N:=h.lt
 have K:=h.mem.inv.ep
 have A:Hid (IM C z n j o S q (w.alloc (.cells #[.int .i64 x.kind,.string x.name,.string x.loc,.string x.spec] 102))):=h.alloc _
 obtain⟨c0,Z,Q,U,Y,X,V,c7,O,c9,cf⟩:=zac A.out.cells
 have L:IntKind.i64.wrap ((q.ep.length:Int)+(q.la.length:Int))=(q.ep.length:Int)+(q.la.length:Int):=IntWalk.i64_in _ ⟨by omega,by omega⟩
 clear h
 unfold epV
 go_enter Tryz.func178,Tryz.ntmps178
 go_wp2_with fail
 go_region_dies
 all_goals
  refine (zeb C z n j o S q _ 40 _ A.out.drew (by omega) E).mono ?_
  rintro e I ⟨rfl,J⟩
  have D:Hid (Below j w I):=(((Below.refl _ _).alloc (Nat.le_refl _) _).drew.mono H.out.mem.base).trans (J.mono A.out.drew.mem.base)
  exact⟨rfl,rfl,D.out⟩
theorem zeH (C:Cx) (z n j o:Nat) (S:Sv) (q:PS) (x:Ep) (w:World) (h:IM C z n j o S q w) (K:0<q.pos):
  Calls Tryz.prog 178 #[.pointer (some ⟨o,0,none⟩),epV x] w (zQ C z n j o (zo C x q) id (fun _=>.tuple #[]) S w):=by
 by_cases H:q.ep.length+q.la.length<40
 ·cases A:(x.loc.toList==[42,100,101,102,97,117,108,116]) with
  |true=>
   refine (zlC C z n j o S q x w h H A).mono ?_
   rintro e J ⟨rfl,I,E,D⟩
   rw[zo,if_neg (by omega),if_pos A]
   exact⟨rfl,I,E,D⟩
  |false=>
   refine (zlB C z n j o S q x w h H A).mono ?_
   rintro e J ⟨rfl,I,E,D⟩
   rw[zo,if_neg (by omega),if_neg (by rw[A];decide)]
   exact⟨rfl,I,E,D⟩
 ·refine (zlD C z n j o S q x w h H K).mono ?_
  rintro e J ⟨rfl,L⟩
  rw[zo,if_pos (by omega)]
  exact⟨rfl,L⟩
end Go.Proofs.YticdggnnpjachaaGreat
