/-
  What spec.l14Copy answers: the walk.
  What markText of the laws answers: the walk.
  What the laws' helpers over rows lean on. No program is spoken of.
  Rows of the call's own that are marked cell by cell. No program is spoken of.
  A program whose requests are mapped in memory,beside the rules. No program is spoken of but for the numbers of its types.
  A request is laid behind those of a program in its box. No program is spoken of but for the numbers of its types.
  What spec.l1In answers.
  What spec.l2Path and spec.Clean answer,at every text: the walks.
  What spec.l14Str and spec.RulesOk answer: the walks.
  What spec.l2Begins and spec.Resolve answer: the walks.
  What spec.MapSpec answers: the walk.
-/
import Derived.Test.YtjdddblpfbmpaaaGreatCmSpecCopyI
import Derived.Test.YtjdddblpfbmpaaaGreatCmDrawBaseToSpoilBase
namespace Go.Proofs.YtjdddblpfbmpaaaGreat
set_option maxRecDepth 100000
set_option maxHeartbeats 12800000
open Go.RowKit Go.PlainAid Go.Sort
theorem zrz (l:List Sm): ∀u∈l.flatMap smL,u.oneCell'=true:=by
 intro u q
 obtain⟨x,_,j⟩:=List.mem_flatMap.1 q
 simp[smL] at j
 rcases j with rfl|rfl|rfl<;>rfl
theorem zr0 (l:List Ex): ∀u∈l.flatMap exL,u.oneCell'=true:=by
 intro u q
 obtain⟨x,_,j⟩:=List.mem_flatMap.1 q
 simp[exL] at j
 rcases j with rfl|rfl|rfl|rfl|rfl|rfl<;>rfl
theorem zr1 (l:List Im): ∀u∈l.flatMap imL,u.oneCell'=true:=by
 intro u q
 obtain⟨x,_,j⟩:=List.mem_flatMap.1 q
 simp[imL] at j
 rcases j with rfl|rfl|rfl<;>rfl
theorem zr2 (l:List ByteArray): ∀u∈l.map Value.string,u.oneCell'=true:=by
 intro u j
 obtain⟨x,_,rfl⟩:=List.mem_map.1 j
 rfl
theorem zfL {P:Program} {o:Oper} {a:Act} {W:World} {K:Act→World→Prop} {Q:Exit→Act→World→Prop} (H:o.guard=none) (s x:Operand) (t:TypeId)
  (ho:o.op= .call {callee:=.builtin .append,args:=#[s,x],argTypes:=#[t,t]})
  (B:Nat) (e:TypeId) (size q:Nat) (ht:P.underlying t=some (.slice e)) (j:(P.info? e).map (fun i=>(i.zero.map fun z=>z.cells.size,i.size,i.bytes))=some (some size,size,q)) (Z:0<size) (L:q≤100)
  (g:Nat) (hs:a.eval s= .slice (some ⟨g,0,none⟩) 0 0) (A:OwnR W B e size ⟨some ⟨g,0,none⟩,0⟩ 0 [])
  (r:Rw) (n b2:Nat) (xs:List Value) (U:a.eval x= .slice r.a n r.cap) (V:OwnR W b2 e size r n xs) (h1: ∀u∈xs,u.oneCell'=true) (hn:n≤1048576) (hB:B≤W.heap.size)
  (h: ∀J w',OwnR w' B e size J n xs→W.grownBy w' (some g)→K (a.put o.dst (.slice J.a n J.cap)) w'):o.wp P a W K Q:=by
 have hw:Region.wanted o (yielded #[] a.tmps)=true:=by simp[Region.wanted,H]
 cases O:P.info? e with
 |none=>rw[O] at j;cases j
 |some i=>
  rw[O] at j
  simp only[Option.map_some,Option.some.injEq,Prod.mk.injEq] at j
  obtain⟨M,h2,h3⟩:=j
  cases I:i.zero with
  |none=>rw[I] at M;cases M
  |some z=>
   rw[I] at M
   simp only[Option.map_some,Option.some.injEq] at M
   rcases V.nil_or with ⟨N,hc,rfl⟩|⟨gx,N⟩
   ·have X:xs=[]:=List.eq_nil_of_length_eq_zero (by rw[V.1,Nat.zero_mul])
    rw[N,hc] at U
    have:=zid (ops:=#[]) (K:=K) (Q:=Q) (E:=True) H s x t ho e i ht O B size 0 ⟨some ⟨g,0,none⟩,0⟩ [] hs A U (h ⟨some ⟨g,0,none⟩,0⟩ W (by rw[X];exact A) ⟨rfl,rfl,rfl,Nat.le_refl _,fun _ _ _=>rfl⟩)
    rw[if_pos hw] at this
    exact this
   ·rw[N] at U
    have Y:OwnR W b2 e size ⟨some ⟨gx,0,none⟩,r.cap⟩ n xs:=by
     obtain⟨ra,rc⟩:=r
     simp only at N
     subst N
     exact V
    have:=zic (ops:=#[]) (K:=K) (Q:=Q) (E:=True) H s x t ho B e i z size q ht O I h2 h3 M Z L ⟨some ⟨g,0,none⟩,0⟩ 0 [] hs A gx n r.cap b2 xs U Y h1 (by omega) hB (fun J w' k1 k2 _=>by
     rw[Nat.zero_add] at k1
     rw[Nat.zero_add]
     exact h J w' k1 k2)
    rw[if_pos hw] at this
    exact this
theorem zcW {a:Act} {k:Nat} {v:Value} (h:a.tmps[k]? =some v):a.eval (.tmp k)=v:=by
 show a.tmps.getD k undef=v
 rw[Array.getD_eq_getD_getElem?,h]
 rfl
theorem zr3 (L:Nat) (S:Sv) (m:Md) (w:World) (h:OwnMd w L S m) (hl:m.rq.length≤1048576∧m.im.length≤1048576∧m.ep.length≤1048576∧m.st.length≤1048576∧m.ex.length≤1048576):
  Calls Tryz.prog 47 #[zp S m] w fun e w'=>∃S',e= .returned (zp S' m)∧OwnMd w' w.heap.size S' m∧Below w.heap.size w w':=by
 have HH:=zc h
 have HL:=zc hl
 clear h hl
 unfold zp
 go_enter Tryz.func47,Tryz.ntmps47
 go_upto_region 1 with fail
 have e1:(w.alloc (.cells #[.slice S.rq.a m.rq.length S.rq.cap,.slice S.im.a m.im.length S.im.cap,.slice S.ep.a m.ep.length S.ep.cap,.slice S.st.a m.st.length S.st.cap,.slice S.ex.a m.ex.length S.ex.cap] 36)).heap.size=w.heap.size+1:=zl _ _
 have HW:Hid (Below w.heap.size w ((w.alloc (.cells #[.slice S.rq.a m.rq.length S.rq.cap,.slice S.im.a m.im.length S.im.cap,.slice S.ep.a m.ep.length S.ep.cap,.slice S.st.a m.st.length S.st.cap,.slice S.ex.a m.ex.length S.ex.cap] 36)).alloc (.cells #[.slice none 0 0,.slice none 0 0,.slice none 0 0,.slice none 0 0,.slice none 0 0] 36))):=((Below.refl _ _).alloc (Nat.le_refl _) _).alloc (by rw[e1];omega) _
 refine zac (R:=fun W=>W.heap[w.heap.size]? =some (.cells #[.slice S.rq.a m.rq.length S.rq.cap,.slice S.im.a m.im.length S.im.cap,.slice S.ep.a m.ep.length S.ep.cap,.slice S.st.a m.st.length S.st.cap,.slice S.ex.a m.ex.length S.ex.cap] 36 (0,0))∧W.heap[w.heap.size+1]? =some (.cells #[.slice none 0 0,.slice none 0 0,.slice none 0 0,.slice none 0 0,.slice none 0 0] 36 (0,0))∧OwnMd W L S m∧Below w.heap.size w W) ⟨(heap_alloc_old _ _ (by rw[e1];omega)).trans (heap_alloc_new w _),heap_alloc2_new w _ _,HH.out.later HW.out,HW.out⟩ ?_
 obtain⟨X,ab⟩: ∃X,X=w.heap.size:=⟨_,rfl⟩
 obtain⟨gz,ac⟩: ∃gz,gz=w.heap.size+1:=⟨_,rfl⟩
 rw[←ac,←ab]
 rintro w1 ⟨hx,hz,ho,hb⟩
 rw[ab] at hb
 have ae:Hid (w.heap.size≤gz):=by show _≤_;omega
 clear ab ac HW HH e1
 have X1:=zc hx
 have Z1:=zc hz
 have O1:=zc ho
 have aa:=zc hb
 clear hx hz ho hb
 have LX:X<w1.heap.size:=(Array.getElem?_eq_some_iff.1 X1.out).1
 have LZ:gz<w1.heap.size:=(Array.getElem?_eq_some_iff.1 Z1.out).1
 have A: ∀{p:Prop},(false=true)→p:=fun k=>by cases k
 refine zrr (by kernel_rfl) (CpI w1 X gz S m []) (zrt (by kernel_rfl)) ⟨rfl,rfl,rfl,rfl,fun _=>(Below.refl _ _).drew,fun _=>⟨fun k=>A k,fun k=>A k,fun k=>A k,fun k=>A k,fun k=>A k,fun k=>A k⟩,fun _=>⟨fun k=>A k,fun k=>A k,fun k=>A k,fun k=>A k,fun k=>A k,fun k=>A k⟩,fun _=>⟨fun k=>A k,fun k=>A k,fun k=>A k,fun k=>A k,fun k=>A k,fun k=>A k⟩,fun _=>⟨fun k=>A k,fun k=>A k,fun k=>A k,fun k=>A k,fun k=>A k,fun k=>A k⟩,fun _=>⟨fun k=>A k,fun k=>A k,fun k=>A k,fun k=>A k,fun k=>A k,fun k=>A k⟩,fun k=>A k,fun k=>A k,fun k=>A k,fun k=>A k⟩ ?_ ?_
 ·intro D a N i o H M z j
  have af:i<22:=(Array.getElem?_eq_some_iff.1 M).1
  obtain rfl|rfl|rfl|rfl|rfl|rfl|rfl|rfl|rfl|rfl|rfl|rfl|rfl|rfl|rfl|rfl|rfl|rfl|rfl|rfl|rfl|rfl:i=0∨i=1∨i=2∨i=3∨i=4∨i=5∨i=6∨i=7∨i=8∨i=9∨i=10∨i=11∨i=12∨i=13∨i=14∨i=15∨i=16∨i=17∨i=18∨i=19∨i=20∨i=21:=by omega
  ·cases M
   exact zbf rfl rfl (zbY (w':=N.alloc (.cells #[] 9)) (v:=.slice (some ⟨N.heap.size,0,none⟩) 0 0) (by go_simp) (H.s0 z))
  ·cases M
   have Y:=H.t1
   exact zbf rfl rfl (zbY (w':=N) (v:=.pointer (some ⟨X,0,none⟩)) (by go_simp) (H.s1 z))
  ·cases M
   have V:=j ⟨1,.data⟩ (by simp) rfl
   have q:=H.no21 (by decide) z
   have Y:a.tmps[4]? =_:=(H.c0 q).b1 V
   obtain⟨c0,c1,c2,c3,c4,cf⟩:=zg (((H.nb q).block X LX).trans X1.out)
   exact zbf rfl rfl (zbY (w':=N) (v:=.slice S.rq.a m.rq.length S.rq.cap) (by go_simp) (H.s2 z V))
  ·cases M
   have J:=j ⟨0,.data⟩ (by simp) rfl
   have I:=j ⟨2,.data⟩ (by simp) rfl
   have q:=H.no21 (by decide) z
   have U:=H.nb q
   obtain⟨g,Z,O⟩:=(H.c0 q).b0 J z
   have h3:=(H.c0 q).b2 I
   exact zbf rfl rfl (zfL rfl (.tmp 3) (.tmp 5) 22 rfl w1.heap.size 9 1 16 Tryz.underlying22 zru (by decide) (by decide) g (zcW Z) O S.rq m.rq.length L _ (zcW h3) ((O1.out.later U).rq) (zr2 _) (by have:=HL.out;omega) U.size (fun r' w' k1 k2=>H.s3 z J I O k1 k2))
  ·cases M
   exact zbf rfl rfl (zbY (w':=N.alloc (.cells #[] 84)) (v:=.slice (some ⟨N.heap.size,0,none⟩) 0 0) (by go_simp) (H.s4 z))
  ·cases M
   have Y:=H.t1
   exact zbf rfl rfl (zbY (w':=N) (v:=.pointer (some ⟨X,1,none⟩)) (by go_simp) (H.s5 z))
  ·cases M
   have V:=j ⟨5,.data⟩ (by simp) rfl
   have q:=H.no21 (by decide) z
   have Y:a.tmps[8]? =_:=(H.c1 q).b1 V
   obtain⟨c0,c1,c2,c3,c4,cf⟩:=zg (((H.nb q).block X LX).trans X1.out)
   exact zbf rfl rfl (zbY (w':=N) (v:=.slice S.im.a m.im.length S.im.cap) (by go_simp) (H.s6 z V))
  ·cases M
   have J:=j ⟨4,.data⟩ (by simp) rfl
   have I:=j ⟨6,.data⟩ (by simp) rfl
   have q:=H.no21 (by decide) z
   have U:=H.nb q
   obtain⟨g,Z,O⟩:=(H.c1 q).b0 J z
   have h3:=(H.c1 q).b2 I
   exact zbf rfl rfl (zfL rfl (.tmp 7) (.tmp 9) 31 rfl w1.heap.size 84 3 48 Tryz.underlying31 zrv (by decide) (by decide) g (zcW Z) O S.im m.im.length L _ (zcW h3) ((O1.out.later U).im) (zr1 _) (by have:=HL.out;omega) U.size (fun r' w' k1 k2=>H.s7 z J I O k1 k2))
  ·cases M
   exact zbf rfl rfl (zbY (w':=N.alloc (.cells #[] 86)) (v:=.slice (some ⟨N.heap.size,0,none⟩) 0 0) (by go_simp) (H.s8 z))
  ·cases M
   have Y:=H.t1
   exact zbf rfl rfl (zbY (w':=N) (v:=.pointer (some ⟨X,2,none⟩)) (by go_simp) (H.s9 z))
  ·cases M
   have V:=j ⟨9,.data⟩ (by simp) rfl
   have q:=H.no21 (by decide) z
   have Y:a.tmps[12]? =_:=(H.c2 q).b1 V
   obtain⟨c0,c1,c2,c3,c4,cf⟩:=zg (((H.nb q).block X LX).trans X1.out)
   exact zbf rfl rfl (zbY (w':=N) (v:=.slice S.ep.a m.ep.length S.ep.cap) (by go_simp) (H.s10 z V))
  ·cases M
   have J:=j ⟨8,.data⟩ (by simp) rfl
   have I:=j ⟨10,.data⟩ (by simp) rfl
   have q:=H.no21 (by decide) z
   have U:=H.nb q
   obtain⟨g,Z,O⟩:=(H.c2 q).b0 J z
   have h3:=(H.c2 q).b2 I
   exact zbf rfl rfl (zfL rfl (.tmp 11) (.tmp 13) 32 rfl w1.heap.size 86 4 56 Tryz.underlying32 zrw (by decide) (by decide) g (zcW Z) O S.ep m.ep.length L _ (zcW h3) ((O1.out.later U).ep) (zgh _) (by have:=HL.out;omega) U.size (fun r' w' k1 k2=>H.s11 z J I O k1 k2))
  ·cases M
   exact zbf rfl rfl (zbY (w':=N.alloc (.cells #[] 107)) (v:=.slice (some ⟨N.heap.size,0,none⟩) 0 0) (by go_simp) (H.s12 z))
  ·cases M
   have Y:=H.t1
   exact zbf rfl rfl (zbY (w':=N) (v:=.pointer (some ⟨X,3,none⟩)) (by go_simp) (H.s13 z))
  ·cases M
   have V:=j ⟨13,.data⟩ (by simp) rfl
   have q:=H.no21 (by decide) z
   have Y:a.tmps[16]? =_:=(H.c3 q).b1 V
   obtain⟨c0,c1,c2,c3,c4,cf⟩:=zg (((H.nb q).block X LX).trans X1.out)
   exact zbf rfl rfl (zbY (w':=N) (v:=.slice S.st.a m.st.length S.st.cap) (by go_simp) (H.s14 z V))
  ·cases M
   have J:=j ⟨12,.data⟩ (by simp) rfl
   have I:=j ⟨14,.data⟩ (by simp) rfl
   have q:=H.no21 (by decide) z
   have U:=H.nb q
   obtain⟨g,Z,O⟩:=(H.c3 q).b0 J z
   have h3:=(H.c3 q).b2 I
   exact zbf rfl rfl (zfL rfl (.tmp 15) (.tmp 17) 33 rfl w1.heap.size 107 3 32 Tryz.underlying33 zrx (by decide) (by decide) g (zcW Z) O S.st m.st.length L _ (zcW h3) ((O1.out.later U).st) (zrz _) (by have:=HL.out;omega) U.size (fun r' w' k1 k2=>H.s15 z J I O k1 k2))
  ·cases M
   exact zbf rfl rfl (zbY (w':=N.alloc (.cells #[] 109)) (v:=.slice (some ⟨N.heap.size,0,none⟩) 0 0) (by go_simp) (H.s16 z))
  ·cases M
   have Y:=H.t1
   exact zbf rfl rfl (zbY (w':=N) (v:=.pointer (some ⟨X,4,none⟩)) (by go_simp) (H.s17 z))
  ·cases M
   have V:=j ⟨17,.data⟩ (by simp) rfl
   have q:=H.no21 (by decide) z
   have Y:a.tmps[20]? =_:=(H.c4 q).b1 V
   obtain⟨c0,c1,c2,c3,c4,cf⟩:=zg (((H.nb q).block X LX).trans X1.out)
   exact zbf rfl rfl (zbY (w':=N) (v:=.slice S.ex.a m.ex.length S.ex.cap) (by go_simp) (H.s18 z V))
  ·cases M
   have J:=j ⟨16,.data⟩ (by simp) rfl
   have I:=j ⟨18,.data⟩ (by simp) rfl
   have q:=H.no21 (by decide) z
   have U:=H.nb q
   obtain⟨g,Z,O⟩:=(H.c4 q).b0 J z
   have h3:=(H.c4 q).b2 I
   exact zbf rfl rfl (zfL rfl (.tmp 19) (.tmp 21) 34 rfl w1.heap.size 109 6 64 Tryz.underlying34 zry (by decide) (by decide) g (zcW Z) O S.ex m.ex.length L _ (zcW h3) ((O1.out.later U).ex) (zr0 _) (by have:=HL.out;omega) U.size (fun r' w' k1 k2=>H.s19 z J I O k1 k2))
  ·cases M
   have p0:=j ⟨3,.data⟩ (by simp) rfl
   have p1:=j ⟨7,.data⟩ (by simp) rfl
   have p2:=j ⟨11,.data⟩ (by simp) rfl
   have p3:=j ⟨15,.data⟩ (by simp) rfl
   have p4:=j ⟨19,.data⟩ (by simp) rfl
   have q:D 21=false:=by
    cases O:D 21 with
    |false=>rfl
    |true=>exact absurd (H.lt21 O) (by rw[z];decide)
   obtain⟨r0,t0,o0⟩:=(H.c0 q).b3 p0
   obtain⟨r1,Y,o1⟩:=(H.c1 q).b3 p1
   obtain⟨r2,t2,o2⟩:=(H.c2 q).b3 p2
   obtain⟨r3,t3,o3⟩:=(H.c3 q).b3 p3
   obtain⟨r4,t4,o4⟩:=(H.c4 q).b3 p4
   have u0:a.tmps[6]? =_:=t0
   have u1:a.tmps[10]? =_:=Y
   have u2:a.tmps[14]? =_:=t2
   have u3:a.tmps[18]? =_:=t3
   have u4:a.tmps[22]? =_:=t4
   clear t0 Y t2 t3 t4
   exact zbf rfl rfl (zbY (w':=N) (v:=zp ⟨r0,r1,r2,r3,r4,R0⟩ m) (by unfold zp;go_simp) (H.s20 z p0 p1 p2 p3 p4 (S':=⟨r0,r1,r2,r3,r4,R0⟩) ⟨o0,o1,o2,o3,o4⟩))
  ·cases M
   have p:=j ⟨20,.data⟩ (by simp) rfl
   obtain⟨S',Z,O⟩:=H.b20 p z
   have h3:=H.t2
   unfold zp at Z
   have U:=H.nb z
   obtain⟨c0,c1,c2,c3,c4,cf⟩:=zg ((U.block gz LZ).trans Z1.out)
   refine zbf rfl rfl ?_
   have hs:=H.s21 p O U
   go_simp
 ·intro D a N H ad
  obtain⟨S',w3,rfl,ho,hb⟩:=H.fin (ad 21 (by decide))
  rename_i Q' K hK
  refine hK _ _ (wp_ret ?_)
  have hz:=(hb.block gz LZ).trans Z1.out
  show bodyPost Tryz.prog Tryz.f47 _ .ret _ _
  refine bodyPost_ret (results_cell_row rfl _ _ gz 36 _ (0,0) _ (zcW H.t2) (zbN hz) Tryz.underlying36 rfl (by kernel_rfl)) H.df ?_
  exact⟨S',rfl,(zfK (o:=0) ho ⟨_,hz⟩).low aa.out.size,zcb (aa.out.trans (hb.mono aa.out.size)) ae.out _ _ _ _ _⟩
def zkM:Nat→Nat→ByteArray→ByteArray
 |0,_,o=>o
 |f+1,k,o=>if k=0 then o else zkM f (k/10) (strOfNums [48+(k:Int)%10]++o)
def mtS (k:Nat):ByteArray:={data:=#[109]}++zkM k k {data:=#[]}
def FK (kd:Nat→Bool) (m k i:Nat):Value:=if kd (i%m) then .string (mtS (k+i)) else .int .i64 ((k+i:Nat):Int)
def OwnG (w:World) (base:Nat) (e:TypeId) (size:Nat) (r:Rw) (n:Nat) (F:Nat→Value) (c:Nat):Prop:=∃xs,OwnR w base e size r n xs∧∀i,i<c→xs[i]? =some (F i)
theorem OwnG.start {w:World} {j size n:Nat} {e:TypeId} {r:Rw} {xs:List Value} (h:OwnR w j e size r n xs) (F:Nat→Value):OwnG w j e size r n F 0:=⟨xs,h,fun i q=>absurd q (Nat.not_lt_zero i)⟩
theorem OwnG.keep {w w':World} {j size n c:Nat} {e:TypeId} {r:Rw} {F:Nat→Value} (h:OwnG w j e size r n F c) (q: ∀k,r.blk=some k→w'.heap[k]? =w.heap[k]?):OwnG w' j e size r n F c:=by
 obtain⟨H,A,z⟩:=h
 exact⟨H,A.keep q,z⟩
theorem OwnG.typed {w:World} {j size n c:Nat} {e:TypeId} {r:Rw} {F:Nat→Value} (h:OwnG w j e size r n F c) {k:Nat} (z:r.blk=some k):j≤k∧k<w.heap.size∧∃q,w.heap[k]? =some (.cells q e (0,0)):=by
 obtain⟨H,A,_⟩:=h
 exact A.typed z
theorem OwnG.later {w w':World} {j size n c:Nat} {e:TypeId} {r:Rw} {F:Nat→Value} (h:OwnG w j e size r n F c) (q:Below w.heap.size w w'):OwnG w' j e size r n F c:=h.keep fun k g=>q.block k (h.typed g).2.1
theorem OwnR.at {w:World} {j size n g:Nat} {e:TypeId} {r:Rw} {xs:List Value} (h:OwnR w j e size r n xs) (q:r.a=some ⟨g,0,none⟩):w.ownsRow j e size (.slice (some ⟨g,0,none⟩) n r.cap) n xs:=by
 unfold OwnR at h
 rw[q] at h
 exact h
theorem OwnG.has {w:World} {j size n c g:Nat} {e:TypeId} {r:Rw} {F:Nat→Value} (h:OwnG w j e size r n F c) (A:r.a=some ⟨g,0,none⟩) (i:Nat) (z:i<n*size): ∃v,w.cell? ⟨g,i,none⟩=some v:=by
 obtain⟨H,q,_⟩:=h
 rw[(q.at A).cellAt i z]
 exact⟨_,List.getElem?_eq_getElem (by rw[q.1];exact z)⟩
theorem OwnG.cell {w:World} {j size n c g:Nat} {e:TypeId} {r:Rw} {F:Nat→Value} (h:OwnG w j e size r n F c) (A:r.a=some ⟨g,0,none⟩) (i:Nat) (I:i<n*size) (H:i<c):w.cell? ⟨g,i,none⟩=some (F i):=by
 obtain⟨J,z,q⟩:=h
 rw[(z.at A).cellAt i I]
 exact q i H
theorem OwnG.free {w:World} {j size n c g:Nat} {e:TypeId} {r:Rw} {F:Nat→Value} (h:OwnG w j e size r n F c) (z:r.a=some ⟨g,0,none⟩) (i:Nat):w.frozen? ⟨g,i,none⟩=false:=by
 obtain⟨A,q,_⟩:=h
 exact (q.at z).frozenAt i
theorem OwnG.put {w:World} {j size n c g:Nat} {e:TypeId} {r:Rw} {F:Nat→Value} (h:OwnG w j e size r n F c) (z:r.a=some ⟨g,0,none⟩) (L:c<n*size) {v:Value} (A:F c=v):OwnG (w.setCell ⟨g,c,none⟩ v) j e size r n F (c+1):=by
 subst A
 obtain⟨I,q,H⟩:=h
 have J:=q.1
 refine⟨I.set c (F c),?_,fun i M=>?_⟩
 ·unfold OwnR
  rw[z]
  exact ((q.at z).stored c (F c)).1
 ·by_cases e:i=c
  ·subst e
   exact List.getElem?_set_self (by omega)
  ·rw[List.getElem?_set_ne (by omega)]
   exact H i (by omega)
structure MW (base gx:Nat) (a:Option Addr) (g len:Nat) (Pt Tx:Nat→ByteArray) (w0 W:World) (S:Sv) (n:Md) (li le:Nat):Prop where
 box:W.heap[gx]? =some (.cells #[.slice S.rq.a n.rq.length S.rq.cap,.slice S.im.a li S.im.cap,.slice S.ep.a le S.ep.cap,.slice S.st.a n.st.length S.st.cap,.slice S.ex.a n.ex.length S.ex.cap] 36 (0,0))
 own:OwnMd W base S n
 rules:FilesAt W a g 0 len Pt Tx
 low:0<len→g<base
 bel:Below base w0 W
 at':base≤gx
 hli:n.im.length=li
 hle:n.ep.length=le
variable {base gx g len li le:Nat} {a:Option Addr} {Pt Tx:Nat→ByteArray} {w0 W W':World} {S:Sv} {n:Md}
theorem MW.size (h:MW base gx a g len Pt Tx w0 W S n li le):base≤W.heap.size:=by
 have:=(Array.getElem?_eq_some_iff.1 h.box).1
 have:=h.at'
 omega
theorem FilesAt.kept {w w':World} {a:Option Addr} {b q len:Nat} {Pt Tx:Nat→ByteArray} (h:FilesAt w a b q len Pt Tx) (J:w.heap.size≤w'.heap.size) (I:0<len→w'.heap[b]? =w.heap[b]?):FilesAt w' a b q len Pt Tx:=by
 have A: ∀o,0<len→w'.cell? ⟨b,o,none⟩=w.cell? ⟨b,o,none⟩:=fun o H=>by simp only[World.cell?,I H]
 exact⟨h.addr,fun k=>Nat.lt_of_lt_of_le (h.lt k) J,fun j z=>by rw[A _ (by omega)];exact h.path j z,fun j z=>by rw[A _ (by omega)];exact h.text j z⟩
theorem MW.later (h:MW base gx a g len Pt Tx w0 W S n li le) (j:Below W.heap.size W W'):MW base gx a g len Pt Tx w0 W' S n li le:=
 ⟨(j.block _ (Array.getElem?_eq_some_iff.1 h.box).1).trans h.box,h.own.later j,h.rules.later j,h.low,h.bel.trans (j.mono h.size),h.at',h.hli,h.hle⟩
theorem zgF (w:World) (c:Addr) (u:Value):(w.setCell c u).heap.size=w.heap.size:=by simp[World.setCell]
theorem MW.im (h:MW base gx a g len Pt Tx w0 W S n li le) {i:Nat} {x:Im} (A:n.im[i]? =some x):
  ∃j,S.im.a=some ⟨j,0,none⟩∧W.cell? ⟨j,i*3,none⟩=some (.string x.spec)∧W.cell? ⟨j,i*3+1,none⟩=some (.string x.first)∧W.cell? ⟨j,i*3+2,none⟩=some (.string x.loc)∧W.frozen? ⟨j,i*3,none⟩=false:=by
 obtain⟨j,z,q⟩:=OwnR.elem (f:=imL) (m:=3) (fun _=>rfl) h.own.im A
 exact⟨j,z,q 0 (by decide),q 1 (by decide),q 2 (by decide),h.own.im.free z _⟩
theorem MW.set_im (h:MW base gx a g len Pt Tx w0 W S n li le) {i j:Nat} {x:Im} (L:n.im[i]? =some x) (z:S.im.a=some ⟨j,0,none⟩) (s:ByteArray):
  MW base gx a g len Pt Tx w0 (W.setCell ⟨j,i*3,none⟩ (.string s)) S {n with im:=n.im.set i ⟨s,x.first,x.loc⟩} li le:=by
 obtain⟨J,_,A,H⟩:=h.own.im.typed (OwnR.blkOf z)
 refine⟨?_,h.own.put_im L z s,h.rules.kept (by rw[zgF];exact Nat.le_refl _) fun I=>heap_setCell_other W ⟨j,i*3,none⟩ g _ ?_,h.low,h.bel.setCell J _,h.at',by rw[←h.hli];exact List.length_set,h.hle⟩
 ·have e:=h.box
  rw[heap_setCell_other W ⟨j,i*3,none⟩ gx _ (fun q=>by simp only at q;rw[q,H] at e;exact absurd e (by simp))]
  exact e
 ·have:=h.low I
  show g≠j
  omega
theorem MW.ep (h:MW base gx a g len Pt Tx w0 W S n li le) {i:Nat} {x:Ep} (A:n.ep[i]? =some x):
  ∃j,S.ep.a=some ⟨j,0,none⟩∧W.cell? ⟨j,i*4,none⟩=some (.int .i64 x.kind)∧W.cell? ⟨j,i*4+1,none⟩=some (.string x.name)∧W.cell? ⟨j,i*4+2,none⟩=some (.string x.loc)∧W.cell? ⟨j,i*4+3,none⟩=some (.string x.spec)∧W.frozen? ⟨j,i*4+3,none⟩=false:=by
 obtain⟨j,z,q⟩:=OwnR.elem (f:=epL) (m:=4) (fun _=>rfl) h.own.ep A
 exact⟨j,z,q 0 (by decide),q 1 (by decide),q 2 (by decide),q 3 (by decide),h.own.ep.free z _⟩
theorem MW.set_ep (h:MW base gx a g len Pt Tx w0 W S n li le) {i j:Nat} {x:Ep} (L:n.ep[i]? =some x) (z:S.ep.a=some ⟨j,0,none⟩) (s:ByteArray):
  MW base gx a g len Pt Tx w0 (W.setCell ⟨j,i*4+3,none⟩ (.string s)) S {n with ep:=n.ep.set i ⟨x.kind,x.name,x.loc,s⟩} li le:=by
 obtain⟨J,_,A,H⟩:=h.own.ep.typed (OwnR.blkOf z)
 refine⟨?_,h.own.put_ep L z s,h.rules.kept (by rw[zgF];exact Nat.le_refl _) fun I=>heap_setCell_other W ⟨j,i*4+3,none⟩ g _ ?_,h.low,h.bel.setCell J _,h.at',h.hli,by rw[←h.hle];exact List.length_set⟩
 ·have e:=h.box
  rw[heap_setCell_other W ⟨j,i*4+3,none⟩ gx _ (fun q=>by simp only at q;rw[q,H] at e;exact absurd e (by simp))]
  exact e
 ·have:=h.low I
  show g≠j
  omega
theorem MW.set_rq (h:MW base gx a g len Pt Tx w0 W S n li le) {r:Rw} {l:List ByteArray} (A:OwnR W base 9 1 r l.length (l.map .string)):
  MW base gx a g len Pt Tx w0 (W.setCell ⟨gx,0,none⟩ (.slice r.a l.length r.cap)) {S with rq:=r} {n with rq:=l} li le:=by
 have q:(36:TypeId)≠9∧(36:TypeId)≠84∧(36:TypeId)≠86∧(36:TypeId)≠107∧(36:TypeId)≠109:=by decide
 have j:=h.own.aside (i:=0) (u:=.slice r.a l.length r.cap) h.box q
 refine⟨?_,⟨A.aside h.box q.1.symm,j.im,j.ep,j.st,j.ex⟩,h.rules.kept (by rw[zgF];exact Nat.le_refl _) fun z=>heap_setCell_other W ⟨gx,0,none⟩ g _ ?_,h.low,h.bel.setCell h.at' _,h.at',h.hli,h.hle⟩
 ·have e:=zaz (i:=0) (u:=.slice r.a l.length r.cap) h.box
  rw[e]
  rfl
 ·have:=h.low z
  have:=h.at'
  show g≠gx
  omega
theorem MW.grown (h:MW base gx a g len Pt Tx w0 W S n li le) {b:Option Nat} (k:W.grownBy W' b) (z: ∀j,b=some j→w0.heap.size≤j∧base≤j∧j≠gx∧S.im.blk≠some j∧S.ep.blk≠some j∧S.st.blk≠some j∧S.ex.blk≠some j∧S.rq.blk≠some j):MW base gx a g len Pt Tx w0 W' S n li le:=by
 have A: ∀j,j<W.heap.size→(b=some j→False)→W'.heap[j]? =W.heap[j]?:=fun j J I=>k.block j J fun e=>I e.symm
 refine⟨(A gx (Array.getElem?_eq_some_iff.1 h.box).1 fun e=>(z gx e).2.2.1 rfl).trans h.box,?_,h.rules.kept k.size fun H=>A g (h.rules.lt H) fun e=>?_,h.low,h.bel.grown k h.size fun j e=>(z j e).2.1,h.at',h.hli,h.hle⟩
 ·refine⟨h.own.rq.keep fun j e=>A j (h.own.rq.typed e).2.1 fun q=>(z j q).2.2.2.2.2.2.2 e,h.own.im.keep fun j e=>A j (h.own.im.typed e).2.1 fun q=>(z j q).2.2.2.1 e,h.own.ep.keep fun j e=>A j (h.own.ep.typed e).2.1 fun q=>(z j q).2.2.2.2.1 e,h.own.st.keep fun j e=>A j (h.own.st.typed e).2.1 fun q=>(z j q).2.2.2.2.2.1 e,h.own.ex.keep fun j e=>A j (h.own.ex.typed e).2.1 fun q=>(z j q).2.2.2.2.2.2.1 e⟩
 ·have:=h.low H
  have:=(z g e).2.1
  omega
theorem MW.more (q:MW base gx a g len Pt Tx w0 w0 S n li le) (h:MW base gx a g len Pt Tx w0 W S n li le) {r:Rw} {k size:Nat} {e:TypeId} {xs:List Value} (A:OwnR W w0.heap.size e size r k xs) (I:W.grownBy W' r.blk):MW base gx a g len Pt Tx w0 W' S n li le:=by
 refine h.grown I fun j z=>?_
 have H:=(A.typed z).1
 have J:=(Array.getElem?_eq_some_iff.1 q.box).1
 have L:=q.size
 refine⟨H,by omega,by omega,fun e=>?_,fun e=>?_,fun e=>?_,fun e=>?_,fun e=>?_⟩
 ·have:=(q.own.im.typed e).2.1;omega
 ·have:=(q.own.ep.typed e).2.1;omega
 ·have:=(q.own.st.typed e).2.1;omega
 ·have:=(q.own.ex.typed e).2.1;omega
 ·have:=(q.own.rq.typed e).2.1;omega
theorem MW.rqAt (h:MW base gx a g len Pt Tx w0 W S n li le) {i:Nat} {x:ByteArray} (z:n.rq[i]? =some x): ∃j,S.rq.a=some ⟨j,0,none⟩∧W.cell? ⟨j,i,none⟩=some (.string x):=by
 obtain⟨H,A⟩:=List.getElem?_eq_some_iff.1 z
 obtain⟨j,q⟩:=h.own.rq.addrA (by omega)
 refine⟨j,q,?_⟩
 have:=World.ownsRow.cellAt (h.own.rq.at q) i (by omega)
 rw[this,List.getElem?_map,z]
 rfl
variable {base gx g len li le:Nat} {a:Option Addr} {Pt Tx:Nat→ByteArray} {w0 W W1 W':World} {S:Sv} {n:Md}
theorem MW.push_rq (h:MW base gx a g len Pt Tx w0 W S n li le) (L:W.grownBy W' S.rq.blk) {r:Rw} {y:ByteArray} (X:OwnR W' base 9 1 r (n.rq.length+1) (n.rq.map .string++[.string y])):
  MW base gx a g len Pt Tx w0 (W'.setCell ⟨gx,0,none⟩ (.slice r.a (n.rq.length+1:Nat) r.cap)) {S with rq:=r} {n with rq:=n.rq++[y]} li le:=by
 have z: ∀j,j<W.heap.size→S.rq.blk≠some j→W'.heap[j]? =W.heap[j]?:=fun j O N=>L.block j O fun e=>N e.symm
 have q:W'.heap[gx]? =_:=(z gx (Array.getElem?_eq_some_iff.1 h.box).1 fun e=>by
  obtain⟨_,_,V,U⟩:=h.own.rq.typed e
  rw[h.box] at U
  exact absurd U (by simp)).trans h.box
 have H:=h.own.im.keep fun k e=>z k (h.own.im.typed e).2.1 (OwnR.ne h.own.im h.own.rq (by decide) e)
 have I:=h.own.ep.keep fun k e=>z k (h.own.ep.typed e).2.1 (OwnR.ne h.own.ep h.own.rq (by decide) e)
 have A:=h.own.st.keep fun k e=>z k (h.own.st.typed e).2.1 (OwnR.ne h.own.st h.own.rq (by decide) e)
 have J:=h.own.ex.keep fun k e=>z k (h.own.ex.typed e).2.1 (OwnR.ne h.own.ex h.own.rq (by decide) e)
 refine⟨?_,⟨?_,H.aside q (by decide),I.aside q (by decide),A.aside q (by decide),J.aside q (by decide)⟩,?_,h.low,(h.bel.grown L h.size fun j e=>(h.own.rq.typed e).1).setCell h.at' _,h.at',h.hli,h.hle⟩
 ·have e:=zaz (i:=0) (u:=.slice r.a (n.rq.length+1:Nat) r.cap) q
  rw[e]
  show _=some (Obj.cells #[.slice r.a (n.rq++[y]).length r.cap,_,_,_,_] _ _)
  rw[List.length_append]
  rfl
 ·show OwnR _ _ _ _ _ (n.rq++[y]).length ((n.rq++[y]).map .string)
  rw[List.length_append,List.map_append]
  exact X.aside q (by decide)
 ·refine h.rules.kept (by rw[zgF];exact L.size) fun M=>?_
  have O:=h.low M
  have N:=h.at'
  rw[heap_setCell_other W' ⟨gx,0,none⟩ g _ (by show g≠gx;omega)]
  exact z g (h.rules.lt M) fun e=>by have:=(h.own.rq.typed e).1;omega
theorem OwnR.under {w w':World} {b B size n:Nat} {e:TypeId} {r:Rw} {xs:List Value} (h:OwnR w b e size r n xs) (q:w.heap.size≤B) {W:World} (z:Below w.heap.size w W) (j:Below B W w'):OwnR w' b e size r n xs:=
 h.keep fun k e=>(j.block k (Nat.lt_of_lt_of_le (h.typed e).2.1 q)).trans (z.block k (h.typed e).2.1)
theorem zkN (s:ByteArray) (w:World) (_:s.size≤1048576):
  Calls Tryz.prog 70 #[.string s] w fun e w'=>e= .returned (.bool (zcn s))∧Below w.heap.size w w':=by
 have hb:=get_bt s
 by_cases O:s.size≤40
 ·go_enter Tryz.func70,Tryz.ntmps70
  go_wp2
  go_loop [3] (fun i=>∃k:Nat,k≤s.size∧i= .int .i64 k∧∀j,j<k→zb8 (bt s j)) (fun i=>(s.size-intOf i).toNat)
  case atStart=>exact⟨0,by omega,rfl,fun j V=>by omega⟩
  case round=>
   obtain⟨k,hk,rfl,H⟩:=hrel
   have A:=zan H
   clear H
   by_cases J:k<s.size
   ·have X:=bt_nonneg s k
    have aa:=bt_le s k
    by_cases q:zb8 (bt s k)
    ·have z:Hid (∀j,j<k+1→zb8 (bt s j)):=fun j V=>by
      by_cases e:j=k
      ·rw[e];exact q
      ·exact A.out j (by omega)
     obtain⟨h1,h2,U,L⟩:=q
     have q1:decide (bt s k<32)=false:=decide_eq_false (by omega)
     have q2:decide (126<bt s k)=false:=decide_eq_false (by omega)
     have M:(bt s k==34)=false:=beq_eq_false_iff_ne.2 U
     have Y:(bt s k==92)=false:=beq_eq_false_iff_ne.2 L
     clear U L
     go_wp2
     go_round
     case rel=>exact⟨k+1,by omega,by go_num,z.out⟩
     case measure=>simp[intOf];omega
    ·have z:Hid (¬zdq s):=fun h=>q (h.2 k J)
     by_cases g1:bt s k<32
     ·clear q
      go_wp2
      go_ret
      exact⟨zh (zeg z.out).symm,Below.refl _ _⟩
     ·by_cases g2:126<bt s k
      ·clear q
       go_wp2
       go_ret
       exact⟨zh (zeg z.out).symm,Below.refl _ _⟩
      ·by_cases I:bt s k=34
       ·have M:(bt s k==34)=true:=by rw[I];rfl
        clear q I
        go_wp2
        go_ret
        exact⟨zh (zeg z.out).symm,Below.refl _ _⟩
       ·have N:bt s k=92:=by
         rcases Classical.em (bt s k=92) with e|e
         ·exact e
         ·exact absurd ⟨by omega,by omega,I,e⟩ q
        have M:(bt s k==34)=false:=beq_eq_false_iff_ne.2 I
        have Y:(bt s k==92)=true:=by rw[N];rfl
        clear q I N
        go_wp2
        go_ret
        exact⟨zh (zeg z.out).symm,Below.refl _ _⟩
   ·have Z:Hid (zdq s):=⟨O,fun j V=>A.out j (by omega)⟩
    go_wp2
    go_ret
    exact⟨zh (zjN Z.out).symm,Below.refl _ _⟩
 ·have z:Hid (¬zdq s):=fun h=>O h.1
  go_enter Tryz.func70,Tryz.ntmps70
  go_wp2
  go_ret
  exact⟨zh (zeg z.out).symm,Below.refl _ _⟩
theorem zcX (g len af:Nat) (Pt Tx:Nat→ByteArray) (w:World) (hf:FilesAt w (some ⟨g,0,none⟩) g 0 len Pt Tx) (hl:len≤1048576) (hp: ∀j,j<len→(Pt j).size≤1048576) (ht: ∀j,j<len→(Tx j).size≤1048576):
  Calls Tryz.prog 23 #[.slice (some ⟨g,0,none⟩) len af] w fun e w'=>e= .returned (.bool (zaY len Pt Tx))∧Below w.heap.size w w':=by
 by_cases aa:len≤8
 ·go_enter Tryz.func23,Tryz.ntmps23
  go_wp2
  go_loopw [3] (fun i wr=>∃k:Nat,k≤len∧i= .int .i64 k∧zd7 k Pt Tx∧Below w.heap.size w wr) (fun i _=>(len-intOf i).toNat)
  case atStart=>exact⟨0,by omega,rfl,fun j hj=>absurd hj (Nat.not_lt_zero j),Below.refl _ _⟩
  case round=>
   obtain⟨k,hk,rfl,ab,J⟩:=hrel
   have N:=zan ab
   clear ab
   by_cases I:k<len
   ·have O:=hf.later J
    have c0:=O.path k I
    have c1:=O.text k I
    rw[Nat.zero_add] at c0 c1
    have ag:=hp k I
    have ah:=ht k I
    have X:=zan c0
    have Y:=zan c1
    have V: ∀d os,Calls Tryz.prog 70 #[.string (Pt k)] (grow (redrawn wr d) os) fun e U=>e= .returned (.bool (zcn (Pt k)))∧∃p:Regrown,U=grow (redrawn wr p.d) p.os:=fun d os=>Calls.regrown_of (zkN _ _ (by omega))
    have Z: ∀d os,Calls Tryz.prog 70 #[.string (Tx k)] (grow (redrawn wr d) os) fun e U=>e= .returned (.bool (zcn (Tx k)))∧∃p:Regrown,U=grow (redrawn wr p.d) p.os:=fun d os=>Calls.regrown_of (zkN _ _ (by omega))
    clear c0 c1
    cases h1:(Pt k).toList.isEmpty with
    |true=>
     have M:Hid (¬zco len Pt Tx):=fun h=>by have:=(h.2 (k) I).1;rw[zb9,h1] at this;cases this
     go_wp2
     have k0:=cell_regrown X.out
     have k1:=cell_regrown Y.out
     refine wp_region_quiet_below (by kernel_rfl) (by kernel_rfl) ?_
     repeat (go_big_quiet_step (first|with_reducible exact V _ _|with_reducible exact Z _ _))
     refine wpQuiet_nil ?_
     intro _ z
     obtain⟨⟨L,A⟩,q⟩:=z
     subst q
     have H:=J.trans ((below_regrown wr L A).mono J.size)
     go_wp2
     go_ret
     exact⟨zh (zdK M.out).symm,H⟩
    |false=>
     cases h2:zcn (Pt k) with
     |false=>
      have M:Hid (¬zco len Pt Tx):=fun h=>by have:=(h.2 (k) I).1;rw[zb9,h1,h2] at this;cases this
      go_wp2
      have k0:=cell_regrown X.out
      have k1:=cell_regrown Y.out
      refine wp_region_quiet_below (by kernel_rfl) (by kernel_rfl) ?_
      repeat (go_big_quiet_step (first|with_reducible exact V _ _|with_reducible exact Z _ _))
      refine wpQuiet_nil ?_
      intro _ z
      obtain⟨⟨L,A⟩,q⟩:=z
      subst q
      have H:=J.trans ((below_regrown wr L A).mono J.size)
      go_wp2
      go_ret
      exact⟨zh (zdK M.out).symm,H⟩
     |true=>
      cases h3:zcn (Tx k) with
      |false=>
       have M:Hid (¬zco len Pt Tx):=fun h=>by have:=(h.2 (k) I).1;rw[zb9,h1,h2,h3] at this;cases this
       go_wp2
       have k0:=cell_regrown X.out
       have k1:=cell_regrown Y.out
       refine wp_region_quiet_below (by kernel_rfl) (by kernel_rfl) ?_
       repeat (go_big_quiet_step (first|with_reducible exact V _ _|with_reducible exact Z _ _))
       refine wpQuiet_nil ?_
       intro _ z
       obtain⟨⟨L,A⟩,q⟩:=z
       subst q
       have H:=J.trans ((below_regrown wr L A).mono J.size)
       go_wp2
       go_ret
       exact⟨zh (zdK M.out).symm,H⟩
      |true=>
       have ac:zb9 (Pt k) (Tx k)=true:=by rw[zb9,h1,h2,h3];rfl
       by_cases ae:k=0
       ·subst ae
        have HX:Hid (zd7 (0+1) Pt Tx):=zgy N.out ac (fun h=>absurd h (Nat.lt_irrefl _))
        go_wp2
        have k0:=cell_regrown X.out
        have k1:=cell_regrown Y.out
        refine wp_region_quiet_below (by kernel_rfl) (by kernel_rfl) ?_
        repeat (go_big_quiet_step (first|with_reducible exact V _ _|with_reducible exact Z _ _))
        refine wpQuiet_nil ?_
        intro _ z
        obtain⟨⟨L,A⟩,q⟩:=z
        subst q
        have H:=J.trans ((below_regrown wr L A).mono J.size)
        go_wp2
        go_roundw
        case rel=>exact⟨0+1,by omega,by go_num,HX.out,H⟩
        case measure=>simp[intOf];omega
       ·obtain⟨m,rfl⟩: ∃m,k=m+1:=⟨k-1,by omega⟩
        have ez:((m+1:Nat):Int)=(m:Int)+1:=by omega
        have ai:decide ((0:Int)<((m+1:Nat):Int))=true:=decide_eq_true (by omega)
        have p0:=O.path m (by omega)
        rw[Nat.zero_add] at p0
        have P0:=zan p0
        clear p0
        cases ad:Op.bytesLess (Pt m).toList (Pt (m+1)).toList with
        |true=>
         have HX:Hid (zd7 (m+1+1) Pt Tx):=zgy N.out ac (fun _=>ad)
         go_wp2
         have k0:=cell_regrown X.out
         have k1:=cell_regrown Y.out
         have k2:=cell_regrown P0.out
         refine wp_region_quiet_below (by kernel_rfl) (by kernel_rfl) ?_
         repeat (go_big_quiet_step (first|with_reducible exact V _ _|with_reducible exact Z _ _))
         refine wpQuiet_nil ?_
         intro _ z
         obtain⟨⟨L,A⟩,q⟩:=z
         subst q
         have H:=J.trans ((below_regrown wr L A).mono J.size)
         go_wp2
         go_roundw
         case rel=>exact⟨m+1+1,by omega,by go_num,HX.out,H⟩
         case measure=>simp[intOf];omega
        |false=>
         have M:Hid (¬zco len Pt Tx):=fun h=>by have:=(h.2 (m+1) I).2 (by omega);rw[Nat.add_sub_cancel,ad] at this;cases this
         go_wp2
         have k0:=cell_regrown X.out
         have k1:=cell_regrown Y.out
         have k2:=cell_regrown P0.out
         refine wp_region_quiet_below (by kernel_rfl) (by kernel_rfl) ?_
         repeat (go_big_quiet_step (first|with_reducible exact V _ _|with_reducible exact Z _ _))
         refine wpQuiet_nil ?_
         intro _ z
         obtain⟨⟨L,A⟩,q⟩:=z
         subst q
         have H:=J.trans ((below_regrown wr L A).mono J.size)
         go_wp2
         go_ret
         exact⟨zh (zdK M.out).symm,H⟩
   ·have HY:Hid (zco len Pt Tx):=⟨aa,fun j hj=>N.out j (by omega)⟩
    go_wp2
    go_ret
    exact⟨zh (zjO HY.out).symm,J⟩
 ·have M:Hid (¬zco len Pt Tx):=fun h=>aa h.1
  go_enter Tryz.func23,Tryz.ntmps23
  go_wp2
  go_ret
  exact⟨zh (zdK M.out).symm,Below.refl _ _⟩
theorem zgG (a s:ByteArray) (w:World) (_:s.size≤9223372036854775807) (_:a.size≤9223372036854775807):
  Calls Tryz.prog 69 #[.string a,.string s] w fun e w'=>e= .returned (.bool (zb7 a s))∧w'=w:=by
 by_cases h:a.size≤s.size
 ·have j:Hid (zb7 a s=((s.extract 0 a.size).toList==a.toList)):=by show zb7 a s=_;rw[zb7,decide_eq_true h,Bool.true_and]
  go_enter Tryz.func69,Tryz.ntmps69
  go_wp2
  go_ret
  exact⟨zh j.out.symm,rfl⟩
 ·have j:Hid (zb7 a s=false):=by show zb7 a s=_;rw[zb7,decide_eq_false h,Bool.false_and]
  go_enter Tryz.func69,Tryz.ntmps69
  go_wp2
  go_ret
  exact⟨zh j.out.symm,rfl⟩
def zkO (s:ByteArray):Nat→Nat
 |0=>0
 |k+1=>if bt s k=47 then k+1 else zkO s k
def zuU (f sp:ByteArray):ByteArray:=
 if zhD f=false then {data:=#[]} else if zb7 {data:=#[47]} sp=true then zf1 sp
 else if zb7 {data:=#[46,47]} sp=false∧zb7 {data:=#[46,46,47]} sp=false then zf1 ({data:=#[47,108,105,98,47]}++sp)
 else zf1 (f.extract 0 (zkO f f.size)++sp)
theorem zeN {w w':World} {n d:Nat} (h:Below n w w'):Below n w (redrawn w' d):=⟨h.os,h.tape,h.output,h.size,h.block⟩
theorem zfM (g len L:Nat) (Pt Tx:Nat→ByteArray) (s:ByteArray) (w:World) (hf:FilesAt w (some ⟨g,0,none⟩) g 0 len Pt Tx) (hl:len≤1048576) (U: ∀j,j<len→(Pt j).size≤1048576) (Z: ∀j,j<len→(Tx j).size≤1048576) (hs:s.size≤1048576):
  Calls Tryz.prog 22 #[.slice (some ⟨g,0,none⟩) len L,.string s] w fun e w'=>e= .returned (.string (zT len Pt Tx s))∧Below w.heap.size w w':=by
 go_enter Tryz.func22,Tryz.ntmps22
 go_wp2
 go_loopw [5,6,7] (fun b i _ wr=>∃k:Nat,k≤len∧i= .int .i64 k∧b= .int .i64 (zdL (zZ Pt s k))∧(k=0∨zaY len Pt Tx=true)∧Below w.heap.size w wr) (fun _ i _ _=>(len-intOf i).toNat)
 case atStart=>exact⟨0,Nat.zero_le _,rfl,rfl,.inl rfl,Below.refl _ _⟩
 case round=>
  obtain⟨k,hk,rfl,rfl,ae,J⟩:=hrel
  have ac:=zan ae
  clear ae
  by_cases I:k<len
  ·have z:=hf.later J
   cases H:zaY len Pt Tx with
   |false=>
    have HN:Hid (zT len Pt Tx s=s):=zf4 H
    obtain rfl:k=0:=by
     rcases ac.out with e|e
     ·exact e
     ·rw[H] at e;cases e
    rw[show zdL (zZ Pt s 0)= -1 from rfl]
    go_wp2_with (go_at_call 23;refine (zcX g len L Pt Tx _ z hl U Z).mono ?_;rintro e w2 ⟨rfl,q⟩;rw[H])
    have HE:=zan (J.trans (q.mono J.size))
    go_quiet (fail)
    go_wp2
    go_ret
    exact⟨zar HN.out.symm,zeN HE.out⟩
   |true=>
    have af:=zhG H I
    have M:=z.path k I
    rw[Nat.zero_add] at M
    have ag:=U k I
    have gb:=get_bt (Pt k) ((Pt k).size-1)
    have ez:((Pt k).size:Int)-1=((Pt k).size-1:Nat):=by omega
    cases e1:((Pt k).toList==s.toList) with
    |true=>
     have HH:Hid (zaM (Pt k) s=true):=by show _=_;rw[zaM,e1];rfl
     cases A:zZ Pt s k with
     |none=>
      have O:Hid (zZ Pt s (k+1)=some k):=zgz HH.out A
      rw[show zdL none= -1 from rfl]
      go_wp2_with (go_at_call 23;refine (zcX g len L Pt Tx _ z hl U Z).mono ?_;rintro e w2 ⟨rfl,q⟩;rw[H];replace M:=(q.cell (z.lt (by omega))).trans M;have N:=zan (J.trans (q.mono J.size));clear q)
      go_roundw
      case rel=>exact⟨k+1,I,by go_num,by rw[O.out];rfl,.inr trivial,N.out⟩
      case measure=>simp[intOf];omega
     |some b=>
      have V:=(zeh A).1
      have X:=z.path b (by omega)
      rw[Nat.zero_add] at X
      have ad:=U b (by omega)
      rw[show zdL (some b)=(b:Int) from rfl]
      have hm:decide ((b:Int)<0)=false:=decide_eq_false (by omega)
      by_cases Y:(Pt b).size<(Pt k).size
      ·have O:Hid (zZ Pt s (k+1)=some k):=zg0 HH.out A Y
       go_wp2_with (go_at_call 23;refine (zcX g len L Pt Tx _ z hl U Z).mono ?_;rintro e w2 ⟨rfl,q⟩;rw[H];replace M:=(q.cell (z.lt (by omega))).trans M;replace X:=(q.cell (z.lt (by omega))).trans X;have N:=zan (J.trans (q.mono J.size));clear q)
       go_roundw
       case rel=>exact⟨k+1,I,by go_num,by rw[O.out];rfl,.inr trivial,N.out⟩
       case measure=>simp[intOf];omega
      ·have O:Hid (zZ Pt s (k+1)=some b):=zg1 HH.out A Y
       go_wp2_with (go_at_call 23;refine (zcX g len L Pt Tx _ z hl U Z).mono ?_;rintro e w2 ⟨rfl,q⟩;rw[H];replace M:=(q.cell (z.lt (by omega))).trans M;replace X:=(q.cell (z.lt (by omega))).trans X;have N:=zan (J.trans (q.mono J.size));clear q)
       go_roundw
       case rel=>exact⟨k+1,I,by go_num,by rw[O.out];rfl,.inr trivial,N.out⟩
       case measure=>simp[intOf];omega
    |false=>
     cases e2:(bt (Pt k) ((Pt k).size-1)==47) with
     |false=>
      have O:Hid (zZ Pt s (k+1)=zZ Pt s k):=zf2 (by rw[zaM,e1,e2];rfl)
      go_wp2_with (go_at_call 23;refine (zcX g len L Pt Tx _ z hl U Z).mono ?_;rintro e w2 ⟨rfl,q⟩;rw[H];replace M:=(q.cell (z.lt (by omega))).trans M;have N:=zan (J.trans (q.mono J.size));clear q)
      go_roundw
      case rel=>exact⟨k+1,I,by go_num,by rw[O.out],.inr trivial,N.out⟩
      case measure=>simp[intOf];omega
     |true=>
      cases e3:zb7 (Pt k) s with
      |false=>
       have O:Hid (zZ Pt s (k+1)=zZ Pt s k):=zf2 (by rw[zaM,e1,e2,e3];rfl)
       go_wp2_with (first|(go_at_call 23;refine (zcX g len L Pt Tx _ z hl U Z).mono ?_;rintro e w2 ⟨rfl,q⟩;rw[H];replace M:=(q.cell (z.lt (by omega))).trans M;have N:=zan (J.trans (q.mono J.size));clear q)|(go_at_call 69;refine (zgG (Pt k) s _ (by omega) (by omega)).mono ?_;rintro e w' ⟨rfl,rfl⟩;rw[e3]))
       go_roundw
       case rel=>exact⟨k+1,I,by go_num,by rw[O.out],.inr trivial,N.out⟩
       case measure=>simp[intOf];omega
      |true=>
       have HH:Hid (zaM (Pt k) s=true):=by show _=_;rw[zaM,e1,e2,e3];rfl
       cases A:zZ Pt s k with
       |none=>
        have O:Hid (zZ Pt s (k+1)=some k):=zgz HH.out A
        rw[show zdL none= -1 from rfl]
        go_wp2_with (first|(go_at_call 23;refine (zcX g len L Pt Tx _ z hl U Z).mono ?_;rintro e w2 ⟨rfl,q⟩;rw[H];replace M:=(q.cell (z.lt (by omega))).trans M;have N:=zan (J.trans (q.mono J.size));clear q)|(go_at_call 69;refine (zgG (Pt k) s _ (by omega) (by omega)).mono ?_;rintro e w' ⟨rfl,rfl⟩;rw[e3]))
        go_roundw
        case rel=>exact⟨k+1,I,by go_num,by rw[O.out];rfl,.inr trivial,N.out⟩
        case measure=>simp[intOf];omega
       |some b=>
        have V:=(zeh A).1
        have X:=z.path b (by omega)
        rw[Nat.zero_add] at X
        have ad:=U b (by omega)
        rw[show zdL (some b)=(b:Int) from rfl]
        have hm:decide ((b:Int)<0)=false:=decide_eq_false (by omega)
        by_cases Y:(Pt b).size<(Pt k).size
        ·have O:Hid (zZ Pt s (k+1)=some k):=zg0 HH.out A Y
         go_wp2_with (first|(go_at_call 23;refine (zcX g len L Pt Tx _ z hl U Z).mono ?_;rintro e w2 ⟨rfl,q⟩;rw[H];replace M:=(q.cell (z.lt (by omega))).trans M;replace X:=(q.cell (z.lt (by omega))).trans X;have N:=zan (J.trans (q.mono J.size));clear q)|(go_at_call 69;refine (zgG (Pt k) s _ (by omega) (by omega)).mono ?_;rintro e w' ⟨rfl,rfl⟩;rw[e3]))
         go_roundw
         case rel=>exact⟨k+1,I,by go_num,by rw[O.out];rfl,.inr trivial,N.out⟩
         case measure=>simp[intOf];omega
        ·have O:Hid (zZ Pt s (k+1)=some b):=zg1 HH.out A Y
         go_wp2_with (first|(go_at_call 23;refine (zcX g len L Pt Tx _ z hl U Z).mono ?_;rintro e w2 ⟨rfl,q⟩;rw[H];replace M:=(q.cell (z.lt (by omega))).trans M;replace X:=(q.cell (z.lt (by omega))).trans X;have N:=zan (J.trans (q.mono J.size));clear q)|(go_at_call 69;refine (zgG (Pt k) s _ (by omega) (by omega)).mono ?_;rintro e w' ⟨rfl,rfl⟩;rw[e3]))
         go_roundw
         case rel=>exact⟨k+1,I,by go_num,by rw[O.out];rfl,.inr trivial,N.out⟩
         case measure=>simp[intOf];omega
  ·obtain rfl:k=len:=by omega
   cases A:zZ Pt s k with
   |none=>
    have HN:Hid (zT k Pt Tx s=s):=zf5 A
    rw[show zdL none= -1 from rfl]
    go_wp2
    go_quiet (fail)
    go_wp2
    go_ret
    exact⟨zar HN.out.symm,zeN J⟩
   |some b=>
    have z:=hf.later J
    have aa:=zeh A
    have ah:=zf3 aa.2
    have V:=aa.1
    have X:=z.path b V
    have p1:=z.text b V
    rw[Nat.zero_add] at X p1
    have ad:=U b V
    have ai:=Z b V
    have H:zaY k Pt Tx=true:=by
     rcases ac.out with e|e
     ·omega
     ·exact e
    rw[show zdL (some b)=(b:Int) from rfl]
    have hm:decide ((b:Int)<0)=false:=decide_eq_false (by omega)
    by_cases ab:40<((Tx b).size:Int)+s.size-(Pt b).size
    ·have HN:Hid (zT k Pt Tx s=s):=zhF A ab
     clear H aa A
     go_wp2
     go_quiet (fail)
     go_wp2
     go_ret
     exact⟨zar HN.out.symm,zeN J⟩
    ·have HN:Hid (zT k Pt Tx s=Tx b++s.extract (Pt b).size s.size):=zg2 H A ab
     clear H aa A
     go_wp2
     go_quiet (fail)
     go_wp2
     go_quiet (fail)
     go_wp2
     go_ret
     exact⟨zar HN.out.symm,zeN (zeN J)⟩
end Go.Proofs.YtjdddblpfbmpaaaGreat
