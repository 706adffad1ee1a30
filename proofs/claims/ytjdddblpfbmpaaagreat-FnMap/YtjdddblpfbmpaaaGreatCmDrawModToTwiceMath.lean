/-
  What the specification's draw of a program tells: some program,nothing of it long: the walk.
  What spec.DrawMapMod tells: some rules and some program: the walk.
  Texts that stand twice in a list,as plain functions. No program is spoken of.
-/
import Derived.Deep.RegionWith
import Derived.Deep.RegionHeld3
import Derived.Test.YtjdddblpfbmpaaaGreatCmSpecParseMToSpecParseR
namespace Go.Proofs.YtjdddblpfbmpaaaGreat
set_option maxRecDepth 100000
set_option maxHeartbeats 12800000
open Go.RowKit Go.PlainAid Go.Sort
def MMD (S:Src) (g:Nat) (w0:World) (b6 b7:Nat) (W:World):Prop:=∃(V:Sv) (m:Md) (q:Nat×Int),MM S g w0 b6 b7 V m q W∧Drawn 1 m
def zia (S:Src) (g:Nat) (w:World) (e:Ending) (w':World):Prop:=∃(V:Sv) (m:Md) (q':Nat×Int),e= .returned (zp V m)∧OwnMd w' w.heap.size V m∧Drawn 1 m∧zN 137 S w' g q'∧w.grownBy w' (some g)
theorem ParseOut.drawn {s:ByteArray} {H:Bool} {w w':World} {e:Ending} (h:ParseOut s H w e w') (N:s.size≤20000): ∃(V:Sv) (m:Md) (z:Int),e= .returned (.tuple #[zp V m,.int .i64 z])∧OwnMd w' w.heap.size V m∧Drawn 0 m:=by
 obtain⟨y,L,I⟩:=h
 cases y with
 |ok q=>
  obtain⟨V,M,J⟩:=I
  have A:=zpE L N (by omega)
  have U:=J.inv
  have O:(q.ep++q.la).length=q.ep.length+q.la.length:=List.length_append
  refine⟨V,zdT q,-1,M,J.md,⟨by show q.rq.length≤_;omega,A.rq⟩,⟨by show q.im.length≤_;omega,A.im⟩,⟨by show (q.ep++q.la).length≤_;omega,fun x j=>?_⟩,⟨by show q.st.length≤_;omega,A.st⟩,⟨by show q.ex.length≤_;omega,A.ex⟩,zhB L⟩
  rcases List.mem_append.1 (show x∈q.ep++q.la from j) with j|j
  ·exact A.ep x j
  ·exact A.la x j
 |error p=>
  refine⟨⟨R0,R0,R0,R0,R0,R0⟩,⟨[],[],[],[],[]⟩,p,I,⟨zbT _ _ _ _,zbT _ _ _ _,zbT _ _ _ _,zbT _ _ _ _,zbT _ _ _ _⟩,⟨Nat.zero_le _,?_⟩,⟨Nat.zero_le _,?_⟩,⟨Nat.zero_le _,?_⟩,⟨Nat.zero_le _,?_⟩,⟨Nat.zero_le _,?_⟩,?_⟩
  all_goals (intro x j;cases j)
theorem Drawn.more {k j:Nat} {m:Md} (h:Drawn k m) (q:k≤j):Drawn j m:=⟨⟨by have:=h.rq.1;omega,h.rq.2⟩,⟨by have:=h.im.1;omega,h.im.2⟩,⟨by have:=h.ep.1;omega,h.ep.2⟩,⟨by have:=h.st.1;omega,h.st.2⟩,⟨by have:=h.ex.1;omega,h.ex.2⟩,h.fair⟩
theorem Tryz.infoS:(Tryz.prog.info? 9).map (fun i=>(i.zero,i.size,i.bytes))=some (some (.string {data:=#[]}),1,16):=by kernel_rfl
theorem zrc (x:ByteArray): ∀u∈[Value.string x],u.oneCell'=true:=fun u j=>by
 rw[List.mem_singleton] at j
 rw[j]
 rfl
abbrev zdC (w:World) (b:Nat) (x0 x1 x2 x3 x4:Value):World:=((((w.setCell ⟨b,0,none⟩ x0).setCell ⟨b,1,none⟩ x1).setCell ⟨b,2,none⟩ x2).setCell ⟨b,3,none⟩ x3).setCell ⟨b,4,none⟩ x4
theorem zfJ {w:World} {b k:Nat} (h:k≠b) (x0 x1 x2 x3 x4:Value):(zdC w b x0 x1 x2 x3 x4).heap[k]? =w.heap[k]?:=by
 unfold zdC
 rw[zn h,zn h,zn h,zn h,zn h]
theorem zrd (w:World) (b:Nat) (x0 x1 x2 x3 x4:Value):(zdC w b x0 x1 x2 x3 x4).heap.size=w.heap.size:=by
 unfold zdC
 simp only[World.size_setCell]
theorem zre {S:Src} {g:Nat} {w0 W:World} {H X:Nat} {V:Sv} {m:Md} {q:Nat×Int} (h:MM S g w0 H X V m q W) (O:Drawn 1 m) (x0 x1 x2 x3 x4:Value):zia S g w0 (.returned (zp V m)) (zdC W H x0 x1 x2 x3 x4):=by
 have U:=h.ge
 have aa:=h.gl
 have L:Below 0 W (zdC W H x0 x1 x2 x3 x4):=(((((Below.refl 0 W).setCell (Nat.zero_le _) _).setCell (Nat.zero_le _) _).setCell (Nat.zero_le _) _).setCell (Nat.zero_le _) _).setCell (Nat.zero_le _) _
 have j: ∀{e:TypeId} {A n:Nat} {r:Rw} {M:List Value},OwnR W w0.heap.size e A r n M→e≠36→OwnR (zdC W H x0 x1 x2 x3 x4) w0.heap.size e A r n M:=fun N Z=>N.keep fun k z=>zfJ (fun e=>by
  obtain⟨_,_,Y,J⟩:=N.typed z
  rw[e,h.r6] at J
  simp only[Option.some.injEq,Obj.cells.injEq] at J
  exact Z J.2.1.symm) ..
 refine⟨V,m,q,rfl,⟨j h.own.rq (by decide),j h.own.im (by decide),j h.own.ep (by decide),j h.own.st (by decide),j h.own.ex (by decide)⟩,O,zch h.cur fun k z=>zfJ (by omega) _ _ _ _ _,⟨?_,?_,?_,?_,fun k z I=>(zfJ (by omega) ..).trans (h.gr.block k z I)⟩⟩
 ·exact L.os.trans h.gr.os
 ·exact L.tape.trans h.gr.tape
 ·exact L.output.trans h.gr.output
 ·rw[zrd]
  exact h.gr.size
theorem zrf {S:Src} {g:Nat} {w0 W:World} {j A:Nat} {V:Sv} {m:Md} {q:Nat×Int} (h:MM S g w0 j A V m q W) (z:Drawn 1 m):zia S g w0 (.returned (.agg #[.slice V.rq.a m.rq.length V.rq.cap,.slice V.im.a m.im.length V.im.cap,.slice V.ep.a m.ep.length V.ep.cap,.slice V.st.a m.st.length V.st.cap,.slice V.ex.a m.ex.length V.ex.cap])) (zdC W j (.slice V.rq.a m.rq.length V.rq.cap) (.slice V.im.a m.im.length V.im.cap) (.slice V.ep.a m.ep.length V.ep.cap) (.slice V.st.a m.st.length V.st.cap) (.slice V.ex.a m.ex.length V.ex.cap)):=zre h z ..
theorem zrg (S:Src) (hS:S.ok) (g:Nat) (ah:Nat) (hm:ah≤10) (ao:Bool) (q0:Nat×Int) (w0:World) (hc:zN 137 S w0 g q0):
  Calls Tryz.prog 71 #[.pointer (some ⟨g,0,none⟩),.int .i64 (ah:Int),.bool ao] w0 (zia S g w0):=by
 have aF:=zc hc
 have aG:=zcJ hc
 clear hc
 go_enter Tryz.func71,Tryz.ntmps71
 go_wp2_with fail
 refine (zp2 S hS g ah hm ao q0 _ (zdN aF.out _)).mono ?_
 rintro e w1 ⟨t,q1,rfl,ht,hc,hg⟩
 have al:=zc hc
 have ak:=zc (zE (zdM w0 (.cells #[.slice none 0 0,.slice none 0 0,.slice none 0 0,.slice none 0 0,.slice none 0 0] 36) (some g)) hg)
 have X1:Hid (w1.heap[w0.heap.size]? =some (.cells #[.slice none 0 0,.slice none 0 0,.slice none 0 0,.slice none 0 0,.slice none 0 0] 36 (0,0))):=(hg.block _ (by rw[zl];omega) (by simp;omega)).trans (heap_alloc_new w0 _)
 clear hc hg
 go_wp2_with fail
 refine (zkD t ao w1 (by omega)).mono ?_
 rintro e w2 ⟨ax,hb⟩
 obtain⟨V,m,z,rfl,ho,hd⟩:=ax.drawn ht
 have O2:=zc ho
 have q:=zc hd
 have av:=zc (zds al.out hb (zcJ al.out))
 have az:=zc (zd9 ak.out hb ak.out.size)
 have X2:=zc ((hb.block _ (Array.getElem?_eq_some_iff.1 X1.out).1).trans X1.out)
 have aE:=hb.size
 clear ax ho hd hb
 unfold zp
 go_upto_region 2 with fail
 refine zac (R:=MM S g w0 w0.heap.size w2.heap.size V m q1) ?_ ?_
 ·refine⟨?_,heap_alloc_new w2 _,?_,zdN av.out _,zE az.out (zdM _ _ _),Nat.le_refl _,(Array.getElem?_eq_some_iff.1 X2.out).1,aG⟩
  ·rw[heap_alloc_old _ _ (Array.getElem?_eq_some_iff.1 X2.out).1]
   exact X2.out
  ·have h1:=ak.out.size
   have aH:OwnMd w2 w0.heap.size V m:=⟨O2.out.rq.low h1,O2.out.im.low h1,O2.out.ep.low h1,O2.out.st.low h1,O2.out.ex.low h1⟩
   exact aH.alloc _
 obtain⟨b6,ay⟩: ∃b,b=w0.heap.size:=⟨_,rfl⟩
 obtain⟨b7,aB⟩: ∃b,b=w2.heap.size:=⟨_,rfl⟩
 rw[←ay,←aB]
 clear ay aB al ak X1 O2 av az X2 aE
 intro W1 hM
 have M1:=zc hM
 clear hM
 go_wp2_with fail
 refine (zcT S hS g _ 6 _ M1.out.cur (by omega)).mono ?_
 rintro e W2 ⟨rfl,hc,hg⟩
 obtain⟨q2,hq⟩: ∃Z,(bw S q1 6).2=Z:=⟨_,rfl⟩
 rw[hq] at hc
 have M2:=zc (M1.out.step hc hg)
 clear hc hg hq M1
 generalize ((bw S q1 6).1==0)=b
 go_upto_if 19 with fail
 go_cut [] from 20 to 97 (fun wx=>MMD S g w0 b6 b7 wx)
 case rest=>
  obtain⟨V',m',Z,aq,aD⟩:=hcut
  have A9:=zc aq
  have D9:=zc aD
  clear aq aD
  obtain⟨c0,c1,c2,c3,c4,cf⟩:=zg A9.out.r7
  obtain⟨d0,d1,d2,d3,d4,df⟩:=zg A9.out.r6
  go_wp2
  refine bodyPost_ret (results_cell_row rfl _ _ b6 36 _ (0,0) _ rfl (zbN A9.out.r6) Tryz.underlying36 rfl (by kernel_rfl)) rfl ?_
  exact zrf A9.out D9.out
 cases b with
 |false=>
  go_wp2_with fail
  go_meet
  exact⟨_,_,_,M2.out,q.out.more (by omega)⟩
 |true=>
  go_wp2_with fail
  refine (zaJ S hS g _ 6 _ M2.out.cur (by omega)).mono ?_
  rintro e W3 ⟨rfl,hc,hg⟩
  have ar:=zbk S q2 6 (by omega)
  obtain⟨k3,hk⟩: ∃k:Nat,(bw S q2 6).1=k:=⟨(bw S q2 6).1.toNat,by omega⟩
  obtain⟨q3,hq⟩: ∃Z,(bw S q2 6).2=Z:=⟨_,rfl⟩
  rw[hk] at ar ⊢
  rw[hq] at hc
  have M3:=zc (M2.out.step hc hg)
  have kb:k3<6:=by omega
  clear hc hg ar hk hq M2
  obtain⟨c0,c1,c2,c3,c4,cf⟩:=zg M3.out.r7
  have aL:=(Array.getElem?_eq_some_iff.1 M3.out.r7).1
  rcases (show k3=0∨k3=1∨k3=2∨k3=3∨k3=4∨k3=5 by omega) with rfl|rfl|rfl|rfl|rfl|rfl
  ·obtain⟨i0,hi,aa,ac,ab⟩:=info_parts Tryz.infoS
   go_wp2_with fail
   go_region_law (first|(refine zdi rfl (.tmp 40) (.tmp 44) 22 rfl w0.heap.size 9 i0 _ 1 16 Tryz.underlying22 hi aa ac ab rfl (by decide) (by decide) V.rq m.rq.length (m.rq.map Value.string) (by rfl) (by exact (I.out.alloc _).own.rq) _ ([Value.string x4]) (by rfl) (by exact heap_alloc_new _ _) rfl (zrc x4) (by have:=q.out.rq.1;omega) (by exact (I.out.alloc _).gr.size) ?_;intro r' W9 U H N;have A9:=zc ((I.out.alloc _).app_rq (x:=x4) U H);have F9:=zc ((I.out.alloc _).far_rq H);clear U H N;obtain⟨u0,u1,u2,u3,u4,uf⟩:=zg F9.out;have aj:=(Array.getElem?_eq_some_iff.1 F9.out).1)|((try go_simp);go_wp2_with (first|(go_at_call 64;refine (zhR S hS g _ 100 [{data:=#[120]},{data:=#[34]},{data:=#[122,122]}] _ M3.out.cur (by simp) (by simp) (by intro x hx;simp only[List.mem_cons,List.not_mem_nil,or_false] at hx;rcases hx with rfl|rfl|rfl<;>decide)).mono ?_;rintro e W4 ⟨x4,q4,rfl,z4,j,A⟩;have I:=zc (M3.out.step j A);clear j A;obtain⟨y0,y1,y2,y3,y4,yf⟩:=zg I.out.r7;have ag:=(Array.getElem?_eq_some_iff.1 I.out.r7).1))))
   all_goals
    have D9:Hid (Drawn 1 {m with rq:=m.rq++[x4]}):=⟨⟨by have:=q.out.rq.1;simp;omega,zdO q.out.rq.2 (by omega)⟩,(q.out.more (Nat.zero_le 1)).im,(q.out.more (Nat.zero_le 1)).ep,(q.out.more (Nat.zero_le 1)).st,(q.out.more (Nat.zero_le 1)).ex,q.out.fair⟩
    clear c0 c1 c2 c3 c4 cf y0 y1 y2 y3 y4 yf u0 u1 u2 u3 u4 uf F9
    go_wp2_with fail
    go_meet
    exact⟨_,_,_,A9.out,D9.out⟩
  ·obtain⟨i0,hi,aa,ac,ab⟩:=info_parts Tryz.infoImp
   go_wp2_with fail
   go_region_law (first|(refine zdi rfl (.tmp 50) (.tmp 55) 31 rfl w0.heap.size 84 i0 _ 3 48 Tryz.underlying31 hi aa ac ab rfl (by decide) (by decide) V.im m.im.length (m.im.flatMap imL) (by rfl) (by exact (I.out.alloc _).own.im) _ (imL (⟨({data:=#[120]}:ByteArray),({data:=#[97]}:ByteArray),x4⟩:Im)) (by rfl) (by exact heap_alloc_new _ _) rfl (zh3 _) (by have:=q.out.im.1;omega) (by exact (I.out.alloc _).gr.size) ?_;intro r' W9 U H N;have A9:=zc ((I.out.alloc _).app_im (x:=(⟨({data:=#[120]}:ByteArray),({data:=#[97]}:ByteArray),x4⟩:Im)) U H);have F9:=zc ((I.out.alloc _).far_im H);clear U H N;obtain⟨u0,u1,u2,u3,u4,uf⟩:=zg F9.out;have aj:=(Array.getElem?_eq_some_iff.1 F9.out).1)|((try go_simp);go_wp2_with (first|(go_at_call 64;refine (zhR S hS g _ 100 [{data:=#[113]},{data:=#[108,101,116]},{data:=#[]}] _ M3.out.cur (by simp) (by simp) (by intro x hx;simp only[List.mem_cons,List.not_mem_nil,or_false] at hx;rcases hx with rfl|rfl|rfl<;>decide)).mono ?_;rintro e W4 ⟨x4,q4,rfl,z4,j,A⟩;have I:=zc (M3.out.step j A);clear j A;obtain⟨y0,y1,y2,y3,y4,yf⟩:=zg I.out.r7;have ag:=(Array.getElem?_eq_some_iff.1 I.out.r7).1))))
   all_goals
    have D9:Hid (Drawn 1 {m with im:=m.im++[(⟨({data:=#[120]}:ByteArray),({data:=#[97]}:ByteArray),x4⟩:Im)]}):=⟨(q.out.more (Nat.zero_le 1)).rq,⟨by have:=q.out.im.1;simp;omega,zdO q.out.im.2 ⟨by show 1≤_;omega,by show 1≤_;omega,by show x4.size≤_;omega⟩⟩,(q.out.more (Nat.zero_le 1)).ep,(q.out.more (Nat.zero_le 1)).st,(q.out.more (Nat.zero_le 1)).ex,q.out.fair⟩
    clear c0 c1 c2 c3 c4 cf y0 y1 y2 y3 y4 yf u0 u1 u2 u3 u4 uf F9
    go_wp2_with fail
    go_meet
    exact⟨_,_,_,A9.out,D9.out⟩
  ·obtain⟨i0,hi,aa,ac,ab⟩:=info_parts Tryz.infoExp
   go_wp2_with fail
   go_region_law (first|(refine zdi rfl (.tmp 61) (.tmp 68) 32 rfl w0.heap.size 86 i0 _ 4 56 Tryz.underlying32 hi aa ac ab rfl (by decide) (by decide) V.ep m.ep.length (m.ep.flatMap epL) (by rfl) (by exact (Y.out.alloc _).own.ep) _ (epL (⟨(k4:Int),({data:=#[113]}:ByteArray),({data:=#[113]}:ByteArray),x5⟩:Ep)) (by rfl) (by exact heap_alloc_new _ _) rfl (zfp _) (by have:=q.out.ep.1;omega) (by exact (Y.out.alloc _).gr.size) ?_;intro r' W9 U H N;have A9:=zc ((Y.out.alloc _).app_ep (x:=(⟨(k4:Int),({data:=#[113]}:ByteArray),({data:=#[113]}:ByteArray),x5⟩:Ep)) U H);have F9:=zc ((Y.out.alloc _).far_ep H);clear U H N;obtain⟨u0,u1,u2,u3,u4,uf⟩:=zg F9.out;have aj:=(Array.getElem?_eq_some_iff.1 F9.out).1)|((try go_simp);go_wp2_with (first|(go_at_call 64;refine (zpJ S hS g W3.heap.size _ 100 [{data:=#[]},{data:=#[120]}] _ I.out.cur K4.out (by have:=M3.out.gl;have:=M3.out.gr.size;omega) (by simp) (by simp) (by intro x hx;simp only[List.mem_cons,List.not_mem_nil,or_false] at hx;rcases hx with rfl|rfl<;>decide)).mono ?_;rintro e W5 ⟨x5,q5,rfl,z5,L,X⟩;have Y:=zc (I.out.step L X);clear L X;obtain⟨y0,y1,y2,y3,y4,yf⟩:=zg Y.out.r7;have ai:=(Array.getElem?_eq_some_iff.1 Y.out.r7).1)|(go_at_call 64;refine (zbe S hS g _ 100 [{data:=#[]},{data:=#[120]}] _ I.out.cur (by simp) (by simp) (by intro x hx;simp only[List.mem_cons,List.not_mem_nil,or_false] at hx;rcases hx with rfl|rfl<;>decide)).mono ?_;rintro e W5 ⟨x5,q5,rfl,z5,L,X⟩;have Y:=zc (I.out.step L X);clear L X;obtain⟨y0,y1,y2,y3,y4,yf⟩:=zg Y.out.r7;have ai:=(Array.getElem?_eq_some_iff.1 Y.out.r7).1)|(go_at_call 97;refine (zaJ S hS g _ 5 _ M3.out.drew.cur (by omega)).mono ?_;rintro e W4 ⟨rfl,j,A⟩;have J:=zbk S q3 5 (by omega);obtain⟨k4,O⟩: ∃k:Nat,(bw S q3 5).1=k:=⟨(bw S q3 5).1.toNat,by omega⟩;obtain⟨q4,M⟩: ∃Z,(bw S q3 5).2=Z:=⟨_,rfl⟩;rw[O] at J ⊢;rw[M] at j;have I:=zc (M3.out.drew.step j A);clear j A O M;obtain⟨y0,y1,y2,y3,y4,yf⟩:=zg I.out.r7;have ag:=(Array.getElem?_eq_some_iff.1 I.out.r7).1)|(go_at_call 97;refine (zaJ S hS g _ 5 _ (M3.out.alloc _).drew.cur (by omega)).mono ?_;rintro e W4 ⟨rfl,j,A⟩;have J:=zbk S q3 5 (by omega);obtain⟨k4,O⟩: ∃k:Nat,(bw S q3 5).1=k:=⟨(bw S q3 5).1.toNat,by omega⟩;obtain⟨q4,M⟩: ∃Z,(bw S q3 5).2=Z:=⟨_,rfl⟩;rw[O] at J ⊢;rw[M] at j;have I:=zc ((M3.out.alloc _).drew.step j A);have K4:=zc ((A.block W3.heap.size (by show W3.heap.size<(W3.alloc _).heap.size;rw[zl];omega) (by have:=M3.out.gl;have:=M3.out.gr.size;simp;omega)).trans (heap_alloc_new W3 _));clear j A O M;obtain⟨y0,y1,y2,y3,y4,yf⟩:=zg I.out.r7;have ag:=(Array.getElem?_eq_some_iff.1 I.out.r7).1))))
   all_goals
    have D9:Hid (Drawn 1 {m with ep:=m.ep++[(⟨(k4:Int),({data:=#[113]}:ByteArray),({data:=#[113]}:ByteArray),x5⟩:Ep)]}):=⟨(q.out.more (Nat.zero_le 1)).rq,(q.out.more (Nat.zero_le 1)).im,⟨by have:=q.out.ep.1;simp;omega,zdO q.out.ep.2 ⟨by show 1≤_;omega,by show 1≤_;omega,by show x5.size≤_;omega⟩⟩,(q.out.more (Nat.zero_le 1)).st,(q.out.more (Nat.zero_le 1)).ex,q.out.fair⟩
    clear c0 c1 c2 c3 c4 cf y0 y1 y2 y3 y4 yf u0 u1 u2 u3 u4 uf F9
    go_wp2_with fail
    go_meet
    exact⟨_,_,_,A9.out,D9.out⟩
  ·obtain⟨i0,hi,aa,ac,ab⟩:=info_parts Tryz.infoStmt
   go_wp2_with fail
   go_region_law (first|(refine zdi rfl (.tmp 74) (.tmp 81) 33 rfl w0.heap.size 107 i0 _ 3 32 Tryz.underlying33 hi aa ac ab rfl (by decide) (by decide) V.st m.st.length (m.st.flatMap smL) (by rfl) (by exact (Y.out.alloc _).own.st) _ (smL (⟨(k4:Int),({data:=#[113]}:ByteArray),IntKind.i64.wrap ((k5:Int)-1)⟩:Sm)) (by rfl) (by exact heap_alloc_new _ _) rfl (zjv _) (by have:=q.out.st.1;omega) (by exact (Y.out.alloc _).gr.size) ?_;intro r' W9 U H N;have A9:=zc ((Y.out.alloc _).app_st (x:=(⟨(k4:Int),({data:=#[113]}:ByteArray),IntKind.i64.wrap ((k5:Int)-1)⟩:Sm)) U H);have F9:=zc ((Y.out.alloc _).far_st H);clear U H N;obtain⟨u0,u1,u2,u3,u4,uf⟩:=zg F9.out;have aj:=(Array.getElem?_eq_some_iff.1 F9.out).1)|((try go_simp);go_wp2_with (first|(go_at_call 97;refine (zaJ S hS g _ 5 _ I.out.cur (by omega)).mono ?_;rintro e W5 ⟨rfl,L,X⟩;have ae:=zbk S q4 5 (by omega);obtain⟨k5,ad⟩: ∃k:Nat,(bw S q4 5).1=k:=⟨(bw S q4 5).1.toNat,by omega⟩;obtain⟨q5,af⟩: ∃Z,(bw S q4 5).2=Z:=⟨_,rfl⟩;rw[ad] at ae ⊢;rw[af] at L;have Y:=zc (I.out.step L X);clear L X ad af;obtain⟨y0,y1,y2,y3,y4,yf⟩:=zg Y.out.r7;have ai:=(Array.getElem?_eq_some_iff.1 Y.out.r7).1)|(go_at_call 97;refine (zaJ S hS g _ 8 _ M3.out.drew.cur (by omega)).mono ?_;rintro e W4 ⟨rfl,j,A⟩;have J:=zbk S q3 8 (by omega);obtain⟨k4,O⟩: ∃k:Nat,(bw S q3 8).1=k:=⟨(bw S q3 8).1.toNat,by omega⟩;obtain⟨q4,M⟩: ∃Z,(bw S q3 8).2=Z:=⟨_,rfl⟩;rw[O] at J ⊢;rw[M] at j;have I:=zc (M3.out.drew.step j A);clear j A O M;obtain⟨y0,y1,y2,y3,y4,yf⟩:=zg I.out.r7;have ag:=(Array.getElem?_eq_some_iff.1 I.out.r7).1))))
   all_goals
    have D9:Hid (Drawn 1 {m with st:=m.st++[(⟨(k4:Int),({data:=#[113]}:ByteArray),IntKind.i64.wrap ((k5:Int)-1)⟩:Sm)]}):=⟨(q.out.more (Nat.zero_le 1)).rq,(q.out.more (Nat.zero_le 1)).im,(q.out.more (Nat.zero_le 1)).ep,⟨by have:=q.out.st.1;simp;omega,zdO q.out.st.2 (by show 1≤_;omega)⟩,(q.out.more (Nat.zero_le 1)).ex,zpF q.out.fair zpH⟩
    clear c0 c1 c2 c3 c4 cf y0 y1 y2 y3 y4 yf u0 u1 u2 u3 u4 uf F9
    go_wp2_with fail
    go_meet
    exact⟨_,_,_,A9.out,D9.out⟩
  ·obtain⟨i0,hi,aa,ac,ab⟩:=info_parts Tryz.infoExpr
   go_wp2_with fail
   go_region_law (first|(refine zdi rfl (.tmp 87) (.tmp 95) 34 rfl w0.heap.size 109 i0 _ 6 64 Tryz.underlying34 hi aa ac ab rfl (by decide) (by decide) V.ex m.ex.length (m.ex.flatMap exL) (by rfl) (by exact (M6.out.alloc _).own.ex) _ (exL (⟨(k4:Int),0,sNone,sNone,(k5:Int),(k6:Int)⟩:Ex)) (by rfl) (by exact heap_alloc_new _ _) rfl (zjn _) (by have:=q.out.ex.1;omega) (by exact (M6.out.alloc _).gr.size) ?_;intro r' W9 U H N;have A9:=zc ((M6.out.alloc _).app_ex (x:=(⟨(k4:Int),0,sNone,sNone,(k5:Int),(k6:Int)⟩:Ex)) U H);have F9:=zc ((M6.out.alloc _).far_ex H);clear U H N;obtain⟨u0,u1,u2,u3,u4,uf⟩:=zg F9.out;have aj:=(Array.getElem?_eq_some_iff.1 F9.out).1)|((try go_simp);go_wp2_with (first|(go_at_call 97;refine (zaJ S hS g _ 3 _ Y.out.cur (by omega)).mono ?_;rintro e W6 ⟨rfl,an,aA⟩;have aw:=zbk S q5 3 (by omega);obtain⟨k6,au⟩: ∃k:Nat,(bw S q5 3).1=k:=⟨(bw S q5 3).1.toNat,by omega⟩;obtain⟨q6,aC⟩: ∃Z,(bw S q5 3).2=Z:=⟨_,rfl⟩;rw[au] at aw ⊢;rw[aC] at an;have M6:=zc (Y.out.step an aA);clear an aA au aC;obtain⟨y0,y1,y2,y3,y4,yf⟩:=zg M6.out.r7;have aK:=(Array.getElem?_eq_some_iff.1 M6.out.r7).1)|(go_at_call 97;refine (zaJ S hS g _ 3 _ I.out.cur (by omega)).mono ?_;rintro e W5 ⟨rfl,L,X⟩;have ae:=zbk S q4 3 (by omega);obtain⟨k5,ad⟩: ∃k:Nat,(bw S q4 3).1=k:=⟨(bw S q4 3).1.toNat,by omega⟩;obtain⟨q5,af⟩: ∃Z,(bw S q4 3).2=Z:=⟨_,rfl⟩;rw[ad] at ae ⊢;rw[af] at L;have Y:=zc (I.out.step L X);clear L X ad af;obtain⟨y0,y1,y2,y3,y4,yf⟩:=zg Y.out.r7;have ai:=(Array.getElem?_eq_some_iff.1 Y.out.r7).1)|(go_at_call 97;refine (zaJ S hS g _ 9 _ M3.out.drew.cur (by omega)).mono ?_;rintro e W4 ⟨rfl,j,A⟩;have J:=zbk S q3 9 (by omega);obtain⟨k4,O⟩: ∃k:Nat,(bw S q3 9).1=k:=⟨(bw S q3 9).1.toNat,by omega⟩;obtain⟨q4,M⟩: ∃Z,(bw S q3 9).2=Z:=⟨_,rfl⟩;rw[O] at J ⊢;rw[M] at j;have I:=zc (M3.out.drew.step j A);clear j A O M;obtain⟨y0,y1,y2,y3,y4,yf⟩:=zg I.out.r7;have ag:=(Array.getElem?_eq_some_iff.1 I.out.r7).1))))
   all_goals
    have D9:Hid (Drawn 1 {m with ex:=m.ex++[(⟨(k4:Int),0,sNone,sNone,(k5:Int),(k6:Int)⟩:Ex)]}):=⟨(q.out.more (Nat.zero_le 1)).rq,(q.out.more (Nat.zero_le 1)).im,(q.out.more (Nat.zero_le 1)).ep,(q.out.more (Nat.zero_le 1)).st,⟨by have:=q.out.ex.1;simp;omega,zdO q.out.ex.2 ⟨Nat.zero_le _,Nat.zero_le _,by simp,by simp⟩⟩,q.out.fair⟩
    clear c0 c1 c2 c3 c4 cf y0 y1 y2 y3 y4 yf u0 u1 u2 u3 u4 uf F9
    go_wp2_with fail
    go_meet
    exact⟨_,_,_,A9.out,D9.out⟩
  ·by_cases ap:0<m.ex.length
   case neg=>
    have aI: ¬0<(m.ex.length:Int):=by omega
    go_wp2_with fail
    go_meet
    exact⟨_,_,_,M3.out,q.out.more (by omega)⟩
   have aI:0<(m.ex.length:Int):=by omega
   have aJ:=q.out.ex.1
   obtain⟨ge,am,_⟩:=M3.out.own.expr ap
   have GA:=zc am
   rw[am] at c4
   clear am
   go_wp2_with fail
   go_region_held3 (fun W=>W.cell? ⟨b7,4,none⟩=some (.slice (some ⟨ge,0,none⟩) m.ex.length V.ex.cap)) (first|exact c4|exact y4|exact z4|go_keep) (first|(go_at_call 97;refine (zaJ S hS g _ 4 _ I.out.cur (by omega)).mono ?_;rintro e W5 ⟨rfl,L,X⟩;have ae:=zbk S q4 4 (by omega);obtain⟨k5,ad⟩: ∃k:Nat,(bw S q4 4).1=k:=⟨(bw S q4 4).1.toNat,by omega⟩;obtain⟨q5,af⟩: ∃Z,(bw S q4 4).2=Z:=⟨_,rfl⟩;rw[ad] at ae ⊢;rw[af] at L;have Y:=zc (I.out.step L X);clear L X ad af;clear y0 y1 y2 y3 y4 yf;obtain⟨y0,y1,y2,y3,y4,yf⟩:=zg Y.out.r7;rw[GA.out] at y4;have kl:k4<m.ex.length:=Int.ofNat_lt.1 J.2;have aM:(k4:Int)<(m.ex.length:Int):=J.2;obtain⟨s0,sf⟩:=Y.out.spot kl GA.out;have ai:=(Array.getElem?_eq_some_iff.1 Y.out.r7).1;obtain⟨x,hx⟩: ∃x,m.ex[k4]? =some x:=⟨_,List.getElem?_eq_getElem kl⟩;have A9:=zc (Y.out.num hx GA.out (k5:Int));obtain⟨_,_,_,_,z4,_⟩:=zg A9.out.r7;rw[GA.out,List.length_set] at z4)|(go_at_call 97;refine (zaJ S hS g _ (m.ex.length:Int) _ M3.out.drew.cur (by omega)).mono ?_;rintro e W4 ⟨rfl,j,A⟩;have J:=zbk S q3 (m.ex.length:Int) (by omega);obtain⟨k4,O⟩: ∃k:Nat,(bw S q3 (m.ex.length:Int)).1=k:=⟨(bw S q3 (m.ex.length:Int)).1.toNat,by omega⟩;obtain⟨q4,M⟩: ∃Z,(bw S q3 (m.ex.length:Int)).2=Z:=⟨_,rfl⟩;rw[O] at J ⊢;rw[M] at j;have I:=zc (M3.out.drew.step j A);clear j A O M;obtain⟨y0,y1,y2,y3,y4,yf⟩:=zg I.out.r7;rw[GA.out] at y4;have ag:=(Array.getElem?_eq_some_iff.1 I.out.r7).1))
   all_goals
    have D9:Hid (Drawn 1 {m with ex:=m.ex.set k4 {x with num:=(k5:Int)}}):=⟨(q.out.more (Nat.zero_le 1)).rq,(q.out.more (Nat.zero_le 1)).im,(q.out.more (Nat.zero_le 1)).ep,(q.out.more (Nat.zero_le 1)).st,⟨by show (m.ex.set k4 _).length≤_;rw[List.length_set];omega,zpG q.out.ex.2 (by have:=q.out.ex.2 x (List.mem_of_getElem? hx);exact⟨this.1,this.2.1,by show 0≤(k5:Int);omega,by show (k5:Int)≤_;omega⟩)⟩,q.out.fair⟩
    clear c0 c1 c2 c3 c4 cf y0 y1 y2 y3 y4 yf s0 sf
    go_wp2_with fail
    go_meet
    exact⟨_,_,_,A9.out,D9.out⟩
theorem zrh {P:Program} {A:Func} {p u:Tmp} {q:TypeId} (h:A.results= #[.tmp u,.cell p q]) (tmps:Array Value) (w:World) (g:Nat) (t:TypeId) (j:Array Value) (H:Nat×Nat) (d:TypeDesc)
  (J:tmps.getD p undef= .pointer (some ⟨g,0,none⟩)) (M:w.heap[g]? =some (.cells j t H))
  (L:P.underlying q=some d) (I:(match d with| .struct _| .array _ _=>true|_=>false)=true) (N:(P.info? q).map (·.size)=some j.size):
  (results A tmps).run P w= .ok (.tuple #[tmps.getD u undef,.agg j]) w:=by
 have z:tmps[p]?.getD undef= .pointer (some ⟨g,0,none⟩):=by simpa using J
 simp[results,h,z,asAddr,run_loadVar_row w g t q j H d M L I N,Result.andThen]
def zri (w:World) (e:Ending) (w':World):Prop:=∃(gr n cap:Nat) (fs:List Fl) (V:Sv) (m:Md),e= .returned (.tuple #[.slice (some ⟨gr,0,none⟩) n cap,zp V m])∧zbA w' w.heap.size 57 gr n cap fs∧n≤7∧(∀y∈fs,y.1.size≤100∧y.2.size≤100)∧OwnMd w' w.heap.size V m∧Drawn 1 m∧Below w.heap.size w w'
theorem zrj (S:Src) (hS:S.ok) (w:World) (q:zcI S w) (hl:S.lim≤w.heap.size) (ac:S.len≤1048576):
  Calls Tryz.prog 24 #[.slice S.a S.len S.cap] w (zri w):=by
 have HA:Hid (Below w.heap.size w (w.alloc (.cells #[.slice none 0 0,.slice none 0 0,.slice none 0 0,.slice none 0 0,.slice none 0 0] 36))):=(Below.refl _ _).alloc (Nat.le_refl _) _
 have HC:Hid (zcI S (w.alloc (.cells #[.slice none 0 0,.slice none 0 0,.slice none 0 0,.slice none 0 0,.slice none 0 0] 36))):=zg7 q HA.out hl
 clear q
 go_enter Tryz.func24,Tryz.ntmps24
 go_upto_region 1 with fail
 refine zac (R:=fun W=>W.heap[w.heap.size]? =some (.cells #[.slice none 0 0,.slice none 0 0,.slice none 0 0,.slice none 0 0,.slice none 0 0] 36 (0,0))∧zcI S W∧Below w.heap.size w W∧w.heap.size<W.heap.size) ⟨heap_alloc_new w _,HC.out,HA.out,by rw[zl];omega⟩ ?_
 obtain⟨b,hb⟩: ∃b,b=w.heap.size:=⟨_,rfl⟩
 rw[←hb]
 rintro w1 ⟨Z,O,z,N⟩
 clear HA HC
 have X1:=zc Z
 have C1:=zc O
 rw[hb] at z N
 have B1:=zc z
 clear Z O z
 go_wp2_with fail
 refine (zjZ S hS w1 C1.out (by omega)).mono ?_
 rintro e w2 ⟨rfl,q,z⟩
 obtain⟨g,hg⟩: ∃g,g=w1.heap.size:=⟨_,rfl⟩
 rw[←hg] at q ⊢
 have J:=zc q
 have B2:=zc (B1.out.trans (z.mono (Nat.le_of_lt N)))
 have X2:=zc ((z.block _ (Array.getElem?_eq_some_iff.1 X1.out).1).trans X1.out)
 have U:w.heap.size≤g:=by omega
 have ae:b<g:=by omega
 have H:=zc hb
 clear q z C1 X1 B1 hg hb
 go_wp2_with fail
 refine (zkm S hS g _ _ J.out).mono ?_
 rintro e w3 ⟨gr,n,ab,fs,q3,rfl,L,hn,hf,q,j⟩
 have X:=zc q
 have B3:=zc (zg8 B2.out j U B2.out.size)
 have X3:=zc ((j.block _ (Array.getElem?_eq_some_iff.1 X2.out).1 (by simp;omega)).trans X2.out)
 have R3:=zc (zkk L B2.out.size)
 have HF:=zc hf
 have LR:Hid (g<gr):=Nat.lt_of_lt_of_le (zcJ J.out) (zdP L).1
 clear L q j hf J B2 X2
 go_wp2_with fail
 refine (zp1 S (by omega) 8 (by omega) (by omega) _).mono ?_
 rintro e w4 ⟨⟨r,rfl,hr⟩,hw⟩
 rw[hw]
 clear hw
 go_wp2_with fail
 refine (zrg S hS g r (by omega) false q3 _ X.out).mono ?_
 rintro e w5 ⟨V,m,q5,rfl,M,hd,q,j⟩
 have Y:=B3.out.size
 have O5:Hid (OwnMd w5 w.heap.size V m):=⟨M.rq.low Y,M.im.low Y,M.ep.low Y,M.st.low Y,M.ex.low Y⟩
 have D5:=zc hd
 have B5:=zc (zg8 B3.out j U B3.out.size)
 have X5:=zc ((j.block _ (Array.getElem?_eq_some_iff.1 X3.out).1 (by simp;omega)).trans X3.out)
 have R5:=zc (zgB R3.out (j.block gr (zdP R3.out).2 (fun e=>by have:=Option.some.inj e;have:=LR.out;omega)))
 have LB:Hid (gr≠b):=fun e=>by have:=LR.out;omega
 clear M hd q j R3 X3 B3 X LR
 unfold zp
 obtain⟨d0,d1,d2,d3,d4,df⟩:=zg X5.out
 go_wp2
 refine bodyPost_ret (zrh rfl _ _ b 36 _ (0,0) _ rfl (zbN X5.out) Tryz.underlying36 rfl (by kernel_rfl)) rfl ?_
 have A: ∀{e:TypeId} {I n:Nat} {r:Rw} {xs:List Value} (x0 x1 x2 x3 x4:Value),OwnR w5 w.heap.size e I r n xs→e≠36→OwnR (zdC w5 b x0 x1 x2 x3 x4) w.heap.size e I r n xs:=fun x0 x1 x2 x3 x4 Z he=>Z.keep fun k aa=>zfJ (fun e=>by
  obtain⟨_,_,ad,q⟩:=Z.typed aa
  rw[e,X5.out] at q
  simp only[Option.some.injEq,Obj.cells.injEq] at q
  exact he q.2.1.symm) ..
 exact⟨gr,n,ab,fs,V,m,rfl,zgB R5.out (zfJ LB.out ..),hn,HF.out,⟨A _ _ _ _ _ O5.out.rq (by decide),A _ _ _ _ _ O5.out.im (by decide),A _ _ _ _ _ O5.out.ep (by decide),A _ _ _ _ _ O5.out.st (by decide),A _ _ _ _ _ O5.out.ex (by decide)⟩,D5.out,((((B5.out.setCell (Nat.le_of_eq H.out.symm) _).setCell (Nat.le_of_eq H.out.symm) _).setCell (Nat.le_of_eq H.out.symm) _).setCell (Nat.le_of_eq H.out.symm) _).setCell (Nat.le_of_eq H.out.symm) _⟩
def inL (l:List ByteArray) (s:ByteArray):Bool:=l.any fun x=>x.toList==s.toList
def twB (l:List ByteArray):Bool:=(List.range l.length).any fun i=>inL (l.take i) (l.getD i sNone)
theorem zkE {l:List ByteArray} {s:ByteArray} {k:Nat} (j:k<l.length) (h:((l.getD k sNone).toList==s.toList)=true):inL l s=true:=by
 rw[inL,List.any_eq_true]
 exact⟨l[k],List.getElem_mem j,by simpa [List.getD,List.getElem?_eq_getElem j] using h⟩
theorem zkF {l:List ByteArray} {s:ByteArray} (h: ∀j,j<l.length→((l.getD j sNone).toList==s.toList)=false):inL l s=false:=by
 rw[inL,List.any_eq_false]
 intro x z
 obtain⟨j,q,rfl⟩:=List.mem_iff_getElem.1 z
 have:=h j q
 simpa [List.getD,List.getElem?_eq_getElem q] using this
end Go.Proofs.YtjdddblpfbmpaaaGreat
