/-
  What the specification's draw of a program tells: some program,nothing of it long: the walk.
  What the specification's draw for ModOk tells: some program,nothing of it long,and some flag: the walk.
  What the laws count of a program,as plain functions. No program is spoken of.
  Lines of a program's text,as plain functions. No program is spoken of.
  A program's text: its lines,one behind the other. No program is spoken of.
  A program that is small has a text that is small. No program is spoken of.
  A program that was drawn is small,and so is its text. No program is spoken of.
  What slices.Equal answers of rows of the call's own,the model's != handed in: the walks.
  Two programs in memory side by side. No program is spoken of but for the numbers of its types.
  What the laws' sameTexts and sameMod answer of a program that lies twice,the model's != handed in: the walks.
  What a Print and a Parse tell,as a ModOk takes it. No program is spoken of but for the numbers of its types.
-/
import Derived.Deep.RegionWith
import Derived.Deep.RegionHeld3
import Derived.Test.YticdggnnpjachaaGreatCbSpecParseQToSpecParseR
namespace Go.Proofs.YticdggnnpjachaaGreat
set_option maxRecDepth 100000
set_option maxHeartbeats 12800000
open Go.RowKit Go.PlainAid Go.Sort
def MMD (S:Src) (g:Nat) (w0:World) (b6 b7:Nat) (W:World):Prop:=∃(V:Sv) (m:Md) (q:Nat×Int),MM S g w0 b6 b7 V m q W∧Drawn 1 m
def zgK (S:Src) (g:Nat) (w:World) (e:Ending) (w':World):Prop:=∃(V:Sv) (m:Md) (q':Nat×Int),e= .returned (zp V m)∧OwnMd w' w.heap.size V m∧Drawn 1 m∧zR 147 S w' g q'∧w.grownBy w' (some g)
theorem ParseOut.drawn {s:ByteArray} {o:Bool} {w A:World} {e:Ending} (h:ParseOut s o w e A) (I:s.size≤20000): ∃(V:Sv) (m:Md) (z:Int),e= .returned (.tuple #[zp V m,.int .i64 z])∧OwnMd A w.heap.size V m∧Drawn 0 m:=by
 obtain⟨y,D,E⟩:=h
 cases y with
 |ok q=>
  obtain⟨V,J,H⟩:=E
  have n:=zm7 D I (by omega)
  have L:=H.inv
  have K:(q.ep++q.la).length=q.ep.length+q.la.length:=List.length_append
  refine⟨V,zdx q,-1,J,H.md,⟨by show q.rq.length≤_;omega,n.rq⟩,⟨by show q.im.length≤_;omega,n.im⟩,⟨by show (q.ep++q.la).length≤_;omega,fun x j=>?_⟩,⟨by show q.st.length≤_;omega,n.st⟩,⟨by show q.ex.length≤_;omega,n.ex⟩,zi2 D⟩
  rcases List.mem_append.1 (show x∈q.ep++q.la from j) with j|j
  ·exact n.ep x j
  ·exact n.la x j
 |error p=>
  refine⟨⟨R0,R0,R0,R0,R0,R0⟩,⟨[],[],[],[],[]⟩,p,E,⟨zcy _ _ _ _,zcy _ _ _ _,zcy _ _ _ _,zcy _ _ _ _,zcy _ _ _ _⟩,⟨Nat.zero_le _,?_⟩,⟨Nat.zero_le _,?_⟩,⟨Nat.zero_le _,?_⟩,⟨Nat.zero_le _,?_⟩,⟨Nat.zero_le _,?_⟩,?_⟩
  all_goals (intro x j;cases j)
theorem Drawn.more {k j:Nat} {m:Md} (h:Drawn k m) (n:k≤j):Drawn j m:=⟨⟨by have:=h.rq.1;omega,h.rq.2⟩,⟨by have:=h.im.1;omega,h.im.2⟩,⟨by have:=h.ep.1;omega,h.ep.2⟩,⟨by have:=h.st.1;omega,h.st.2⟩,⟨by have:=h.ex.1;omega,h.ex.2⟩,h.fair⟩
theorem ziR (S:Src) (J:S.ok) (g:Nat) (q:Nat×Int) (N:Nat) (l:List ByteArray) (w:World) (A:zR 147 S w g q) (L:1≤l.length) (I:l.length≤1000) (K: ∀x∈l,x.size≤N):
  Calls Tryz.prog 111 #[.pointer (some ⟨g,0,none⟩),.slice (some ⟨w.heap.size,0,none⟩) l.length l.length] (w.alloc (.cells (l.map Value.string).toArray 9)).drew (zcG S g N w):=by
 have M:=zcB A
 have o:w.heap.size<(w.alloc (.cells (l.map Value.string).toArray 9)).heap.size:=by rw[zk];omega
 refine (zge S J g q w.heap.size l.length N (w.alloc (.cells (l.map Value.string).toArray 9)).drew (zbS (ze9 A _) fun _ _=>rfl) L I o (by omega) ?_).mono ?_
 ·intro j D
  show ∃x,(w.alloc _).cell? _=_∧_
  rw[World.cell?_alloc_new]
  refine⟨l[j],?_,K _ (List.getElem_mem D)⟩
  simp[List.getElem?_eq_getElem D]
 ·rintro e O ⟨x,H,rfl,E,z,n⟩
  exact⟨x,H,rfl,E,z,zB (ze8 w (.cells (l.map Value.string).toArray 9) _) ⟨n.os,n.tape,n.output,n.size,n.block⟩⟩
theorem znZ (S:Src) (K:S.ok) (g b:Nat) (q:Nat×Int) (N:Nat) (l:List ByteArray) (w:World) (E:zR 147 S w g q) (A:w.heap[b]? =some (.cells (l.map Value.string).toArray 9 (0,0))) (n:b≠g) (M:1≤l.length) (J:l.length≤1000) (L: ∀x∈l,x.size≤N):
  Calls Tryz.prog 111 #[.pointer (some ⟨g,0,none⟩),.slice (some ⟨b,0,none⟩) l.length l.length] w (zcG S g N w):=by
 refine (zge S K g q b l.length N w E M J (Array.getElem?_eq_some_iff.1 A).1 n ?_).mono ?_
 ·intro j D
  refine⟨l[j],?_,L _ (List.getElem_mem D)⟩
  simp[World.cell?,A,List.getElem?_eq_getElem D]
 ·rintro e O ⟨x,I,rfl,H,z,o⟩
  exact⟨x,I,rfl,H,z,o⟩
theorem Tryz.infoS:(Tryz.prog.info? 9).map (fun i=>(i.zero,i.size,i.bytes))=some (some (.string {data:=#[]}),1,16):=by kernel_rfl
theorem zoa (x:ByteArray): ∀u∈[Value.string x],u.oneCell'=true:=fun u j=>by
 rw[List.mem_singleton] at j
 rw[j]
 rfl
abbrev zdf (w:World) (b:Nat) (x0 x1 x2 x3 x4:Value):World:=((((w.setCell ⟨b,0,none⟩ x0).setCell ⟨b,1,none⟩ x1).setCell ⟨b,2,none⟩ x2).setCell ⟨b,3,none⟩ x3).setCell ⟨b,4,none⟩ x4
theorem zf8 {w:World} {b k:Nat} (h:k≠b) (j z n o q:Value):(zdf w b j z n o q).heap[k]? =w.heap[k]?:=by
 unfold zdf
 rw[zi h,zi h,zi h,zi h,zi h]
theorem zob (w:World) (b:Nat) (j z n o q:Value):(zdf w b j z n o q).heap.size=w.heap.size:=by
 unfold zdf
 simp only[World.size_setCell]
theorem zoc {S:Src} {g:Nat} {w0 W:World} {A X:Nat} {V:Sv} {m:Md} {q:Nat×Int} (h:MM S g w0 A X V m q W) (U:Drawn 1 m) (I M E J K:Value):zgK S g w0 (.returned (zp V m)) (zdf W A I M E J K):=by
 have Z:=h.ge
 have aa:=h.gl
 have H:Below 0 W (zdf W A I M E J K):=(((((Below.refl 0 W).setCell (Nat.zero_le _) _).setCell (Nat.zero_le _) _).setCell (Nat.zero_le _) _).setCell (Nat.zero_le _) _).setCell (Nat.zero_le _) _
 have j: ∀{e:TypeId} {z n:Nat} {r:Rw} {O:List Value},OwnR W w0.heap.size e z r n O→e≠28→OwnR (zdf W A I M E J K) w0.heap.size e z r n O:=fun N Y=>N.keep fun k o=>zf8 (fun e=>by
  obtain⟨_,_,Q,D⟩:=N.typed o
  rw[e,h.r6] at D
  simp only[Option.some.injEq,Obj.cells.injEq] at D
  exact Y D.2.1.symm) ..
 refine⟨V,m,q,rfl,⟨j h.own.rq (by decide),j h.own.im (by decide),j h.own.ep (by decide),j h.own.st (by decide),j h.own.ex (by decide)⟩,U,zbS h.cur fun k o=>zf8 (by omega) _ _ _ _ _,⟨?_,?_,?_,?_,fun k o L=>(zf8 (by omega) ..).trans (h.gr.block k o L)⟩⟩
 ·exact H.os.trans h.gr.os
 ·exact H.tape.trans h.gr.tape
 ·exact H.output.trans h.gr.output
 ·rw[zob]
  exact h.gr.size
theorem zod {S:Src} {g:Nat} {w0 W:World} {j o:Nat} {V:Sv} {m:Md} {q:Nat×Int} (h:MM S g w0 j o V m q W) (n:Drawn 1 m):zgK S g w0 (.returned (.agg #[.slice V.rq.a m.rq.length V.rq.cap,.slice V.im.a m.im.length V.im.cap,.slice V.ep.a m.ep.length V.ep.cap,.slice V.st.a m.st.length V.st.cap,.slice V.ex.a m.ex.length V.ex.cap])) (zdf W j (.slice V.rq.a m.rq.length V.rq.cap) (.slice V.im.a m.im.length V.im.cap) (.slice V.ep.a m.ep.length V.ep.cap) (.slice V.st.a m.st.length V.st.cap) (.slice V.ex.a m.ex.length V.ex.cap)):=zoc h n ..
theorem zoe (S:Src) (hS:S.ok) (g:Nat) (ag:Nat) (hm:ag≤10) (an:Bool) (q0:Nat×Int) (w0:World) (hc:zR 147 S w0 g q0):
  Calls Tryz.prog 54 #[.pointer (some ⟨g,0,none⟩),.int .i64 (ag:Int),.bool an] w0 (zgK S g w0):=by
 have aF:=zc hc
 have aH:=zcB hc
 clear hc
 go_enter Tryz.func54,Tryz.ntmps54
 go_wp2_with fail
 refine (zlq S hS g ag hm an q0 _ (ze9 aF.out _)).mono ?_
 rintro e w1 ⟨t,q1,rfl,ht,hc,hg⟩
 have ak:=zc hc
 have ah:=zc (zB (ze8 w0 (.cells #[.slice none 0 0,.slice none 0 0,.slice none 0 0,.slice none 0 0,.slice none 0 0] 28) (some g)) hg)
 have X1:Hid (w1.heap[w0.heap.size]? =some (.cells #[.slice none 0 0,.slice none 0 0,.slice none 0 0,.slice none 0 0,.slice none 0 0] 28 (0,0))):=(hg.block _ (by rw[zk];omega) (by simp;omega)).trans (heap_alloc_new w0 _)
 clear hc hg
 go_wp2_with fail
 refine (ziQ t an w1 (by omega)).mono ?_
 rintro e w2 ⟨av,hb⟩
 obtain⟨V,m,z,rfl,ho,hd⟩:=av.drawn ht
 have O2:=zc ho
 have n:=zc hd
 have au:=zc (zcC ak.out hb (zcB ak.out))
 have ap:=zc (zcV ah.out hb ah.out.size)
 have X2:=zc ((hb.block _ (Array.getElem?_eq_some_iff.1 X1.out).1).trans X1.out)
 have aG:=hb.size
 clear av ho hd hb
 unfold zp
 go_upto_region 2 with fail
 refine zau (R:=MM S g w0 w0.heap.size w2.heap.size V m q1) ?_ ?_
 ·refine⟨?_,heap_alloc_new w2 _,?_,ze9 au.out _,zB ap.out (ze8 _ _ _),Nat.le_refl _,(Array.getElem?_eq_some_iff.1 X2.out).1,aH⟩
  ·rw[heap_alloc_old _ _ (Array.getElem?_eq_some_iff.1 X2.out).1]
   exact X2.out
  ·have h1:=ah.out.size
   have aD:OwnMd w2 w0.heap.size V m:=⟨O2.out.rq.low h1,O2.out.im.low h1,O2.out.ep.low h1,O2.out.st.low h1,O2.out.ex.low h1⟩
   exact aD.alloc _
 obtain⟨b6,az⟩: ∃b,b=w0.heap.size:=⟨_,rfl⟩
 obtain⟨b7,aq⟩: ∃b,b=w2.heap.size:=⟨_,rfl⟩
 rw[←az,←aq]
 clear az aq ak ah X1 O2 au ap X2 aG
 intro W1 hM
 have M1:=zc hM
 clear hM
 go_wp2_with fail
 refine (zcD S hS g _ 6 _ M1.out.cur (by omega)).mono ?_
 rintro e W2 ⟨rfl,hc,hg⟩
 obtain⟨q2,hq⟩: ∃Q,(bw S q1 6).2=Q:=⟨_,rfl⟩
 rw[hq] at hc
 have M2:=zc (M1.out.step hc hg)
 clear hc hg hq M1
 generalize ((bw S q1 6).1==0)=b
 go_upto_if 19 with fail
 go_cut [] from 20 to 97 (fun wx=>MMD S g w0 b6 b7 wx)
 case rest=>
  obtain⟨V',m',Q,aA,aB⟩:=hcut
  have A9:=zc aA
  have D9:=zc aB
  clear aA aB
  obtain⟨c0,c1,c2,c3,c4,cf⟩:=zl A9.out.r7
  obtain⟨d0,d1,d2,d3,d4,df⟩:=zl A9.out.r6
  go_wp2
  refine bodyPost_ret (results_cell_row rfl _ _ b6 28 _ (0,0) _ rfl (zcZ A9.out.r6) Tryz.underlying28 rfl (by kernel_rfl)) rfl ?_
  exact zod A9.out D9.out
 cases b with
 |false=>
  go_wp2_with fail
  go_meet
  exact⟨_,_,_,M2.out,n.out.more (by omega)⟩
 |true=>
  go_wp2_with fail
  refine (zaD S hS g _ 6 _ M2.out.cur (by omega)).mono ?_
  rintro e W3 ⟨rfl,hc,hg⟩
  have aw:=zaV S q2 6 (by omega)
  obtain⟨k3,hk⟩: ∃k:Nat,(bw S q2 6).1=k:=⟨(bw S q2 6).1.toNat,by omega⟩
  obtain⟨U,hq⟩: ∃Q,(bw S q2 6).2=Q:=⟨_,rfl⟩
  rw[hk] at aw ⊢
  rw[hq] at hc
  have O:=zc (M2.out.step hc hg)
  have kb:k3<6:=by omega
  clear hc hg aw hk hq M2
  obtain⟨c0,c1,c2,c3,c4,cf⟩:=zl O.out.r7
  have aI:=(Array.getElem?_eq_some_iff.1 O.out.r7).1
  rcases (show k3=0∨k3=1∨k3=2∨k3=3∨k3=4∨k3=5 by omega) with rfl|rfl|rfl|rfl|rfl|rfl
  ·obtain⟨i0,hi,ab,Y,aa⟩:=info_parts Tryz.infoS
   go_wp2_with fail
   go_region_law (first|(refine zcI rfl (.tmp 40) (.tmp 44) 22 rfl w0.heap.size 9 i0 _ 1 16 Tryz.underlying22 hi ab Y aa rfl (by decide) (by decide) V.rq m.rq.length (m.rq.map Value.string) (by rfl) (by exact (A.out.alloc _).own.rq) _ ([Value.string x4]) (by rfl) (by exact heap_alloc_new _ _) rfl (zoa x4) (by have:=n.out.rq.1;omega) (by exact (A.out.alloc _).gr.size) ?_;intro r' W9 I q K;have A9:=zc ((A.out.alloc _).app_rq (x:=x4) I q);have F9:=zc ((A.out.alloc _).far_rq q);clear I q K;obtain⟨u0,u1,u2,u3,u4,uf⟩:=zl F9.out;have aj:=(Array.getElem?_eq_some_iff.1 F9.out).1)|((try go_simp);go_wp2_with (first|(go_at_call 111;refine (ziR S hS g _ 100 [{data:=#[120]},{data:=#[34]},{data:=#[122,122]}] _ O.out.cur (by simp) (by simp) (by intro x hx;simp only[List.mem_cons,List.not_mem_nil,or_false] at hx;rcases hx with rfl|rfl|rfl<;>decide)).mono ?_;rintro e W4 ⟨x4,q4,rfl,z4,j,o⟩;have A:=zc (O.out.step j o);clear j o;obtain⟨X,Z,y2,y3,N,yf⟩:=zl A.out.r7;have af:=(Array.getElem?_eq_some_iff.1 A.out.r7).1))))
   all_goals
    have D9:Hid (Drawn 1 {m with rq:=m.rq++[x4]}):=⟨⟨by have:=n.out.rq.1;simp;omega,zdp n.out.rq.2 (by omega)⟩,(n.out.more (Nat.zero_le 1)).im,(n.out.more (Nat.zero_le 1)).ep,(n.out.more (Nat.zero_le 1)).st,(n.out.more (Nat.zero_le 1)).ex,n.out.fair⟩
    clear c0 c1 c2 c3 c4 cf X Z y2 y3 N yf u0 u1 u2 u3 u4 uf F9
    go_wp2_with fail
    go_meet
    exact⟨_,_,_,A9.out,D9.out⟩
  ·obtain⟨i0,hi,ab,Y,aa⟩:=info_parts Tryz.infoImp
   go_wp2_with fail
   go_region_law (first|(refine zcI rfl (.tmp 50) (.tmp 55) 23 rfl w0.heap.size 100 i0 _ 3 48 Tryz.underlying23 hi ab Y aa rfl (by decide) (by decide) V.im m.im.length (m.im.flatMap imL) (by rfl) (by exact (A.out.alloc _).own.im) _ (imL (⟨({data:=#[120]}:ByteArray),({data:=#[97]}:ByteArray),x4⟩:Im)) (by rfl) (by exact heap_alloc_new _ _) rfl (zg3 _) (by have:=n.out.im.1;omega) (by exact (A.out.alloc _).gr.size) ?_;intro r' W9 I q K;have A9:=zc ((A.out.alloc _).app_im (x:=(⟨({data:=#[120]}:ByteArray),({data:=#[97]}:ByteArray),x4⟩:Im)) I q);have F9:=zc ((A.out.alloc _).far_im q);clear I q K;obtain⟨u0,u1,u2,u3,u4,uf⟩:=zl F9.out;have aj:=(Array.getElem?_eq_some_iff.1 F9.out).1)|((try go_simp);go_wp2_with (first|(go_at_call 111;refine (ziR S hS g _ 100 [{data:=#[113]},{data:=#[108,101,116]},{data:=#[]}] _ O.out.cur (by simp) (by simp) (by intro x hx;simp only[List.mem_cons,List.not_mem_nil,or_false] at hx;rcases hx with rfl|rfl|rfl<;>decide)).mono ?_;rintro e W4 ⟨x4,q4,rfl,z4,j,o⟩;have A:=zc (O.out.step j o);clear j o;obtain⟨X,Z,y2,y3,N,yf⟩:=zl A.out.r7;have af:=(Array.getElem?_eq_some_iff.1 A.out.r7).1))))
   all_goals
    have D9:Hid (Drawn 1 {m with im:=m.im++[(⟨({data:=#[120]}:ByteArray),({data:=#[97]}:ByteArray),x4⟩:Im)]}):=⟨(n.out.more (Nat.zero_le 1)).rq,⟨by have:=n.out.im.1;simp;omega,zdp n.out.im.2 ⟨by show 1≤_;omega,by show 1≤_;omega,by show x4.size≤_;omega⟩⟩,(n.out.more (Nat.zero_le 1)).ep,(n.out.more (Nat.zero_le 1)).st,(n.out.more (Nat.zero_le 1)).ex,n.out.fair⟩
    clear c0 c1 c2 c3 c4 cf X Z y2 y3 N yf u0 u1 u2 u3 u4 uf F9
    go_wp2_with fail
    go_meet
    exact⟨_,_,_,A9.out,D9.out⟩
  ·obtain⟨i0,hi,ab,Y,aa⟩:=info_parts Tryz.infoExp
   go_wp2_with fail
   go_region_law (first|(refine zcI rfl (.tmp 61) (.tmp 68) 24 rfl w0.heap.size 102 i0 _ 4 56 Tryz.underlying24 hi ab Y aa rfl (by decide) (by decide) V.ep m.ep.length (m.ep.flatMap epL) (by rfl) (by exact (M.out.alloc _).own.ep) _ (epL (⟨(k4:Int),({data:=#[113]}:ByteArray),({data:=#[113]}:ByteArray),x5⟩:Ep)) (by rfl) (by exact heap_alloc_new _ _) rfl (zeI _) (by have:=n.out.ep.1;omega) (by exact (M.out.alloc _).gr.size) ?_;intro r' W9 I q K;have A9:=zc ((M.out.alloc _).app_ep (x:=(⟨(k4:Int),({data:=#[113]}:ByteArray),({data:=#[113]}:ByteArray),x5⟩:Ep)) I q);have F9:=zc ((M.out.alloc _).far_ep q);clear I q K;obtain⟨u0,u1,u2,u3,u4,uf⟩:=zl F9.out;have aj:=(Array.getElem?_eq_some_iff.1 F9.out).1)|((try go_simp);go_wp2_with (first|(go_at_call 111;refine (znZ S hS g W3.heap.size _ 100 [{data:=#[]},{data:=#[120]}] _ A.out.cur K4.out (by have:=O.out.gl;have:=O.out.gr.size;omega) (by simp) (by simp) (by intro x hx;simp only[List.mem_cons,List.not_mem_nil,or_false] at hx;rcases hx with rfl|rfl<;>decide)).mono ?_;rintro e W5 ⟨x5,q5,rfl,z5,D,L⟩;have M:=zc (A.out.step D L);clear D L;obtain⟨X,Z,y2,y3,N,yf⟩:=zl M.out.r7;have ai:=(Array.getElem?_eq_some_iff.1 M.out.r7).1)|(go_at_call 111;refine (zbz S hS g _ 100 [{data:=#[]},{data:=#[120]}] _ A.out.cur (by simp) (by simp) (by intro x hx;simp only[List.mem_cons,List.not_mem_nil,or_false] at hx;rcases hx with rfl|rfl<;>decide)).mono ?_;rintro e W5 ⟨x5,q5,rfl,z5,D,L⟩;have M:=zc (A.out.step D L);clear D L;obtain⟨X,Z,y2,y3,N,yf⟩:=zl M.out.r7;have ai:=(Array.getElem?_eq_some_iff.1 M.out.r7).1)|(go_at_call 109;refine (zaD S hS g _ 5 _ O.out.drew.cur (by omega)).mono ?_;rintro e W4 ⟨rfl,j,o⟩;have E:=zaV S U 5 (by omega);obtain⟨k4,J⟩: ∃k:Nat,(bw S U 5).1=k:=⟨(bw S U 5).1.toNat,by omega⟩;obtain⟨q4,H⟩: ∃Q,(bw S U 5).2=Q:=⟨_,rfl⟩;rw[J] at E ⊢;rw[H] at j;have A:=zc (O.out.drew.step j o);clear j o J H;obtain⟨X,Z,y2,y3,N,yf⟩:=zl A.out.r7;have af:=(Array.getElem?_eq_some_iff.1 A.out.r7).1)|(go_at_call 109;refine (zaD S hS g _ 5 _ (O.out.alloc _).drew.cur (by omega)).mono ?_;rintro e W4 ⟨rfl,j,o⟩;have E:=zaV S U 5 (by omega);obtain⟨k4,J⟩: ∃k:Nat,(bw S U 5).1=k:=⟨(bw S U 5).1.toNat,by omega⟩;obtain⟨q4,H⟩: ∃Q,(bw S U 5).2=Q:=⟨_,rfl⟩;rw[J] at E ⊢;rw[H] at j;have A:=zc ((O.out.alloc _).drew.step j o);have K4:=zc ((o.block W3.heap.size (by show W3.heap.size<(W3.alloc _).heap.size;rw[zk];omega) (by have:=O.out.gl;have:=O.out.gr.size;simp;omega)).trans (heap_alloc_new W3 _));clear j o J H;obtain⟨X,Z,y2,y3,N,yf⟩:=zl A.out.r7;have af:=(Array.getElem?_eq_some_iff.1 A.out.r7).1))))
   all_goals
    have D9:Hid (Drawn 1 {m with ep:=m.ep++[(⟨(k4:Int),({data:=#[113]}:ByteArray),({data:=#[113]}:ByteArray),x5⟩:Ep)]}):=⟨(n.out.more (Nat.zero_le 1)).rq,(n.out.more (Nat.zero_le 1)).im,⟨by have:=n.out.ep.1;simp;omega,zdp n.out.ep.2 ⟨by show 1≤_;omega,by show 1≤_;omega,by show x5.size≤_;omega⟩⟩,(n.out.more (Nat.zero_le 1)).st,(n.out.more (Nat.zero_le 1)).ex,n.out.fair⟩
    clear c0 c1 c2 c3 c4 cf X Z y2 y3 N yf u0 u1 u2 u3 u4 uf F9
    go_wp2_with fail
    go_meet
    exact⟨_,_,_,A9.out,D9.out⟩
  ·obtain⟨i0,hi,ab,Y,aa⟩:=info_parts Tryz.infoStmt
   go_wp2_with fail
   go_region_law (first|(refine zcI rfl (.tmp 74) (.tmp 81) 25 rfl w0.heap.size 106 i0 _ 3 32 Tryz.underlying25 hi ab Y aa rfl (by decide) (by decide) V.st m.st.length (m.st.flatMap smL) (by rfl) (by exact (M.out.alloc _).own.st) _ (smL (⟨(k4:Int),({data:=#[113]}:ByteArray),IntKind.i64.wrap ((k5:Int)-1)⟩:Sm)) (by rfl) (by exact heap_alloc_new _ _) rfl (zii _) (by have:=n.out.st.1;omega) (by exact (M.out.alloc _).gr.size) ?_;intro r' W9 I q K;have A9:=zc ((M.out.alloc _).app_st (x:=(⟨(k4:Int),({data:=#[113]}:ByteArray),IntKind.i64.wrap ((k5:Int)-1)⟩:Sm)) I q);have F9:=zc ((M.out.alloc _).far_st q);clear I q K;obtain⟨u0,u1,u2,u3,u4,uf⟩:=zl F9.out;have aj:=(Array.getElem?_eq_some_iff.1 F9.out).1)|((try go_simp);go_wp2_with (first|(go_at_call 109;refine (zaD S hS g _ 5 _ A.out.cur (by omega)).mono ?_;rintro e W5 ⟨rfl,D,L⟩;have ad:=zaV S q4 5 (by omega);obtain⟨k5,ae⟩: ∃k:Nat,(bw S q4 5).1=k:=⟨(bw S q4 5).1.toNat,by omega⟩;obtain⟨q5,ac⟩: ∃Q,(bw S q4 5).2=Q:=⟨_,rfl⟩;rw[ae] at ad ⊢;rw[ac] at D;have M:=zc (A.out.step D L);clear D L ae ac;obtain⟨X,Z,y2,y3,N,yf⟩:=zl M.out.r7;have ai:=(Array.getElem?_eq_some_iff.1 M.out.r7).1)|(go_at_call 109;refine (zaD S hS g _ 8 _ O.out.drew.cur (by omega)).mono ?_;rintro e W4 ⟨rfl,j,o⟩;have E:=zaV S U 8 (by omega);obtain⟨k4,J⟩: ∃k:Nat,(bw S U 8).1=k:=⟨(bw S U 8).1.toNat,by omega⟩;obtain⟨q4,H⟩: ∃Q,(bw S U 8).2=Q:=⟨_,rfl⟩;rw[J] at E ⊢;rw[H] at j;have A:=zc (O.out.drew.step j o);clear j o J H;obtain⟨X,Z,y2,y3,N,yf⟩:=zl A.out.r7;have af:=(Array.getElem?_eq_some_iff.1 A.out.r7).1))))
   all_goals
    have D9:Hid (Drawn 1 {m with st:=m.st++[(⟨(k4:Int),({data:=#[113]}:ByteArray),IntKind.i64.wrap ((k5:Int)-1)⟩:Sm)]}):=⟨(n.out.more (Nat.zero_le 1)).rq,(n.out.more (Nat.zero_le 1)).im,(n.out.more (Nat.zero_le 1)).ep,⟨by have:=n.out.st.1;simp;omega,zdp n.out.st.2 (by show 1≤_;omega)⟩,(n.out.more (Nat.zero_le 1)).ex,zmL n.out.fair zmN⟩
    clear c0 c1 c2 c3 c4 cf X Z y2 y3 N yf u0 u1 u2 u3 u4 uf F9
    go_wp2_with fail
    go_meet
    exact⟨_,_,_,A9.out,D9.out⟩
  ·obtain⟨i0,hi,ab,Y,aa⟩:=info_parts Tryz.infoExpr
   go_wp2_with fail
   go_region_law (first|(refine zcI rfl (.tmp 87) (.tmp 95) 26 rfl w0.heap.size 108 i0 _ 6 64 Tryz.underlying26 hi ab Y aa rfl (by decide) (by decide) V.ex m.ex.length (m.ex.flatMap exL) (by rfl) (by exact (M6.out.alloc _).own.ex) _ (exL (⟨(k4:Int),0,sNone,sNone,(k5:Int),(k6:Int)⟩:Ex)) (by rfl) (by exact heap_alloc_new _ _) rfl (zia _) (by have:=n.out.ex.1;omega) (by exact (M6.out.alloc _).gr.size) ?_;intro r' W9 I q K;have A9:=zc ((M6.out.alloc _).app_ex (x:=(⟨(k4:Int),0,sNone,sNone,(k5:Int),(k6:Int)⟩:Ex)) I q);have F9:=zc ((M6.out.alloc _).far_ex q);clear I q K;obtain⟨u0,u1,u2,u3,u4,uf⟩:=zl F9.out;have aj:=(Array.getElem?_eq_some_iff.1 F9.out).1)|((try go_simp);go_wp2_with (first|(go_at_call 109;refine (zaD S hS g _ 3 _ M.out.cur (by omega)).mono ?_;rintro e W6 ⟨rfl,al,ao⟩;have aC:=zaV S q5 3 (by omega);obtain⟨k6,ar⟩: ∃k:Nat,(bw S q5 3).1=k:=⟨(bw S q5 3).1.toNat,by omega⟩;obtain⟨q6,ax⟩: ∃Q,(bw S q5 3).2=Q:=⟨_,rfl⟩;rw[ar] at aC ⊢;rw[ax] at al;have M6:=zc (M.out.step al ao);clear al ao ar ax;obtain⟨X,Z,y2,y3,N,yf⟩:=zl M6.out.r7;have aJ:=(Array.getElem?_eq_some_iff.1 M6.out.r7).1)|(go_at_call 109;refine (zaD S hS g _ 3 _ A.out.cur (by omega)).mono ?_;rintro e W5 ⟨rfl,D,L⟩;have ad:=zaV S q4 3 (by omega);obtain⟨k5,ae⟩: ∃k:Nat,(bw S q4 3).1=k:=⟨(bw S q4 3).1.toNat,by omega⟩;obtain⟨q5,ac⟩: ∃Q,(bw S q4 3).2=Q:=⟨_,rfl⟩;rw[ae] at ad ⊢;rw[ac] at D;have M:=zc (A.out.step D L);clear D L ae ac;obtain⟨X,Z,y2,y3,N,yf⟩:=zl M.out.r7;have ai:=(Array.getElem?_eq_some_iff.1 M.out.r7).1)|(go_at_call 109;refine (zaD S hS g _ 9 _ O.out.drew.cur (by omega)).mono ?_;rintro e W4 ⟨rfl,j,o⟩;have E:=zaV S U 9 (by omega);obtain⟨k4,J⟩: ∃k:Nat,(bw S U 9).1=k:=⟨(bw S U 9).1.toNat,by omega⟩;obtain⟨q4,H⟩: ∃Q,(bw S U 9).2=Q:=⟨_,rfl⟩;rw[J] at E ⊢;rw[H] at j;have A:=zc (O.out.drew.step j o);clear j o J H;obtain⟨X,Z,y2,y3,N,yf⟩:=zl A.out.r7;have af:=(Array.getElem?_eq_some_iff.1 A.out.r7).1))))
   all_goals
    have D9:Hid (Drawn 1 {m with ex:=m.ex++[(⟨(k4:Int),0,sNone,sNone,(k5:Int),(k6:Int)⟩:Ex)]}):=⟨(n.out.more (Nat.zero_le 1)).rq,(n.out.more (Nat.zero_le 1)).im,(n.out.more (Nat.zero_le 1)).ep,(n.out.more (Nat.zero_le 1)).st,⟨by have:=n.out.ex.1;simp;omega,zdp n.out.ex.2 ⟨Nat.zero_le _,Nat.zero_le _,by simp,by simp⟩⟩,n.out.fair⟩
    clear c0 c1 c2 c3 c4 cf X Z y2 y3 N yf u0 u1 u2 u3 u4 uf F9
    go_wp2_with fail
    go_meet
    exact⟨_,_,_,A9.out,D9.out⟩
  ·by_cases ay:0<m.ex.length
   case neg=>
    have aE: ¬0<(m.ex.length:Int):=by omega
    go_wp2_with fail
    go_meet
    exact⟨_,_,_,O.out,n.out.more (by omega)⟩
   have aE:0<(m.ex.length:Int):=by omega
   have aL:=n.out.ex.1
   obtain⟨ge,am,_⟩:=O.out.own.expr ay
   have GA:=zc am
   rw[am] at c4
   clear am
   go_wp2_with fail
   go_region_held3 (fun W=>W.cell? ⟨b7,4,none⟩=some (.slice (some ⟨ge,0,none⟩) m.ex.length V.ex.cap)) (first|exact c4|exact N|exact z4|go_keep) (first|(go_at_call 109;refine (zaD S hS g _ 4 _ A.out.cur (by omega)).mono ?_;rintro e W5 ⟨rfl,D,L⟩;have ad:=zaV S q4 4 (by omega);obtain⟨k5,ae⟩: ∃k:Nat,(bw S q4 4).1=k:=⟨(bw S q4 4).1.toNat,by omega⟩;obtain⟨q5,ac⟩: ∃Q,(bw S q4 4).2=Q:=⟨_,rfl⟩;rw[ae] at ad ⊢;rw[ac] at D;have M:=zc (A.out.step D L);clear D L ae ac;clear X Z y2 y3 N yf;obtain⟨X,Z,y2,y3,N,yf⟩:=zl M.out.r7;rw[GA.out] at N;have kl:k4<m.ex.length:=Int.ofNat_lt.1 E.2;have aK:(k4:Int)<(m.ex.length:Int):=E.2;obtain⟨s0,sf⟩:=M.out.spot kl GA.out;have ai:=(Array.getElem?_eq_some_iff.1 M.out.r7).1;obtain⟨x,hx⟩: ∃x,m.ex[k4]? =some x:=⟨_,List.getElem?_eq_getElem kl⟩;have A9:=zc (M.out.num hx GA.out (k5:Int));obtain⟨_,_,_,_,z4,_⟩:=zl A9.out.r7;rw[GA.out,List.length_set] at z4)|(go_at_call 109;refine (zaD S hS g _ (m.ex.length:Int) _ O.out.drew.cur (by omega)).mono ?_;rintro e W4 ⟨rfl,j,o⟩;have E:=zaV S U (m.ex.length:Int) (by omega);obtain⟨k4,J⟩: ∃k:Nat,(bw S U (m.ex.length:Int)).1=k:=⟨(bw S U (m.ex.length:Int)).1.toNat,by omega⟩;obtain⟨q4,H⟩: ∃Q,(bw S U (m.ex.length:Int)).2=Q:=⟨_,rfl⟩;rw[J] at E ⊢;rw[H] at j;have A:=zc (O.out.drew.step j o);clear j o J H;obtain⟨X,Z,y2,y3,N,yf⟩:=zl A.out.r7;rw[GA.out] at N;have af:=(Array.getElem?_eq_some_iff.1 A.out.r7).1))
   all_goals
    have D9:Hid (Drawn 1 {m with ex:=m.ex.set k4 {x with num:=(k5:Int)}}):=⟨(n.out.more (Nat.zero_le 1)).rq,(n.out.more (Nat.zero_le 1)).im,(n.out.more (Nat.zero_le 1)).ep,(n.out.more (Nat.zero_le 1)).st,⟨by show (m.ex.set k4 _).length≤_;rw[List.length_set];omega,zmM n.out.ex.2 (by have:=n.out.ex.2 x (List.mem_of_getElem? hx);exact⟨this.1,this.2.1,by show 0≤(k5:Int);omega,by show (k5:Int)≤_;omega⟩)⟩,n.out.fair⟩
    clear c0 c1 c2 c3 c4 cf X Z y2 y3 N yf s0 sf
    go_wp2_with fail
    go_meet
    exact⟨_,_,_,A9.out,D9.out⟩
def zof (w:World) (e:Ending) (w':World):Prop:=∃(V:Sv) (m:Md) (scr:Bool),e= .returned (.tuple #[zp V m,.bool scr])∧OwnMd w' w.heap.size V m∧Drawn 1 m∧Below w.heap.size w w'
theorem ziS {w W j:World} {g:Nat} (h:Below w.heap.size w W) (k:W.grownBy j (some g)) (n:w.heap.size≤g):Below w.heap.size w j:=zk4 h k n h.size
theorem zog (S:Src) (U:S.ok) (w:World) (j:zct S w) (hl:S.lim≤w.heap.size) (ab:S.len≤1048576):
  Calls Tryz.prog 16 #[.slice S.a S.len S.cap] w (zof w):=by
 have Z:Hid (Below w.heap.size w (w.alloc (.cells #[.slice none 0 0,.slice none 0 0,.slice none 0 0,.slice none 0 0,.slice none 0 0] 28))):=(Below.refl _ _).alloc (Nat.le_refl _) _
 have HC:Hid (zct S (w.alloc (.cells #[.slice none 0 0,.slice none 0 0,.slice none 0 0,.slice none 0 0,.slice none 0 0] 28))):=zgc j Z.out hl
 clear j
 go_enter Tryz.func16,Tryz.ntmps16
 go_upto_region 1 with fail
 refine zau (R:=fun W=>W.heap[w.heap.size]? =some (.cells #[.slice none 0 0,.slice none 0 0,.slice none 0 0,.slice none 0 0,.slice none 0 0] 28 (0,0))∧zct S W∧Below w.heap.size w W∧w.heap.size<W.heap.size) ⟨heap_alloc_new w _,HC.out,Z.out,by rw[zk];omega⟩ ?_
 obtain⟨b,O⟩: ∃b,b=w.heap.size:=⟨_,rfl⟩
 rw[←O]
 rintro w1 ⟨K,N,o,M⟩
 clear Z HC
 have Q:=zc K
 have C1:=zc N
 rw[O] at o M
 have B1:=zc o
 clear K N o
 go_wp2_with fail
 refine (zkB S U w1 C1.out (by omega)).mono ?_
 rintro e w2 ⟨rfl,j,o⟩
 obtain⟨g,hg⟩: ∃g,g=w1.heap.size:=⟨_,rfl⟩
 rw[←hg] at j ⊢
 have J:=zc j
 have B2:=zc (B1.out.trans (o.mono (Nat.le_of_lt M)))
 have Y:=zc ((o.block _ (Array.getElem?_eq_some_iff.1 Q.out).1).trans Q.out)
 have H:w.heap.size≤g:=by omega
 have ad:b<g:=by omega
 have z:=zc O
 clear j o C1 Q B1 hg O
 go_wp2_with fail
 refine (zcD S U g _ 3 _ J.out (by omega)).mono ?_
 rintro e w3 ⟨rfl,j,q⟩
 obtain⟨q3,hq⟩: ∃q',(bw S (start S) 3).2=q':=⟨_,rfl⟩
 rw[hq] at j
 have aa:=zc j
 have B3:=zc (ziS B2.out q H)
 have X3:=zc ((q.block _ (Array.getElem?_eq_some_iff.1 Y.out).1 (by simp;omega)).trans Y.out)
 clear j q hq J B2 Y
 generalize ((bw S (start S) 3).1==0)=scr
 go_wp2_with fail
 refine (zlp S (by omega) 10 (by omega) (by omega) _).mono ?_
 rintro e w4 ⟨⟨r,rfl,hr⟩,hw⟩
 rw[hw]
 clear hw
 go_wp2_with fail
 refine (zoe S U g r (by omega) scr q3 _ aa.out).mono ?_
 rintro e w5 ⟨V,m,q5,rfl,E,hd,j,q⟩
 have L:=B3.out.size
 have I:Hid (OwnMd w5 w.heap.size V m):=⟨E.rq.low L,E.im.low L,E.ep.low L,E.st.low L,E.ex.low L⟩
 have D5:=zc hd
 have B5:=zc (ziS B3.out q H)
 have X5:=zc ((q.block _ (Array.getElem?_eq_some_iff.1 X3.out).1 (by simp;omega)).trans X3.out)
 clear E hd j q
 unfold zp
 obtain⟨d0,d1,d2,d3,d4,df⟩:=zl X5.out
 go_wp2
 refine bodyPost_ret (zaA rfl _ _ b 28 _ (0,0) _ rfl (zcZ X5.out) Tryz.underlying28 rfl (by kernel_rfl)) rfl ?_
 have A: ∀{e:TypeId} {D n:Nat} {r:Rw} {xs:List Value} (x0 x1 x2 x3 x4:Value),OwnR w5 w.heap.size e D r n xs→e≠28→OwnR (zdf w5 b x0 x1 x2 x3 x4) w.heap.size e D r n xs:=fun x0 x1 x2 x3 x4 K he=>K.keep fun k X=>zf8 (fun e=>by
  obtain⟨_,_,ac,j⟩:=K.typed X
  rw[e,X5.out] at j
  simp only[Option.some.injEq,Obj.cells.injEq] at j
  exact he j.2.1.symm) ..
 exact⟨V,m,scr,rfl,⟨A _ _ _ _ _ I.out.rq (by decide),A _ _ _ _ _ I.out.im (by decide),A _ _ _ _ _ I.out.ep (by decide),A _ _ _ _ _ I.out.st (by decide),A _ _ _ _ _ I.out.ex (by decide)⟩,D5.out,((((B5.out.setCell (Nat.le_of_eq z.out.symm) _).setCell (Nat.le_of_eq z.out.symm) _).setCell (Nat.le_of_eq z.out.symm) _).setCell (Nat.le_of_eq z.out.symm) _).setCell (Nat.le_of_eq z.out.symm) _⟩
def zaM {α:Type} (c:α→Nat) (l:List α):Nat:=(l.map c).sum
def zdB (x:ByteArray):Nat:=x.size
def zdg (x:Im):Nat:=x.spec.size+x.first.size+x.loc.size
def zdh (x:Ep):Nat:=x.name.size+x.loc.size+x.spec.size
def zej (x:Sm):Nat:=x.name.size
def zdC (x:Ex):Nat:=x.name.size+x.field.size
def zeT (m:Md):Nat:=(m.rq.length+zaM zdB m.rq)+(m.im.length+zaM zdg m.im)+(m.ep.length+zaM zdh m.ep)+(m.st.length+zaM zej m.st)+(m.ex.length+zaM zdC m.ex)
def zat (s:ByteArray):ByteArray:=({data:=#[34]}:ByteArray)++s++({data:=#[34]}:ByteArray)
def asT (a b:ByteArray):ByteArray:=if a.toList==b.toList then a else a++({data:=#[32,97,115,32]}:ByteArray)++b
def zZ (x:Im):ByteArray:=
 if x.first.toList==[42] then ({data:=#[105,109,112,111,114,116,32,42,32,97,115,32]}:ByteArray)++x.loc++({data:=#[32,102,114,111,109,32]}:ByteArray)++zat x.spec++({data:=#[59,10]}:ByteArray)
 else if x.first.toList==[100,101,102,97,117,108,116] then ({data:=#[105,109,112,111,114,116,32]}:ByteArray)++x.loc++({data:=#[32,102,114,111,109,32]}:ByteArray)++zat x.spec++({data:=#[59,10]}:ByteArray)
 else ({data:=#[105,109,112,111,114,116,32,123,32]}:ByteArray)++asT x.first x.loc++({data:=#[32,125,32,102,114,111,109,32]}:ByteArray)++zat x.spec++({data:=#[59,10]}:ByteArray)
def zbi (x:Ep):ByteArray:=
 if x.kind==3 then ({data:=#[101,120,112,111,114,116,32,42,32,102,114,111,109,32]}:ByteArray)++zat x.spec++({data:=#[59,10]}:ByteArray)
 else if x.kind==2 then ({data:=#[101,120,112,111,114,116,32,123,32]}:ByteArray)++asT x.loc x.name++({data:=#[32,125,32,102,114,111,109,32]}:ByteArray)++zat x.spec++({data:=#[59,10]}:ByteArray)
 else ({data:=#[101,120,112,111,114,116,32,123,32]}:ByteArray)++asT x.loc x.name++({data:=#[32,125,59,10]}:ByteArray)
def zaz (k:Int) (n e:ByteArray):ByteArray:=
 if k==1 then (if n.toList==[42,100,101,102,97,117,108,116] then ({data:=#[101,120,112,111,114,116,32,100,101,102,97,117,108,116,32]}:ByteArray)++e++({data:=#[59,10]}:ByteArray) else ({data:=#[108,101,116,32]}:ByteArray)++n++({data:=#[32,61,32]}:ByteArray)++e++({data:=#[59,10]}:ByteArray))
 else if k==2 then ({data:=#[102,117,110,99,116,105,111,110,32]}:ByteArray)++n++({data:=#[40,41,32,123,32,114,101,116,117,114,110,32]}:ByteArray)++e++({data:=#[59,32,125,10]}:ByteArray)
 else if k==3 then n++({data:=#[32,61,32]}:ByteArray)++e++({data:=#[59,10]}:ByteArray)
 else if k==4 then ({data:=#[112,114,105,110,116,40]}:ByteArray)++e++({data:=#[41,59,10]}:ByteArray)
 else if k==5 then ({data:=#[116,104,114,111,119,32]}:ByteArray)++e++({data:=#[59,10]}:ByteArray)
 else ({data:=#[102,97,105,108,32]}:ByteArray)++e++({data:=#[59,10]}:ByteArray)
def zcP (k:Int) (n e:ByteArray):ByteArray:=if n.toList==[42,100,101,102,97,117,108,116] then ({data:=#[101,120,112,111,114,116,32,100,101,102,97,117,108,116,32]}:ByteArray)++e++({data:=#[59,10]}:ByteArray) else zaz k n e
def rqT (s:ByteArray):ByteArray:=({data:=#[105,109,112,111,114,116,32]}:ByteArray)++zat s++({data:=#[59,10]}:ByteArray)
def acc {α:Type} (f:α→ByteArray) (l:List α) (t:ByteArray):ByteArray:=l.foldl (fun t x=>t++f x) t
theorem zbY {α:Type} (f:α→ByteArray) {l:List α} {j:Nat} {x:α} (h:l[j]? =some x) (t:ByteArray):acc f (l.take (j+1)) t=acc f (l.take j) t++f x:=by
 obtain⟨n,rfl⟩:=List.getElem?_eq_some_iff.1 h
 rw[List.take_succ_eq_append_getElem n,acc,List.foldl_append]
 rfl
theorem zdD {α:Type} (f:α→ByteArray) (l:List α): ∀t:ByteArray,t.size≤(acc f l t).size:=by
 induction l with
 |nil=>intro t;exact Nat.le_refl _
 |cons x l j=>
  intro t
  refine Nat.le_trans ?_ (j (t++f x))
  rw[ByteArray.size_append]
  omega
theorem zoh {α:Type} (f:α→ByteArray) (a b:List α) (t:ByteArray):acc f (a++b) t=acc f b (acc f a t):=by rw[acc,List.foldl_append];rfl
theorem zdr {α:Type} (f:α→ByteArray) (l:List α) (j:Nat) (t:ByteArray):(acc f (l.take j) t).size≤(acc f l t).size:=by
 have:acc f l t=acc f (l.drop j) (acc f (l.take j) t):=by rw[←zoh,List.take_append_drop]
 rw[this]
 exact zdD f _ _
def epF (x:Ep):ByteArray:=if x.loc.toList==[42,100,101,102,97,117,108,116] then sNone else zbi x
def stF (ex:List Ex) (s:Sm):ByteArray:=zaz s.kind s.name (prX ex s.expr.toNat)
def zcn (ex:List Ex) (s:Sm):ByteArray:=zcP s.kind s.name (prX ex s.expr.toNat)
def zbI (m:Md):ByteArray:=acc epF m.ep (acc zZ m.im (acc rqT m.rq sNone))
def zbJ (m:Md):ByteArray:=acc (stF m.ex) m.st (zbI m)
def zb1 (m:Md):ByteArray:=acc (zcn m.ex) m.st (zbI m)
def PrintOut (T:ByteArray) (m:Md) (e:Ending):Prop:=(Tree m∧e= .returned (.string T))∨(¬Tree m∧e= .returned (.string sNone))
structure Small (m:Md):Prop where
 rq: ∀x∈m.rq,x.size≤4294967296
 im: ∀x∈m.im,x.spec.size≤4294967296∧x.first.size≤4294967296∧x.loc.size≤4294967296
 ep: ∀x∈m.ep,x.spec.size≤4294967296∧x.name.size≤4294967296∧x.loc.size≤4294967296
 st: ∀x∈m.st,x.name.size≤4294967296
 nums:zbB m.ex
 few:m.rq.length≤4294967296∧m.im.length≤4294967296∧m.ep.length≤4294967296∧m.st.length≤4294967296∧m.ex.length≤4294967296
theorem zeU {α:Type} (f:α→ByteArray) (l:List α): ∀t:ByteArray,(acc f l t).size=t.size+(l.map fun x=>(f x).size).sum:=by
 induction l with
 |nil=>intro t;rfl
 |cons x l j=>
  intro t
  show (acc f l (t++f x)).size=_
  rw[j,ByteArray.size_append,List.map_cons,List.sum_cons,Nat.add_assoc]
theorem zf9 {α:Type} {f c:α→Nat} (l:List α) (h: ∀x∈l,f x≤40+c x):(l.map f).sum≤40*l.length+zaM c l:=by
 induction l with
 |nil=>exact Nat.le_refl _
 |cons x l j=>
  have o:=h x (List.mem_cons_self ..)
  have q:=j fun y n=>h y (List.mem_cons_of_mem _ n)
  unfold zaM at*
  rw[List.map_cons,List.sum_cons,List.map_cons,List.sum_cons,List.length_cons]
  omega
theorem ziT {α:Type} {f c g:α→Nat} (l:List α) (h: ∀x∈l,f x≤40+c x+g x):(l.map f).sum≤40*l.length+zaM c l+(l.map g).sum:=by
 induction l with
 |nil=>exact Nat.le_refl _
 |cons x l j=>
  have o:=h x (List.mem_cons_self ..)
  have q:=j fun y n=>h y (List.mem_cons_of_mem _ n)
  unfold zaM at*
  rw[List.map_cons,List.sum_cons,List.map_cons,List.sum_cons,List.map_cons,List.sum_cons,List.length_cons]
  omega
theorem zc3 (a:Array UInt8):(⟨a⟩:ByteArray).size=a.size:=rfl
theorem zek (s:ByteArray):(zat s).size=s.size+2:=by
 rw[zat,ByteArray.size_append,ByteArray.size_append,zc3]
 show 1+s.size+1=_
 omega
theorem ziU (a b:ByteArray):(asT a b).size≤a.size+b.size+4:=by
 unfold asT
 split
 ·omega
 ·have z:(({data:=#[32,97,115,32]}:ByteArray)).size=4:=rfl
  rw[ByteArray.size_append,ByteArray.size_append,z]
  omega
theorem zoi (s:ByteArray):(rqT s).size≤40+zdB s:=by
 rw[rqT,ByteArray.size_append,ByteArray.size_append,zek,zc3,zc3]
 show 7+(s.size+2)+2≤40+s.size
 omega
theorem zoj (x:Im):(zZ x).size≤40+zdg x:=by
 have j:=ziU x.first x.loc
 unfold zZ zdg
 split
 ·simp only[ByteArray.size_append,zek,zc3]
  simp only[List.size_toArray,List.length_cons,List.length_nil]
  omega
 ·split
  ·simp only[ByteArray.size_append,zek,zc3]
   simp only[List.size_toArray,List.length_cons,List.length_nil]
   omega
  ·simp only[ByteArray.size_append,zek,zc3]
   simp only[List.size_toArray,List.length_cons,List.length_nil]
   omega
theorem zok (x:Ep):(epF x).size≤40+zdh x:=by
 have j:=ziU x.loc x.name
 unfold epF
 split
 ·exact Nat.zero_le _
 ·unfold zbi zdh
  split
  ·simp only[ByteArray.size_append,zek,zc3]
   simp only[List.size_toArray,List.length_cons,List.length_nil]
   omega
  ·split
   ·simp only[ByteArray.size_append,zek,zc3]
    simp only[List.size_toArray,List.length_cons,List.length_nil]
    omega
   ·simp only[ByteArray.size_append,zc3]
    simp only[List.size_toArray,List.length_cons,List.length_nil]
    omega
theorem ziV (k:Int) (n e:ByteArray):(zaz k n e).size≤40+n.size+e.size:=by
 unfold zaz
 repeat' split
 all_goals
  simp only[ByteArray.size_append,zc3]
  simp only[List.size_toArray,List.length_cons,List.length_nil]
  omega
theorem zol (k:Int) (n e:ByteArray):(zcP k n e).size≤40+n.size+e.size:=by
 unfold zcP
 split
 ·simp only[ByteArray.size_append,zc3]
  simp only[List.size_toArray,List.length_cons,List.length_nil]
  omega
 ·exact ziV k n e
theorem zom (l:List Ex):(l.map cost).sum≤40*l.length+zaM zdC l:=zf9 l fun x _=>by unfold cost zdC;omega
theorem zon (m:Md):(zbI m).size≤40*m.rq.length+zaM zdB m.rq+(40*m.im.length+zaM zdg m.im)+(40*m.ep.length+zaM zdh m.ep):=by
 have o:=zf9 (c:=zdB) m.rq fun x _=>zoi x
 have j:=zf9 (c:=zdg) m.im fun x _=>zoj x
 have n:=zf9 (c:=zdh) m.ep fun x _=>zok x
 rw[zbI,zeU,zeU,zeU]
 have:sNone.size=0:=rfl
 omega
theorem zoo {m:Md} (t:Tree m) (j:zbB m.ex):(zbJ m).size≤40*zeT m∧(zb1 m).size≤40*zeT m:=by
 have z:=zon m
 have o:=zld t j
 have q:=zom m.ex
 have A:=ziT (c:=zej) (g:=fun s=>wt m.ex s.expr.toNat) (f:=fun s=>(stF m.ex s).size) m.st fun s _=>ziV s.kind s.name _
 have D:=ziT (c:=zej) (g:=fun s=>wt m.ex s.expr.toNat) (f:=fun s=>(zcn m.ex s).size) m.st fun s _=>zol s.kind s.name _
 have n:zeT m=(m.rq.length+zaM zdB m.rq)+(m.im.length+zaM zdg m.im)+(m.ep.length+zaM zdh m.ep)+(m.st.length+zaM zej m.st)+(m.ex.length+zaM zdC m.ex):=rfl
 constructor
 ·rw[zbJ,zeU]
  omega
 ·rw[zb1,zeU]
  omega
theorem zeV {α:Type} {c:α→Nat} {B:Nat} (l:List α) (h: ∀x∈l,c x≤B):zaM c l≤l.length*B:=by
 induction l with
 |nil=>exact Nat.zero_le _
 |cons x l j=>
  have o:=h x (List.mem_cons_self ..)
  have q:=j fun y n=>h y (List.mem_cons_of_mem _ n)
  unfold zaM at*
  rw[List.map_cons,List.sum_cons,List.length_cons,Nat.succ_mul]
  omega
theorem Drawn.nums {k:Nat} {m:Md} (h:Drawn k m):zbB m.ex:=fun x j=>by
 have:=(h.ex.2 x j).2.2
 omega
theorem Drawn.cost {m:Md} (h:Drawn 1 m):zeT m≤61000000:=by
 have J:=zeV (c:=zdB) (B:=20000) m.rq fun x j=>h.rq.2 x j
 have H:=zeV (c:=zdg) (B:=60000) m.im fun x j=>by have:=h.im.2 x j;unfold zdg;omega
 have I:=zeV (c:=zdh) (B:=60000) m.ep fun x j=>by have:=h.ep.2 x j;unfold zcM at this;unfold zdh;omega
 have z:=zeV (c:=zej) (B:=20000) m.st fun x j=>h.st.2 x j
 have o:=zeV (c:=zdC) (B:=40000) m.ex fun x j=>by have:=h.ex.2 x j;unfold zeM at this;unfold zdC;omega
 have E:=h.rq.1
 have A:=h.im.1
 have q:=h.ep.1
 have n:=h.st.1
 have D:=h.ex.1
 have e:zeT m=(m.rq.length+zaM zdB m.rq)+(m.im.length+zaM zdg m.im)+(m.ep.length+zaM zdh m.ep)+(m.st.length+zaM zej m.st)+(m.ex.length+zaM zdC m.ex):=rfl
 omega
theorem Drawn.small {m:Md} (h:Drawn 1 m):Small m:=by
 have A:=h.rq.1
 have q:=h.im.1
 have o:=h.ep.1
 have n:=h.st.1
 have z:=h.ex.1
 refine⟨fun x j=>?_,fun x j=>?_,fun x j=>?_,fun x j=>?_,h.nums,?_,?_,?_,?_,?_⟩
 ·have:=h.rq.2 x j
  omega
 ·have:=h.im.2 x j
  omega
 ·have:=h.ep.2 x j
  unfold zcM at this
  omega
 ·have:=h.st.2 x j
  omega
 all_goals omega
theorem Drawn.text {m:Md} (h:Drawn 1 m) (t:Tree m):(zbJ m).size≤4294967296∧(zb1 m).size≤4294967296:=by
 have:=zoo t h.nums
 have:=h.cost
 omega
def zbZ (P:Prop) (e:Ending):Prop:=∃b,e= .returned (.bool b)∧(b=true↔P)
theorem zaN {α:Type} {l:List α} {j:Nat} (h:j<l.length): ∃x,l[j]? =some x:=⟨_,List.getElem?_eq_getElem h⟩
theorem zcQ {α:Type} {o n:List α} {j:Nat} {x:α} (h:o.take j=n.take j) (A:o[j]? =some x) (q:n[j]? =some x):o.take (j+1)=n.take (j+1):=by
 obtain⟨a,rfl⟩:=List.getElem?_eq_some_iff.1 A
 obtain⟨b,z⟩:=List.getElem?_eq_some_iff.1 q
 rw[List.take_succ_eq_append_getElem a,List.take_succ_eq_append_getElem b,h,z]
theorem zcR {α:Type} {j n:List α} (o:j.length=n.length) (h:j.take j.length=n.take j.length):j=n:=by
 rw[List.take_length,o,List.take_length] at h
 exact h
theorem zeW {a b:ByteArray} (h:(a.toList==b.toList)=true):a=b:=(zkw a b).1 h
def zgL (x y:ByteArray):Bool:=x.toList==y.toList
theorem zfA {x y:ByteArray}:zgL x y=true↔x=y:=⟨fun h=>zeW h,fun h=>by rw[h];exact beq_self_eq_true _⟩
theorem zop (q A:Option Addr) (n j o z:Nat) (w:World) (h:(n:Int)≠(j:Int)):Calls Tryz.prog 104 #[.slice q n o,.slice A j z] w fun e D=>e= .returned (.bool false)∧Below w.heap.size w D:=by
 go_enter Tryz.func104,Tryz.ntmps104
 go_wp2
 go_ret
 exact⟨rfl,Below.refl _ _⟩
theorem zoq (z q:Option Addr) (n o:Nat) (w:World):Calls Tryz.prog 104 #[.slice z 0 n,.slice q 0 o] w fun e j=>e= .returned (.bool true)∧Below w.heap.size w j:=by
 go_enter Tryz.func104,Tryz.ntmps104
 go_wp2
 go_loopg [13] 1 (fun k i wr=>k=1∧i= .int .i64 0∧wr=w)
 case atStart=>exact⟨rfl,rfl,rfl⟩
 case round=>
  obtain⟨rfl,rfl,rfl⟩:=hrel
  go_wp2
  go_ret
  exact⟨rfl,Below.refl _ _⟩
theorem zor (b1 b2 O V:Nat) (U r2:Rw) (n z:List ByteArray) (w:World) (E:OwnR w b1 9 1 U n.length (n.flatMap (fun x=>[Value.string x]))) (J:OwnR w b2 9 1 r2 z.length (z.flatMap (fun x=>[Value.string x]))) (e1:U.a=some ⟨O,0,none⟩) (e2:r2.a=some ⟨V,0,none⟩) (hl:n.length=z.length) (Z:n.length≤4294967296):
  Calls Tryz.prog 104 #[.slice (some ⟨O,0,none⟩) n.length U.cap,.slice (some ⟨V,0,none⟩) n.length r2.cap] w fun e w'=>zbZ (n=z) e∧Below w.heap.size w w':=by
 have H1:=zc E
 have H2:=zc J
 have E1:=zc e1
 have E2:=zc e2
 have HL:=zc hl
 clear E J e1 e2 hl
 go_enter Tryz.func104,Tryz.ntmps104
 go_wp2
 go_loopg [13] n.length (fun k i wr=>∃j:Nat,i= .int .i64 j∧j+k=n.length∧n.take j=z.take j∧Below w.heap.size w wr)
 case atStart=>exact⟨0,rfl,by omega,rfl,Below.refl _ _⟩
 case round=>
  obtain⟨j,rfl,hj,ht,Z⟩:=hrel
  have A:=zc Z
  have HT:=zc ht
  clear Z ht
  by_cases I:j<n.length
  ·have H:(j:Int)<(n.length:Int):=by omega
   obtain⟨x,X⟩:=zaN I
   obtain⟨y,Q⟩:=zaN (show j<z.length by rw[←HL.out];exact I)
   obtain⟨Y,ga,E⟩:=OwnR.elem (f:=(fun x=>[Value.string x])) (m:=1) (fun _=>rfl) (H1.out.keep fun k g=>A.out.block k (H1.out.typed g).2.1) X
   obtain rfl:Y=O:=by have:=ga.symm.trans E1.out;simpa using this
   obtain⟨Y,gb,J⟩:=OwnR.elem (f:=(fun x=>[Value.string x])) (m:=1) (fun _=>rfl) (H2.out.keep fun k g=>A.out.block k (H2.out.typed g).2.1) Q
   obtain rfl:Y=V:=by have:=gb.symm.trans E2.out;simpa using this
   have C0:=zc (E 0 (by omega))
   have D0:=zc (J 0 (by omega))
   have HX:=zc X
   have HY:=zc Q
   clear E J ga gb X Q
   obtain⟨L,D⟩: ∃L,L=j+1:=⟨_,rfl⟩
   have ej:(j:Int)+1=(L:Int):=by omega
   have HJ:=zc D
   clear D
   obtain⟨b,o⟩: ∃b,zgL x y=b:=⟨_,rfl⟩
   have aa:(x.toList==y.toList)=b:=o
   go_wp2
   have k0:=cell_regrown C0.out
   have m0:=cell_regrown D0.out
   simp only[Nat.add_zero,Nat.mul_one] at k0 m0
   refine wp_region_quiet_below (by kernel_rfl) (by kernel_rfl) ?_
   repeat (go_big_quiet_step (fail))
   refine wpQuiet_nil ?_
   intro w2 M
   obtain⟨⟨dq,N⟩,q⟩:=M
   have K:Hid (Below w.heap.size w w2):=by show Below _ _ _;rw[q];exact A.out.trans ((below_regrown wr dq N).mono A.out.size)
   clear q k0 m0 C0 D0
   cases b with
   |true=>
    go_wp2
    go_roundg (gk-1)
    case rel=>exact⟨L,rfl,by have:=HJ.out;omega,by rw[HJ.out];have e:=zfA.1 o;exact zcQ HT.out HX.out (by rw[e];exact HY.out),K.out⟩
    case measure=>omega
   |false=>
    go_wp2
    go_ret
    exact⟨⟨false,rfl,⟨fun k=>(by cases k),fun k=>(by have e:=HX.out;rw[k,HY.out] at e;cases e;rw[zfA.2 rfl] at o;cases o)⟩⟩,K.out⟩
  ·have H: ¬(j:Int)<(n.length:Int):=by omega
   obtain rfl:j=n.length:=by omega
   go_wp2
   go_ret
   exact⟨⟨true,rfl,⟨fun _=>zcR HL.out HT.out,fun _=>rfl⟩⟩,A.out⟩
theorem zos (J b2:Nat) (A z:Rw) (j n:List ByteArray) (w:World) (L:OwnR w J 9 1 A j.length (j.flatMap (fun x=>[Value.string x]))) (I:OwnR w b2 9 1 z n.length (n.flatMap (fun x=>[Value.string x]))) (M:j.length≤4294967296):
  Calls Tryz.prog 104 #[.slice A.a j.length A.cap,.slice z.a n.length z.cap] w fun e E=>zbZ (j=n) e∧Below w.heap.size w E:=by
 by_cases q:j.length=n.length
 ·rw[←q]
  by_cases o:j.length=0
  ·rw[o]
   refine (zoq _ _ _ _ w).mono ?_
   rintro e E ⟨rfl,D⟩
   exact⟨⟨true,rfl,⟨fun _=>(by rw[List.eq_nil_of_length_eq_zero o,List.eq_nil_of_length_eq_zero (q.symm.trans o)]),fun _=>rfl⟩⟩,D⟩
  ·rcases L.nil_or with ⟨_,_,e⟩|⟨O,H⟩
   ·exact absurd e o
   ·rcases I.nil_or with ⟨_,_,e⟩|⟨N,K⟩
    ·exact absurd (q.trans e) o
    ·rw[H,K]
     exact zor J b2 O N A z j n w L I H K q M
 ·refine (zop _ _ _ _ _ _ w (by omega)).mono ?_
  rintro e E ⟨rfl,D⟩
  exact⟨⟨false,rfl,⟨fun k=>(by cases k),fun k=>absurd (by rw[k]) q⟩⟩,D⟩
def zco (x y:Im):Bool:=x.spec.toList==y.spec.toList&&x.first.toList==y.first.toList&&x.loc.toList==y.loc.toList
theorem zeX {x y:Im}:zco x y=true↔x=y:=by
 constructor
 ·intro h
  unfold zco at h
  simp only[Bool.and_eq_true] at h
  obtain⟨⟨n,o⟩,j⟩:=h
  cases x
  cases y
  simp only at n o j
  congr 1<;>first|(apply zeW;assumption)|(apply eq_of_beq;assumption)
 ·intro h
  rw[h]
  simp[zco]
theorem zot (q A:Option Addr) (j n o z:Nat) (w:World) (h:(j:Int)≠(n:Int)):Calls Tryz.prog 105 #[.slice q j o,.slice A n z] w fun e D=>e= .returned (.bool false)∧Below w.heap.size w D:=by
 go_enter Tryz.func105,Tryz.ntmps105
 go_wp2
 go_ret
 exact⟨rfl,Below.refl _ _⟩
theorem zou (z q:Option Addr) (n o:Nat) (w:World):Calls Tryz.prog 105 #[.slice z 0 n,.slice q 0 o] w fun e j=>e= .returned (.bool true)∧Below w.heap.size w j:=by
 go_enter Tryz.func105,Tryz.ntmps105
 go_wp2
 go_loopg [13] 1 (fun k i wr=>k=1∧i= .int .i64 0∧wr=w)
 case atStart=>exact⟨rfl,rfl,rfl⟩
 case round=>
  obtain⟨rfl,rfl,rfl⟩:=hrel
  go_wp2
  go_ret
  exact⟨rfl,Below.refl _ _⟩
theorem zov (aa: ∀(x y:Im) (W:World),Sem.run Tryz.prog (binOp .neq 100 (.agg #[.string x.spec,.string x.first,.string x.loc]) (.agg #[.string y.spec,.string y.first,.string y.loc])) W= .ok (.bool (!zco x y)) W) (N: ∀(J:BinOp) (a b:Operand) (x y:Im) (W:World),Sem.run Tryz.prog (eqGuard J 100 a b (.agg #[.string x.spec,.string x.first,.string x.loc]) (.agg #[.string y.spec,.string y.first,.string y.loc])) W= .ok () W) (b1 b2 U Y:Nat) (X r2:Rw) (n D:List Im) (w:World) (z:OwnR w b1 100 3 X n.length (n.flatMap imL)) (A:OwnR w b2 100 3 r2 D.length (D.flatMap imL)) (e1:X.a=some ⟨U,0,none⟩) (e2:r2.a=some ⟨Y,0,none⟩) (hl:n.length=D.length) (hb:n.length≤4294967296):
  Calls Tryz.prog 105 #[.slice (some ⟨U,0,none⟩) n.length X.cap,.slice (some ⟨Y,0,none⟩) n.length r2.cap] w fun e w'=>zbZ (n=D) e∧Below w.heap.size w w':=by
 have H1:=zc z
 have H2:=zc A
 have E1:=zc e1
 have E2:=zc e2
 have HL:=zc hl
 clear z A e1 e2 hl
 go_enter Tryz.func105,Tryz.ntmps105
 go_wp2
 go_loopg [13] n.length (fun k i wr=>∃j:Nat,i= .int .i64 j∧j+k=n.length∧n.take j=D.take j∧Below w.heap.size w wr)
 case atStart=>exact⟨0,rfl,by omega,rfl,Below.refl _ _⟩
 case round=>
  obtain⟨j,rfl,hj,ht,hb⟩:=hrel
  have E:=zc hb
  have HT:=zc ht
  clear hb ht
  by_cases K:j<n.length
  ·have I:(j:Int)<(n.length:Int):=by omega
   obtain⟨x,Z⟩:=zaN K
   obtain⟨y,V⟩:=zaN (show j<D.length by rw[←HL.out];exact K)
   obtain⟨g',ga,z⟩:=OwnR.elem (f:=imL) (m:=3) (fun _=>rfl) (H1.out.keep fun k g=>E.out.block k (H1.out.typed g).2.1) Z
   obtain rfl:g'=U:=by have:=ga.symm.trans E1.out;simpa using this
   obtain⟨g',gb,A⟩:=OwnR.elem (f:=imL) (m:=3) (fun _=>rfl) (H2.out.keep fun k g=>E.out.block k (H2.out.typed g).2.1) V
   obtain rfl:g'=Y:=by have:=gb.symm.trans E2.out;simpa using this
   have C0:=zc (z 0 (by omega))
   have D0:=zc (A 0 (by omega))
   have C1:=zc (z 1 (by omega))
   have D1:=zc (A 1 (by omega))
   have C2:=zc (z 2 (by omega))
   have D2:=zc (A 2 (by omega))
   have HX:=zc Z
   have HY:=zc V
   clear z A ga gb Z V
   obtain⟨M,H⟩: ∃M,M=j+1:=⟨_,rfl⟩
   have ej:(j:Int)+1=(M:Int):=by omega
   have HJ:=zc H
   clear H
   obtain⟨b,o⟩: ∃b,zco x y=b:=⟨_,rfl⟩
   have ab: ∀W:World,Sem.run Tryz.prog (binOp .neq 100 (.agg #[.string x.spec,.string x.first,.string x.loc]) (.agg #[.string y.spec,.string y.first,.string y.loc])) W= .ok (.bool !b) W:=fun W=>by rw[aa,o]
   have ac: ∀(J:BinOp) (a b:Operand) (W:World),Sem.run Tryz.prog (eqGuard J 100 a b (.agg #[.string x.spec,.string x.first,.string x.loc]) (.agg #[.string y.spec,.string y.first,.string y.loc])) W= .ok () W:=fun J a b W=>N J a b x y W
   go_wp2
   have k0:=cell_regrown C0.out
   have m0:=cell_regrown D0.out
   have k1:=cell_regrown C1.out
   have m1:=cell_regrown D1.out
   have k2:=cell_regrown C2.out
   have m2:=cell_regrown D2.out
   simp only[Nat.add_zero] at k0 m0
   refine wp_region_quiet_below (by kernel_rfl) (by kernel_rfl) ?_
   repeat (go_big_quiet_step (fail))
   refine wpQuiet_nil ?_
   intro w2 O
   obtain⟨⟨dq,Q⟩,q⟩:=O
   have L:Hid (Below w.heap.size w w2):=by show Below _ _ _;rw[q];exact E.out.trans ((below_regrown wr dq Q).mono E.out.size)
   clear q k0 m0 C0 D0 k1 m1 C1 D1 k2 m2 C2 D2
   cases b with
   |true=>
    go_wp2
    go_roundg (gk-1)
    case rel=>exact⟨M,rfl,by have:=HJ.out;omega,by rw[HJ.out];have e:=zeX.1 o;exact zcQ HT.out HX.out (by rw[e];exact HY.out),L.out⟩
    case measure=>omega
   |false=>
    go_wp2
    go_ret
    exact⟨⟨false,rfl,⟨fun k=>(by cases k),fun k=>(by have e:=HX.out;rw[k,HY.out] at e;cases e;rw[zeX.2 rfl] at o;cases o)⟩⟩,L.out⟩
  ·have I: ¬(j:Int)<(n.length:Int):=by omega
   obtain rfl:j=n.length:=by omega
   go_wp2
   go_ret
   exact⟨⟨true,rfl,⟨fun _=>zcR HL.out HT.out,fun _=>rfl⟩⟩,E.out⟩
theorem zow (I: ∀(x y:Im) (W:World),Sem.run Tryz.prog (binOp .neq 100 (.agg #[.string x.spec,.string x.first,.string x.loc]) (.agg #[.string y.spec,.string y.first,.string y.loc])) W= .ok (.bool (!zco x y)) W) (D: ∀(V:BinOp) (a b:Operand) (x y:Im) (W:World),Sem.run Tryz.prog (eqGuard V 100 a b (.agg #[.string x.spec,.string x.first,.string x.loc]) (.agg #[.string y.spec,.string y.first,.string y.loc])) W= .ok () W) (J b2:Nat) (z A:Rw) (j n:List Im) (w:World) (L:OwnR w J 100 3 z j.length (j.flatMap imL)) (M:OwnR w b2 100 3 A n.length (n.flatMap imL)) (U:j.length≤4294967296):
  Calls Tryz.prog 105 #[.slice z.a j.length z.cap,.slice A.a n.length A.cap] w fun e E=>zbZ (j=n) e∧Below w.heap.size w E:=by
 by_cases q:j.length=n.length
 ·rw[←q]
  by_cases o:j.length=0
  ·rw[o]
   refine (zou _ _ _ _ w).mono ?_
   rintro e E ⟨rfl,H⟩
   exact⟨⟨true,rfl,⟨fun _=>(by rw[List.eq_nil_of_length_eq_zero o,List.eq_nil_of_length_eq_zero (q.symm.trans o)]),fun _=>rfl⟩⟩,H⟩
  ·rcases L.nil_or with ⟨_,_,e⟩|⟨O,K⟩
   ·exact absurd e o
   ·rcases M.nil_or with ⟨_,_,e⟩|⟨Q,N⟩
    ·exact absurd (q.trans e) o
    ·rw[K,N]
     exact zov I D J b2 O Q z A j n w L M K N q U
 ·refine (zot _ _ _ _ _ _ w (by omega)).mono ?_
  rintro e E ⟨rfl,H⟩
  exact⟨⟨false,rfl,⟨fun k=>(by cases k),fun k=>absurd (by rw[k]) q⟩⟩,H⟩
def zcp (x y:Ep):Bool:=x.kind==y.kind&&x.name.toList==y.name.toList&&x.loc.toList==y.loc.toList&&x.spec.toList==y.spec.toList
theorem zeY {x y:Ep}:zcp x y=true↔x=y:=by
 constructor
 ·intro h
  unfold zcp at h
  simp only[Bool.and_eq_true] at h
  obtain⟨⟨⟨o,q⟩,j⟩,n⟩:=h
  cases x
  cases y
  simp only at o q j n
  congr 1<;>first|(apply zeW;assumption)|(apply eq_of_beq;assumption)
 ·intro h
  rw[h]
  simp[zcp]
theorem zox (q A:Option Addr) (j n o z:Nat) (w:World) (h:(j:Int)≠(n:Int)):Calls Tryz.prog 106 #[.slice q j o,.slice A n z] w fun e D=>e= .returned (.bool false)∧Below w.heap.size w D:=by
 go_enter Tryz.func106,Tryz.ntmps106
 go_wp2
 go_ret
 exact⟨rfl,Below.refl _ _⟩
theorem zoy (z q:Option Addr) (n o:Nat) (w:World):Calls Tryz.prog 106 #[.slice z 0 n,.slice q 0 o] w fun e j=>e= .returned (.bool true)∧Below w.heap.size w j:=by
 go_enter Tryz.func106,Tryz.ntmps106
 go_wp2
 go_loopg [13] 1 (fun k i wr=>k=1∧i= .int .i64 0∧wr=w)
 case atStart=>exact⟨rfl,rfl,rfl⟩
 case round=>
  obtain⟨rfl,rfl,rfl⟩:=hrel
  go_wp2
  go_ret
  exact⟨rfl,Below.refl _ _⟩
theorem zoz (aa: ∀(x y:Ep) (W:World),Sem.run Tryz.prog (binOp .neq 102 (.agg #[.int .i64 x.kind,.string x.name,.string x.loc,.string x.spec]) (.agg #[.int .i64 y.kind,.string y.name,.string y.loc,.string y.spec])) W= .ok (.bool (!zcp x y)) W) (N: ∀(J:BinOp) (a b:Operand) (x y:Ep) (W:World),Sem.run Tryz.prog (eqGuard J 102 a b (.agg #[.int .i64 x.kind,.string x.name,.string x.loc,.string x.spec]) (.agg #[.int .i64 y.kind,.string y.name,.string y.loc,.string y.spec])) W= .ok () W) (b1 b2 U Y:Nat) (X r2:Rw) (n D:List Ep) (w:World) (z:OwnR w b1 102 4 X n.length (n.flatMap epL)) (A:OwnR w b2 102 4 r2 D.length (D.flatMap epL)) (e1:X.a=some ⟨U,0,none⟩) (e2:r2.a=some ⟨Y,0,none⟩) (hl:n.length=D.length) (hb:n.length≤4294967296):
  Calls Tryz.prog 106 #[.slice (some ⟨U,0,none⟩) n.length X.cap,.slice (some ⟨Y,0,none⟩) n.length r2.cap] w fun e w'=>zbZ (n=D) e∧Below w.heap.size w w':=by
 have H1:=zc z
 have H2:=zc A
 have E1:=zc e1
 have E2:=zc e2
 have HL:=zc hl
 clear z A e1 e2 hl
 go_enter Tryz.func106,Tryz.ntmps106
 go_wp2
 go_loopg [13] n.length (fun k i wr=>∃j:Nat,i= .int .i64 j∧j+k=n.length∧n.take j=D.take j∧Below w.heap.size w wr)
 case atStart=>exact⟨0,rfl,by omega,rfl,Below.refl _ _⟩
 case round=>
  obtain⟨j,rfl,hj,ht,hb⟩:=hrel
  have E:=zc hb
  have HT:=zc ht
  clear hb ht
  by_cases K:j<n.length
  ·have I:(j:Int)<(n.length:Int):=by omega
   obtain⟨x,Z⟩:=zaN K
   obtain⟨y,V⟩:=zaN (show j<D.length by rw[←HL.out];exact K)
   obtain⟨g',ga,z⟩:=OwnR.elem (f:=epL) (m:=4) (fun _=>rfl) (H1.out.keep fun k g=>E.out.block k (H1.out.typed g).2.1) Z
   obtain rfl:g'=U:=by have:=ga.symm.trans E1.out;simpa using this
   obtain⟨g',gb,A⟩:=OwnR.elem (f:=epL) (m:=4) (fun _=>rfl) (H2.out.keep fun k g=>E.out.block k (H2.out.typed g).2.1) V
   obtain rfl:g'=Y:=by have:=gb.symm.trans E2.out;simpa using this
   have C0:=zc (z 0 (by omega))
   have D0:=zc (A 0 (by omega))
   have C1:=zc (z 1 (by omega))
   have D1:=zc (A 1 (by omega))
   have C2:=zc (z 2 (by omega))
   have D2:=zc (A 2 (by omega))
   have C3:=zc (z 3 (by omega))
   have D3:=zc (A 3 (by omega))
   have HX:=zc Z
   have HY:=zc V
   clear z A ga gb Z V
   obtain⟨M,H⟩: ∃M,M=j+1:=⟨_,rfl⟩
   have ej:(j:Int)+1=(M:Int):=by omega
   have HJ:=zc H
   clear H
   obtain⟨b,o⟩: ∃b,zcp x y=b:=⟨_,rfl⟩
   have ab: ∀W:World,Sem.run Tryz.prog (binOp .neq 102 (.agg #[.int .i64 x.kind,.string x.name,.string x.loc,.string x.spec]) (.agg #[.int .i64 y.kind,.string y.name,.string y.loc,.string y.spec])) W= .ok (.bool !b) W:=fun W=>by rw[aa,o]
   have ac: ∀(J:BinOp) (a b:Operand) (W:World),Sem.run Tryz.prog (eqGuard J 102 a b (.agg #[.int .i64 x.kind,.string x.name,.string x.loc,.string x.spec]) (.agg #[.int .i64 y.kind,.string y.name,.string y.loc,.string y.spec])) W= .ok () W:=fun J a b W=>N J a b x y W
   go_wp2
   have k0:=cell_regrown C0.out
   have m0:=cell_regrown D0.out
   have k1:=cell_regrown C1.out
   have m1:=cell_regrown D1.out
   have k2:=cell_regrown C2.out
   have m2:=cell_regrown D2.out
   have k3:=cell_regrown C3.out
   have m3:=cell_regrown D3.out
   simp only[Nat.add_zero] at k0 m0
   refine wp_region_quiet_below (by kernel_rfl) (by kernel_rfl) ?_
   repeat (go_big_quiet_step (fail))
   refine wpQuiet_nil ?_
   intro w2 O
   obtain⟨⟨dq,Q⟩,q⟩:=O
   have L:Hid (Below w.heap.size w w2):=by show Below _ _ _;rw[q];exact E.out.trans ((below_regrown wr dq Q).mono E.out.size)
   clear q k0 m0 C0 D0 k1 m1 C1 D1 k2 m2 C2 D2 k3 m3 C3 D3
   cases b with
   |true=>
    go_wp2
    go_roundg (gk-1)
    case rel=>exact⟨M,rfl,by have:=HJ.out;omega,by rw[HJ.out];have e:=zeY.1 o;exact zcQ HT.out HX.out (by rw[e];exact HY.out),L.out⟩
    case measure=>omega
   |false=>
    go_wp2
    go_ret
    exact⟨⟨false,rfl,⟨fun k=>(by cases k),fun k=>(by have e:=HX.out;rw[k,HY.out] at e;cases e;rw[zeY.2 rfl] at o;cases o)⟩⟩,L.out⟩
  ·have I: ¬(j:Int)<(n.length:Int):=by omega
   obtain rfl:j=n.length:=by omega
   go_wp2
   go_ret
   exact⟨⟨true,rfl,⟨fun _=>zcR HL.out HT.out,fun _=>rfl⟩⟩,E.out⟩
theorem zo0 (I: ∀(x y:Ep) (W:World),Sem.run Tryz.prog (binOp .neq 102 (.agg #[.int .i64 x.kind,.string x.name,.string x.loc,.string x.spec]) (.agg #[.int .i64 y.kind,.string y.name,.string y.loc,.string y.spec])) W= .ok (.bool (!zcp x y)) W) (D: ∀(V:BinOp) (a b:Operand) (x y:Ep) (W:World),Sem.run Tryz.prog (eqGuard V 102 a b (.agg #[.int .i64 x.kind,.string x.name,.string x.loc,.string x.spec]) (.agg #[.int .i64 y.kind,.string y.name,.string y.loc,.string y.spec])) W= .ok () W) (J b2:Nat) (z A:Rw) (j n:List Ep) (w:World) (L:OwnR w J 102 4 z j.length (j.flatMap epL)) (M:OwnR w b2 102 4 A n.length (n.flatMap epL)) (U:j.length≤4294967296):
  Calls Tryz.prog 106 #[.slice z.a j.length z.cap,.slice A.a n.length A.cap] w fun e E=>zbZ (j=n) e∧Below w.heap.size w E:=by
 by_cases q:j.length=n.length
 ·rw[←q]
  by_cases o:j.length=0
  ·rw[o]
   refine (zoy _ _ _ _ w).mono ?_
   rintro e E ⟨rfl,H⟩
   exact⟨⟨true,rfl,⟨fun _=>(by rw[List.eq_nil_of_length_eq_zero o,List.eq_nil_of_length_eq_zero (q.symm.trans o)]),fun _=>rfl⟩⟩,H⟩
  ·rcases L.nil_or with ⟨_,_,e⟩|⟨O,K⟩
   ·exact absurd e o
   ·rcases M.nil_or with ⟨_,_,e⟩|⟨Q,N⟩
    ·exact absurd (q.trans e) o
    ·rw[K,N]
     exact zoz I D J b2 O Q z A j n w L M K N q U
 ·refine (zox _ _ _ _ _ _ w (by omega)).mono ?_
  rintro e E ⟨rfl,H⟩
  exact⟨⟨false,rfl,⟨fun k=>(by cases k),fun k=>absurd (by rw[k]) q⟩⟩,H⟩
def zcq (x y:Sm):Bool:=x.kind==y.kind&&x.name.toList==y.name.toList&&x.expr==y.expr
theorem zeZ {x y:Sm}:zcq x y=true↔x=y:=by
 constructor
 ·intro h
  unfold zcq at h
  simp only[Bool.and_eq_true] at h
  obtain⟨⟨n,o⟩,j⟩:=h
  cases x
  cases y
  simp only at n o j
  congr 1<;>first|(apply zeW;assumption)|(apply eq_of_beq;assumption)
 ·intro h
  rw[h]
  simp[zcq]
theorem zo1 (q A:Option Addr) (j n o z:Nat) (w:World) (h:(j:Int)≠(n:Int)):Calls Tryz.prog 107 #[.slice q j o,.slice A n z] w fun e D=>e= .returned (.bool false)∧Below w.heap.size w D:=by
 go_enter Tryz.func107,Tryz.ntmps107
 go_wp2
 go_ret
 exact⟨rfl,Below.refl _ _⟩
theorem zo2 (z q:Option Addr) (n o:Nat) (w:World):Calls Tryz.prog 107 #[.slice z 0 n,.slice q 0 o] w fun e j=>e= .returned (.bool true)∧Below w.heap.size w j:=by
 go_enter Tryz.func107,Tryz.ntmps107
 go_wp2
 go_loopg [13] 1 (fun k i wr=>k=1∧i= .int .i64 0∧wr=w)
 case atStart=>exact⟨rfl,rfl,rfl⟩
 case round=>
  obtain⟨rfl,rfl,rfl⟩:=hrel
  go_wp2
  go_ret
  exact⟨rfl,Below.refl _ _⟩
theorem zo3 (aa: ∀(x y:Sm) (W:World),Sem.run Tryz.prog (binOp .neq 106 (.agg #[.int .i64 x.kind,.string x.name,.int .i64 x.expr]) (.agg #[.int .i64 y.kind,.string y.name,.int .i64 y.expr])) W= .ok (.bool (!zcq x y)) W) (N: ∀(J:BinOp) (a b:Operand) (x y:Sm) (W:World),Sem.run Tryz.prog (eqGuard J 106 a b (.agg #[.int .i64 x.kind,.string x.name,.int .i64 x.expr]) (.agg #[.int .i64 y.kind,.string y.name,.int .i64 y.expr])) W= .ok () W) (b1 b2 U Y:Nat) (X r2:Rw) (n D:List Sm) (w:World) (z:OwnR w b1 106 3 X n.length (n.flatMap smL)) (A:OwnR w b2 106 3 r2 D.length (D.flatMap smL)) (e1:X.a=some ⟨U,0,none⟩) (e2:r2.a=some ⟨Y,0,none⟩) (hl:n.length=D.length) (hb:n.length≤4294967296):
  Calls Tryz.prog 107 #[.slice (some ⟨U,0,none⟩) n.length X.cap,.slice (some ⟨Y,0,none⟩) n.length r2.cap] w fun e w'=>zbZ (n=D) e∧Below w.heap.size w w':=by
 have H1:=zc z
 have H2:=zc A
 have E1:=zc e1
 have E2:=zc e2
 have HL:=zc hl
 clear z A e1 e2 hl
 go_enter Tryz.func107,Tryz.ntmps107
 go_wp2
 go_loopg [13] n.length (fun k i wr=>∃j:Nat,i= .int .i64 j∧j+k=n.length∧n.take j=D.take j∧Below w.heap.size w wr)
 case atStart=>exact⟨0,rfl,by omega,rfl,Below.refl _ _⟩
 case round=>
  obtain⟨j,rfl,hj,ht,hb⟩:=hrel
  have E:=zc hb
  have HT:=zc ht
  clear hb ht
  by_cases K:j<n.length
  ·have I:(j:Int)<(n.length:Int):=by omega
   obtain⟨x,Z⟩:=zaN K
   obtain⟨y,V⟩:=zaN (show j<D.length by rw[←HL.out];exact K)
   obtain⟨g',ga,z⟩:=OwnR.elem (f:=smL) (m:=3) (fun _=>rfl) (H1.out.keep fun k g=>E.out.block k (H1.out.typed g).2.1) Z
   obtain rfl:g'=U:=by have:=ga.symm.trans E1.out;simpa using this
   obtain⟨g',gb,A⟩:=OwnR.elem (f:=smL) (m:=3) (fun _=>rfl) (H2.out.keep fun k g=>E.out.block k (H2.out.typed g).2.1) V
   obtain rfl:g'=Y:=by have:=gb.symm.trans E2.out;simpa using this
   have C0:=zc (z 0 (by omega))
   have D0:=zc (A 0 (by omega))
   have C1:=zc (z 1 (by omega))
   have D1:=zc (A 1 (by omega))
   have C2:=zc (z 2 (by omega))
   have D2:=zc (A 2 (by omega))
   have HX:=zc Z
   have HY:=zc V
   clear z A ga gb Z V
   obtain⟨M,H⟩: ∃M,M=j+1:=⟨_,rfl⟩
   have ej:(j:Int)+1=(M:Int):=by omega
   have HJ:=zc H
   clear H
   obtain⟨b,o⟩: ∃b,zcq x y=b:=⟨_,rfl⟩
   have ab: ∀W:World,Sem.run Tryz.prog (binOp .neq 106 (.agg #[.int .i64 x.kind,.string x.name,.int .i64 x.expr]) (.agg #[.int .i64 y.kind,.string y.name,.int .i64 y.expr])) W= .ok (.bool !b) W:=fun W=>by rw[aa,o]
   have ac: ∀(J:BinOp) (a b:Operand) (W:World),Sem.run Tryz.prog (eqGuard J 106 a b (.agg #[.int .i64 x.kind,.string x.name,.int .i64 x.expr]) (.agg #[.int .i64 y.kind,.string y.name,.int .i64 y.expr])) W= .ok () W:=fun J a b W=>N J a b x y W
   go_wp2
   have k0:=cell_regrown C0.out
   have m0:=cell_regrown D0.out
   have k1:=cell_regrown C1.out
   have m1:=cell_regrown D1.out
   have k2:=cell_regrown C2.out
   have m2:=cell_regrown D2.out
   simp only[Nat.add_zero] at k0 m0
   refine wp_region_quiet_below (by kernel_rfl) (by kernel_rfl) ?_
   repeat (go_big_quiet_step (fail))
   refine wpQuiet_nil ?_
   intro w2 O
   obtain⟨⟨dq,Q⟩,q⟩:=O
   have L:Hid (Below w.heap.size w w2):=by show Below _ _ _;rw[q];exact E.out.trans ((below_regrown wr dq Q).mono E.out.size)
   clear q k0 m0 C0 D0 k1 m1 C1 D1 k2 m2 C2 D2
   cases b with
   |true=>
    go_wp2
    go_roundg (gk-1)
    case rel=>exact⟨M,rfl,by have:=HJ.out;omega,by rw[HJ.out];have e:=zeZ.1 o;exact zcQ HT.out HX.out (by rw[e];exact HY.out),L.out⟩
    case measure=>omega
   |false=>
    go_wp2
    go_ret
    exact⟨⟨false,rfl,⟨fun k=>(by cases k),fun k=>(by have e:=HX.out;rw[k,HY.out] at e;cases e;rw[zeZ.2 rfl] at o;cases o)⟩⟩,L.out⟩
  ·have I: ¬(j:Int)<(n.length:Int):=by omega
   obtain rfl:j=n.length:=by omega
   go_wp2
   go_ret
   exact⟨⟨true,rfl,⟨fun _=>zcR HL.out HT.out,fun _=>rfl⟩⟩,E.out⟩
theorem zo4 (I: ∀(x y:Sm) (W:World),Sem.run Tryz.prog (binOp .neq 106 (.agg #[.int .i64 x.kind,.string x.name,.int .i64 x.expr]) (.agg #[.int .i64 y.kind,.string y.name,.int .i64 y.expr])) W= .ok (.bool (!zcq x y)) W) (D: ∀(V:BinOp) (a b:Operand) (x y:Sm) (W:World),Sem.run Tryz.prog (eqGuard V 106 a b (.agg #[.int .i64 x.kind,.string x.name,.int .i64 x.expr]) (.agg #[.int .i64 y.kind,.string y.name,.int .i64 y.expr])) W= .ok () W) (J b2:Nat) (z A:Rw) (j n:List Sm) (w:World) (L:OwnR w J 106 3 z j.length (j.flatMap smL)) (M:OwnR w b2 106 3 A n.length (n.flatMap smL)) (U:j.length≤4294967296):
  Calls Tryz.prog 107 #[.slice z.a j.length z.cap,.slice A.a n.length A.cap] w fun e E=>zbZ (j=n) e∧Below w.heap.size w E:=by
 by_cases q:j.length=n.length
 ·rw[←q]
  by_cases o:j.length=0
  ·rw[o]
   refine (zo2 _ _ _ _ w).mono ?_
   rintro e E ⟨rfl,H⟩
   exact⟨⟨true,rfl,⟨fun _=>(by rw[List.eq_nil_of_length_eq_zero o,List.eq_nil_of_length_eq_zero (q.symm.trans o)]),fun _=>rfl⟩⟩,H⟩
  ·rcases L.nil_or with ⟨_,_,e⟩|⟨O,K⟩
   ·exact absurd e o
   ·rcases M.nil_or with ⟨_,_,e⟩|⟨Q,N⟩
    ·exact absurd (q.trans e) o
    ·rw[K,N]
     exact zo3 I D J b2 O Q z A j n w L M K N q U
 ·refine (zo1 _ _ _ _ _ _ w (by omega)).mono ?_
  rintro e E ⟨rfl,H⟩
  exact⟨⟨false,rfl,⟨fun k=>(by cases k),fun k=>absurd (by rw[k]) q⟩⟩,H⟩
def zcr (x y:Ex):Bool:=x.kind==y.kind&&x.num==y.num&&x.name.toList==y.name.toList&&x.field.toList==y.field.toList&&x.l==y.l&&x.r==y.r
theorem zfa {x y:Ex}:zcr x y=true↔x=y:=by
 constructor
 ·intro h
  unfold zcr at h
  simp only[Bool.and_eq_true] at h
  obtain⟨⟨⟨⟨⟨n,A⟩,q⟩,z⟩,o⟩,j⟩:=h
  cases x
  cases y
  simp only at n A q z o j
  congr 1<;>first|(apply zeW;assumption)|(apply eq_of_beq;assumption)
 ·intro h
  rw[h]
  simp[zcr]
theorem zo5 (q A:Option Addr) (j n o z:Nat) (w:World) (h:(j:Int)≠(n:Int)):Calls Tryz.prog 108 #[.slice q j o,.slice A n z] w fun e D=>e= .returned (.bool false)∧Below w.heap.size w D:=by
 go_enter Tryz.func108,Tryz.ntmps108
 go_wp2
 go_ret
 exact⟨rfl,Below.refl _ _⟩
theorem zo6 (z q:Option Addr) (n o:Nat) (w:World):Calls Tryz.prog 108 #[.slice z 0 n,.slice q 0 o] w fun e j=>e= .returned (.bool true)∧Below w.heap.size w j:=by
 go_enter Tryz.func108,Tryz.ntmps108
 go_wp2
 go_loopg [13] 1 (fun k i wr=>k=1∧i= .int .i64 0∧wr=w)
 case atStart=>exact⟨rfl,rfl,rfl⟩
 case round=>
  obtain⟨rfl,rfl,rfl⟩:=hrel
  go_wp2
  go_ret
  exact⟨rfl,Below.refl _ _⟩
theorem zo7 (aa: ∀(x y:Ex) (W:World),Sem.run Tryz.prog (binOp .neq 108 (.agg #[.int .i64 x.kind,.int .i64 x.num,.string x.name,.string x.field,.int .i64 x.l,.int .i64 x.r]) (.agg #[.int .i64 y.kind,.int .i64 y.num,.string y.name,.string y.field,.int .i64 y.l,.int .i64 y.r])) W= .ok (.bool (!zcr x y)) W) (N: ∀(J:BinOp) (a b:Operand) (x y:Ex) (W:World),Sem.run Tryz.prog (eqGuard J 108 a b (.agg #[.int .i64 x.kind,.int .i64 x.num,.string x.name,.string x.field,.int .i64 x.l,.int .i64 x.r]) (.agg #[.int .i64 y.kind,.int .i64 y.num,.string y.name,.string y.field,.int .i64 y.l,.int .i64 y.r])) W= .ok () W) (b1 b2 U Y:Nat) (X r2:Rw) (n D:List Ex) (w:World) (o:OwnR w b1 108 6 X n.length (n.flatMap exL)) (q:OwnR w b2 108 6 r2 D.length (D.flatMap exL)) (e1:X.a=some ⟨U,0,none⟩) (e2:r2.a=some ⟨Y,0,none⟩) (hl:n.length=D.length) (hb:n.length≤4294967296):
  Calls Tryz.prog 108 #[.slice (some ⟨U,0,none⟩) n.length X.cap,.slice (some ⟨Y,0,none⟩) n.length r2.cap] w fun e w'=>zbZ (n=D) e∧Below w.heap.size w w':=by
 have H1:=zc o
 have H2:=zc q
 have E1:=zc e1
 have E2:=zc e2
 have HL:=zc hl
 clear o q e1 e2 hl
 go_enter Tryz.func108,Tryz.ntmps108
 go_wp2
 go_loopg [13] n.length (fun k i wr=>∃j:Nat,i= .int .i64 j∧j+k=n.length∧n.take j=D.take j∧Below w.heap.size w wr)
 case atStart=>exact⟨0,rfl,by omega,rfl,Below.refl _ _⟩
 case round=>
  obtain⟨j,rfl,hj,ht,hb⟩:=hrel
  have E:=zc hb
  have HT:=zc ht
  clear hb ht
  by_cases K:j<n.length
  ·have I:(j:Int)<(n.length:Int):=by omega
   obtain⟨x,Z⟩:=zaN K
   obtain⟨y,V⟩:=zaN (show j<D.length by rw[←HL.out];exact K)
   obtain⟨g',ga,o⟩:=OwnR.elem (f:=exL) (m:=6) (fun _=>rfl) (H1.out.keep fun k g=>E.out.block k (H1.out.typed g).2.1) Z
   obtain rfl:g'=U:=by have:=ga.symm.trans E1.out;simpa using this
   obtain⟨g',gb,q⟩:=OwnR.elem (f:=exL) (m:=6) (fun _=>rfl) (H2.out.keep fun k g=>E.out.block k (H2.out.typed g).2.1) V
   obtain rfl:g'=Y:=by have:=gb.symm.trans E2.out;simpa using this
   have C0:=zc (o 0 (by omega))
   have D0:=zc (q 0 (by omega))
   have C1:=zc (o 1 (by omega))
   have D1:=zc (q 1 (by omega))
   have C2:=zc (o 2 (by omega))
   have D2:=zc (q 2 (by omega))
   have C3:=zc (o 3 (by omega))
   have D3:=zc (q 3 (by omega))
   have C4:=zc (o 4 (by omega))
   have D4:=zc (q 4 (by omega))
   have C5:=zc (o 5 (by omega))
   have D5:=zc (q 5 (by omega))
   have HX:=zc Z
   have HY:=zc V
   clear o q ga gb Z V
   obtain⟨M,H⟩: ∃M,M=j+1:=⟨_,rfl⟩
   have ej:(j:Int)+1=(M:Int):=by omega
   have HJ:=zc H
   clear H
   obtain⟨b,z⟩: ∃b,zcr x y=b:=⟨_,rfl⟩
   have ab: ∀W:World,Sem.run Tryz.prog (binOp .neq 108 (.agg #[.int .i64 x.kind,.int .i64 x.num,.string x.name,.string x.field,.int .i64 x.l,.int .i64 x.r]) (.agg #[.int .i64 y.kind,.int .i64 y.num,.string y.name,.string y.field,.int .i64 y.l,.int .i64 y.r])) W= .ok (.bool !b) W:=fun W=>by rw[aa,z]
   have ac: ∀(J:BinOp) (a b:Operand) (W:World),Sem.run Tryz.prog (eqGuard J 108 a b (.agg #[.int .i64 x.kind,.int .i64 x.num,.string x.name,.string x.field,.int .i64 x.l,.int .i64 x.r]) (.agg #[.int .i64 y.kind,.int .i64 y.num,.string y.name,.string y.field,.int .i64 y.l,.int .i64 y.r])) W= .ok () W:=fun J a b W=>N J a b x y W
   go_wp2
   have k0:=cell_regrown C0.out
   have m0:=cell_regrown D0.out
   have k1:=cell_regrown C1.out
   have m1:=cell_regrown D1.out
   have k2:=cell_regrown C2.out
   have m2:=cell_regrown D2.out
   have k3:=cell_regrown C3.out
   have m3:=cell_regrown D3.out
   have k4:=cell_regrown C4.out
   have m4:=cell_regrown D4.out
   have k5:=cell_regrown C5.out
   have m5:=cell_regrown D5.out
   simp only[Nat.add_zero] at k0 m0
   refine wp_region_quiet_below (by kernel_rfl) (by kernel_rfl) ?_
   repeat (go_big_quiet_step (fail))
   refine wpQuiet_nil ?_
   intro w2 O
   obtain⟨⟨dq,Q⟩,A⟩:=O
   have L:Hid (Below w.heap.size w w2):=by show Below _ _ _;rw[A];exact E.out.trans ((below_regrown wr dq Q).mono E.out.size)
   clear A k0 m0 C0 D0 k1 m1 C1 D1 k2 m2 C2 D2 k3 m3 C3 D3 k4 m4 C4 D4 k5 m5 C5 D5
   cases b with
   |true=>
    go_wp2
    go_roundg (gk-1)
    case rel=>exact⟨M,rfl,by have:=HJ.out;omega,by rw[HJ.out];have e:=zfa.1 z;exact zcQ HT.out HX.out (by rw[e];exact HY.out),L.out⟩
    case measure=>omega
   |false=>
    go_wp2
    go_ret
    exact⟨⟨false,rfl,⟨fun k=>(by cases k),fun k=>(by have e:=HX.out;rw[k,HY.out] at e;cases e;rw[zfa.2 rfl] at z;cases z)⟩⟩,L.out⟩
  ·have I: ¬(j:Int)<(n.length:Int):=by omega
   obtain rfl:j=n.length:=by omega
   go_wp2
   go_ret
   exact⟨⟨true,rfl,⟨fun _=>zcR HL.out HT.out,fun _=>rfl⟩⟩,E.out⟩
theorem zo8 (I: ∀(x y:Ex) (W:World),Sem.run Tryz.prog (binOp .neq 108 (.agg #[.int .i64 x.kind,.int .i64 x.num,.string x.name,.string x.field,.int .i64 x.l,.int .i64 x.r]) (.agg #[.int .i64 y.kind,.int .i64 y.num,.string y.name,.string y.field,.int .i64 y.l,.int .i64 y.r])) W= .ok (.bool (!zcr x y)) W) (D: ∀(V:BinOp) (a b:Operand) (x y:Ex) (W:World),Sem.run Tryz.prog (eqGuard V 108 a b (.agg #[.int .i64 x.kind,.int .i64 x.num,.string x.name,.string x.field,.int .i64 x.l,.int .i64 x.r]) (.agg #[.int .i64 y.kind,.int .i64 y.num,.string y.name,.string y.field,.int .i64 y.l,.int .i64 y.r])) W= .ok () W) (J b2:Nat) (z A:Rw) (j n:List Ex) (w:World) (L:OwnR w J 108 6 z j.length (j.flatMap exL)) (M:OwnR w b2 108 6 A n.length (n.flatMap exL)) (U:j.length≤4294967296):
  Calls Tryz.prog 108 #[.slice z.a j.length z.cap,.slice A.a n.length A.cap] w fun e E=>zbZ (j=n) e∧Below w.heap.size w E:=by
 by_cases q:j.length=n.length
 ·rw[←q]
  by_cases o:j.length=0
  ·rw[o]
   refine (zo6 _ _ _ _ w).mono ?_
   rintro e E ⟨rfl,H⟩
   exact⟨⟨true,rfl,⟨fun _=>(by rw[List.eq_nil_of_length_eq_zero o,List.eq_nil_of_length_eq_zero (q.symm.trans o)]),fun _=>rfl⟩⟩,H⟩
  ·rcases L.nil_or with ⟨_,_,e⟩|⟨O,K⟩
   ·exact absurd e o
   ·rcases M.nil_or with ⟨_,_,e⟩|⟨Q,N⟩
    ·exact absurd (q.trans e) o
    ·rw[K,N]
     exact zo7 I D J b2 O Q z A j n w L M K N q U
 ·refine (zo5 _ _ _ _ _ _ w (by omega)).mono ?_
  rintro e E ⟨rfl,H⟩
  exact⟨⟨false,rfl,⟨fun k=>(by cases k),fun k=>absurd (by rw[k]) q⟩⟩,H⟩
theorem zel (l:List ByteArray):l.map Value.string=l.flatMap (fun x=>[Value.string x]):=by
 induction l with
 |nil=>rfl
 |cons x l j=>rw[List.map_cons,List.flatMap_cons,j];rfl
def TwoM (w0:World) (b1 b2:Nat) (S1 S2:Sv) (m1 m2:Md) (w:World):Prop:=
 w.heap[w0.heap.size]? =some (.cells #[.slice S1.rq.a m1.rq.length S1.rq.cap,.slice S1.im.a m1.im.length S1.im.cap,.slice S1.ep.a m1.ep.length S1.ep.cap,.slice S1.st.a m1.st.length S1.st.cap,.slice S1.ex.a m1.ex.length S1.ex.cap] 28 (0,0))∧w.heap[w0.heap.size+1]? =some (.cells #[.slice S2.rq.a m2.rq.length S2.rq.cap,.slice S2.im.a m2.im.length S2.im.cap,.slice S2.ep.a m2.ep.length S2.ep.cap,.slice S2.st.a m2.st.length S2.st.cap,.slice S2.ex.a m2.ex.length S2.ex.cap] 28 (0,0))∧OwnMd w b1 S1 m1∧OwnMd w b2 S2 m2∧Below w0.heap.size w0 w
theorem TwoM.later {w0 w n:World} {q b2:Nat} {z D:Sv} {o A:Md} (h:TwoM w0 q b2 z D o A w) (j:Below w.heap.size w n):TwoM w0 q b2 z D o A n:=
 ⟨(j.block _ (Array.getElem?_eq_some_iff.1 h.1).1).trans h.1,(j.block _ (Array.getElem?_eq_some_iff.1 h.2.1).1).trans h.2.1,h.2.2.1.later j,h.2.2.2.1.later j,h.2.2.2.2.trans (j.mono h.2.2.2.2.size)⟩
theorem zgM (w:World) (D b2:Nat) (j o:Sv) (n q:Md) (H:OwnMd w D j n) (E:OwnMd w b2 o q):TwoM w D b2 j o n q ((w.alloc (.cells #[.slice j.rq.a n.rq.length j.rq.cap,.slice j.im.a n.im.length j.im.cap,.slice j.ep.a n.ep.length j.ep.cap,.slice j.st.a n.st.length j.st.cap,.slice j.ex.a n.ex.length j.ex.cap] 28)).alloc (.cells #[.slice o.rq.a q.rq.length o.rq.cap,.slice o.im.a q.im.length o.im.cap,.slice o.ep.a q.ep.length o.ep.cap,.slice o.st.a q.st.length o.st.cap,.slice o.ex.a q.ex.length o.ex.cap] 28)):=by
 have A:Below w.heap.size w (w.alloc (.cells #[.slice j.rq.a n.rq.length j.rq.cap,.slice j.im.a n.im.length j.im.cap,.slice j.ep.a n.ep.length j.ep.cap,.slice j.st.a n.st.length j.st.cap,.slice j.ex.a n.ex.length j.ex.cap] 28)):=(Below.refl _ _).alloc (Nat.le_refl _) _
 have z:Below (w.alloc (.cells #[.slice j.rq.a n.rq.length j.rq.cap,.slice j.im.a n.im.length j.im.cap,.slice j.ep.a n.ep.length j.ep.cap,.slice j.st.a n.st.length j.st.cap,.slice j.ex.a n.ex.length j.ex.cap] 28)).heap.size (w.alloc (.cells #[.slice j.rq.a n.rq.length j.rq.cap,.slice j.im.a n.im.length j.im.cap,.slice j.ep.a n.ep.length j.ep.cap,.slice j.st.a n.st.length j.st.cap,.slice j.ex.a n.ex.length j.ex.cap] 28)) ((w.alloc (.cells #[.slice j.rq.a n.rq.length j.rq.cap,.slice j.im.a n.im.length j.im.cap,.slice j.ep.a n.ep.length j.ep.cap,.slice j.st.a n.st.length j.st.cap,.slice j.ex.a n.ex.length j.ex.cap] 28)).alloc (.cells #[.slice o.rq.a q.rq.length o.rq.cap,.slice o.im.a q.im.length o.im.cap,.slice o.ep.a q.ep.length o.ep.cap,.slice o.st.a q.st.length o.st.cap,.slice o.ex.a q.ex.length o.ex.cap] 28)):=(Below.refl _ _).alloc (Nat.le_refl _) _
 refine⟨(z.block _ (by rw[zk];omega)).trans (heap_alloc_new w _),?_,(H.later A).later z,(E.later A).later z,A.trans (z.mono (by rw[zk];omega))⟩
 have:=heap_alloc_new (w.alloc (.cells #[.slice j.rq.a n.rq.length j.rq.cap,.slice j.im.a n.im.length j.im.cap,.slice j.ep.a n.ep.length j.ep.cap,.slice j.st.a n.st.length j.st.cap,.slice j.ex.a n.ex.length j.ex.cap] 28)) (.cells #[.slice o.rq.a q.rq.length o.rq.cap,.slice o.im.a q.im.length o.im.cap,.slice o.ep.a q.ep.length o.ep.cap,.slice o.st.a q.st.length o.st.cap,.slice o.ex.a q.ex.length o.ex.cap] 28)
 rw[zk] at this
 exact this
def zem (m:Md):Prop:=m.rq.length≤4294967296∧m.im.length≤4294967296∧m.ep.length≤4294967296∧m.st.length≤4294967296∧m.ex.length≤4294967296
theorem ziW {a b:Md} (z:a.rq=b.rq) (o:a.im=b.im) (q:a.ep=b.ep) (n:a.st=b.st) (j:a.ex=b.ex):a=b:=by
 cases a
 cases b
 simp only at z o q n j
 rw[z,o,q,n,j]
theorem zo9 (z q:Option Addr) (n o:Nat) (w:World):Calls Tryz.prog 66 #[.slice z 0 n,.slice q 0 o] w fun e j=>e= .returned (.bool true)∧Below w.heap.size w j:=by
 go_enter Tryz.func66,Tryz.ntmps66
 go_wp2
 go_loopg [5] 1 (fun k i wr=>k=1∧i= .int .i64 0∧wr=w)
 case atStart=>exact⟨rfl,rfl,rfl⟩
 case round=>
  obtain⟨rfl,rfl,rfl⟩:=hrel
  go_wp2
  go_ret
  exact⟨rfl,Below.refl _ _⟩
theorem zoA (b1 b2 J L:Nat) (K Q:Rw) (l:List ByteArray) (w:World) (z:OwnR w b1 9 1 K l.length (l.flatMap (fun x=>[Value.string x]))) (D:OwnR w b2 9 1 Q l.length (l.flatMap (fun x=>[Value.string x]))) (V:K.a=some ⟨J,0,none⟩) (e2:Q.a=some ⟨L,0,none⟩) (hl:l.length≤4294967296):
  Calls Tryz.prog 66 #[.slice (some ⟨J,0,none⟩) l.length K.cap,.slice (some ⟨L,0,none⟩) l.length Q.cap] w fun e w'=>e= .returned (.bool true)∧Below w.heap.size w w':=by
 have X:=zc z
 have H2:=zc D
 have E1:=zc V
 have E2:=zc e2
 clear z D V e2
 go_enter Tryz.func66,Tryz.ntmps66
 go_wp2
 go_loopg [5] l.length (fun k i wr=>∃j:Nat,i= .int .i64 j∧j+k=l.length∧Below w.heap.size w wr)
 case atStart=>exact⟨0,rfl,by omega,Below.refl _ _⟩
 case round=>
  obtain⟨j,rfl,hj,hb⟩:=hrel
  have o:=zc hb
  clear hb
  by_cases O:j<l.length
  ·have A:(j:Int)<(l.length:Int):=by omega
   obtain⟨x,M⟩:=zaN O
   obtain⟨N,ga,z⟩:=OwnR.elem (f:=(fun x=>[Value.string x])) (m:=1) (fun _=>rfl) (X.out.keep fun k g=>o.out.block k (X.out.typed g).2.1) M
   obtain rfl:N=J:=by have:=ga.symm.trans E1.out;simpa using this
   obtain⟨N,gb,D⟩:=OwnR.elem (f:=(fun x=>[Value.string x])) (m:=1) (fun _=>rfl) (H2.out.keep fun k g=>o.out.block k (H2.out.typed g).2.1) M
   obtain rfl:N=L:=by have:=gb.symm.trans E2.out;simpa using this
   have Y:=zc (z 0 (by omega))
   have D0:=zc (D 0 (by omega))
   clear z D ga gb M
   obtain⟨E,q⟩: ∃E,E=j+1:=⟨_,rfl⟩
   have ej:(j:Int)+1=(E:Int):=by omega
   have HJ:=zc q
   clear q
   go_wp2
   have Z:=cell_regrown Y.out
   have l0:=cell_regrown D0.out
   simp only[Nat.add_zero,Nat.mul_one] at Z l0
   refine wp_region_quiet_below (by kernel_rfl) (by kernel_rfl) ?_
   repeat (go_big_quiet_step (fail))
   refine wpQuiet_nil ?_
   intro w2 H
   obtain⟨⟨dq,I⟩,n⟩:=H
   have U:Hid (Below w.heap.size w w2):=by show Below _ _ _;rw[n];exact o.out.trans ((below_regrown wr dq I).mono o.out.size)
   clear n Z l0 Y D0
   go_wp2
   go_roundg (gk-1)
   case rel=>exact⟨E,rfl,by have:=HJ.out;omega,U.out⟩
   case measure=>omega
  ·have A: ¬(j:Int)<(l.length:Int):=by omega
   go_wp2
   go_ret
   exact⟨rfl,o.out⟩
theorem zoB (A b2:Nat) (n j:Rw) (l:List ByteArray) (w:World) (E:OwnR w A 9 1 n l.length (l.flatMap (fun x=>[Value.string x]))) (z:OwnR w b2 9 1 j l.length (l.flatMap (fun x=>[Value.string x]))) (I:l.length≤4294967296):
  Calls Tryz.prog 66 #[.slice n.a l.length n.cap,.slice j.a l.length j.cap] w fun e J=>e= .returned (.bool true)∧Below w.heap.size w J:=by
 by_cases o:l.length=0
 ·rw[o]
  exact zo9 _ _ _ _ w
 ·rcases E.nil_or with ⟨_,_,e⟩|⟨K,q⟩
  ·exact absurd e o
  ·rcases z.nil_or with ⟨_,_,e⟩|⟨H,D⟩
   ·exact absurd e o
   ·rw[q,D]
    exact zoA A b2 K H n j l w E z q D I
theorem zoC (aj: ∀(x y:Im) (W:World),Sem.run Tryz.prog (binOp .neq 100 (.agg #[.string x.spec,.string x.first,.string x.loc]) (.agg #[.string y.spec,.string y.first,.string y.loc])) W= .ok (.bool (!zco x y)) W) (ag: ∀(H:BinOp) (a b:Operand) (x y:Im) (W:World),Sem.run Tryz.prog (eqGuard H 100 a b (.agg #[.string x.spec,.string x.first,.string x.loc]) (.agg #[.string y.spec,.string y.first,.string y.loc])) W= .ok () W) (ac: ∀(x y:Ep) (W:World),Sem.run Tryz.prog (binOp .neq 102 (.agg #[.int .i64 x.kind,.string x.name,.string x.loc,.string x.spec]) (.agg #[.int .i64 y.kind,.string y.name,.string y.loc,.string y.spec])) W= .ok (.bool (!zcp x y)) W) (ae: ∀(H:BinOp) (a b:Operand) (x y:Ep) (W:World),Sem.run Tryz.prog (eqGuard H 102 a b (.agg #[.int .i64 x.kind,.string x.name,.string x.loc,.string x.spec]) (.agg #[.int .i64 y.kind,.string y.name,.string y.loc,.string y.spec])) W= .ok () W) (ai: ∀(x y:Sm) (W:World),Sem.run Tryz.prog (binOp .neq 106 (.agg #[.int .i64 x.kind,.string x.name,.int .i64 x.expr]) (.agg #[.int .i64 y.kind,.string y.name,.int .i64 y.expr])) W= .ok (.bool (!zcq x y)) W) (af: ∀(H:BinOp) (a b:Operand) (x y:Sm) (W:World),Sem.run Tryz.prog (eqGuard H 106 a b (.agg #[.int .i64 x.kind,.string x.name,.int .i64 x.expr]) (.agg #[.int .i64 y.kind,.string y.name,.int .i64 y.expr])) W= .ok () W) (ah: ∀(x y:Ex) (W:World),Sem.run Tryz.prog (binOp .neq 108 (.agg #[.int .i64 x.kind,.int .i64 x.num,.string x.name,.string x.field,.int .i64 x.l,.int .i64 x.r]) (.agg #[.int .i64 y.kind,.int .i64 y.num,.string y.name,.string y.field,.int .i64 y.l,.int .i64 y.r])) W= .ok (.bool (!zcr x y)) W) (ad: ∀(H:BinOp) (a b:Operand) (x y:Ex) (W:World),Sem.run Tryz.prog (eqGuard H 108 a b (.agg #[.int .i64 x.kind,.int .i64 x.num,.string x.name,.string x.field,.int .i64 x.l,.int .i64 x.r]) (.agg #[.int .i64 y.kind,.int .i64 y.num,.string y.name,.string y.field,.int .i64 y.l,.int .i64 y.r])) W= .ok () W) (b1 b2:Nat) (S1 S2:Sv) (m:Md) (w:World) (z:OwnMd w b1 S1 m) (q:OwnMd w b2 S2 m) (hf:zem m):
  Calls Tryz.prog 19 #[zp S1 m,zp S2 m] w fun e w'=>e= .returned (.bool true)∧Below w.heap.size w w':=by
 have H1:=zc z
 have H2:=zc q
 obtain⟨f1,f2,f3,f4,f5⟩:=hf
 clear z q
 unfold zp
 go_enter Tryz.func19,Tryz.ntmps19
 go_upto_region 1 with fail
 refine zau (R:=TwoM w b1 b2 S1 S2 m m) (zgM w b1 b2 S1 S2 m m H1.out H2.out) ?_
 clear H1 H2
 intro w0 h
 have T0:=zc h
 clear h
 obtain⟨c0,U,Q,K,J,cf⟩:=zl T0.out.1
 obtain⟨d0,M,N,L,O,df⟩:=zl T0.out.2.1
 go_wp2_with fail
 refine (zoB b1 b2 S1.rq S2.rq m.rq w0 (by rw[←zel];exact T0.out.2.2.1.rq) (by rw[←zel];exact T0.out.2.2.2.1.rq) f1).mono ?_
 rintro e w1 ⟨rfl,hb⟩
 have T:=zc (T0.out.later hb)
 clear hb c0 U Q K J cf d0 M N L O df T0
 obtain⟨c0,U,Q,K,J,cf⟩:=zl T.out.1
 obtain⟨d0,M,N,L,O,df⟩:=zl T.out.2.1
 go_wp2
 go_loopg [5] m.im.length (fun k i wr=>∃j:Nat,i= .int .i64 j∧j+k=m.im.length∧TwoM w b1 b2 S1 S2 m m wr)
 case atStart=>exact⟨0,rfl,by omega,T.out⟩
 case round=>
  obtain⟨j,rfl,hj,hT⟩:=hrel
  clear T c0 U Q K J cf d0 M N L O df
  have T:=zc hT
  clear hT
  obtain⟨c0,U,Q,K,J,cf⟩:=zl T.out.1
  obtain⟨d0,M,N,L,O,df⟩:=zl T.out.2.1
  by_cases D:j<m.im.length
  ·have o:(j:Int)<(m.im.length:Int):=by omega
   obtain⟨x,X⟩:=zaN D
   obtain⟨g1,ga,z⟩:=OwnR.elem (f:=imL) (m:=3) (fun _=>rfl) T.out.2.2.1.im X
   obtain⟨g2,gb,q⟩:=OwnR.elem (f:=imL) (m:=3) (fun _=>rfl) T.out.2.2.2.1.im X
   rw[ga] at U
   rw[gb] at M
   obtain⟨y,V⟩: ∃y,y=x:=⟨_,rfl⟩
   rw[←V] at q
   obtain⟨b,E⟩: ∃b,zco x y=b:=⟨_,rfl⟩
   have BT:Hid (b=true):=by show _=_;rw[←E,V];exact zeX.2 rfl
   have C0:=zc (z 0 (by omega))
   have D0:=zc (q 0 (by omega))
   have C1:=zc (z 1 (by omega))
   have D1:=zc (q 1 (by omega))
   have C2:=zc (z 2 (by omega))
   have D2:=zc (q 2 (by omega))
   clear z q ga gb X
   obtain⟨I,A⟩: ∃I,I=j+1:=⟨_,rfl⟩
   have ej:(j:Int)+1=(I:Int):=by omega
   have HJ:=zc A
   clear A
   have Y: ∀W:World,Sem.run Tryz.prog (binOp .neq 100 (.agg #[.string x.spec,.string x.first,.string x.loc]) (.agg #[.string y.spec,.string y.first,.string y.loc])) W= .ok (.bool !b) W:=fun W=>by rw[aj,E]
   have ab: ∀(H:BinOp) (a b:Operand) (W:World),Sem.run Tryz.prog (eqGuard H 100 a b (.agg #[.string x.spec,.string x.first,.string x.loc]) (.agg #[.string y.spec,.string y.first,.string y.loc])) W= .ok () W:=fun H a b W=>ag H a b x y W
   clear V
   go_wp2
   have kc:=cell_regrown U
   have kd:=cell_regrown M
   have k0:=cell_regrown C0.out
   have v0:=cell_regrown D0.out
   have k1:=cell_regrown C1.out
   have v1:=cell_regrown D1.out
   have k2:=cell_regrown C2.out
   have v2:=cell_regrown D2.out
   simp only[Nat.add_zero] at k0 v0
   refine wp_region_quiet_below (by kernel_rfl) (by kernel_rfl) ?_
   repeat (go_big_quiet_step (fail))
   refine wpQuiet_nil ?_
   intro w2 Z
   obtain⟨⟨dq,aa⟩,n⟩:=Z
   have T2:Hid (TwoM w b1 b2 S1 S2 m m w2):=by show TwoM _ _ _ _ _ _ _ _;rw[n];exact T.out.later (below_regrown wr dq aa)
   clear n kc kd c0 U Q K J cf d0 M N L O df Y ab k0 v0 C0 D0 k1 v1 C1 D1 k2 v2 C2 D2
   cases b with
   |false=>exact absurd BT.out (by decide)
   |true=>
    go_wp2
    go_roundg (gk-1)
    case rel=>exact⟨I,rfl,by have:=HJ.out;omega,T2.out⟩
    case measure=>omega
  ·have o: ¬(j:Int)<(m.im.length:Int):=by omega
   obtain rfl:j=m.im.length:=by omega
   clear o D hj
   go_wp2
   go_loopg [6] m.ep.length (fun k i wr=>∃j:Nat,i= .int .i64 j∧j+k=m.ep.length∧TwoM w b1 b2 S1 S2 m m wr)
   case atStart=>exact⟨0,rfl,by omega,T.out⟩
   case round=>
    obtain⟨j,rfl,hj,hT⟩:=hrel
    clear T c0 U Q K J cf d0 M N L O df
    have T:=zc hT
    clear hT
    obtain⟨c0,U,Q,K,J,cf⟩:=zl T.out.1
    obtain⟨d0,M,N,L,O,df⟩:=zl T.out.2.1
    by_cases D:j<m.ep.length
    ·have o:(j:Int)<(m.ep.length:Int):=by omega
     obtain⟨x,X⟩:=zaN D
     obtain⟨g1,ga,z⟩:=OwnR.elem (f:=epL) (m:=4) (fun _=>rfl) T.out.2.2.1.ep X
     obtain⟨g2,gb,q⟩:=OwnR.elem (f:=epL) (m:=4) (fun _=>rfl) T.out.2.2.2.1.ep X
     rw[ga] at Q
     rw[gb] at N
     obtain⟨y,V⟩: ∃y,y=x:=⟨_,rfl⟩
     rw[←V] at q
     obtain⟨b,E⟩: ∃b,zcp x y=b:=⟨_,rfl⟩
     have BT:Hid (b=true):=by show _=_;rw[←E,V];exact zeY.2 rfl
     have C0:=zc (z 0 (by omega))
     have D0:=zc (q 0 (by omega))
     have C1:=zc (z 1 (by omega))
     have D1:=zc (q 1 (by omega))
     have C2:=zc (z 2 (by omega))
     have D2:=zc (q 2 (by omega))
     have C3:=zc (z 3 (by omega))
     have D3:=zc (q 3 (by omega))
     clear z q ga gb X
     obtain⟨I,A⟩: ∃I,I=j+1:=⟨_,rfl⟩
     have ej:(j:Int)+1=(I:Int):=by omega
     have HJ:=zc A
     clear A
     have Y: ∀W:World,Sem.run Tryz.prog (binOp .neq 102 (.agg #[.int .i64 x.kind,.string x.name,.string x.loc,.string x.spec]) (.agg #[.int .i64 y.kind,.string y.name,.string y.loc,.string y.spec])) W= .ok (.bool !b) W:=fun W=>by rw[ac,E]
     have ab: ∀(H:BinOp) (a b:Operand) (W:World),Sem.run Tryz.prog (eqGuard H 102 a b (.agg #[.int .i64 x.kind,.string x.name,.string x.loc,.string x.spec]) (.agg #[.int .i64 y.kind,.string y.name,.string y.loc,.string y.spec])) W= .ok () W:=fun H a b W=>ae H a b x y W
     clear V
     go_wp2
     have kc:=cell_regrown Q
     have kd:=cell_regrown N
     have k0:=cell_regrown C0.out
     have v0:=cell_regrown D0.out
     have k1:=cell_regrown C1.out
     have v1:=cell_regrown D1.out
     have k2:=cell_regrown C2.out
     have v2:=cell_regrown D2.out
     have k3:=cell_regrown C3.out
     have v3:=cell_regrown D3.out
     simp only[Nat.add_zero] at k0 v0
     refine wp_region_quiet_below (by kernel_rfl) (by kernel_rfl) ?_
     repeat (go_big_quiet_step (fail))
     refine wpQuiet_nil ?_
     intro w2 Z
     obtain⟨⟨dq,aa⟩,n⟩:=Z
     have T2:Hid (TwoM w b1 b2 S1 S2 m m w2):=by show TwoM _ _ _ _ _ _ _ _;rw[n];exact T.out.later (below_regrown wr dq aa)
     clear n kc kd c0 U Q K J cf d0 M N L O df Y ab k0 v0 C0 D0 k1 v1 C1 D1 k2 v2 C2 D2 k3 v3 C3 D3
     cases b with
     |false=>exact absurd BT.out (by decide)
     |true=>
      go_wp2
      go_roundg (gk-1)
      case rel=>exact⟨I,rfl,by have:=HJ.out;omega,T2.out⟩
      case measure=>omega
    ·have o: ¬(j:Int)<(m.ep.length:Int):=by omega
     obtain rfl:j=m.ep.length:=by omega
     clear o D hj
     go_wp2
     go_loopg [7] m.st.length (fun k i wr=>∃j:Nat,i= .int .i64 j∧j+k=m.st.length∧TwoM w b1 b2 S1 S2 m m wr)
     case atStart=>exact⟨0,rfl,by omega,T.out⟩
     case round=>
      obtain⟨j,rfl,hj,hT⟩:=hrel
      clear T c0 U Q K J cf d0 M N L O df
      have T:=zc hT
      clear hT
      obtain⟨c0,U,Q,K,J,cf⟩:=zl T.out.1
      obtain⟨d0,M,N,L,O,df⟩:=zl T.out.2.1
      by_cases D:j<m.st.length
      ·have o:(j:Int)<(m.st.length:Int):=by omega
       obtain⟨x,X⟩:=zaN D
       obtain⟨g1,ga,z⟩:=OwnR.elem (f:=smL) (m:=3) (fun _=>rfl) T.out.2.2.1.st X
       obtain⟨g2,gb,q⟩:=OwnR.elem (f:=smL) (m:=3) (fun _=>rfl) T.out.2.2.2.1.st X
       rw[ga] at K
       rw[gb] at L
       obtain⟨y,V⟩: ∃y,y=x:=⟨_,rfl⟩
       rw[←V] at q
       obtain⟨b,E⟩: ∃b,zcq x y=b:=⟨_,rfl⟩
       have BT:Hid (b=true):=by show _=_;rw[←E,V];exact zeZ.2 rfl
       have C0:=zc (z 0 (by omega))
       have D0:=zc (q 0 (by omega))
       have C1:=zc (z 1 (by omega))
       have D1:=zc (q 1 (by omega))
       have C2:=zc (z 2 (by omega))
       have D2:=zc (q 2 (by omega))
       clear z q ga gb X
       obtain⟨I,A⟩: ∃I,I=j+1:=⟨_,rfl⟩
       have ej:(j:Int)+1=(I:Int):=by omega
       have HJ:=zc A
       clear A
       have Y: ∀W:World,Sem.run Tryz.prog (binOp .neq 106 (.agg #[.int .i64 x.kind,.string x.name,.int .i64 x.expr]) (.agg #[.int .i64 y.kind,.string y.name,.int .i64 y.expr])) W= .ok (.bool !b) W:=fun W=>by rw[ai,E]
       have ab: ∀(H:BinOp) (a b:Operand) (W:World),Sem.run Tryz.prog (eqGuard H 106 a b (.agg #[.int .i64 x.kind,.string x.name,.int .i64 x.expr]) (.agg #[.int .i64 y.kind,.string y.name,.int .i64 y.expr])) W= .ok () W:=fun H a b W=>af H a b x y W
       clear V
       go_wp2
       have kc:=cell_regrown K
       have kd:=cell_regrown L
       have k0:=cell_regrown C0.out
       have v0:=cell_regrown D0.out
       have k1:=cell_regrown C1.out
       have v1:=cell_regrown D1.out
       have k2:=cell_regrown C2.out
       have v2:=cell_regrown D2.out
       simp only[Nat.add_zero] at k0 v0
       refine wp_region_quiet_below (by kernel_rfl) (by kernel_rfl) ?_
       repeat (go_big_quiet_step (fail))
       refine wpQuiet_nil ?_
       intro w2 Z
       obtain⟨⟨dq,aa⟩,n⟩:=Z
       have T2:Hid (TwoM w b1 b2 S1 S2 m m w2):=by show TwoM _ _ _ _ _ _ _ _;rw[n];exact T.out.later (below_regrown wr dq aa)
       clear n kc kd c0 U Q K J cf d0 M N L O df Y ab k0 v0 C0 D0 k1 v1 C1 D1 k2 v2 C2 D2
       cases b with
       |false=>exact absurd BT.out (by decide)
       |true=>
        go_wp2
        go_roundg (gk-1)
        case rel=>exact⟨I,rfl,by have:=HJ.out;omega,T2.out⟩
        case measure=>omega
      ·have o: ¬(j:Int)<(m.st.length:Int):=by omega
       obtain rfl:j=m.st.length:=by omega
       clear o D hj
       go_wp2
       go_loopg [8] m.ex.length (fun k i wr=>∃j:Nat,i= .int .i64 j∧j+k=m.ex.length∧TwoM w b1 b2 S1 S2 m m wr)
       case atStart=>exact⟨0,rfl,by omega,T.out⟩
       case round=>
        obtain⟨j,rfl,hj,hT⟩:=hrel
        clear T c0 U Q K J cf d0 M N L O df
        have T:=zc hT
        clear hT
        obtain⟨c0,U,Q,K,J,cf⟩:=zl T.out.1
        obtain⟨d0,M,N,L,O,df⟩:=zl T.out.2.1
        by_cases D:j<m.ex.length
        ·have o:(j:Int)<(m.ex.length:Int):=by omega
         obtain⟨x,X⟩:=zaN D
         obtain⟨g1,ga,z⟩:=OwnR.elem (f:=exL) (m:=6) (fun _=>rfl) T.out.2.2.1.ex X
         obtain⟨g2,gb,q⟩:=OwnR.elem (f:=exL) (m:=6) (fun _=>rfl) T.out.2.2.2.1.ex X
         rw[ga] at J
         rw[gb] at O
         obtain⟨y,V⟩: ∃y,y=x:=⟨_,rfl⟩
         rw[←V] at q
         obtain⟨b,E⟩: ∃b,zcr x y=b:=⟨_,rfl⟩
         have BT:Hid (b=true):=by show _=_;rw[←E,V];exact zfa.2 rfl
         have C0:=zc (z 0 (by omega))
         have D0:=zc (q 0 (by omega))
         have C1:=zc (z 1 (by omega))
         have D1:=zc (q 1 (by omega))
         have C2:=zc (z 2 (by omega))
         have D2:=zc (q 2 (by omega))
         have C3:=zc (z 3 (by omega))
         have D3:=zc (q 3 (by omega))
         have C4:=zc (z 4 (by omega))
         have D4:=zc (q 4 (by omega))
         have C5:=zc (z 5 (by omega))
         have D5:=zc (q 5 (by omega))
         clear z q ga gb X
         obtain⟨I,A⟩: ∃I,I=j+1:=⟨_,rfl⟩
         have ej:(j:Int)+1=(I:Int):=by omega
         have HJ:=zc A
         clear A
         have Y: ∀W:World,Sem.run Tryz.prog (binOp .neq 108 (.agg #[.int .i64 x.kind,.int .i64 x.num,.string x.name,.string x.field,.int .i64 x.l,.int .i64 x.r]) (.agg #[.int .i64 y.kind,.int .i64 y.num,.string y.name,.string y.field,.int .i64 y.l,.int .i64 y.r])) W= .ok (.bool !b) W:=fun W=>by rw[ah,E]
         have ab: ∀(H:BinOp) (a b:Operand) (W:World),Sem.run Tryz.prog (eqGuard H 108 a b (.agg #[.int .i64 x.kind,.int .i64 x.num,.string x.name,.string x.field,.int .i64 x.l,.int .i64 x.r]) (.agg #[.int .i64 y.kind,.int .i64 y.num,.string y.name,.string y.field,.int .i64 y.l,.int .i64 y.r])) W= .ok () W:=fun H a b W=>ad H a b x y W
         clear V
         go_wp2
         have kc:=cell_regrown J
         have kd:=cell_regrown O
         have k0:=cell_regrown C0.out
         have v0:=cell_regrown D0.out
         have k1:=cell_regrown C1.out
         have v1:=cell_regrown D1.out
         have k2:=cell_regrown C2.out
         have v2:=cell_regrown D2.out
         have k3:=cell_regrown C3.out
         have v3:=cell_regrown D3.out
         have k4:=cell_regrown C4.out
         have v4:=cell_regrown D4.out
         have k5:=cell_regrown C5.out
         have v5:=cell_regrown D5.out
         simp only[Nat.add_zero] at k0 v0
         refine wp_region_quiet_below (by kernel_rfl) (by kernel_rfl) ?_
         repeat (go_big_quiet_step (fail))
         refine wpQuiet_nil ?_
         intro w2 Z
         obtain⟨⟨dq,aa⟩,n⟩:=Z
         have T2:Hid (TwoM w b1 b2 S1 S2 m m w2):=by show TwoM _ _ _ _ _ _ _ _;rw[n];exact T.out.later (below_regrown wr dq aa)
         clear n kc kd c0 U Q K J cf d0 M N L O df Y ab k0 v0 C0 D0 k1 v1 C1 D1 k2 v2 C2 D2 k3 v3 C3 D3 k4 v4 C4 D4 k5 v5 C5 D5
         cases b with
         |false=>exact absurd BT.out (by decide)
         |true=>
          go_wp2
          go_roundg (gk-1)
          case rel=>exact⟨I,rfl,by have:=HJ.out;omega,T2.out⟩
          case measure=>omega
        ·have o: ¬(j:Int)<(m.ex.length:Int):=by omega
         obtain rfl:j=m.ex.length:=by omega
         clear o D hj
         go_wp2
         go_ret
         exact⟨rfl,T.out.2.2.2.2⟩
def PrOf (T:ByteArray) (m:Md) (t:ByteArray):Prop:=(Tree m∧t=T)∨(¬Tree m∧t=sNone)
theorem PrintOut.form {T:ByteArray} {m:Md} {e:Ending} (h:PrintOut T m e): ∃t,PrOf T m t∧e= .returned (.string t):=by
 rcases h with ⟨n,j⟩|⟨n,j⟩
 ·exact⟨T,.inl ⟨n,rfl⟩,j⟩
 ·exact⟨sNone,.inr ⟨n,rfl⟩,j⟩
theorem PrOf.size {T t:ByteArray} {m:Md} {n:Nat} (h:PrOf T m t) (j:Tree m→T.size≤n):t.size≤n:=by
 rcases h with ⟨o,rfl⟩|⟨_,rfl⟩
 ·exact j o
 ·exact Nat.zero_le _
def zen (t:ByteArray) (scr:Bool) (m:Md):Prop:=∃q,zb7 t scr (.ok q)∧zdx q=m
def ziX (T:ByteArray) (m:Md) (scr:Bool) (e:Ending):Prop:=∃t,PrOf T m t∧zbZ (zen t scr m) e
theorem zgN {t:ByteArray} {j:Bool} {m:Md} {p:Nat} (h:zb7 t j (.error p)): ¬zen t j m:=by
 rintro⟨q,n,_⟩
 cases zhM h n
theorem zgO {t:ByteArray} {j:Bool} {m n:Md} {q:PS} (h:zb7 t j (.ok q)) (o:n=zdx q):zen t j m↔n=m:=by
 constructor
 ·rintro⟨D,z,A⟩
  cases zhM h z
  rw[o]
  exact A
 ·intro e
  exact⟨q,h,by rw[←o];exact e⟩
theorem ParseOut.md {s:ByteArray} {j:Bool} {w D:World} {e:Ending} (h:ParseOut s j w e D):
  (∃(q:PS) (S:Sv) (n:Md),zb7 s j (.ok q)∧n=zdx q∧e= .returned (.tuple #[zp S n,.int .i64 (-1)])∧OwnMd D w.heap.size S n∧zem n)∨∃p:Nat,zb7 s j (.error p)∧e= .returned (.tuple #[.agg #[.slice none 0 0,.slice none 0 0,.slice none 0 0,.slice none 0 0,.slice none 0 0],.int .i64 p]):=by
 obtain⟨y,o,z⟩:=h
 cases y with
 |ok q=>
  obtain⟨S,H,A⟩:=z
  refine .inl ⟨q,S,zdx q,o,rfl,H,A.md,?_⟩
  have I:=A.inv
  have E:(zdx q).ep.length=q.ep.length+q.la.length:=by show (q.ep++q.la).length=_;rw[List.length_append]
  refine⟨?_,?_,by rw[E];omega,?_,?_⟩
  ·show q.rq.length≤_;omega
  ·show q.im.length≤_;omega
  ·show q.st.length≤_;omega
  ·show q.ex.length≤_;omega
 |error p=>exact .inr ⟨p,o,z⟩
theorem zoD {k:Int} {n e:ByteArray} (h:n.toList=dN→k=1):zcP k n e=zaz k n e:=by
 unfold zcP
 split
 ·next j=>
  have o:=eq_of_beq j
  rw[h o,zaz,if_pos (by decide),if_pos j]
 ·rfl
theorem zoE {α:Type} {f g:α→ByteArray} (l:List α): ∀t,(∀x∈l,f x=g x)→acc f l t=acc g l t:=by
 induction l with
 |nil=>intro t _;rfl
 |cons x l j=>
  intro t h
  show acc f l (t++f x)=acc g l (t++g x)
  rw[h x (List.mem_cons_self ..)]
  exact j _ fun y n=>h y (List.mem_cons_of_mem _ n)
theorem ziY {m:Md} (h:zdq m.st):zb1 m=zbJ m:=zoE _ _ fun s j=>zoD (h s j)
theorem zoF {m:Md} {j:Bool} {z o:ByteArray} (I:PrOf (zbJ m) m z) (A:PrOf (zb1 m) m o):zen z j m↔zen o j m:=by
 by_cases n:zdq m.st
 ·have:z=o:=by
   rw[ziY n] at A
   rcases I with ⟨a,rfl⟩|⟨a,rfl⟩<;>rcases A with ⟨b,rfl⟩|⟨b,rfl⟩
   ·rfl
   ·exact absurd a b
   ·exact absurd b a
   ·rfl
  rw[this]
 ·have D: ∀t,¬zen t j m:=by
   rintro t ⟨q,E,H⟩
   have:=zi2 E
   rw[←H] at n
   exact n this
  exact⟨fun h=>absurd h (D _),fun h=>absurd h (D _)⟩
end Go.Proofs.YticdggnnpjachaaGreat
