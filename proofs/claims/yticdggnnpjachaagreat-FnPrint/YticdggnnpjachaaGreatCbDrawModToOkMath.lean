/-
  What the specification's draw of a program tells: some program,nothing of it long: the walk.
  What the specification's draw for ModOk tells: some program,nothing of it long,and some flag: the walk.
  What the laws count of a program,as plain functions. No program is spoken of.
  Lines of a program's text,as plain functions. No program is spoken of.
  A program's text: its lines,one behind the other. No program is spoken of.
  A program that is small has a text that is small. No program is spoken of.
  A program that was drawn is small,and so is its text. No program is spoken of.
  What slices.Equal answers of rows of the call's own,the model's != handed in: the walks.
  Two programs in memory side by side. No program is spoken of but for the numbers of its types.
  What the laws' sameTexts and sameMod answer of a program that lies twice,the model's != handed in: the walks.
  What a Print and a Parse tell,as a ModOk takes it. No program is spoken of but for the numbers of its types.
-/
import Derived.Deep.RegionWith
import Derived.Deep.RegionHeld3
import Derived.Test.YticdggnnpjachaaGreatCbSpecParseQToSpecParseR
namespace Go.Proofs.YticdggnnpjachaaGreat
set_option maxRecDepth 100000
set_option maxHeartbeats 12800000
open Go.RowKit Go.PlainAid Go.Sort
def MMD (S:Src) (g:Nat) (w0:World) (b6 b7:Nat) (W:World):Prop:=∃(V:Sv) (m:Md) (q:Nat×Int),MM S g w0 b6 b7 V m q W∧Drawn 1 m
def zgK (S:Src) (g:Nat) (w:World) (e:Ending) (w':World):Prop:=∃(V:Sv) (m:Md) (q':Nat×Int),e= .returned (zp V m)∧OwnMd w' w.heap.size V m∧Drawn 1 m∧zR 147 S w' g q'∧w.grownBy w' (some g)
theorem ParseOut.drawn {s:ByteArray} {o:Bool} {w H:World} {e:Ending} (h:ParseOut s o w e H) (I:s.size≤20000): ∃(V:Sv) (m:Md) (z:Int),e= .returned (.tuple #[zp V m,.int .i64 z])∧OwnMd H w.heap.size V m∧Drawn 0 m:=by
 obtain⟨y,E,D⟩:=h
 cases y with
 |ok q=>
  obtain⟨V,J,A⟩:=D
  have n:=zm7 E I (by omega)
  have K:=A.inv
  have L:(q.ep++q.la).length=q.ep.length+q.la.length:=List.length_append
  refine⟨V,zdx q,-1,J,A.md,⟨by show q.rq.length≤_;omega,n.rq⟩,⟨by show q.im.length≤_;omega,n.im⟩,⟨by show (q.ep++q.la).length≤_;omega,fun x j=>?_⟩,⟨by show q.st.length≤_;omega,n.st⟩,⟨by show q.ex.length≤_;omega,n.ex⟩,zi2 E⟩
  rcases List.mem_append.1 (show x∈q.ep++q.la from j) with j|j
  ·exact n.ep x j
  ·exact n.la x j
 |error p=>
  refine⟨⟨R0,R0,R0,R0,R0,R0⟩,⟨[],[],[],[],[]⟩,p,D,⟨zcy _ _ _ _,zcy _ _ _ _,zcy _ _ _ _,zcy _ _ _ _,zcy _ _ _ _⟩,⟨Nat.zero_le _,?_⟩,⟨Nat.zero_le _,?_⟩,⟨Nat.zero_le _,?_⟩,⟨Nat.zero_le _,?_⟩,⟨Nat.zero_le _,?_⟩,?_⟩
  all_goals (intro x j;cases j)
theorem Drawn.more {k j:Nat} {m:Md} (h:Drawn k m) (n:k≤j):Drawn j m:=⟨⟨by have:=h.rq.1;omega,h.rq.2⟩,⟨by have:=h.im.1;omega,h.im.2⟩,⟨by have:=h.ep.1;omega,h.ep.2⟩,⟨by have:=h.st.1;omega,h.st.2⟩,⟨by have:=h.ex.1;omega,h.ex.2⟩,h.fair⟩
theorem ziR (S:Src) (L:S.ok) (g:Nat) (q:Nat×Int) (N:Nat) (l:List ByteArray) (w:World) (A:zR 147 S w g q) (I:1≤l.length) (E:l.length≤1000) (K: ∀x∈l,x.size≤N):
  Calls Tryz.prog 111 #[.pointer (some ⟨g,0,none⟩),.slice (some ⟨w.heap.size,0,none⟩) l.length l.length] (w.alloc (.cells (l.map Value.string).toArray 9)).drew (zcG S g N w):=by
 have M:=zcB A
 have o:w.heap.size<(w.alloc (.cells (l.map Value.string).toArray 9)).heap.size:=by rw[zk];omega
 refine (zge S L g q w.heap.size l.length N (w.alloc (.cells (l.map Value.string).toArray 9)).drew (zbS (ze9 A _) fun _ _=>rfl) I E o (by omega) ?_).mono ?_
 ·intro j D
  show ∃x,(w.alloc _).cell? _=_∧_
  rw[World.cell?_alloc_new]
  refine⟨l[j],?_,K _ (List.getElem_mem D)⟩
  simp[List.getElem?_eq_getElem D]
 ·rintro e O ⟨x,J,rfl,H,z,n⟩
  exact⟨x,J,rfl,H,z,zB (ze8 w (.cells (l.map Value.string).toArray 9) _) ⟨n.os,n.tape,n.output,n.size,n.block⟩⟩
theorem znZ (S:Src) (M:S.ok) (g b:Nat) (q:Nat×Int) (N:Nat) (l:List ByteArray) (w:World) (E:zR 147 S w g q) (D:w.heap[b]? =some (.cells (l.map Value.string).toArray 9 (0,0))) (n:b≠g) (J:1≤l.length) (H:l.length≤1000) (L: ∀x∈l,x.size≤N):
  Calls Tryz.prog 111 #[.pointer (some ⟨g,0,none⟩),.slice (some ⟨b,0,none⟩) l.length l.length] w (zcG S g N w):=by
 refine (zge S M g q b l.length N w E J H (Array.getElem?_eq_some_iff.1 D).1 n ?_).mono ?_
 ·intro j A
  refine⟨l[j],?_,L _ (List.getElem_mem A)⟩
  simp[World.cell?,D,List.getElem?_eq_getElem A]
 ·rintro e O ⟨x,K,rfl,I,o,z⟩
  exact⟨x,K,rfl,I,o,z⟩
theorem Tryz.infoS:(Tryz.prog.info? 9).map (fun i=>(i.zero,i.size,i.bytes))=some (some (.string {data:=#[]}),1,16):=by kernel_rfl
theorem zoa (x:ByteArray): ∀u∈[Value.string x],u.oneCell'=true:=fun u j=>by
 rw[List.mem_singleton] at j
 rw[j]
 rfl
abbrev zdf (w:World) (b:Nat) (x0 x1 x2 x3 x4:Value):World:=((((w.setCell ⟨b,0,none⟩ x0).setCell ⟨b,1,none⟩ x1).setCell ⟨b,2,none⟩ x2).setCell ⟨b,3,none⟩ x3).setCell ⟨b,4,none⟩ x4
theorem zf8 {w:World} {b k:Nat} (h:k≠b) (z o j q n:Value):(zdf w b z o j q n).heap[k]? =w.heap[k]?:=by
 unfold zdf
 rw[zi h,zi h,zi h,zi h,zi h]
theorem zob (w:World) (b:Nat) (z o j q n:Value):(zdf w b z o j q n).heap.size=w.heap.size:=by
 unfold zdf
 simp only[World.size_setCell]
theorem zoc {S:Src} {g:Nat} {w0 W:World} {A Z:Nat} {V:Sv} {m:Md} {q:Nat×Int} (h:MM S g w0 A Z V m q W) (Y:Drawn 1 m) (M H D I K:Value):zgK S g w0 (.returned (zp V m)) (zdf W A M H D I K):=by
 have U:=h.ge
 have Q:=h.gl
 have J:Below 0 W (zdf W A M H D I K):=(((((Below.refl 0 W).setCell (Nat.zero_le _) _).setCell (Nat.zero_le _) _).setCell (Nat.zero_le _) _).setCell (Nat.zero_le _) _).setCell (Nat.zero_le _) _
 have j: ∀{e:TypeId} {z n:Nat} {r:Rw} {N:List Value},OwnR W w0.heap.size e z r n N→e≠28→OwnR (zdf W A M H D I K) w0.heap.size e z r n N:=fun O X=>O.keep fun k o=>zf8 (fun e=>by
  obtain⟨_,_,aa,E⟩:=O.typed o
  rw[e,h.r6] at E
  simp only[Option.some.injEq,Obj.cells.injEq] at E
  exact X E.2.1.symm) ..
 refine⟨V,m,q,rfl,⟨j h.own.rq (by decide),j h.own.im (by decide),j h.own.ep (by decide),j h.own.st (by decide),j h.own.ex (by decide)⟩,Y,zbS h.cur fun k o=>zf8 (by omega) _ _ _ _ _,⟨?_,?_,?_,?_,fun k o L=>(zf8 (by omega) ..).trans (h.gr.block k o L)⟩⟩
 ·exact J.os.trans h.gr.os
 ·exact J.tape.trans h.gr.tape
 ·exact J.output.trans h.gr.output
 ·rw[zob]
  exact h.gr.size
theorem zod {S:Src} {g:Nat} {w0 W:World} {j o:Nat} {V:Sv} {m:Md} {q:Nat×Int} (h:MM S g w0 j o V m q W) (n:Drawn 1 m):zgK S g w0 (.returned (.agg #[.slice V.rq.a m.rq.length V.rq.cap,.slice V.im.a m.im.length V.im.cap,.slice V.ep.a m.ep.length V.ep.cap,.slice V.st.a m.st.length V.st.cap,.slice V.ex.a m.ex.length V.ex.cap])) (zdf W j (.slice V.rq.a m.rq.length V.rq.cap) (.slice V.im.a m.im.length V.im.cap) (.slice V.ep.a m.ep.length V.ep.cap) (.slice V.st.a m.st.length V.st.cap) (.slice V.ex.a m.ex.length V.ex.cap)):=zoc h n ..
theorem zoe (S:Src) (hS:S.ok) (g:Nat) (ag:Nat) (hm:ag≤10) (al:Bool) (q0:Nat×Int) (w0:World) (hc:zR 147 S w0 g q0):
  Calls Tryz.prog 54 #[.pointer (some ⟨g,0,none⟩),.int .i64 (ag:Int),.bool al] w0 (zgK S g w0):=by
 have aD:=zc hc
 have aG:=zcB hc
 clear hc
 go_enter Tryz.func54,Tryz.ntmps54
 go_wp2_with fail
 refine (zlq S hS g ag hm al q0 _ (ze9 aD.out _)).mono ?_
 rintro e w1 ⟨t,q1,rfl,ht,hc,hg⟩
 have an:=zc hc
 have ai:=zc (zB (ze8 w0 (.cells #[.slice none 0 0,.slice none 0 0,.slice none 0 0,.slice none 0 0,.slice none 0 0] 28) (some g)) hg)
 have X1:Hid (w1.heap[w0.heap.size]? =some (.cells #[.slice none 0 0,.slice none 0 0,.slice none 0 0,.slice none 0 0,.slice none 0 0] 28 (0,0))):=(hg.block _ (by rw[zk];omega) (by simp;omega)).trans (heap_alloc_new w0 _)
 clear hc hg
 go_wp2_with fail
 refine (ziQ t al w1 (by omega)).mono ?_
 rintro e w2 ⟨aB,hb⟩
 obtain⟨V,m,z,rfl,ho,hd⟩:=aB.drawn ht
 have O2:=zc ho
 have n:=zc hd
 have aA:=zc (zcC an.out hb (zcB an.out))
 have av:=zc (zcV ai.out hb ai.out.size)
 have X2:=zc ((hb.block _ (Array.getElem?_eq_some_iff.1 X1.out).1).trans X1.out)
 have aF:=hb.size
 clear aB ho hd hb
 unfold zp
 go_upto_region 2 with fail
 refine zau (R:=MM S g w0 w0.heap.size w2.heap.size V m q1) ?_ ?_
 ·refine⟨?_,heap_alloc_new w2 _,?_,ze9 aA.out _,zB av.out (ze8 _ _ _),Nat.le_refl _,(Array.getElem?_eq_some_iff.1 X2.out).1,aG⟩
  ·rw[heap_alloc_old _ _ (Array.getElem?_eq_some_iff.1 X2.out).1]
   exact X2.out
  ·have h1:=ai.out.size
   have aE:OwnMd w2 w0.heap.size V m:=⟨O2.out.rq.low h1,O2.out.im.low h1,O2.out.ep.low h1,O2.out.st.low h1,O2.out.ex.low h1⟩
   exact aE.alloc _
 obtain⟨b6,ar⟩: ∃b,b=w0.heap.size:=⟨_,rfl⟩
 obtain⟨b7,ay⟩: ∃b,b=w2.heap.size:=⟨_,rfl⟩
 rw[←ar,←ay]
 clear ar ay an ai X1 O2 aA av X2 aF
 intro W1 hM
 have M1:=zc hM
 clear hM
 go_wp2_with fail
 refine (zcD S hS g _ 6 _ M1.out.cur (by omega)).mono ?_
 rintro e W2 ⟨rfl,hc,hg⟩
 obtain⟨q2,hq⟩: ∃Q,(bw S q1 6).2=Q:=⟨_,rfl⟩
 rw[hq] at hc
 have M2:=zc (M1.out.step hc hg)
 clear hc hg hq M1
 generalize ((bw S q1 6).1==0)=b
 go_upto_if 19 with fail
 go_cut [] from 20 to 97 (fun wx=>MMD S g w0 b6 b7 wx)
 case rest=>
  obtain⟨V',m',Q,ax,ap⟩:=hcut
  have A9:=zc ax
  have D9:=zc ap
  clear ax ap
  obtain⟨c0,c1,c2,c3,c4,cf⟩:=zl A9.out.r7
  obtain⟨d0,d1,d2,d3,d4,df⟩:=zl A9.out.r6
  go_wp2
  refine bodyPost_ret (results_cell_row rfl _ _ b6 28 _ (0,0) _ rfl (zcZ A9.out.r6) Tryz.underlying28 rfl (by kernel_rfl)) rfl ?_
  exact zod A9.out D9.out
 cases b with
 |false=>
  go_wp2_with fail
  go_meet
  exact⟨_,_,_,M2.out,n.out.more (by omega)⟩
 |true=>
  go_wp2_with fail
  refine (zaD S hS g _ 6 _ M2.out.cur (by omega)).mono ?_
  rintro e W3 ⟨rfl,hc,hg⟩
  have az:=zaV S q2 6 (by omega)
  obtain⟨k3,hk⟩: ∃k:Nat,(bw S q2 6).1=k:=⟨(bw S q2 6).1.toNat,by omega⟩
  obtain⟨U,hq⟩: ∃Q,(bw S q2 6).2=Q:=⟨_,rfl⟩
  rw[hk] at az ⊢
  rw[hq] at hc
  have N:=zc (M2.out.step hc hg)
  have kb:k3<6:=by omega
  clear hc hg az hk hq M2
  obtain⟨c0,c1,c2,c3,c4,cf⟩:=zl N.out.r7
  have aJ:=(Array.getElem?_eq_some_iff.1 N.out.r7).1
  rcases (show k3=0∨k3=1∨k3=2∨k3=3∨k3=4∨k3=5 by omega) with rfl|rfl|rfl|rfl|rfl|rfl
  ·obtain⟨i0,hi,aa,Z,ab⟩:=info_parts Tryz.infoS
   go_wp2_with fail
   go_region_law (first|(refine zcI rfl (.tmp 40) (.tmp 44) 22 rfl w0.heap.size 9 i0 _ 1 16 Tryz.underlying22 hi aa Z ab rfl (by decide) (by decide) V.rq m.rq.length (m.rq.map Value.string) (by rfl) (by exact (A.out.alloc _).own.rq) _ ([Value.string x4]) (by rfl) (by exact heap_alloc_new _ _) rfl (zoa x4) (by have:=n.out.rq.1;omega) (by exact (A.out.alloc _).gr.size) ?_;intro r' W9 I q L;have A9:=zc ((A.out.alloc _).app_rq (x:=x4) I q);have F9:=zc ((A.out.alloc _).far_rq q);clear I q L;obtain⟨u0,u1,u2,u3,u4,uf⟩:=zl F9.out;have aj:=(Array.getElem?_eq_some_iff.1 F9.out).1)|((try go_simp);go_wp2_with (first|(go_at_call 111;refine (ziR S hS g _ 100 [{data:=#[120]},{data:=#[34]},{data:=#[122,122]}] _ N.out.cur (by simp) (by simp) (by intro x hx;simp only[List.mem_cons,List.not_mem_nil,or_false] at hx;rcases hx with rfl|rfl|rfl<;>decide)).mono ?_;rintro e W4 ⟨x4,q4,rfl,z4,j,o⟩;have A:=zc (N.out.step j o);clear j o;obtain⟨y0,y1,y2,X,O,Y⟩:=zl A.out.r7;have af:=(Array.getElem?_eq_some_iff.1 A.out.r7).1))))
   all_goals
    have D9:Hid (Drawn 1 {m with rq:=m.rq++[x4]}):=⟨⟨by have:=n.out.rq.1;simp;omega,zdp n.out.rq.2 (by omega)⟩,(n.out.more (Nat.zero_le 1)).im,(n.out.more (Nat.zero_le 1)).ep,(n.out.more (Nat.zero_le 1)).st,(n.out.more (Nat.zero_le 1)).ex,n.out.fair⟩
    clear c0 c1 c2 c3 c4 cf y0 y1 y2 X O Y u0 u1 u2 u3 u4 uf F9
    go_wp2_with fail
    go_meet
    exact⟨_,_,_,A9.out,D9.out⟩
  ·obtain⟨i0,hi,aa,Z,ab⟩:=info_parts Tryz.infoImp
   go_wp2_with fail
   go_region_law (first|(refine zcI rfl (.tmp 50) (.tmp 55) 23 rfl w0.heap.size 100 i0 _ 3 48 Tryz.underlying23 hi aa Z ab rfl (by decide) (by decide) V.im m.im.length (m.im.flatMap imL) (by rfl) (by exact (A.out.alloc _).own.im) _ (imL (⟨({data:=#[120]}:ByteArray),({data:=#[97]}:ByteArray),x4⟩:Im)) (by rfl) (by exact heap_alloc_new _ _) rfl (zg3 _) (by have:=n.out.im.1;omega) (by exact (A.out.alloc _).gr.size) ?_;intro r' W9 I q L;have A9:=zc ((A.out.alloc _).app_im (x:=(⟨({data:=#[120]}:ByteArray),({data:=#[97]}:ByteArray),x4⟩:Im)) I q);have F9:=zc ((A.out.alloc _).far_im q);clear I q L;obtain⟨u0,u1,u2,u3,u4,uf⟩:=zl F9.out;have aj:=(Array.getElem?_eq_some_iff.1 F9.out).1)|((try go_simp);go_wp2_with (first|(go_at_call 111;refine (ziR S hS g _ 100 [{data:=#[113]},{data:=#[108,101,116]},{data:=#[]}] _ N.out.cur (by simp) (by simp) (by intro x hx;simp only[List.mem_cons,List.not_mem_nil,or_false] at hx;rcases hx with rfl|rfl|rfl<;>decide)).mono ?_;rintro e W4 ⟨x4,q4,rfl,z4,j,o⟩;have A:=zc (N.out.step j o);clear j o;obtain⟨y0,y1,y2,X,O,Y⟩:=zl A.out.r7;have af:=(Array.getElem?_eq_some_iff.1 A.out.r7).1))))
   all_goals
    have D9:Hid (Drawn 1 {m with im:=m.im++[(⟨({data:=#[120]}:ByteArray),({data:=#[97]}:ByteArray),x4⟩:Im)]}):=⟨(n.out.more (Nat.zero_le 1)).rq,⟨by have:=n.out.im.1;simp;omega,zdp n.out.im.2 ⟨by show 1≤_;omega,by show 1≤_;omega,by show x4.size≤_;omega⟩⟩,(n.out.more (Nat.zero_le 1)).ep,(n.out.more (Nat.zero_le 1)).st,(n.out.more (Nat.zero_le 1)).ex,n.out.fair⟩
    clear c0 c1 c2 c3 c4 cf y0 y1 y2 X O Y u0 u1 u2 u3 u4 uf F9
    go_wp2_with fail
    go_meet
    exact⟨_,_,_,A9.out,D9.out⟩
  ·obtain⟨i0,hi,aa,Z,ab⟩:=info_parts Tryz.infoExp
   go_wp2_with fail
   go_region_law (first|(refine zcI rfl (.tmp 61) (.tmp 68) 24 rfl w0.heap.size 102 i0 _ 4 56 Tryz.underlying24 hi aa Z ab rfl (by decide) (by decide) V.ep m.ep.length (m.ep.flatMap epL) (by rfl) (by exact (M.out.alloc _).own.ep) _ (epL (⟨(k4:Int),({data:=#[113]}:ByteArray),({data:=#[113]}:ByteArray),x5⟩:Ep)) (by rfl) (by exact heap_alloc_new _ _) rfl (zeI _) (by have:=n.out.ep.1;omega) (by exact (M.out.alloc _).gr.size) ?_;intro r' W9 I q L;have A9:=zc ((M.out.alloc _).app_ep (x:=(⟨(k4:Int),({data:=#[113]}:ByteArray),({data:=#[113]}:ByteArray),x5⟩:Ep)) I q);have F9:=zc ((M.out.alloc _).far_ep q);clear I q L;obtain⟨u0,u1,u2,u3,u4,uf⟩:=zl F9.out;have aj:=(Array.getElem?_eq_some_iff.1 F9.out).1)|((try go_simp);go_wp2_with (first|(go_at_call 111;refine (znZ S hS g W3.heap.size _ 100 [{data:=#[]},{data:=#[120]}] _ A.out.cur K4.out (by have:=N.out.gl;have:=N.out.gr.size;omega) (by simp) (by simp) (by intro x hx;simp only[List.mem_cons,List.not_mem_nil,or_false] at hx;rcases hx with rfl|rfl<;>decide)).mono ?_;rintro e W5 ⟨x5,q5,rfl,z5,E,H⟩;have M:=zc (A.out.step E H);clear E H;obtain⟨y0,y1,y2,X,O,Y⟩:=zl M.out.r7;have ah:=(Array.getElem?_eq_some_iff.1 M.out.r7).1)|(go_at_call 111;refine (zbz S hS g _ 100 [{data:=#[]},{data:=#[120]}] _ A.out.cur (by simp) (by simp) (by intro x hx;simp only[List.mem_cons,List.not_mem_nil,or_false] at hx;rcases hx with rfl|rfl<;>decide)).mono ?_;rintro e W5 ⟨x5,q5,rfl,z5,E,H⟩;have M:=zc (A.out.step E H);clear E H;obtain⟨y0,y1,y2,X,O,Y⟩:=zl M.out.r7;have ah:=(Array.getElem?_eq_some_iff.1 M.out.r7).1)|(go_at_call 109;refine (zaD S hS g _ 5 _ N.out.drew.cur (by omega)).mono ?_;rintro e W4 ⟨rfl,j,o⟩;have D:=zaV S U 5 (by omega);obtain⟨k4,K⟩: ∃k:Nat,(bw S U 5).1=k:=⟨(bw S U 5).1.toNat,by omega⟩;obtain⟨q4,J⟩: ∃Q,(bw S U 5).2=Q:=⟨_,rfl⟩;rw[K] at D ⊢;rw[J] at j;have A:=zc (N.out.drew.step j o);clear j o K J;obtain⟨y0,y1,y2,X,O,Y⟩:=zl A.out.r7;have af:=(Array.getElem?_eq_some_iff.1 A.out.r7).1)|(go_at_call 109;refine (zaD S hS g _ 5 _ (N.out.alloc _).drew.cur (by omega)).mono ?_;rintro e W4 ⟨rfl,j,o⟩;have D:=zaV S U 5 (by omega);obtain⟨k4,K⟩: ∃k:Nat,(bw S U 5).1=k:=⟨(bw S U 5).1.toNat,by omega⟩;obtain⟨q4,J⟩: ∃Q,(bw S U 5).2=Q:=⟨_,rfl⟩;rw[K] at D ⊢;rw[J] at j;have A:=zc ((N.out.alloc _).drew.step j o);have K4:=zc ((o.block W3.heap.size (by show W3.heap.size<(W3.alloc _).heap.size;rw[zk];omega) (by have:=N.out.gl;have:=N.out.gr.size;simp;omega)).trans (heap_alloc_new W3 _));clear j o K J;obtain⟨y0,y1,y2,X,O,Y⟩:=zl A.out.r7;have af:=(Array.getElem?_eq_some_iff.1 A.out.r7).1))))
   all_goals
    have D9:Hid (Drawn 1 {m with ep:=m.ep++[(⟨(k4:Int),({data:=#[113]}:ByteArray),({data:=#[113]}:ByteArray),x5⟩:Ep)]}):=⟨(n.out.more (Nat.zero_le 1)).rq,(n.out.more (Nat.zero_le 1)).im,⟨by have:=n.out.ep.1;simp;omega,zdp n.out.ep.2 ⟨by show 1≤_;omega,by show 1≤_;omega,by show x5.size≤_;omega⟩⟩,(n.out.more (Nat.zero_le 1)).st,(n.out.more (Nat.zero_le 1)).ex,n.out.fair⟩
    clear c0 c1 c2 c3 c4 cf y0 y1 y2 X O Y u0 u1 u2 u3 u4 uf F9
    go_wp2_with fail
    go_meet
    exact⟨_,_,_,A9.out,D9.out⟩
  ·obtain⟨i0,hi,aa,Z,ab⟩:=info_parts Tryz.infoStmt
   go_wp2_with fail
   go_region_law (first|(refine zcI rfl (.tmp 74) (.tmp 81) 25 rfl w0.heap.size 106 i0 _ 3 32 Tryz.underlying25 hi aa Z ab rfl (by decide) (by decide) V.st m.st.length (m.st.flatMap smL) (by rfl) (by exact (M.out.alloc _).own.st) _ (smL (⟨(k4:Int),({data:=#[113]}:ByteArray),IntKind.i64.wrap ((k5:Int)-1)⟩:Sm)) (by rfl) (by exact heap_alloc_new _ _) rfl (zii _) (by have:=n.out.st.1;omega) (by exact (M.out.alloc _).gr.size) ?_;intro r' W9 I q L;have A9:=zc ((M.out.alloc _).app_st (x:=(⟨(k4:Int),({data:=#[113]}:ByteArray),IntKind.i64.wrap ((k5:Int)-1)⟩:Sm)) I q);have F9:=zc ((M.out.alloc _).far_st q);clear I q L;obtain⟨u0,u1,u2,u3,u4,uf⟩:=zl F9.out;have aj:=(Array.getElem?_eq_some_iff.1 F9.out).1)|((try go_simp);go_wp2_with (first|(go_at_call 109;refine (zaD S hS g _ 5 _ A.out.cur (by omega)).mono ?_;rintro e W5 ⟨rfl,E,H⟩;have ac:=zaV S q4 5 (by omega);obtain⟨k5,ad⟩: ∃k:Nat,(bw S q4 5).1=k:=⟨(bw S q4 5).1.toNat,by omega⟩;obtain⟨q5,ae⟩: ∃Q,(bw S q4 5).2=Q:=⟨_,rfl⟩;rw[ad] at ac ⊢;rw[ae] at E;have M:=zc (A.out.step E H);clear E H ad ae;obtain⟨y0,y1,y2,X,O,Y⟩:=zl M.out.r7;have ah:=(Array.getElem?_eq_some_iff.1 M.out.r7).1)|(go_at_call 109;refine (zaD S hS g _ 8 _ N.out.drew.cur (by omega)).mono ?_;rintro e W4 ⟨rfl,j,o⟩;have D:=zaV S U 8 (by omega);obtain⟨k4,K⟩: ∃k:Nat,(bw S U 8).1=k:=⟨(bw S U 8).1.toNat,by omega⟩;obtain⟨q4,J⟩: ∃Q,(bw S U 8).2=Q:=⟨_,rfl⟩;rw[K] at D ⊢;rw[J] at j;have A:=zc (N.out.drew.step j o);clear j o K J;obtain⟨y0,y1,y2,X,O,Y⟩:=zl A.out.r7;have af:=(Array.getElem?_eq_some_iff.1 A.out.r7).1))))
   all_goals
    have D9:Hid (Drawn 1 {m with st:=m.st++[(⟨(k4:Int),({data:=#[113]}:ByteArray),IntKind.i64.wrap ((k5:Int)-1)⟩:Sm)]}):=⟨(n.out.more (Nat.zero_le 1)).rq,(n.out.more (Nat.zero_le 1)).im,(n.out.more (Nat.zero_le 1)).ep,⟨by have:=n.out.st.1;simp;omega,zdp n.out.st.2 (by show 1≤_;omega)⟩,(n.out.more (Nat.zero_le 1)).ex,zmL n.out.fair zmN⟩
    clear c0 c1 c2 c3 c4 cf y0 y1 y2 X O Y u0 u1 u2 u3 u4 uf F9
    go_wp2_with fail
    go_meet
    exact⟨_,_,_,A9.out,D9.out⟩
  ·obtain⟨i0,hi,aa,Z,ab⟩:=info_parts Tryz.infoExpr
   go_wp2_with fail
   go_region_law (first|(refine zcI rfl (.tmp 87) (.tmp 95) 26 rfl w0.heap.size 108 i0 _ 6 64 Tryz.underlying26 hi aa Z ab rfl (by decide) (by decide) V.ex m.ex.length (m.ex.flatMap exL) (by rfl) (by exact (M6.out.alloc _).own.ex) _ (exL (⟨(k4:Int),0,sNone,sNone,(k5:Int),(k6:Int)⟩:Ex)) (by rfl) (by exact heap_alloc_new _ _) rfl (zia _) (by have:=n.out.ex.1;omega) (by exact (M6.out.alloc _).gr.size) ?_;intro r' W9 I q L;have A9:=zc ((M6.out.alloc _).app_ex (x:=(⟨(k4:Int),0,sNone,sNone,(k5:Int),(k6:Int)⟩:Ex)) I q);have F9:=zc ((M6.out.alloc _).far_ex q);clear I q L;obtain⟨u0,u1,u2,u3,u4,uf⟩:=zl F9.out;have aj:=(Array.getElem?_eq_some_iff.1 F9.out).1)|((try go_simp);go_wp2_with (first|(go_at_call 109;refine (zaD S hS g _ 3 _ M.out.cur (by omega)).mono ?_;rintro e W6 ⟨rfl,ak,aw⟩;have ao:=zaV S q5 3 (by omega);obtain⟨k6,aC⟩: ∃k:Nat,(bw S q5 3).1=k:=⟨(bw S q5 3).1.toNat,by omega⟩;obtain⟨q6,aq⟩: ∃Q,(bw S q5 3).2=Q:=⟨_,rfl⟩;rw[aC] at ao ⊢;rw[aq] at ak;have M6:=zc (M.out.step ak aw);clear ak aw aC aq;obtain⟨y0,y1,y2,X,O,Y⟩:=zl M6.out.r7;have aL:=(Array.getElem?_eq_some_iff.1 M6.out.r7).1)|(go_at_call 109;refine (zaD S hS g _ 3 _ A.out.cur (by omega)).mono ?_;rintro e W5 ⟨rfl,E,H⟩;have ac:=zaV S q4 3 (by omega);obtain⟨k5,ad⟩: ∃k:Nat,(bw S q4 3).1=k:=⟨(bw S q4 3).1.toNat,by omega⟩;obtain⟨q5,ae⟩: ∃Q,(bw S q4 3).2=Q:=⟨_,rfl⟩;rw[ad] at ac ⊢;rw[ae] at E;have M:=zc (A.out.step E H);clear E H ad ae;obtain⟨y0,y1,y2,X,O,Y⟩:=zl M.out.r7;have ah:=(Array.getElem?_eq_some_iff.1 M.out.r7).1)|(go_at_call 109;refine (zaD S hS g _ 9 _ N.out.drew.cur (by omega)).mono ?_;rintro e W4 ⟨rfl,j,o⟩;have D:=zaV S U 9 (by omega);obtain⟨k4,K⟩: ∃k:Nat,(bw S U 9).1=k:=⟨(bw S U 9).1.toNat,by omega⟩;obtain⟨q4,J⟩: ∃Q,(bw S U 9).2=Q:=⟨_,rfl⟩;rw[K] at D ⊢;rw[J] at j;have A:=zc (N.out.drew.step j o);clear j o K J;obtain⟨y0,y1,y2,X,O,Y⟩:=zl A.out.r7;have af:=(Array.getElem?_eq_some_iff.1 A.out.r7).1))))
   all_goals
    have D9:Hid (Drawn 1 {m with ex:=m.ex++[(⟨(k4:Int),0,sNone,sNone,(k5:Int),(k6:Int)⟩:Ex)]}):=⟨(n.out.more (Nat.zero_le 1)).rq,(n.out.more (Nat.zero_le 1)).im,(n.out.more (Nat.zero_le 1)).ep,(n.out.more (Nat.zero_le 1)).st,⟨by have:=n.out.ex.1;simp;omega,zdp n.out.ex.2 ⟨Nat.zero_le _,Nat.zero_le _,by simp,by simp⟩⟩,n.out.fair⟩
    clear c0 c1 c2 c3 c4 cf y0 y1 y2 X O Y u0 u1 u2 u3 u4 uf F9
    go_wp2_with fail
    go_meet
    exact⟨_,_,_,A9.out,D9.out⟩
  ·by_cases au:0<m.ex.length
   case neg=>
    have aH: ¬0<(m.ex.length:Int):=by omega
    go_wp2_with fail
    go_meet
    exact⟨_,_,_,N.out,n.out.more (by omega)⟩
   have aH:0<(m.ex.length:Int):=by omega
   have aK:=n.out.ex.1
   obtain⟨ge,am,_⟩:=N.out.own.expr au
   have GA:=zc am
   rw[am] at c4
   clear am
   go_wp2_with fail
   go_region_held3 (fun W=>W.cell? ⟨b7,4,none⟩=some (.slice (some ⟨ge,0,none⟩) m.ex.length V.ex.cap)) (first|exact c4|exact O|exact z4|go_keep) (first|(go_at_call 109;refine (zaD S hS g _ 4 _ A.out.cur (by omega)).mono ?_;rintro e W5 ⟨rfl,E,H⟩;have ac:=zaV S q4 4 (by omega);obtain⟨k5,ad⟩: ∃k:Nat,(bw S q4 4).1=k:=⟨(bw S q4 4).1.toNat,by omega⟩;obtain⟨q5,ae⟩: ∃Q,(bw S q4 4).2=Q:=⟨_,rfl⟩;rw[ad] at ac ⊢;rw[ae] at E;have M:=zc (A.out.step E H);clear E H ad ae;clear y0 y1 y2 X O Y;obtain⟨y0,y1,y2,X,O,Y⟩:=zl M.out.r7;rw[GA.out] at O;have kl:k4<m.ex.length:=Int.ofNat_lt.1 D.2;have aI:(k4:Int)<(m.ex.length:Int):=D.2;obtain⟨s0,sf⟩:=M.out.spot kl GA.out;have ah:=(Array.getElem?_eq_some_iff.1 M.out.r7).1;obtain⟨x,hx⟩: ∃x,m.ex[k4]? =some x:=⟨_,List.getElem?_eq_getElem kl⟩;have A9:=zc (M.out.num hx GA.out (k5:Int));obtain⟨_,_,_,_,z4,_⟩:=zl A9.out.r7;rw[GA.out,List.length_set] at z4)|(go_at_call 109;refine (zaD S hS g _ (m.ex.length:Int) _ N.out.drew.cur (by omega)).mono ?_;rintro e W4 ⟨rfl,j,o⟩;have D:=zaV S U (m.ex.length:Int) (by omega);obtain⟨k4,K⟩: ∃k:Nat,(bw S U (m.ex.length:Int)).1=k:=⟨(bw S U (m.ex.length:Int)).1.toNat,by omega⟩;obtain⟨q4,J⟩: ∃Q,(bw S U (m.ex.length:Int)).2=Q:=⟨_,rfl⟩;rw[K] at D ⊢;rw[J] at j;have A:=zc (N.out.drew.step j o);clear j o K J;obtain⟨y0,y1,y2,X,O,Y⟩:=zl A.out.r7;rw[GA.out] at O;have af:=(Array.getElem?_eq_some_iff.1 A.out.r7).1))
   all_goals
    have D9:Hid (Drawn 1 {m with ex:=m.ex.set k4 {x with num:=(k5:Int)}}):=⟨(n.out.more (Nat.zero_le 1)).rq,(n.out.more (Nat.zero_le 1)).im,(n.out.more (Nat.zero_le 1)).ep,(n.out.more (Nat.zero_le 1)).st,⟨by show (m.ex.set k4 _).length≤_;rw[List.length_set];omega,zmM n.out.ex.2 (by have:=n.out.ex.2 x (List.mem_of_getElem? hx);exact⟨this.1,this.2.1,by show 0≤(k5:Int);omega,by show (k5:Int)≤_;omega⟩)⟩,n.out.fair⟩
    clear c0 c1 c2 c3 c4 cf y0 y1 y2 X O Y s0 sf
    go_wp2_with fail
    go_meet
    exact⟨_,_,_,A9.out,D9.out⟩
def zof (w:World) (e:Ending) (w':World):Prop:=∃(V:Sv) (m:Md) (scr:Bool),e= .returned (.tuple #[zp V m,.bool scr])∧OwnMd w' w.heap.size V m∧Drawn 1 m∧Below w.heap.size w w'
theorem ziS {w W j:World} {g:Nat} (h:Below w.heap.size w W) (k:W.grownBy j (some g)) (n:w.heap.size≤g):Below w.heap.size w j:=zk4 h k n h.size
theorem zog (S:Src) (X:S.ok) (w:World) (j:zct S w) (hl:S.lim≤w.heap.size) (aa:S.len≤1048576):
  Calls Tryz.prog 16 #[.slice S.a S.len S.cap] w (zof w):=by
 have Z:Hid (Below w.heap.size w (w.alloc (.cells #[.slice none 0 0,.slice none 0 0,.slice none 0 0,.slice none 0 0,.slice none 0 0] 28))):=(Below.refl _ _).alloc (Nat.le_refl _) _
 have HC:Hid (zct S (w.alloc (.cells #[.slice none 0 0,.slice none 0 0,.slice none 0 0,.slice none 0 0,.slice none 0 0] 28))):=zgc j Z.out hl
 clear j
 go_enter Tryz.func16,Tryz.ntmps16
 go_upto_region 1 with fail
 refine zau (R:=fun W=>W.heap[w.heap.size]? =some (.cells #[.slice none 0 0,.slice none 0 0,.slice none 0 0,.slice none 0 0,.slice none 0 0] 28 (0,0))∧zct S W∧Below w.heap.size w W∧w.heap.size<W.heap.size) ⟨heap_alloc_new w _,HC.out,Z.out,by rw[zk];omega⟩ ?_
 obtain⟨b,O⟩: ∃b,b=w.heap.size:=⟨_,rfl⟩
 rw[←O]
 rintro w1 ⟨N,M,o,K⟩
 clear Z HC
 have X1:=zc N
 have C1:=zc M
 rw[O] at o K
 have B1:=zc o
 clear N M o
 go_wp2_with fail
 refine (zkB S X w1 C1.out (by omega)).mono ?_
 rintro e w2 ⟨rfl,j,o⟩
 obtain⟨g,hg⟩: ∃g,g=w1.heap.size:=⟨_,rfl⟩
 rw[←hg] at j ⊢
 have I:=zc j
 have B2:=zc (B1.out.trans (o.mono (Nat.le_of_lt K)))
 have Q:=zc ((o.block _ (Array.getElem?_eq_some_iff.1 X1.out).1).trans X1.out)
 have H:w.heap.size≤g:=by omega
 have ab:b<g:=by omega
 have A:=zc O
 clear j o C1 X1 B1 hg O
 go_wp2_with fail
 refine (zcD S X g _ 3 _ I.out (by omega)).mono ?_
 rintro e w3 ⟨rfl,j,q⟩
 obtain⟨q3,hq⟩: ∃q',(bw S (start S) 3).2=q':=⟨_,rfl⟩
 rw[hq] at j
 have Y:=zc j
 have B3:=zc (ziS B2.out q H)
 have X3:=zc ((q.block _ (Array.getElem?_eq_some_iff.1 Q.out).1 (by simp;omega)).trans Q.out)
 clear j q hq I B2 Q
 generalize ((bw S (start S) 3).1==0)=scr
 go_wp2_with fail
 refine (zlp S (by omega) 10 (by omega) (by omega) _).mono ?_
 rintro e w4 ⟨⟨r,rfl,hr⟩,hw⟩
 rw[hw]
 clear hw
 go_wp2_with fail
 refine (zoe S X g r (by omega) scr q3 _ Y.out).mono ?_
 rintro e w5 ⟨V,m,q5,rfl,E,hd,j,q⟩
 have J:=B3.out.size
 have L:Hid (OwnMd w5 w.heap.size V m):=⟨E.rq.low J,E.im.low J,E.ep.low J,E.st.low J,E.ex.low J⟩
 have D5:=zc hd
 have B5:=zc (ziS B3.out q H)
 have X5:=zc ((q.block _ (Array.getElem?_eq_some_iff.1 X3.out).1 (by simp;omega)).trans X3.out)
 clear E hd j q
 unfold zp
 obtain⟨d0,d1,d2,d3,d4,df⟩:=zl X5.out
 go_wp2
 refine bodyPost_ret (zaA rfl _ _ b 28 _ (0,0) _ rfl (zcZ X5.out) Tryz.underlying28 rfl (by kernel_rfl)) rfl ?_
 have z: ∀{e:TypeId} {D n:Nat} {r:Rw} {xs:List Value} (x0 x1 x2 x3 x4:Value),OwnR w5 w.heap.size e D r n xs→e≠28→OwnR (zdf w5 b x0 x1 x2 x3 x4) w.heap.size e D r n xs:=fun x0 x1 x2 x3 x4 N he=>N.keep fun k U=>zf8 (fun e=>by
  obtain⟨_,_,ac,j⟩:=N.typed U
  rw[e,X5.out] at j
  simp only[Option.some.injEq,Obj.cells.injEq] at j
  exact he j.2.1.symm) ..
 exact⟨V,m,scr,rfl,⟨z _ _ _ _ _ L.out.rq (by decide),z _ _ _ _ _ L.out.im (by decide),z _ _ _ _ _ L.out.ep (by decide),z _ _ _ _ _ L.out.st (by decide),z _ _ _ _ _ L.out.ex (by decide)⟩,D5.out,((((B5.out.setCell (Nat.le_of_eq A.out.symm) _).setCell (Nat.le_of_eq A.out.symm) _).setCell (Nat.le_of_eq A.out.symm) _).setCell (Nat.le_of_eq A.out.symm) _).setCell (Nat.le_of_eq A.out.symm) _⟩
def zaM {α:Type} (c:α→Nat) (l:List α):Nat:=(l.map c).sum
def zdB (x:ByteArray):Nat:=x.size
def zdg (x:Im):Nat:=x.spec.size+x.first.size+x.loc.size
def zdh (x:Ep):Nat:=x.name.size+x.loc.size+x.spec.size
def zej (x:Sm):Nat:=x.name.size
def zdC (x:Ex):Nat:=x.name.size+x.field.size
def zeT (m:Md):Nat:=(m.rq.length+zaM zdB m.rq)+(m.im.length+zaM zdg m.im)+(m.ep.length+zaM zdh m.ep)+(m.st.length+zaM zej m.st)+(m.ex.length+zaM zdC m.ex)
def zat (s:ByteArray):ByteArray:=({data:=#[34]}:ByteArray)++s++({data:=#[34]}:ByteArray)
def asT (a b:ByteArray):ByteArray:=if a.toList==b.toList then a else a++({data:=#[32,97,115,32]}:ByteArray)++b
def zZ (x:Im):ByteArray:=
 if x.first.toList==[42] then ({data:=#[105,109,112,111,114,116,32,42,32,97,115,32]}:ByteArray)++x.loc++({data:=#[32,102,114,111,109,32]}:ByteArray)++zat x.spec++({data:=#[59,10]}:ByteArray)
 else if x.first.toList==[100,101,102,97,117,108,116] then ({data:=#[105,109,112,111,114,116,32]}:ByteArray)++x.loc++({data:=#[32,102,114,111,109,32]}:ByteArray)++zat x.spec++({data:=#[59,10]}:ByteArray)
 else ({data:=#[105,109,112,111,114,116,32,123,32]}:ByteArray)++asT x.first x.loc++({data:=#[32,125,32,102,114,111,109,32]}:ByteArray)++zat x.spec++({data:=#[59,10]}:ByteArray)
def zbi (x:Ep):ByteArray:=
 if x.kind==3 then ({data:=#[101,120,112,111,114,116,32,42,32,102,114,111,109,32]}:ByteArray)++zat x.spec++({data:=#[59,10]}:ByteArray)
 else if x.kind==2 then ({data:=#[101,120,112,111,114,116,32,123,32]}:ByteArray)++asT x.loc x.name++({data:=#[32,125,32,102,114,111,109,32]}:ByteArray)++zat x.spec++({data:=#[59,10]}:ByteArray)
 else ({data:=#[101,120,112,111,114,116,32,123,32]}:ByteArray)++asT x.loc x.name++({data:=#[32,125,59,10]}:ByteArray)
def zaz (k:Int) (n e:ByteArray):ByteArray:=
 if k==1 then (if n.toList==[42,100,101,102,97,117,108,116] then ({data:=#[101,120,112,111,114,116,32,100,101,102,97,117,108,116,32]}:ByteArray)++e++({data:=#[59,10]}:ByteArray) else ({data:=#[108,101,116,32]}:ByteArray)++n++({data:=#[32,61,32]}:ByteArray)++e++({data:=#[59,10]}:ByteArray))
 else if k==2 then ({data:=#[102,117,110,99,116,105,111,110,32]}:ByteArray)++n++({data:=#[40,41,32,123,32,114,101,116,117,114,110,32]}:ByteArray)++e++({data:=#[59,32,125,10]}:ByteArray)
 else if k==3 then n++({data:=#[32,61,32]}:ByteArray)++e++({data:=#[59,10]}:ByteArray)
 else if k==4 then ({data:=#[112,114,105,110,116,40]}:ByteArray)++e++({data:=#[41,59,10]}:ByteArray)
 else if k==5 then ({data:=#[116,104,114,111,119,32]}:ByteArray)++e++({data:=#[59,10]}:ByteArray)
 else ({data:=#[102,97,105,108,32]}:ByteArray)++e++({data:=#[59,10]}:ByteArray)
def zcP (k:Int) (n e:ByteArray):ByteArray:=if n.toList==[42,100,101,102,97,117,108,116] then ({data:=#[101,120,112,111,114,116,32,100,101,102,97,117,108,116,32]}:ByteArray)++e++({data:=#[59,10]}:ByteArray) else zaz k n e
def rqT (s:ByteArray):ByteArray:=({data:=#[105,109,112,111,114,116,32]}:ByteArray)++zat s++({data:=#[59,10]}:ByteArray)
def acc {α:Type} (f:α→ByteArray) (l:List α) (t:ByteArray):ByteArray:=l.foldl (fun t x=>t++f x) t
theorem zbY {α:Type} (f:α→ByteArray) {l:List α} {j:Nat} {x:α} (h:l[j]? =some x) (t:ByteArray):acc f (l.take (j+1)) t=acc f (l.take j) t++f x:=by
 obtain⟨n,rfl⟩:=List.getElem?_eq_some_iff.1 h
 rw[List.take_succ_eq_append_getElem n,acc,List.foldl_append]
 rfl
theorem zdD {α:Type} (f:α→ByteArray) (l:List α): ∀t:ByteArray,t.size≤(acc f l t).size:=by
 induction l with
 |nil=>intro t;exact Nat.le_refl _
 |cons x l j=>
  intro t
  refine Nat.le_trans ?_ (j (t++f x))
  rw[ByteArray.size_append]
  omega
theorem zoh {α:Type} (f:α→ByteArray) (a b:List α) (t:ByteArray):acc f (a++b) t=acc f b (acc f a t):=by rw[acc,List.foldl_append];rfl
theorem zdr {α:Type} (f:α→ByteArray) (l:List α) (j:Nat) (t:ByteArray):(acc f (l.take j) t).size≤(acc f l t).size:=by
 have:acc f l t=acc f (l.drop j) (acc f (l.take j) t):=by rw[←zoh,List.take_append_drop]
 rw[this]
 exact zdD f _ _
def epF (x:Ep):ByteArray:=if x.loc.toList==[42,100,101,102,97,117,108,116] then sNone else zbi x
def stF (ex:List Ex) (s:Sm):ByteArray:=zaz s.kind s.name (prX ex s.expr.toNat)
def zcn (ex:List Ex) (s:Sm):ByteArray:=zcP s.kind s.name (prX ex s.expr.toNat)
def zbI (m:Md):ByteArray:=acc epF m.ep (acc zZ m.im (acc rqT m.rq sNone))
def zbJ (m:Md):ByteArray:=acc (stF m.ex) m.st (zbI m)
def zb1 (m:Md):ByteArray:=acc (zcn m.ex) m.st (zbI m)
def PrintOut (T:ByteArray) (m:Md) (e:Ending):Prop:=(Tree m∧e= .returned (.string T))∨(¬Tree m∧e= .returned (.string sNone))
structure Small (m:Md):Prop where
 rq: ∀x∈m.rq,x.size≤4294967296
 im: ∀x∈m.im,x.spec.size≤4294967296∧x.first.size≤4294967296∧x.loc.size≤4294967296
 ep: ∀x∈m.ep,x.spec.size≤4294967296∧x.name.size≤4294967296∧x.loc.size≤4294967296
 st: ∀x∈m.st,x.name.size≤4294967296
 nums:zbB m.ex
 few:m.rq.length≤4294967296∧m.im.length≤4294967296∧m.ep.length≤4294967296∧m.st.length≤4294967296∧m.ex.length≤4294967296
theorem zeU {α:Type} (f:α→ByteArray) (l:List α): ∀t:ByteArray,(acc f l t).size=t.size+(l.map fun x=>(f x).size).sum:=by
 induction l with
 |nil=>intro t;rfl
 |cons x l j=>
  intro t
  show (acc f l (t++f x)).size=_
  rw[j,ByteArray.size_append,List.map_cons,List.sum_cons,Nat.add_assoc]
theorem zf9 {α:Type} {f c:α→Nat} (l:List α) (h: ∀x∈l,f x≤40+c x):(l.map f).sum≤40*l.length+zaM c l:=by
 induction l with
 |nil=>exact Nat.le_refl _
 |cons x l n=>
  have q:=h x (List.mem_cons_self ..)
  have o:=n fun y j=>h y (List.mem_cons_of_mem _ j)
  unfold zaM at*
  rw[List.map_cons,List.sum_cons,List.map_cons,List.sum_cons,List.length_cons]
  omega
theorem ziT {α:Type} {f c g:α→Nat} (l:List α) (h: ∀x∈l,f x≤40+c x+g x):(l.map f).sum≤40*l.length+zaM c l+(l.map g).sum:=by
 induction l with
 |nil=>exact Nat.le_refl _
 |cons x l n=>
  have q:=h x (List.mem_cons_self ..)
  have o:=n fun y j=>h y (List.mem_cons_of_mem _ j)
  unfold zaM at*
  rw[List.map_cons,List.sum_cons,List.map_cons,List.sum_cons,List.map_cons,List.sum_cons,List.length_cons]
  omega
theorem zc3 (a:Array UInt8):(⟨a⟩:ByteArray).size=a.size:=rfl
theorem zek (s:ByteArray):(zat s).size=s.size+2:=by
 rw[zat,ByteArray.size_append,ByteArray.size_append,zc3]
 show 1+s.size+1=_
 omega
theorem ziU (a b:ByteArray):(asT a b).size≤a.size+b.size+4:=by
 unfold asT
 split
 ·omega
 ·have z:(({data:=#[32,97,115,32]}:ByteArray)).size=4:=rfl
  rw[ByteArray.size_append,ByteArray.size_append,z]
  omega
theorem zoi (s:ByteArray):(rqT s).size≤40+zdB s:=by
 rw[rqT,ByteArray.size_append,ByteArray.size_append,zek,zc3,zc3]
 show 7+(s.size+2)+2≤40+s.size
 omega
theorem zoj (x:Im):(zZ x).size≤40+zdg x:=by
 have j:=ziU x.first x.loc
 unfold zZ zdg
 split
 ·simp only[ByteArray.size_append,zek,zc3]
  simp only[List.size_toArray,List.length_cons,List.length_nil]
  omega
 ·split
  ·simp only[ByteArray.size_append,zek,zc3]
   simp only[List.size_toArray,List.length_cons,List.length_nil]
   omega
  ·simp only[ByteArray.size_append,zek,zc3]
   simp only[List.size_toArray,List.length_cons,List.length_nil]
   omega
theorem zok (x:Ep):(epF x).size≤40+zdh x:=by
 have j:=ziU x.loc x.name
 unfold epF
 split
 ·exact Nat.zero_le _
 ·unfold zbi zdh
  split
  ·simp only[ByteArray.size_append,zek,zc3]
   simp only[List.size_toArray,List.length_cons,List.length_nil]
   omega
  ·split
   ·simp only[ByteArray.size_append,zek,zc3]
    simp only[List.size_toArray,List.length_cons,List.length_nil]
    omega
   ·simp only[ByteArray.size_append,zc3]
    simp only[List.size_toArray,List.length_cons,List.length_nil]
    omega
theorem ziV (k:Int) (n e:ByteArray):(zaz k n e).size≤40+n.size+e.size:=by
 unfold zaz
 repeat' split
 all_goals
  simp only[ByteArray.size_append,zc3]
  simp only[List.size_toArray,List.length_cons,List.length_nil]
  omega
theorem zol (k:Int) (n e:ByteArray):(zcP k n e).size≤40+n.size+e.size:=by
 unfold zcP
 split
 ·simp only[ByteArray.size_append,zc3]
  simp only[List.size_toArray,List.length_cons,List.length_nil]
  omega
 ·exact ziV k n e
theorem zom (l:List Ex):(l.map cost).sum≤40*l.length+zaM zdC l:=zf9 l fun x _=>by unfold cost zdC;omega
theorem zon (m:Md):(zbI m).size≤40*m.rq.length+zaM zdB m.rq+(40*m.im.length+zaM zdg m.im)+(40*m.ep.length+zaM zdh m.ep):=by
 have n:=zf9 (c:=zdB) m.rq fun x _=>zoi x
 have j:=zf9 (c:=zdg) m.im fun x _=>zoj x
 have o:=zf9 (c:=zdh) m.ep fun x _=>zok x
 rw[zbI,zeU,zeU,zeU]
 have:sNone.size=0:=rfl
 omega
theorem zoo {m:Md} (t:Tree m) (j:zbB m.ex):(zbJ m).size≤40*zeT m∧(zb1 m).size≤40*zeT m:=by
 have o:=zon m
 have z:=zld t j
 have q:=zom m.ex
 have D:=ziT (c:=zej) (g:=fun s=>wt m.ex s.expr.toNat) (f:=fun s=>(stF m.ex s).size) m.st fun s _=>ziV s.kind s.name _
 have A:=ziT (c:=zej) (g:=fun s=>wt m.ex s.expr.toNat) (f:=fun s=>(zcn m.ex s).size) m.st fun s _=>zol s.kind s.name _
 have n:zeT m=(m.rq.length+zaM zdB m.rq)+(m.im.length+zaM zdg m.im)+(m.ep.length+zaM zdh m.ep)+(m.st.length+zaM zej m.st)+(m.ex.length+zaM zdC m.ex):=rfl
 constructor
 ·rw[zbJ,zeU]
  omega
 ·rw[zb1,zeU]
  omega
theorem zeV {α:Type} {c:α→Nat} {B:Nat} (l:List α) (h: ∀x∈l,c x≤B):zaM c l≤l.length*B:=by
 induction l with
 |nil=>exact Nat.zero_le _
 |cons x l n=>
  have q:=h x (List.mem_cons_self ..)
  have o:=n fun y j=>h y (List.mem_cons_of_mem _ j)
  unfold zaM at*
  rw[List.map_cons,List.sum_cons,List.length_cons,Nat.succ_mul]
  omega
theorem Drawn.nums {k:Nat} {m:Md} (h:Drawn k m):zbB m.ex:=fun x j=>by
 have:=(h.ex.2 x j).2.2
 omega
theorem Drawn.cost {m:Md} (h:Drawn 1 m):zeT m≤61000000:=by
 have D:=zeV (c:=zdB) (B:=20000) m.rq fun x j=>h.rq.2 x j
 have q:=zeV (c:=zdg) (B:=60000) m.im fun x j=>by have:=h.im.2 x j;unfold zdg;omega
 have n:=zeV (c:=zdh) (B:=60000) m.ep fun x j=>by have:=h.ep.2 x j;unfold zcM at this;unfold zdh;omega
 have A:=zeV (c:=zej) (B:=20000) m.st fun x j=>h.st.2 x j
 have J:=zeV (c:=zdC) (B:=40000) m.ex fun x j=>by have:=h.ex.2 x j;unfold zeM at this;unfold zdC;omega
 have I:=h.rq.1
 have z:=h.im.1
 have E:=h.ep.1
 have H:=h.st.1
 have o:=h.ex.1
 have e:zeT m=(m.rq.length+zaM zdB m.rq)+(m.im.length+zaM zdg m.im)+(m.ep.length+zaM zdh m.ep)+(m.st.length+zaM zej m.st)+(m.ex.length+zaM zdC m.ex):=rfl
 omega
theorem Drawn.small {m:Md} (h:Drawn 1 m):Small m:=by
 have A:=h.rq.1
 have o:=h.im.1
 have z:=h.ep.1
 have q:=h.st.1
 have n:=h.ex.1
 refine⟨fun x j=>?_,fun x j=>?_,fun x j=>?_,fun x j=>?_,h.nums,?_,?_,?_,?_,?_⟩
 ·have:=h.rq.2 x j
  omega
 ·have:=h.im.2 x j
  omega
 ·have:=h.ep.2 x j
  unfold zcM at this
  omega
 ·have:=h.st.2 x j
  omega
 all_goals omega
theorem Drawn.text {m:Md} (h:Drawn 1 m) (t:Tree m):(zbJ m).size≤4294967296∧(zb1 m).size≤4294967296:=by
 have:=zoo t h.nums
 have:=h.cost
 omega
def zbZ (P:Prop) (e:Ending):Prop:=∃b,e= .returned (.bool b)∧(b=true↔P)
theorem zaN {α:Type} {l:List α} {j:Nat} (h:j<l.length): ∃x,l[j]? =some x:=⟨_,List.getElem?_eq_getElem h⟩
theorem zcQ {α:Type} {o n:List α} {j:Nat} {x:α} (h:o.take j=n.take j) (z:o[j]? =some x) (q:n[j]? =some x):o.take (j+1)=n.take (j+1):=by
 obtain⟨a,rfl⟩:=List.getElem?_eq_some_iff.1 z
 obtain⟨b,A⟩:=List.getElem?_eq_some_iff.1 q
 rw[List.take_succ_eq_append_getElem a,List.take_succ_eq_append_getElem b,h,A]
theorem zcR {α:Type} {j n:List α} (o:j.length=n.length) (h:j.take j.length=n.take j.length):j=n:=by
 rw[List.take_length,o,List.take_length] at h
 exact h
theorem zeW {a b:ByteArray} (h:(a.toList==b.toList)=true):a=b:=(zkw a b).1 h
def zgL (x y:ByteArray):Bool:=x.toList==y.toList
theorem zfA {x y:ByteArray}:zgL x y=true↔x=y:=⟨fun h=>zeW h,fun h=>by rw[h];exact beq_self_eq_true _⟩
theorem zop (A o:Option Addr) (j n q z:Nat) (w:World) (h:(j:Int)≠(n:Int)):Calls Tryz.prog 104 #[.slice A j q,.slice o n z] w fun e D=>e= .returned (.bool false)∧Below w.heap.size w D:=by
 go_enter Tryz.func104,Tryz.ntmps104
 go_wp2
 go_ret
 exact⟨rfl,Below.refl _ _⟩
theorem zoq (q j:Option Addr) (n o:Nat) (w:World):Calls Tryz.prog 104 #[.slice q 0 n,.slice j 0 o] w fun e z=>e= .returned (.bool true)∧Below w.heap.size w z:=by
 go_enter Tryz.func104,Tryz.ntmps104
 go_wp2
 go_loopg [13] 1 (fun k i wr=>k=1∧i= .int .i64 0∧wr=w)
 case atStart=>exact⟨rfl,rfl,rfl⟩
 case round=>
  obtain⟨rfl,rfl,rfl⟩:=hrel
  go_wp2
  go_ret
  exact⟨rfl,Below.refl _ _⟩
theorem zor (b1 b2 O V:Nat) (X N:Rw) (n z:List ByteArray) (w:World) (K:OwnR w b1 9 1 X n.length (n.flatMap (fun x=>[Value.string x]))) (E:OwnR w b2 9 1 N z.length (z.flatMap (fun x=>[Value.string x]))) (e1:X.a=some ⟨O,0,none⟩) (e2:N.a=some ⟨V,0,none⟩) (hl:n.length=z.length) (U:n.length≤4294967296):
  Calls Tryz.prog 104 #[.slice (some ⟨O,0,none⟩) n.length X.cap,.slice (some ⟨V,0,none⟩) n.length N.cap] w fun e w'=>zbZ (n=z) e∧Below w.heap.size w w':=by
 have H1:=zc K
 have H2:=zc E
 have E1:=zc e1
 have E2:=zc e2
 have HL:=zc hl
 clear K E e1 e2 hl
 go_enter Tryz.func104,Tryz.ntmps104
 go_wp2
 go_loopg [13] n.length (fun k i wr=>∃j:Nat,i= .int .i64 j∧j+k=n.length∧n.take j=z.take j∧Below w.heap.size w wr)
 case atStart=>exact⟨0,rfl,by omega,rfl,Below.refl _ _⟩
 case round=>
  obtain⟨j,rfl,hj,ht,U⟩:=hrel
  have D:=zc U
  have HT:=zc ht
  clear U ht
  by_cases J:j<n.length
  ·have A:(j:Int)<(n.length:Int):=by omega
   obtain⟨x,hx⟩:=zaN J
   obtain⟨y,Y⟩:=zaN (show j<z.length by rw[←HL.out];exact J)
   obtain⟨Q,ga,K⟩:=OwnR.elem (f:=(fun x=>[Value.string x])) (m:=1) (fun _=>rfl) (H1.out.keep fun k g=>D.out.block k (H1.out.typed g).2.1) hx
   obtain rfl:Q=O:=by have:=ga.symm.trans E1.out;simpa using this
   obtain⟨Q,gb,E⟩:=OwnR.elem (f:=(fun x=>[Value.string x])) (m:=1) (fun _=>rfl) (H2.out.keep fun k g=>D.out.block k (H2.out.typed g).2.1) Y
   obtain rfl:Q=V:=by have:=gb.symm.trans E2.out;simpa using this
   have C0:=zc (K 0 (by omega))
   have D0:=zc (E 0 (by omega))
   have HX:=zc hx
   have HY:=zc Y
   clear K E ga gb hx Y
   obtain⟨L,I⟩: ∃L,L=j+1:=⟨_,rfl⟩
   have ej:(j:Int)+1=(L:Int):=by omega
   have HJ:=zc I
   clear I
   obtain⟨b,o⟩: ∃b,zgL x y=b:=⟨_,rfl⟩
   have aa:(x.toList==y.toList)=b:=o
   go_wp2
   have k0:=cell_regrown C0.out
   have m0:=cell_regrown D0.out
   simp only[Nat.add_zero,Nat.mul_one] at k0 m0
   refine wp_region_quiet_below (by kernel_rfl) (by kernel_rfl) ?_
   repeat (go_big_quiet_step (fail))
   refine wpQuiet_nil ?_
   intro w2 M
   obtain⟨⟨dq,Z⟩,q⟩:=M
   have H:Hid (Below w.heap.size w w2):=by show Below _ _ _;rw[q];exact D.out.trans ((below_regrown wr dq Z).mono D.out.size)
   clear q k0 m0 C0 D0
   cases b with
   |true=>
    go_wp2
    go_roundg (gk-1)
    case rel=>exact⟨L,rfl,by have:=HJ.out;omega,by rw[HJ.out];have e:=zfA.1 o;exact zcQ HT.out HX.out (by rw[e];exact HY.out),H.out⟩
    case measure=>omega
   |false=>
    go_wp2
    go_ret
    exact⟨⟨false,rfl,⟨fun k=>(by cases k),fun k=>(by have e:=HX.out;rw[k,HY.out] at e;cases e;rw[zfA.2 rfl] at o;cases o)⟩⟩,H.out⟩
  ·have A: ¬(j:Int)<(n.length:Int):=by omega
   obtain rfl:j=n.length:=by omega
   go_wp2
   go_ret
   exact⟨⟨true,rfl,⟨fun _=>zcR HL.out HT.out,fun _=>rfl⟩⟩,D.out⟩
theorem zos (L b2:Nat) (z A:Rw) (j n:List ByteArray) (w:World) (K:OwnR w L 9 1 z j.length (j.flatMap (fun x=>[Value.string x]))) (I:OwnR w b2 9 1 A n.length (n.flatMap (fun x=>[Value.string x]))) (O:j.length≤4294967296):
  Calls Tryz.prog 104 #[.slice z.a j.length z.cap,.slice A.a n.length A.cap] w fun e E=>zbZ (j=n) e∧Below w.heap.size w E:=by
 by_cases q:j.length=n.length
 ·rw[←q]
  by_cases o:j.length=0
  ·rw[o]
   refine (zoq _ _ _ _ w).mono ?_
   rintro e E ⟨rfl,D⟩
   exact⟨⟨true,rfl,⟨fun _=>(by rw[List.eq_nil_of_length_eq_zero o,List.eq_nil_of_length_eq_zero (q.symm.trans o)]),fun _=>rfl⟩⟩,D⟩
  ·rcases K.nil_or with ⟨_,_,e⟩|⟨N,J⟩
   ·exact absurd e o
   ·rcases I.nil_or with ⟨_,_,e⟩|⟨M,H⟩
    ·exact absurd (q.trans e) o
    ·rw[J,H]
     exact zor L b2 N M z A j n w K I J H q O
 ·refine (zop _ _ _ _ _ _ w (by omega)).mono ?_
  rintro e E ⟨rfl,D⟩
  exact⟨⟨false,rfl,⟨fun k=>(by cases k),fun k=>absurd (by rw[k]) q⟩⟩,D⟩
def zco (x y:Im):Bool:=x.spec.toList==y.spec.toList&&x.first.toList==y.first.toList&&x.loc.toList==y.loc.toList
theorem zeX {x y:Im}:zco x y=true↔x=y:=by
 constructor
 ·intro h
  unfold zco at h
  simp only[Bool.and_eq_true] at h
  obtain⟨⟨n,o⟩,j⟩:=h
  cases x
  cases y
  simp only at n o j
  congr 1<;>first|(apply zeW;assumption)|(apply eq_of_beq;assumption)
 ·intro h
  rw[h]
  simp[zco]
theorem zot (A o:Option Addr) (j n q z:Nat) (w:World) (h:(j:Int)≠(n:Int)):Calls Tryz.prog 105 #[.slice A j q,.slice o n z] w fun e D=>e= .returned (.bool false)∧Below w.heap.size w D:=by
 go_enter Tryz.func105,Tryz.ntmps105
 go_wp2
 go_ret
 exact⟨rfl,Below.refl _ _⟩
theorem zou (q j:Option Addr) (n o:Nat) (w:World):Calls Tryz.prog 105 #[.slice q 0 n,.slice j 0 o] w fun e z=>e= .returned (.bool true)∧Below w.heap.size w z:=by
 go_enter Tryz.func105,Tryz.ntmps105
 go_wp2
 go_loopg [13] 1 (fun k i wr=>k=1∧i= .int .i64 0∧wr=w)
 case atStart=>exact⟨rfl,rfl,rfl⟩
 case round=>
  obtain⟨rfl,rfl,rfl⟩:=hrel
  go_wp2
  go_ret
  exact⟨rfl,Below.refl _ _⟩
theorem zov (ab: ∀(x y:Im) (W:World),Sem.run Tryz.prog (binOp .neq 100 (.agg #[.string x.spec,.string x.first,.string x.loc]) (.agg #[.string y.spec,.string y.first,.string y.loc])) W= .ok (.bool (!zco x y)) W) (Z: ∀(H:BinOp) (a b:Operand) (x y:Im) (W:World),Sem.run Tryz.prog (eqGuard H 100 a b (.agg #[.string x.spec,.string x.first,.string x.loc]) (.agg #[.string y.spec,.string y.first,.string y.loc])) W= .ok () W) (b1 b2 Q X:Nat) (Y O:Rw) (n D:List Im) (w:World) (A:OwnR w b1 100 3 Y n.length (n.flatMap imL)) (z:OwnR w b2 100 3 O D.length (D.flatMap imL)) (e1:Y.a=some ⟨Q,0,none⟩) (e2:O.a=some ⟨X,0,none⟩) (hl:n.length=D.length) (V:n.length≤4294967296):
  Calls Tryz.prog 105 #[.slice (some ⟨Q,0,none⟩) n.length Y.cap,.slice (some ⟨X,0,none⟩) n.length O.cap] w fun e w'=>zbZ (n=D) e∧Below w.heap.size w w':=by
 have H1:=zc A
 have H2:=zc z
 have E1:=zc e1
 have E2:=zc e2
 have HL:=zc hl
 clear A z e1 e2 hl
 go_enter Tryz.func105,Tryz.ntmps105
 go_wp2
 go_loopg [13] n.length (fun k i wr=>∃j:Nat,i= .int .i64 j∧j+k=n.length∧n.take j=D.take j∧Below w.heap.size w wr)
 case atStart=>exact⟨0,rfl,by omega,rfl,Below.refl _ _⟩
 case round=>
  obtain⟨j,rfl,hj,ht,V⟩:=hrel
  have I:=zc V
  have HT:=zc ht
  clear V ht
  by_cases L:j<n.length
  ·have E:(j:Int)<(n.length:Int):=by omega
   obtain⟨x,hx⟩:=zaN L
   obtain⟨y,hy⟩:=zaN (show j<D.length by rw[←HL.out];exact L)
   obtain⟨U,ga,A⟩:=OwnR.elem (f:=imL) (m:=3) (fun _=>rfl) (H1.out.keep fun k g=>I.out.block k (H1.out.typed g).2.1) hx
   obtain rfl:U=Q:=by have:=ga.symm.trans E1.out;simpa using this
   obtain⟨U,gb,z⟩:=OwnR.elem (f:=imL) (m:=3) (fun _=>rfl) (H2.out.keep fun k g=>I.out.block k (H2.out.typed g).2.1) hy
   obtain rfl:U=X:=by have:=gb.symm.trans E2.out;simpa using this
   have C0:=zc (A 0 (by omega))
   have D0:=zc (z 0 (by omega))
   have C1:=zc (A 1 (by omega))
   have D1:=zc (z 1 (by omega))
   have C2:=zc (A 2 (by omega))
   have D2:=zc (z 2 (by omega))
   have HX:=zc hx
   have HY:=zc hy
   clear A z ga gb hx hy
   obtain⟨M,K⟩: ∃M,M=j+1:=⟨_,rfl⟩
   have ej:(j:Int)+1=(M:Int):=by omega
   have HJ:=zc K
   clear K
   obtain⟨b,o⟩: ∃b,zco x y=b:=⟨_,rfl⟩
   have ad: ∀W:World,Sem.run Tryz.prog (binOp .neq 100 (.agg #[.string x.spec,.string x.first,.string x.loc]) (.agg #[.string y.spec,.string y.first,.string y.loc])) W= .ok (.bool !b) W:=fun W=>by rw[ab,o]
   have ac: ∀(H:BinOp) (a b:Operand) (W:World),Sem.run Tryz.prog (eqGuard H 100 a b (.agg #[.string x.spec,.string x.first,.string x.loc]) (.agg #[.string y.spec,.string y.first,.string y.loc])) W= .ok () W:=fun H a b W=>Z H a b x y W
   go_wp2
   have k0:=cell_regrown C0.out
   have m0:=cell_regrown D0.out
   have k1:=cell_regrown C1.out
   have m1:=cell_regrown D1.out
   have k2:=cell_regrown C2.out
   have m2:=cell_regrown D2.out
   simp only[Nat.add_zero] at k0 m0
   refine wp_region_quiet_below (by kernel_rfl) (by kernel_rfl) ?_
   repeat (go_big_quiet_step (fail))
   refine wpQuiet_nil ?_
   intro w2 N
   obtain⟨⟨dq,aa⟩,q⟩:=N
   have J:Hid (Below w.heap.size w w2):=by show Below _ _ _;rw[q];exact I.out.trans ((below_regrown wr dq aa).mono I.out.size)
   clear q k0 m0 C0 D0 k1 m1 C1 D1 k2 m2 C2 D2
   cases b with
   |true=>
    go_wp2
    go_roundg (gk-1)
    case rel=>exact⟨M,rfl,by have:=HJ.out;omega,by rw[HJ.out];have e:=zeX.1 o;exact zcQ HT.out HX.out (by rw[e];exact HY.out),J.out⟩
    case measure=>omega
   |false=>
    go_wp2
    go_ret
    exact⟨⟨false,rfl,⟨fun k=>(by cases k),fun k=>(by have e:=HX.out;rw[k,HY.out] at e;cases e;rw[zeX.2 rfl] at o;cases o)⟩⟩,J.out⟩
  ·have E: ¬(j:Int)<(n.length:Int):=by omega
   obtain rfl:j=n.length:=by omega
   go_wp2
   go_ret
   exact⟨⟨true,rfl,⟨fun _=>zcR HL.out HT.out,fun _=>rfl⟩⟩,I.out⟩
theorem zow (H: ∀(x y:Im) (W:World),Sem.run Tryz.prog (binOp .neq 100 (.agg #[.string x.spec,.string x.first,.string x.loc]) (.agg #[.string y.spec,.string y.first,.string y.loc])) W= .ok (.bool (!zco x y)) W) (E: ∀(O:BinOp) (a b:Operand) (x y:Im) (W:World),Sem.run Tryz.prog (eqGuard O 100 a b (.agg #[.string x.spec,.string x.first,.string x.loc]) (.agg #[.string y.spec,.string y.first,.string y.loc])) W= .ok () W) (M b2:Nat) (A z:Rw) (j n:List Im) (w:World) (N:OwnR w M 100 3 A j.length (j.flatMap imL)) (J:OwnR w b2 100 3 z n.length (n.flatMap imL)) (U:j.length≤4294967296):
  Calls Tryz.prog 105 #[.slice A.a j.length A.cap,.slice z.a n.length z.cap] w fun e I=>zbZ (j=n) e∧Below w.heap.size w I:=by
 by_cases o:j.length=n.length
 ·rw[←o]
  by_cases q:j.length=0
  ·rw[q]
   refine (zou _ _ _ _ w).mono ?_
   rintro e I ⟨rfl,D⟩
   exact⟨⟨true,rfl,⟨fun _=>(by rw[List.eq_nil_of_length_eq_zero q,List.eq_nil_of_length_eq_zero (o.symm.trans q)]),fun _=>rfl⟩⟩,D⟩
  ·rcases N.nil_or with ⟨_,_,e⟩|⟨Q,K⟩
   ·exact absurd e q
   ·rcases J.nil_or with ⟨_,_,e⟩|⟨V,L⟩
    ·exact absurd (o.trans e) q
    ·rw[K,L]
     exact zov H E M b2 Q V A z j n w N J K L o U
 ·refine (zot _ _ _ _ _ _ w (by omega)).mono ?_
  rintro e I ⟨rfl,D⟩
  exact⟨⟨false,rfl,⟨fun k=>(by cases k),fun k=>absurd (by rw[k]) o⟩⟩,D⟩
def zcp (x y:Ep):Bool:=x.kind==y.kind&&x.name.toList==y.name.toList&&x.loc.toList==y.loc.toList&&x.spec.toList==y.spec.toList
theorem zeY {x y:Ep}:zcp x y=true↔x=y:=by
 constructor
 ·intro h
  unfold zcp at h
  simp only[Bool.and_eq_true] at h
  obtain⟨⟨⟨n,o⟩,j⟩,q⟩:=h
  cases x
  cases y
  simp only at n o j q
  congr 1<;>first|(apply zeW;assumption)|(apply eq_of_beq;assumption)
 ·intro h
  rw[h]
  simp[zcp]
theorem zox (A o:Option Addr) (j n q z:Nat) (w:World) (h:(j:Int)≠(n:Int)):Calls Tryz.prog 106 #[.slice A j q,.slice o n z] w fun e D=>e= .returned (.bool false)∧Below w.heap.size w D:=by
 go_enter Tryz.func106,Tryz.ntmps106
 go_wp2
 go_ret
 exact⟨rfl,Below.refl _ _⟩
theorem zoy (q j:Option Addr) (n o:Nat) (w:World):Calls Tryz.prog 106 #[.slice q 0 n,.slice j 0 o] w fun e z=>e= .returned (.bool true)∧Below w.heap.size w z:=by
 go_enter Tryz.func106,Tryz.ntmps106
 go_wp2
 go_loopg [13] 1 (fun k i wr=>k=1∧i= .int .i64 0∧wr=w)
 case atStart=>exact⟨rfl,rfl,rfl⟩
 case round=>
  obtain⟨rfl,rfl,rfl⟩:=hrel
  go_wp2
  go_ret
  exact⟨rfl,Below.refl _ _⟩
theorem zoz (ab: ∀(x y:Ep) (W:World),Sem.run Tryz.prog (binOp .neq 102 (.agg #[.int .i64 x.kind,.string x.name,.string x.loc,.string x.spec]) (.agg #[.int .i64 y.kind,.string y.name,.string y.loc,.string y.spec])) W= .ok (.bool (!zcp x y)) W) (Z: ∀(H:BinOp) (a b:Operand) (x y:Ep) (W:World),Sem.run Tryz.prog (eqGuard H 102 a b (.agg #[.int .i64 x.kind,.string x.name,.string x.loc,.string x.spec]) (.agg #[.int .i64 y.kind,.string y.name,.string y.loc,.string y.spec])) W= .ok () W) (b1 b2 Q X:Nat) (Y O:Rw) (n D:List Ep) (w:World) (A:OwnR w b1 102 4 Y n.length (n.flatMap epL)) (q:OwnR w b2 102 4 O D.length (D.flatMap epL)) (e1:Y.a=some ⟨Q,0,none⟩) (e2:O.a=some ⟨X,0,none⟩) (hl:n.length=D.length) (V:n.length≤4294967296):
  Calls Tryz.prog 106 #[.slice (some ⟨Q,0,none⟩) n.length Y.cap,.slice (some ⟨X,0,none⟩) n.length O.cap] w fun e w'=>zbZ (n=D) e∧Below w.heap.size w w':=by
 have H1:=zc A
 have H2:=zc q
 have E1:=zc e1
 have E2:=zc e2
 have HL:=zc hl
 clear A q e1 e2 hl
 go_enter Tryz.func106,Tryz.ntmps106
 go_wp2
 go_loopg [13] n.length (fun k i wr=>∃j:Nat,i= .int .i64 j∧j+k=n.length∧n.take j=D.take j∧Below w.heap.size w wr)
 case atStart=>exact⟨0,rfl,by omega,rfl,Below.refl _ _⟩
 case round=>
  obtain⟨j,rfl,hj,ht,V⟩:=hrel
  have I:=zc V
  have HT:=zc ht
  clear V ht
  by_cases L:j<n.length
  ·have E:(j:Int)<(n.length:Int):=by omega
   obtain⟨x,hx⟩:=zaN L
   obtain⟨y,hy⟩:=zaN (show j<D.length by rw[←HL.out];exact L)
   obtain⟨U,ga,A⟩:=OwnR.elem (f:=epL) (m:=4) (fun _=>rfl) (H1.out.keep fun k g=>I.out.block k (H1.out.typed g).2.1) hx
   obtain rfl:U=Q:=by have:=ga.symm.trans E1.out;simpa using this
   obtain⟨U,gb,q⟩:=OwnR.elem (f:=epL) (m:=4) (fun _=>rfl) (H2.out.keep fun k g=>I.out.block k (H2.out.typed g).2.1) hy
   obtain rfl:U=X:=by have:=gb.symm.trans E2.out;simpa using this
   have C0:=zc (A 0 (by omega))
   have D0:=zc (q 0 (by omega))
   have C1:=zc (A 1 (by omega))
   have D1:=zc (q 1 (by omega))
   have C2:=zc (A 2 (by omega))
   have D2:=zc (q 2 (by omega))
   have C3:=zc (A 3 (by omega))
   have D3:=zc (q 3 (by omega))
   have HX:=zc hx
   have HY:=zc hy
   clear A q ga gb hx hy
   obtain⟨M,K⟩: ∃M,M=j+1:=⟨_,rfl⟩
   have ej:(j:Int)+1=(M:Int):=by omega
   have HJ:=zc K
   clear K
   obtain⟨b,o⟩: ∃b,zcp x y=b:=⟨_,rfl⟩
   have ad: ∀W:World,Sem.run Tryz.prog (binOp .neq 102 (.agg #[.int .i64 x.kind,.string x.name,.string x.loc,.string x.spec]) (.agg #[.int .i64 y.kind,.string y.name,.string y.loc,.string y.spec])) W= .ok (.bool !b) W:=fun W=>by rw[ab,o]
   have ac: ∀(H:BinOp) (a b:Operand) (W:World),Sem.run Tryz.prog (eqGuard H 102 a b (.agg #[.int .i64 x.kind,.string x.name,.string x.loc,.string x.spec]) (.agg #[.int .i64 y.kind,.string y.name,.string y.loc,.string y.spec])) W= .ok () W:=fun H a b W=>Z H a b x y W
   go_wp2
   have k0:=cell_regrown C0.out
   have m0:=cell_regrown D0.out
   have k1:=cell_regrown C1.out
   have m1:=cell_regrown D1.out
   have k2:=cell_regrown C2.out
   have m2:=cell_regrown D2.out
   have k3:=cell_regrown C3.out
   have m3:=cell_regrown D3.out
   simp only[Nat.add_zero] at k0 m0
   refine wp_region_quiet_below (by kernel_rfl) (by kernel_rfl) ?_
   repeat (go_big_quiet_step (fail))
   refine wpQuiet_nil ?_
   intro w2 N
   obtain⟨⟨dq,aa⟩,z⟩:=N
   have J:Hid (Below w.heap.size w w2):=by show Below _ _ _;rw[z];exact I.out.trans ((below_regrown wr dq aa).mono I.out.size)
   clear z k0 m0 C0 D0 k1 m1 C1 D1 k2 m2 C2 D2 k3 m3 C3 D3
   cases b with
   |true=>
    go_wp2
    go_roundg (gk-1)
    case rel=>exact⟨M,rfl,by have:=HJ.out;omega,by rw[HJ.out];have e:=zeY.1 o;exact zcQ HT.out HX.out (by rw[e];exact HY.out),J.out⟩
    case measure=>omega
   |false=>
    go_wp2
    go_ret
    exact⟨⟨false,rfl,⟨fun k=>(by cases k),fun k=>(by have e:=HX.out;rw[k,HY.out] at e;cases e;rw[zeY.2 rfl] at o;cases o)⟩⟩,J.out⟩
  ·have E: ¬(j:Int)<(n.length:Int):=by omega
   obtain rfl:j=n.length:=by omega
   go_wp2
   go_ret
   exact⟨⟨true,rfl,⟨fun _=>zcR HL.out HT.out,fun _=>rfl⟩⟩,I.out⟩
theorem zo0 (H: ∀(x y:Ep) (W:World),Sem.run Tryz.prog (binOp .neq 102 (.agg #[.int .i64 x.kind,.string x.name,.string x.loc,.string x.spec]) (.agg #[.int .i64 y.kind,.string y.name,.string y.loc,.string y.spec])) W= .ok (.bool (!zcp x y)) W) (E: ∀(O:BinOp) (a b:Operand) (x y:Ep) (W:World),Sem.run Tryz.prog (eqGuard O 102 a b (.agg #[.int .i64 x.kind,.string x.name,.string x.loc,.string x.spec]) (.agg #[.int .i64 y.kind,.string y.name,.string y.loc,.string y.spec])) W= .ok () W) (M b2:Nat) (A z:Rw) (j n:List Ep) (w:World) (N:OwnR w M 102 4 A j.length (j.flatMap epL)) (J:OwnR w b2 102 4 z n.length (n.flatMap epL)) (U:j.length≤4294967296):
  Calls Tryz.prog 106 #[.slice A.a j.length A.cap,.slice z.a n.length z.cap] w fun e I=>zbZ (j=n) e∧Below w.heap.size w I:=by
 by_cases o:j.length=n.length
 ·rw[←o]
  by_cases q:j.length=0
  ·rw[q]
   refine (zoy _ _ _ _ w).mono ?_
   rintro e I ⟨rfl,D⟩
   exact⟨⟨true,rfl,⟨fun _=>(by rw[List.eq_nil_of_length_eq_zero q,List.eq_nil_of_length_eq_zero (o.symm.trans q)]),fun _=>rfl⟩⟩,D⟩
  ·rcases N.nil_or with ⟨_,_,e⟩|⟨Q,K⟩
   ·exact absurd e q
   ·rcases J.nil_or with ⟨_,_,e⟩|⟨V,L⟩
    ·exact absurd (o.trans e) q
    ·rw[K,L]
     exact zoz H E M b2 Q V A z j n w N J K L o U
 ·refine (zox _ _ _ _ _ _ w (by omega)).mono ?_
  rintro e I ⟨rfl,D⟩
  exact⟨⟨false,rfl,⟨fun k=>(by cases k),fun k=>absurd (by rw[k]) o⟩⟩,D⟩
def zcq (x y:Sm):Bool:=x.kind==y.kind&&x.name.toList==y.name.toList&&x.expr==y.expr
theorem zeZ {x y:Sm}:zcq x y=true↔x=y:=by
 constructor
 ·intro h
  unfold zcq at h
  simp only[Bool.and_eq_true] at h
  obtain⟨⟨n,o⟩,j⟩:=h
  cases x
  cases y
  simp only at n o j
  congr 1<;>first|(apply zeW;assumption)|(apply eq_of_beq;assumption)
 ·intro h
  rw[h]
  simp[zcq]
theorem zo1 (A o:Option Addr) (j n q z:Nat) (w:World) (h:(j:Int)≠(n:Int)):Calls Tryz.prog 107 #[.slice A j q,.slice o n z] w fun e D=>e= .returned (.bool false)∧Below w.heap.size w D:=by
 go_enter Tryz.func107,Tryz.ntmps107
 go_wp2
 go_ret
 exact⟨rfl,Below.refl _ _⟩
theorem zo2 (q j:Option Addr) (n o:Nat) (w:World):Calls Tryz.prog 107 #[.slice q 0 n,.slice j 0 o] w fun e z=>e= .returned (.bool true)∧Below w.heap.size w z:=by
 go_enter Tryz.func107,Tryz.ntmps107
 go_wp2
 go_loopg [13] 1 (fun k i wr=>k=1∧i= .int .i64 0∧wr=w)
 case atStart=>exact⟨rfl,rfl,rfl⟩
 case round=>
  obtain⟨rfl,rfl,rfl⟩:=hrel
  go_wp2
  go_ret
  exact⟨rfl,Below.refl _ _⟩
theorem zo3 (ab: ∀(x y:Sm) (W:World),Sem.run Tryz.prog (binOp .neq 106 (.agg #[.int .i64 x.kind,.string x.name,.int .i64 x.expr]) (.agg #[.int .i64 y.kind,.string y.name,.int .i64 y.expr])) W= .ok (.bool (!zcq x y)) W) (Z: ∀(H:BinOp) (a b:Operand) (x y:Sm) (W:World),Sem.run Tryz.prog (eqGuard H 106 a b (.agg #[.int .i64 x.kind,.string x.name,.int .i64 x.expr]) (.agg #[.int .i64 y.kind,.string y.name,.int .i64 y.expr])) W= .ok () W) (b1 b2 Q X:Nat) (Y O:Rw) (n D:List Sm) (w:World) (A:OwnR w b1 106 3 Y n.length (n.flatMap smL)) (z:OwnR w b2 106 3 O D.length (D.flatMap smL)) (e1:Y.a=some ⟨Q,0,none⟩) (e2:O.a=some ⟨X,0,none⟩) (hl:n.length=D.length) (V:n.length≤4294967296):
  Calls Tryz.prog 107 #[.slice (some ⟨Q,0,none⟩) n.length Y.cap,.slice (some ⟨X,0,none⟩) n.length O.cap] w fun e w'=>zbZ (n=D) e∧Below w.heap.size w w':=by
 have H1:=zc A
 have H2:=zc z
 have E1:=zc e1
 have E2:=zc e2
 have HL:=zc hl
 clear A z e1 e2 hl
 go_enter Tryz.func107,Tryz.ntmps107
 go_wp2
 go_loopg [13] n.length (fun k i wr=>∃j:Nat,i= .int .i64 j∧j+k=n.length∧n.take j=D.take j∧Below w.heap.size w wr)
 case atStart=>exact⟨0,rfl,by omega,rfl,Below.refl _ _⟩
 case round=>
  obtain⟨j,rfl,hj,ht,V⟩:=hrel
  have I:=zc V
  have HT:=zc ht
  clear V ht
  by_cases L:j<n.length
  ·have E:(j:Int)<(n.length:Int):=by omega
   obtain⟨x,hx⟩:=zaN L
   obtain⟨y,hy⟩:=zaN (show j<D.length by rw[←HL.out];exact L)
   obtain⟨U,ga,A⟩:=OwnR.elem (f:=smL) (m:=3) (fun _=>rfl) (H1.out.keep fun k g=>I.out.block k (H1.out.typed g).2.1) hx
   obtain rfl:U=Q:=by have:=ga.symm.trans E1.out;simpa using this
   obtain⟨U,gb,z⟩:=OwnR.elem (f:=smL) (m:=3) (fun _=>rfl) (H2.out.keep fun k g=>I.out.block k (H2.out.typed g).2.1) hy
   obtain rfl:U=X:=by have:=gb.symm.trans E2.out;simpa using this
   have C0:=zc (A 0 (by omega))
   have D0:=zc (z 0 (by omega))
   have C1:=zc (A 1 (by omega))
   have D1:=zc (z 1 (by omega))
   have C2:=zc (A 2 (by omega))
   have D2:=zc (z 2 (by omega))
   have HX:=zc hx
   have HY:=zc hy
   clear A z ga gb hx hy
   obtain⟨M,K⟩: ∃M,M=j+1:=⟨_,rfl⟩
   have ej:(j:Int)+1=(M:Int):=by omega
   have HJ:=zc K
   clear K
   obtain⟨b,o⟩: ∃b,zcq x y=b:=⟨_,rfl⟩
   have ad: ∀W:World,Sem.run Tryz.prog (binOp .neq 106 (.agg #[.int .i64 x.kind,.string x.name,.int .i64 x.expr]) (.agg #[.int .i64 y.kind,.string y.name,.int .i64 y.expr])) W= .ok (.bool !b) W:=fun W=>by rw[ab,o]
   have ac: ∀(H:BinOp) (a b:Operand) (W:World),Sem.run Tryz.prog (eqGuard H 106 a b (.agg #[.int .i64 x.kind,.string x.name,.int .i64 x.expr]) (.agg #[.int .i64 y.kind,.string y.name,.int .i64 y.expr])) W= .ok () W:=fun H a b W=>Z H a b x y W
   go_wp2
   have k0:=cell_regrown C0.out
   have m0:=cell_regrown D0.out
   have k1:=cell_regrown C1.out
   have m1:=cell_regrown D1.out
   have k2:=cell_regrown C2.out
   have m2:=cell_regrown D2.out
   simp only[Nat.add_zero] at k0 m0
   refine wp_region_quiet_below (by kernel_rfl) (by kernel_rfl) ?_
   repeat (go_big_quiet_step (fail))
   refine wpQuiet_nil ?_
   intro w2 N
   obtain⟨⟨dq,aa⟩,q⟩:=N
   have J:Hid (Below w.heap.size w w2):=by show Below _ _ _;rw[q];exact I.out.trans ((below_regrown wr dq aa).mono I.out.size)
   clear q k0 m0 C0 D0 k1 m1 C1 D1 k2 m2 C2 D2
   cases b with
   |true=>
    go_wp2
    go_roundg (gk-1)
    case rel=>exact⟨M,rfl,by have:=HJ.out;omega,by rw[HJ.out];have e:=zeZ.1 o;exact zcQ HT.out HX.out (by rw[e];exact HY.out),J.out⟩
    case measure=>omega
   |false=>
    go_wp2
    go_ret
    exact⟨⟨false,rfl,⟨fun k=>(by cases k),fun k=>(by have e:=HX.out;rw[k,HY.out] at e;cases e;rw[zeZ.2 rfl] at o;cases o)⟩⟩,J.out⟩
  ·have E: ¬(j:Int)<(n.length:Int):=by omega
   obtain rfl:j=n.length:=by omega
   go_wp2
   go_ret
   exact⟨⟨true,rfl,⟨fun _=>zcR HL.out HT.out,fun _=>rfl⟩⟩,I.out⟩
theorem zo4 (H: ∀(x y:Sm) (W:World),Sem.run Tryz.prog (binOp .neq 106 (.agg #[.int .i64 x.kind,.string x.name,.int .i64 x.expr]) (.agg #[.int .i64 y.kind,.string y.name,.int .i64 y.expr])) W= .ok (.bool (!zcq x y)) W) (E: ∀(O:BinOp) (a b:Operand) (x y:Sm) (W:World),Sem.run Tryz.prog (eqGuard O 106 a b (.agg #[.int .i64 x.kind,.string x.name,.int .i64 x.expr]) (.agg #[.int .i64 y.kind,.string y.name,.int .i64 y.expr])) W= .ok () W) (M b2:Nat) (A z:Rw) (j n:List Sm) (w:World) (N:OwnR w M 106 3 A j.length (j.flatMap smL)) (J:OwnR w b2 106 3 z n.length (n.flatMap smL)) (U:j.length≤4294967296):
  Calls Tryz.prog 107 #[.slice A.a j.length A.cap,.slice z.a n.length z.cap] w fun e I=>zbZ (j=n) e∧Below w.heap.size w I:=by
 by_cases o:j.length=n.length
 ·rw[←o]
  by_cases q:j.length=0
  ·rw[q]
   refine (zo2 _ _ _ _ w).mono ?_
   rintro e I ⟨rfl,D⟩
   exact⟨⟨true,rfl,⟨fun _=>(by rw[List.eq_nil_of_length_eq_zero q,List.eq_nil_of_length_eq_zero (o.symm.trans q)]),fun _=>rfl⟩⟩,D⟩
  ·rcases N.nil_or with ⟨_,_,e⟩|⟨Q,K⟩
   ·exact absurd e q
   ·rcases J.nil_or with ⟨_,_,e⟩|⟨V,L⟩
    ·exact absurd (o.trans e) q
    ·rw[K,L]
     exact zo3 H E M b2 Q V A z j n w N J K L o U
 ·refine (zo1 _ _ _ _ _ _ w (by omega)).mono ?_
  rintro e I ⟨rfl,D⟩
  exact⟨⟨false,rfl,⟨fun k=>(by cases k),fun k=>absurd (by rw[k]) o⟩⟩,D⟩
def zcr (x y:Ex):Bool:=x.kind==y.kind&&x.num==y.num&&x.name.toList==y.name.toList&&x.field.toList==y.field.toList&&x.l==y.l&&x.r==y.r
theorem zfa {x y:Ex}:zcr x y=true↔x=y:=by
 constructor
 ·intro h
  unfold zcr at h
  simp only[Bool.and_eq_true] at h
  obtain⟨⟨⟨⟨⟨j,z⟩,o⟩,n⟩,q⟩,A⟩:=h
  cases x
  cases y
  simp only at j z o n q A
  congr 1<;>first|(apply zeW;assumption)|(apply eq_of_beq;assumption)
 ·intro h
  rw[h]
  simp[zcr]
theorem zo5 (A o:Option Addr) (j n q z:Nat) (w:World) (h:(j:Int)≠(n:Int)):Calls Tryz.prog 108 #[.slice A j q,.slice o n z] w fun e D=>e= .returned (.bool false)∧Below w.heap.size w D:=by
 go_enter Tryz.func108,Tryz.ntmps108
 go_wp2
 go_ret
 exact⟨rfl,Below.refl _ _⟩
theorem zo6 (q j:Option Addr) (n o:Nat) (w:World):Calls Tryz.prog 108 #[.slice q 0 n,.slice j 0 o] w fun e z=>e= .returned (.bool true)∧Below w.heap.size w z:=by
 go_enter Tryz.func108,Tryz.ntmps108
 go_wp2
 go_loopg [13] 1 (fun k i wr=>k=1∧i= .int .i64 0∧wr=w)
 case atStart=>exact⟨rfl,rfl,rfl⟩
 case round=>
  obtain⟨rfl,rfl,rfl⟩:=hrel
  go_wp2
  go_ret
  exact⟨rfl,Below.refl _ _⟩
theorem zo7 (ab: ∀(x y:Ex) (W:World),Sem.run Tryz.prog (binOp .neq 108 (.agg #[.int .i64 x.kind,.int .i64 x.num,.string x.name,.string x.field,.int .i64 x.l,.int .i64 x.r]) (.agg #[.int .i64 y.kind,.int .i64 y.num,.string y.name,.string y.field,.int .i64 y.l,.int .i64 y.r])) W= .ok (.bool (!zcr x y)) W) (Z: ∀(H:BinOp) (a b:Operand) (x y:Ex) (W:World),Sem.run Tryz.prog (eqGuard H 108 a b (.agg #[.int .i64 x.kind,.int .i64 x.num,.string x.name,.string x.field,.int .i64 x.l,.int .i64 x.r]) (.agg #[.int .i64 y.kind,.int .i64 y.num,.string y.name,.string y.field,.int .i64 y.l,.int .i64 y.r])) W= .ok () W) (b1 b2 Q X:Nat) (Y O:Rw) (n D:List Ex) (w:World) (q:OwnR w b1 108 6 Y n.length (n.flatMap exL)) (o:OwnR w b2 108 6 O D.length (D.flatMap exL)) (e1:Y.a=some ⟨Q,0,none⟩) (e2:O.a=some ⟨X,0,none⟩) (hl:n.length=D.length) (V:n.length≤4294967296):
  Calls Tryz.prog 108 #[.slice (some ⟨Q,0,none⟩) n.length Y.cap,.slice (some ⟨X,0,none⟩) n.length O.cap] w fun e w'=>zbZ (n=D) e∧Below w.heap.size w w':=by
 have H1:=zc q
 have H2:=zc o
 have E1:=zc e1
 have E2:=zc e2
 have HL:=zc hl
 clear q o e1 e2 hl
 go_enter Tryz.func108,Tryz.ntmps108
 go_wp2
 go_loopg [13] n.length (fun k i wr=>∃j:Nat,i= .int .i64 j∧j+k=n.length∧n.take j=D.take j∧Below w.heap.size w wr)
 case atStart=>exact⟨0,rfl,by omega,rfl,Below.refl _ _⟩
 case round=>
  obtain⟨j,rfl,hj,ht,V⟩:=hrel
  have I:=zc V
  have HT:=zc ht
  clear V ht
  by_cases L:j<n.length
  ·have E:(j:Int)<(n.length:Int):=by omega
   obtain⟨x,hx⟩:=zaN L
   obtain⟨y,hy⟩:=zaN (show j<D.length by rw[←HL.out];exact L)
   obtain⟨U,ga,q⟩:=OwnR.elem (f:=exL) (m:=6) (fun _=>rfl) (H1.out.keep fun k g=>I.out.block k (H1.out.typed g).2.1) hx
   obtain rfl:U=Q:=by have:=ga.symm.trans E1.out;simpa using this
   obtain⟨U,gb,o⟩:=OwnR.elem (f:=exL) (m:=6) (fun _=>rfl) (H2.out.keep fun k g=>I.out.block k (H2.out.typed g).2.1) hy
   obtain rfl:U=X:=by have:=gb.symm.trans E2.out;simpa using this
   have C0:=zc (q 0 (by omega))
   have D0:=zc (o 0 (by omega))
   have C1:=zc (q 1 (by omega))
   have D1:=zc (o 1 (by omega))
   have C2:=zc (q 2 (by omega))
   have D2:=zc (o 2 (by omega))
   have C3:=zc (q 3 (by omega))
   have D3:=zc (o 3 (by omega))
   have C4:=zc (q 4 (by omega))
   have D4:=zc (o 4 (by omega))
   have C5:=zc (q 5 (by omega))
   have D5:=zc (o 5 (by omega))
   have HX:=zc hx
   have HY:=zc hy
   clear q o ga gb hx hy
   obtain⟨M,K⟩: ∃M,M=j+1:=⟨_,rfl⟩
   have ej:(j:Int)+1=(M:Int):=by omega
   have HJ:=zc K
   clear K
   obtain⟨b,z⟩: ∃b,zcr x y=b:=⟨_,rfl⟩
   have ad: ∀W:World,Sem.run Tryz.prog (binOp .neq 108 (.agg #[.int .i64 x.kind,.int .i64 x.num,.string x.name,.string x.field,.int .i64 x.l,.int .i64 x.r]) (.agg #[.int .i64 y.kind,.int .i64 y.num,.string y.name,.string y.field,.int .i64 y.l,.int .i64 y.r])) W= .ok (.bool !b) W:=fun W=>by rw[ab,z]
   have ac: ∀(H:BinOp) (a b:Operand) (W:World),Sem.run Tryz.prog (eqGuard H 108 a b (.agg #[.int .i64 x.kind,.int .i64 x.num,.string x.name,.string x.field,.int .i64 x.l,.int .i64 x.r]) (.agg #[.int .i64 y.kind,.int .i64 y.num,.string y.name,.string y.field,.int .i64 y.l,.int .i64 y.r])) W= .ok () W:=fun H a b W=>Z H a b x y W
   go_wp2
   have k0:=cell_regrown C0.out
   have m0:=cell_regrown D0.out
   have k1:=cell_regrown C1.out
   have m1:=cell_regrown D1.out
   have k2:=cell_regrown C2.out
   have m2:=cell_regrown D2.out
   have k3:=cell_regrown C3.out
   have m3:=cell_regrown D3.out
   have k4:=cell_regrown C4.out
   have m4:=cell_regrown D4.out
   have k5:=cell_regrown C5.out
   have m5:=cell_regrown D5.out
   simp only[Nat.add_zero] at k0 m0
   refine wp_region_quiet_below (by kernel_rfl) (by kernel_rfl) ?_
   repeat (go_big_quiet_step (fail))
   refine wpQuiet_nil ?_
   intro w2 N
   obtain⟨⟨dq,aa⟩,A⟩:=N
   have J:Hid (Below w.heap.size w w2):=by show Below _ _ _;rw[A];exact I.out.trans ((below_regrown wr dq aa).mono I.out.size)
   clear A k0 m0 C0 D0 k1 m1 C1 D1 k2 m2 C2 D2 k3 m3 C3 D3 k4 m4 C4 D4 k5 m5 C5 D5
   cases b with
   |true=>
    go_wp2
    go_roundg (gk-1)
    case rel=>exact⟨M,rfl,by have:=HJ.out;omega,by rw[HJ.out];have e:=zfa.1 z;exact zcQ HT.out HX.out (by rw[e];exact HY.out),J.out⟩
    case measure=>omega
   |false=>
    go_wp2
    go_ret
    exact⟨⟨false,rfl,⟨fun k=>(by cases k),fun k=>(by have e:=HX.out;rw[k,HY.out] at e;cases e;rw[zfa.2 rfl] at z;cases z)⟩⟩,J.out⟩
  ·have E: ¬(j:Int)<(n.length:Int):=by omega
   obtain rfl:j=n.length:=by omega
   go_wp2
   go_ret
   exact⟨⟨true,rfl,⟨fun _=>zcR HL.out HT.out,fun _=>rfl⟩⟩,I.out⟩
theorem zo8 (H: ∀(x y:Ex) (W:World),Sem.run Tryz.prog (binOp .neq 108 (.agg #[.int .i64 x.kind,.int .i64 x.num,.string x.name,.string x.field,.int .i64 x.l,.int .i64 x.r]) (.agg #[.int .i64 y.kind,.int .i64 y.num,.string y.name,.string y.field,.int .i64 y.l,.int .i64 y.r])) W= .ok (.bool (!zcr x y)) W) (E: ∀(O:BinOp) (a b:Operand) (x y:Ex) (W:World),Sem.run Tryz.prog (eqGuard O 108 a b (.agg #[.int .i64 x.kind,.int .i64 x.num,.string x.name,.string x.field,.int .i64 x.l,.int .i64 x.r]) (.agg #[.int .i64 y.kind,.int .i64 y.num,.string y.name,.string y.field,.int .i64 y.l,.int .i64 y.r])) W= .ok () W) (M b2:Nat) (A z:Rw) (j n:List Ex) (w:World) (N:OwnR w M 108 6 A j.length (j.flatMap exL)) (J:OwnR w b2 108 6 z n.length (n.flatMap exL)) (U:j.length≤4294967296):
  Calls Tryz.prog 108 #[.slice A.a j.length A.cap,.slice z.a n.length z.cap] w fun e I=>zbZ (j=n) e∧Below w.heap.size w I:=by
 by_cases o:j.length=n.length
 ·rw[←o]
  by_cases q:j.length=0
  ·rw[q]
   refine (zo6 _ _ _ _ w).mono ?_
   rintro e I ⟨rfl,D⟩
   exact⟨⟨true,rfl,⟨fun _=>(by rw[List.eq_nil_of_length_eq_zero q,List.eq_nil_of_length_eq_zero (o.symm.trans q)]),fun _=>rfl⟩⟩,D⟩
  ·rcases N.nil_or with ⟨_,_,e⟩|⟨Q,K⟩
   ·exact absurd e q
   ·rcases J.nil_or with ⟨_,_,e⟩|⟨V,L⟩
    ·exact absurd (o.trans e) q
    ·rw[K,L]
     exact zo7 H E M b2 Q V A z j n w N J K L o U
 ·refine (zo5 _ _ _ _ _ _ w (by omega)).mono ?_
  rintro e I ⟨rfl,D⟩
  exact⟨⟨false,rfl,⟨fun k=>(by cases k),fun k=>absurd (by rw[k]) o⟩⟩,D⟩
theorem zel (l:List ByteArray):l.map Value.string=l.flatMap (fun x=>[Value.string x]):=by
 induction l with
 |nil=>rfl
 |cons x l j=>rw[List.map_cons,List.flatMap_cons,j];rfl
def TwoM (w0:World) (b1 b2:Nat) (S1 S2:Sv) (m1 m2:Md) (w:World):Prop:=
 w.heap[w0.heap.size]? =some (.cells #[.slice S1.rq.a m1.rq.length S1.rq.cap,.slice S1.im.a m1.im.length S1.im.cap,.slice S1.ep.a m1.ep.length S1.ep.cap,.slice S1.st.a m1.st.length S1.st.cap,.slice S1.ex.a m1.ex.length S1.ex.cap] 28 (0,0))∧w.heap[w0.heap.size+1]? =some (.cells #[.slice S2.rq.a m2.rq.length S2.rq.cap,.slice S2.im.a m2.im.length S2.im.cap,.slice S2.ep.a m2.ep.length S2.ep.cap,.slice S2.st.a m2.st.length S2.st.cap,.slice S2.ex.a m2.ex.length S2.ex.cap] 28 (0,0))∧OwnMd w b1 S1 m1∧OwnMd w b2 S2 m2∧Below w0.heap.size w0 w
theorem TwoM.later {w0 w z:World} {A b2:Nat} {q n:Sv} {D o:Md} (h:TwoM w0 A b2 q n D o w) (j:Below w.heap.size w z):TwoM w0 A b2 q n D o z:=
 ⟨(j.block _ (Array.getElem?_eq_some_iff.1 h.1).1).trans h.1,(j.block _ (Array.getElem?_eq_some_iff.1 h.2.1).1).trans h.2.1,h.2.2.1.later j,h.2.2.2.1.later j,h.2.2.2.2.trans (j.mono h.2.2.2.2.size)⟩
theorem zgM (w:World) (D b2:Nat) (j n:Sv) (o q:Md) (H:OwnMd w D j o) (E:OwnMd w b2 n q):TwoM w D b2 j n o q ((w.alloc (.cells #[.slice j.rq.a o.rq.length j.rq.cap,.slice j.im.a o.im.length j.im.cap,.slice j.ep.a o.ep.length j.ep.cap,.slice j.st.a o.st.length j.st.cap,.slice j.ex.a o.ex.length j.ex.cap] 28)).alloc (.cells #[.slice n.rq.a q.rq.length n.rq.cap,.slice n.im.a q.im.length n.im.cap,.slice n.ep.a q.ep.length n.ep.cap,.slice n.st.a q.st.length n.st.cap,.slice n.ex.a q.ex.length n.ex.cap] 28)):=by
 have A:Below w.heap.size w (w.alloc (.cells #[.slice j.rq.a o.rq.length j.rq.cap,.slice j.im.a o.im.length j.im.cap,.slice j.ep.a o.ep.length j.ep.cap,.slice j.st.a o.st.length j.st.cap,.slice j.ex.a o.ex.length j.ex.cap] 28)):=(Below.refl _ _).alloc (Nat.le_refl _) _
 have z:Below (w.alloc (.cells #[.slice j.rq.a o.rq.length j.rq.cap,.slice j.im.a o.im.length j.im.cap,.slice j.ep.a o.ep.length j.ep.cap,.slice j.st.a o.st.length j.st.cap,.slice j.ex.a o.ex.length j.ex.cap] 28)).heap.size (w.alloc (.cells #[.slice j.rq.a o.rq.length j.rq.cap,.slice j.im.a o.im.length j.im.cap,.slice j.ep.a o.ep.length j.ep.cap,.slice j.st.a o.st.length j.st.cap,.slice j.ex.a o.ex.length j.ex.cap] 28)) ((w.alloc (.cells #[.slice j.rq.a o.rq.length j.rq.cap,.slice j.im.a o.im.length j.im.cap,.slice j.ep.a o.ep.length j.ep.cap,.slice j.st.a o.st.length j.st.cap,.slice j.ex.a o.ex.length j.ex.cap] 28)).alloc (.cells #[.slice n.rq.a q.rq.length n.rq.cap,.slice n.im.a q.im.length n.im.cap,.slice n.ep.a q.ep.length n.ep.cap,.slice n.st.a q.st.length n.st.cap,.slice n.ex.a q.ex.length n.ex.cap] 28)):=(Below.refl _ _).alloc (Nat.le_refl _) _
 refine⟨(z.block _ (by rw[zk];omega)).trans (heap_alloc_new w _),?_,(H.later A).later z,(E.later A).later z,A.trans (z.mono (by rw[zk];omega))⟩
 have:=heap_alloc_new (w.alloc (.cells #[.slice j.rq.a o.rq.length j.rq.cap,.slice j.im.a o.im.length j.im.cap,.slice j.ep.a o.ep.length j.ep.cap,.slice j.st.a o.st.length j.st.cap,.slice j.ex.a o.ex.length j.ex.cap] 28)) (.cells #[.slice n.rq.a q.rq.length n.rq.cap,.slice n.im.a q.im.length n.im.cap,.slice n.ep.a q.ep.length n.ep.cap,.slice n.st.a q.st.length n.st.cap,.slice n.ex.a q.ex.length n.ex.cap] 28)
 rw[zk] at this
 exact this
def zem (m:Md):Prop:=m.rq.length≤4294967296∧m.im.length≤4294967296∧m.ep.length≤4294967296∧m.st.length≤4294967296∧m.ex.length≤4294967296
theorem ziW {a b:Md} (q:a.rq=b.rq) (n:a.im=b.im) (j:a.ep=b.ep) (o:a.st=b.st) (z:a.ex=b.ex):a=b:=by
 cases a
 cases b
 simp only at q n j o z
 rw[q,n,j,o,z]
theorem zo9 (q j:Option Addr) (n o:Nat) (w:World):Calls Tryz.prog 66 #[.slice q 0 n,.slice j 0 o] w fun e z=>e= .returned (.bool true)∧Below w.heap.size w z:=by
 go_enter Tryz.func66,Tryz.ntmps66
 go_wp2
 go_loopg [5] 1 (fun k i wr=>k=1∧i= .int .i64 0∧wr=w)
 case atStart=>exact⟨rfl,rfl,rfl⟩
 case round=>
  obtain⟨rfl,rfl,rfl⟩:=hrel
  go_wp2
  go_ret
  exact⟨rfl,Below.refl _ _⟩
theorem zoA (b1 b2 J M:Nat) (N I:Rw) (l:List ByteArray) (w:World) (D:OwnR w b1 9 1 N l.length (l.flatMap (fun x=>[Value.string x]))) (z:OwnR w b2 9 1 I l.length (l.flatMap (fun x=>[Value.string x]))) (e1:N.a=some ⟨J,0,none⟩) (e2:I.a=some ⟨M,0,none⟩) (hl:l.length≤4294967296):
  Calls Tryz.prog 66 #[.slice (some ⟨J,0,none⟩) l.length N.cap,.slice (some ⟨M,0,none⟩) l.length I.cap] w fun e w'=>e= .returned (.bool true)∧Below w.heap.size w w':=by
 have H1:=zc D
 have H2:=zc z
 have E1:=zc e1
 have E2:=zc e2
 clear D z e1 e2
 go_enter Tryz.func66,Tryz.ntmps66
 go_wp2
 go_loopg [5] l.length (fun k i wr=>∃j:Nat,i= .int .i64 j∧j+k=l.length∧Below w.heap.size w wr)
 case atStart=>exact⟨0,rfl,by omega,Below.refl _ _⟩
 case round=>
  obtain⟨j,rfl,hj,hb⟩:=hrel
  have q:=zc hb
  clear hb
  by_cases O:j<l.length
  ·have o:(j:Int)<(l.length:Int):=by omega
   obtain⟨x,U⟩:=zaN O
   obtain⟨L,X,D⟩:=OwnR.elem (f:=(fun x=>[Value.string x])) (m:=1) (fun _=>rfl) (H1.out.keep fun k g=>q.out.block k (H1.out.typed g).2.1) U
   obtain rfl:L=J:=by have:=X.symm.trans E1.out;simpa using this
   obtain⟨L,gb,z⟩:=OwnR.elem (f:=(fun x=>[Value.string x])) (m:=1) (fun _=>rfl) (H2.out.keep fun k g=>q.out.block k (H2.out.typed g).2.1) U
   obtain rfl:L=M:=by have:=gb.symm.trans E2.out;simpa using this
   have Y:=zc (D 0 (by omega))
   have V:=zc (z 0 (by omega))
   clear D z X gb U
   obtain⟨E,A⟩: ∃E,E=j+1:=⟨_,rfl⟩
   have ej:(j:Int)+1=(E:Int):=by omega
   have HJ:=zc A
   clear A
   go_wp2
   have k0:=cell_regrown Y.out
   have Z:=cell_regrown V.out
   simp only[Nat.add_zero,Nat.mul_one] at k0 Z
   refine wp_region_quiet_below (by kernel_rfl) (by kernel_rfl) ?_
   repeat (go_big_quiet_step (fail))
   refine wpQuiet_nil ?_
   intro w2 H
   obtain⟨⟨dq,Q⟩,n⟩:=H
   have K:Hid (Below w.heap.size w w2):=by show Below _ _ _;rw[n];exact q.out.trans ((below_regrown wr dq Q).mono q.out.size)
   clear n k0 Z Y V
   go_wp2
   go_roundg (gk-1)
   case rel=>exact⟨E,rfl,by have:=HJ.out;omega,K.out⟩
   case measure=>omega
  ·have o: ¬(j:Int)<(l.length:Int):=by omega
   go_wp2
   go_ret
   exact⟨rfl,q.out⟩
theorem zoB (E b2:Nat) (j n:Rw) (l:List ByteArray) (w:World) (D:OwnR w E 9 1 j l.length (l.flatMap (fun x=>[Value.string x]))) (z:OwnR w b2 9 1 n l.length (l.flatMap (fun x=>[Value.string x]))) (J:l.length≤4294967296):
  Calls Tryz.prog 66 #[.slice j.a l.length j.cap,.slice n.a l.length n.cap] w fun e K=>e= .returned (.bool true)∧Below w.heap.size w K:=by
 by_cases o:l.length=0
 ·rw[o]
  exact zo9 _ _ _ _ w
 ·rcases D.nil_or with ⟨_,_,e⟩|⟨I,A⟩
  ·exact absurd e o
  ·rcases z.nil_or with ⟨_,_,e⟩|⟨H,q⟩
   ·exact absurd e o
   ·rw[A,q]
    exact zoA E b2 I H j n l w D z A q J
theorem zoC (ai: ∀(x y:Im) (W:World),Sem.run Tryz.prog (binOp .neq 100 (.agg #[.string x.spec,.string x.first,.string x.loc]) (.agg #[.string y.spec,.string y.first,.string y.loc])) W= .ok (.bool (!zco x y)) W) (af: ∀(E:BinOp) (a b:Operand) (x y:Im) (W:World),Sem.run Tryz.prog (eqGuard E 100 a b (.agg #[.string x.spec,.string x.first,.string x.loc]) (.agg #[.string y.spec,.string y.first,.string y.loc])) W= .ok () W) (aj: ∀(x y:Ep) (W:World),Sem.run Tryz.prog (binOp .neq 102 (.agg #[.int .i64 x.kind,.string x.name,.string x.loc,.string x.spec]) (.agg #[.int .i64 y.kind,.string y.name,.string y.loc,.string y.spec])) W= .ok (.bool (!zcp x y)) W) (ag: ∀(E:BinOp) (a b:Operand) (x y:Ep) (W:World),Sem.run Tryz.prog (eqGuard E 102 a b (.agg #[.int .i64 x.kind,.string x.name,.string x.loc,.string x.spec]) (.agg #[.int .i64 y.kind,.string y.name,.string y.loc,.string y.spec])) W= .ok () W) (ad: ∀(x y:Sm) (W:World),Sem.run Tryz.prog (binOp .neq 106 (.agg #[.int .i64 x.kind,.string x.name,.int .i64 x.expr]) (.agg #[.int .i64 y.kind,.string y.name,.int .i64 y.expr])) W= .ok (.bool (!zcq x y)) W) (ac: ∀(E:BinOp) (a b:Operand) (x y:Sm) (W:World),Sem.run Tryz.prog (eqGuard E 106 a b (.agg #[.int .i64 x.kind,.string x.name,.int .i64 x.expr]) (.agg #[.int .i64 y.kind,.string y.name,.int .i64 y.expr])) W= .ok () W) (ah: ∀(x y:Ex) (W:World),Sem.run Tryz.prog (binOp .neq 108 (.agg #[.int .i64 x.kind,.int .i64 x.num,.string x.name,.string x.field,.int .i64 x.l,.int .i64 x.r]) (.agg #[.int .i64 y.kind,.int .i64 y.num,.string y.name,.string y.field,.int .i64 y.l,.int .i64 y.r])) W= .ok (.bool (!zcr x y)) W) (ae: ∀(E:BinOp) (a b:Operand) (x y:Ex) (W:World),Sem.run Tryz.prog (eqGuard E 108 a b (.agg #[.int .i64 x.kind,.int .i64 x.num,.string x.name,.string x.field,.int .i64 x.l,.int .i64 x.r]) (.agg #[.int .i64 y.kind,.int .i64 y.num,.string y.name,.string y.field,.int .i64 y.l,.int .i64 y.r])) W= .ok () W) (b1 b2:Nat) (S1 S2:Sv) (m:Md) (w:World) (z:OwnMd w b1 S1 m) (q:OwnMd w b2 S2 m) (hf:zem m):
  Calls Tryz.prog 19 #[zp S1 m,zp S2 m] w fun e w'=>e= .returned (.bool true)∧Below w.heap.size w w':=by
 have H1:=zc z
 have H2:=zc q
 obtain⟨f1,f2,f3,f4,f5⟩:=hf
 clear z q
 unfold zp
 go_enter Tryz.func19,Tryz.ntmps19
 go_upto_region 1 with fail
 refine zau (R:=TwoM w b1 b2 S1 S2 m m) (zgM w b1 b2 S1 S2 m m H1.out H2.out) ?_
 clear H1 H2
 intro w0 h
 have T0:=zc h
 clear h
 obtain⟨c0,U,K,O,M,cf⟩:=zl T0.out.1
 obtain⟨d0,J,L,Q,N,df⟩:=zl T0.out.2.1
 go_wp2_with fail
 refine (zoB b1 b2 S1.rq S2.rq m.rq w0 (by rw[←zel];exact T0.out.2.2.1.rq) (by rw[←zel];exact T0.out.2.2.2.1.rq) f1).mono ?_
 rintro e w1 ⟨rfl,hb⟩
 have T:=zc (T0.out.later hb)
 clear hb c0 U K O M cf d0 J L Q N df T0
 obtain⟨c0,U,K,O,M,cf⟩:=zl T.out.1
 obtain⟨d0,J,L,Q,N,df⟩:=zl T.out.2.1
 go_wp2
 go_loopg [5] m.im.length (fun k i wr=>∃j:Nat,i= .int .i64 j∧j+k=m.im.length∧TwoM w b1 b2 S1 S2 m m wr)
 case atStart=>exact⟨0,rfl,by omega,T.out⟩
 case round=>
  obtain⟨j,rfl,hj,hT⟩:=hrel
  clear T c0 U K O M cf d0 J L Q N df
  have T:=zc hT
  clear hT
  obtain⟨c0,U,K,O,M,cf⟩:=zl T.out.1
  obtain⟨d0,J,L,Q,N,df⟩:=zl T.out.2.1
  by_cases H:j<m.im.length
  ·have n:(j:Int)<(m.im.length:Int):=by omega
   obtain⟨x,Y⟩:=zaN H
   obtain⟨g1,ga,z⟩:=OwnR.elem (f:=imL) (m:=3) (fun _=>rfl) T.out.2.2.1.im Y
   obtain⟨g2,gb,q⟩:=OwnR.elem (f:=imL) (m:=3) (fun _=>rfl) T.out.2.2.2.1.im Y
   rw[ga] at U
   rw[gb] at J
   obtain⟨y,Z⟩: ∃y,y=x:=⟨_,rfl⟩
   rw[←Z] at q
   obtain⟨b,D⟩: ∃b,zco x y=b:=⟨_,rfl⟩
   have BT:Hid (b=true):=by show _=_;rw[←D,Z];exact zeX.2 rfl
   have C0:=zc (z 0 (by omega))
   have D0:=zc (q 0 (by omega))
   have C1:=zc (z 1 (by omega))
   have D1:=zc (q 1 (by omega))
   have C2:=zc (z 2 (by omega))
   have D2:=zc (q 2 (by omega))
   clear z q ga gb Y
   obtain⟨I,A⟩: ∃I,I=j+1:=⟨_,rfl⟩
   have ej:(j:Int)+1=(I:Int):=by omega
   have HJ:=zc A
   clear A
   have V: ∀W:World,Sem.run Tryz.prog (binOp .neq 100 (.agg #[.string x.spec,.string x.first,.string x.loc]) (.agg #[.string y.spec,.string y.first,.string y.loc])) W= .ok (.bool !b) W:=fun W=>by rw[ai,D]
   have ab: ∀(E:BinOp) (a b:Operand) (W:World),Sem.run Tryz.prog (eqGuard E 100 a b (.agg #[.string x.spec,.string x.first,.string x.loc]) (.agg #[.string y.spec,.string y.first,.string y.loc])) W= .ok () W:=fun E a b W=>af E a b x y W
   clear Z
   go_wp2
   have kc:=cell_regrown U
   have kd:=cell_regrown J
   have k0:=cell_regrown C0.out
   have v0:=cell_regrown D0.out
   have k1:=cell_regrown C1.out
   have v1:=cell_regrown D1.out
   have k2:=cell_regrown C2.out
   have v2:=cell_regrown D2.out
   simp only[Nat.add_zero] at k0 v0
   refine wp_region_quiet_below (by kernel_rfl) (by kernel_rfl) ?_
   repeat (go_big_quiet_step (fail))
   refine wpQuiet_nil ?_
   intro w2 aa
   obtain⟨⟨dq,X⟩,o⟩:=aa
   have T2:Hid (TwoM w b1 b2 S1 S2 m m w2):=by show TwoM _ _ _ _ _ _ _ _;rw[o];exact T.out.later (below_regrown wr dq X)
   clear o kc kd c0 U K O M cf d0 J L Q N df V ab k0 v0 C0 D0 k1 v1 C1 D1 k2 v2 C2 D2
   cases b with
   |false=>exact absurd BT.out (by decide)
   |true=>
    go_wp2
    go_roundg (gk-1)
    case rel=>exact⟨I,rfl,by have:=HJ.out;omega,T2.out⟩
    case measure=>omega
  ·have n: ¬(j:Int)<(m.im.length:Int):=by omega
   obtain rfl:j=m.im.length:=by omega
   clear n H hj
   go_wp2
   go_loopg [6] m.ep.length (fun k i wr=>∃j:Nat,i= .int .i64 j∧j+k=m.ep.length∧TwoM w b1 b2 S1 S2 m m wr)
   case atStart=>exact⟨0,rfl,by omega,T.out⟩
   case round=>
    obtain⟨j,rfl,hj,hT⟩:=hrel
    clear T c0 U K O M cf d0 J L Q N df
    have T:=zc hT
    clear hT
    obtain⟨c0,U,K,O,M,cf⟩:=zl T.out.1
    obtain⟨d0,J,L,Q,N,df⟩:=zl T.out.2.1
    by_cases H:j<m.ep.length
    ·have n:(j:Int)<(m.ep.length:Int):=by omega
     obtain⟨x,Y⟩:=zaN H
     obtain⟨g1,ga,z⟩:=OwnR.elem (f:=epL) (m:=4) (fun _=>rfl) T.out.2.2.1.ep Y
     obtain⟨g2,gb,q⟩:=OwnR.elem (f:=epL) (m:=4) (fun _=>rfl) T.out.2.2.2.1.ep Y
     rw[ga] at K
     rw[gb] at L
     obtain⟨y,Z⟩: ∃y,y=x:=⟨_,rfl⟩
     rw[←Z] at q
     obtain⟨b,D⟩: ∃b,zcp x y=b:=⟨_,rfl⟩
     have BT:Hid (b=true):=by show _=_;rw[←D,Z];exact zeY.2 rfl
     have C0:=zc (z 0 (by omega))
     have D0:=zc (q 0 (by omega))
     have C1:=zc (z 1 (by omega))
     have D1:=zc (q 1 (by omega))
     have C2:=zc (z 2 (by omega))
     have D2:=zc (q 2 (by omega))
     have C3:=zc (z 3 (by omega))
     have D3:=zc (q 3 (by omega))
     clear z q ga gb Y
     obtain⟨I,A⟩: ∃I,I=j+1:=⟨_,rfl⟩
     have ej:(j:Int)+1=(I:Int):=by omega
     have HJ:=zc A
     clear A
     have V: ∀W:World,Sem.run Tryz.prog (binOp .neq 102 (.agg #[.int .i64 x.kind,.string x.name,.string x.loc,.string x.spec]) (.agg #[.int .i64 y.kind,.string y.name,.string y.loc,.string y.spec])) W= .ok (.bool !b) W:=fun W=>by rw[aj,D]
     have ab: ∀(E:BinOp) (a b:Operand) (W:World),Sem.run Tryz.prog (eqGuard E 102 a b (.agg #[.int .i64 x.kind,.string x.name,.string x.loc,.string x.spec]) (.agg #[.int .i64 y.kind,.string y.name,.string y.loc,.string y.spec])) W= .ok () W:=fun E a b W=>ag E a b x y W
     clear Z
     go_wp2
     have kc:=cell_regrown K
     have kd:=cell_regrown L
     have k0:=cell_regrown C0.out
     have v0:=cell_regrown D0.out
     have k1:=cell_regrown C1.out
     have v1:=cell_regrown D1.out
     have k2:=cell_regrown C2.out
     have v2:=cell_regrown D2.out
     have k3:=cell_regrown C3.out
     have v3:=cell_regrown D3.out
     simp only[Nat.add_zero] at k0 v0
     refine wp_region_quiet_below (by kernel_rfl) (by kernel_rfl) ?_
     repeat (go_big_quiet_step (fail))
     refine wpQuiet_nil ?_
     intro w2 aa
     obtain⟨⟨dq,X⟩,o⟩:=aa
     have T2:Hid (TwoM w b1 b2 S1 S2 m m w2):=by show TwoM _ _ _ _ _ _ _ _;rw[o];exact T.out.later (below_regrown wr dq X)
     clear o kc kd c0 U K O M cf d0 J L Q N df V ab k0 v0 C0 D0 k1 v1 C1 D1 k2 v2 C2 D2 k3 v3 C3 D3
     cases b with
     |false=>exact absurd BT.out (by decide)
     |true=>
      go_wp2
      go_roundg (gk-1)
      case rel=>exact⟨I,rfl,by have:=HJ.out;omega,T2.out⟩
      case measure=>omega
    ·have n: ¬(j:Int)<(m.ep.length:Int):=by omega
     obtain rfl:j=m.ep.length:=by omega
     clear n H hj
     go_wp2
     go_loopg [7] m.st.length (fun k i wr=>∃j:Nat,i= .int .i64 j∧j+k=m.st.length∧TwoM w b1 b2 S1 S2 m m wr)
     case atStart=>exact⟨0,rfl,by omega,T.out⟩
     case round=>
      obtain⟨j,rfl,hj,hT⟩:=hrel
      clear T c0 U K O M cf d0 J L Q N df
      have T:=zc hT
      clear hT
      obtain⟨c0,U,K,O,M,cf⟩:=zl T.out.1
      obtain⟨d0,J,L,Q,N,df⟩:=zl T.out.2.1
      by_cases H:j<m.st.length
      ·have n:(j:Int)<(m.st.length:Int):=by omega
       obtain⟨x,Y⟩:=zaN H
       obtain⟨g1,ga,z⟩:=OwnR.elem (f:=smL) (m:=3) (fun _=>rfl) T.out.2.2.1.st Y
       obtain⟨g2,gb,q⟩:=OwnR.elem (f:=smL) (m:=3) (fun _=>rfl) T.out.2.2.2.1.st Y
       rw[ga] at O
       rw[gb] at Q
       obtain⟨y,Z⟩: ∃y,y=x:=⟨_,rfl⟩
       rw[←Z] at q
       obtain⟨b,D⟩: ∃b,zcq x y=b:=⟨_,rfl⟩
       have BT:Hid (b=true):=by show _=_;rw[←D,Z];exact zeZ.2 rfl
       have C0:=zc (z 0 (by omega))
       have D0:=zc (q 0 (by omega))
       have C1:=zc (z 1 (by omega))
       have D1:=zc (q 1 (by omega))
       have C2:=zc (z 2 (by omega))
       have D2:=zc (q 2 (by omega))
       clear z q ga gb Y
       obtain⟨I,A⟩: ∃I,I=j+1:=⟨_,rfl⟩
       have ej:(j:Int)+1=(I:Int):=by omega
       have HJ:=zc A
       clear A
       have V: ∀W:World,Sem.run Tryz.prog (binOp .neq 106 (.agg #[.int .i64 x.kind,.string x.name,.int .i64 x.expr]) (.agg #[.int .i64 y.kind,.string y.name,.int .i64 y.expr])) W= .ok (.bool !b) W:=fun W=>by rw[ad,D]
       have ab: ∀(E:BinOp) (a b:Operand) (W:World),Sem.run Tryz.prog (eqGuard E 106 a b (.agg #[.int .i64 x.kind,.string x.name,.int .i64 x.expr]) (.agg #[.int .i64 y.kind,.string y.name,.int .i64 y.expr])) W= .ok () W:=fun E a b W=>ac E a b x y W
       clear Z
       go_wp2
       have kc:=cell_regrown O
       have kd:=cell_regrown Q
       have k0:=cell_regrown C0.out
       have v0:=cell_regrown D0.out
       have k1:=cell_regrown C1.out
       have v1:=cell_regrown D1.out
       have k2:=cell_regrown C2.out
       have v2:=cell_regrown D2.out
       simp only[Nat.add_zero] at k0 v0
       refine wp_region_quiet_below (by kernel_rfl) (by kernel_rfl) ?_
       repeat (go_big_quiet_step (fail))
       refine wpQuiet_nil ?_
       intro w2 aa
       obtain⟨⟨dq,X⟩,o⟩:=aa
       have T2:Hid (TwoM w b1 b2 S1 S2 m m w2):=by show TwoM _ _ _ _ _ _ _ _;rw[o];exact T.out.later (below_regrown wr dq X)
       clear o kc kd c0 U K O M cf d0 J L Q N df V ab k0 v0 C0 D0 k1 v1 C1 D1 k2 v2 C2 D2
       cases b with
       |false=>exact absurd BT.out (by decide)
       |true=>
        go_wp2
        go_roundg (gk-1)
        case rel=>exact⟨I,rfl,by have:=HJ.out;omega,T2.out⟩
        case measure=>omega
      ·have n: ¬(j:Int)<(m.st.length:Int):=by omega
       obtain rfl:j=m.st.length:=by omega
       clear n H hj
       go_wp2
       go_loopg [8] m.ex.length (fun k i wr=>∃j:Nat,i= .int .i64 j∧j+k=m.ex.length∧TwoM w b1 b2 S1 S2 m m wr)
       case atStart=>exact⟨0,rfl,by omega,T.out⟩
       case round=>
        obtain⟨j,rfl,hj,hT⟩:=hrel
        clear T c0 U K O M cf d0 J L Q N df
        have T:=zc hT
        clear hT
        obtain⟨c0,U,K,O,M,cf⟩:=zl T.out.1
        obtain⟨d0,J,L,Q,N,df⟩:=zl T.out.2.1
        by_cases H:j<m.ex.length
        ·have n:(j:Int)<(m.ex.length:Int):=by omega
         obtain⟨x,Y⟩:=zaN H
         obtain⟨g1,ga,z⟩:=OwnR.elem (f:=exL) (m:=6) (fun _=>rfl) T.out.2.2.1.ex Y
         obtain⟨g2,gb,q⟩:=OwnR.elem (f:=exL) (m:=6) (fun _=>rfl) T.out.2.2.2.1.ex Y
         rw[ga] at M
         rw[gb] at N
         obtain⟨y,Z⟩: ∃y,y=x:=⟨_,rfl⟩
         rw[←Z] at q
         obtain⟨b,D⟩: ∃b,zcr x y=b:=⟨_,rfl⟩
         have BT:Hid (b=true):=by show _=_;rw[←D,Z];exact zfa.2 rfl
         have C0:=zc (z 0 (by omega))
         have D0:=zc (q 0 (by omega))
         have C1:=zc (z 1 (by omega))
         have D1:=zc (q 1 (by omega))
         have C2:=zc (z 2 (by omega))
         have D2:=zc (q 2 (by omega))
         have C3:=zc (z 3 (by omega))
         have D3:=zc (q 3 (by omega))
         have C4:=zc (z 4 (by omega))
         have D4:=zc (q 4 (by omega))
         have C5:=zc (z 5 (by omega))
         have D5:=zc (q 5 (by omega))
         clear z q ga gb Y
         obtain⟨I,A⟩: ∃I,I=j+1:=⟨_,rfl⟩
         have ej:(j:Int)+1=(I:Int):=by omega
         have HJ:=zc A
         clear A
         have V: ∀W:World,Sem.run Tryz.prog (binOp .neq 108 (.agg #[.int .i64 x.kind,.int .i64 x.num,.string x.name,.string x.field,.int .i64 x.l,.int .i64 x.r]) (.agg #[.int .i64 y.kind,.int .i64 y.num,.string y.name,.string y.field,.int .i64 y.l,.int .i64 y.r])) W= .ok (.bool !b) W:=fun W=>by rw[ah,D]
         have ab: ∀(E:BinOp) (a b:Operand) (W:World),Sem.run Tryz.prog (eqGuard E 108 a b (.agg #[.int .i64 x.kind,.int .i64 x.num,.string x.name,.string x.field,.int .i64 x.l,.int .i64 x.r]) (.agg #[.int .i64 y.kind,.int .i64 y.num,.string y.name,.string y.field,.int .i64 y.l,.int .i64 y.r])) W= .ok () W:=fun E a b W=>ae E a b x y W
         clear Z
         go_wp2
         have kc:=cell_regrown M
         have kd:=cell_regrown N
         have k0:=cell_regrown C0.out
         have v0:=cell_regrown D0.out
         have k1:=cell_regrown C1.out
         have v1:=cell_regrown D1.out
         have k2:=cell_regrown C2.out
         have v2:=cell_regrown D2.out
         have k3:=cell_regrown C3.out
         have v3:=cell_regrown D3.out
         have k4:=cell_regrown C4.out
         have v4:=cell_regrown D4.out
         have k5:=cell_regrown C5.out
         have v5:=cell_regrown D5.out
         simp only[Nat.add_zero] at k0 v0
         refine wp_region_quiet_below (by kernel_rfl) (by kernel_rfl) ?_
         repeat (go_big_quiet_step (fail))
         refine wpQuiet_nil ?_
         intro w2 aa
         obtain⟨⟨dq,X⟩,o⟩:=aa
         have T2:Hid (TwoM w b1 b2 S1 S2 m m w2):=by show TwoM _ _ _ _ _ _ _ _;rw[o];exact T.out.later (below_regrown wr dq X)
         clear o kc kd c0 U K O M cf d0 J L Q N df V ab k0 v0 C0 D0 k1 v1 C1 D1 k2 v2 C2 D2 k3 v3 C3 D3 k4 v4 C4 D4 k5 v5 C5 D5
         cases b with
         |false=>exact absurd BT.out (by decide)
         |true=>
          go_wp2
          go_roundg (gk-1)
          case rel=>exact⟨I,rfl,by have:=HJ.out;omega,T2.out⟩
          case measure=>omega
        ·have n: ¬(j:Int)<(m.ex.length:Int):=by omega
         obtain rfl:j=m.ex.length:=by omega
         clear n H hj
         go_wp2
         go_ret
         exact⟨rfl,T.out.2.2.2.2⟩
def PrOf (T:ByteArray) (m:Md) (t:ByteArray):Prop:=(Tree m∧t=T)∨(¬Tree m∧t=sNone)
theorem PrintOut.form {T:ByteArray} {m:Md} {e:Ending} (h:PrintOut T m e): ∃t,PrOf T m t∧e= .returned (.string t):=by
 rcases h with ⟨n,j⟩|⟨n,j⟩
 ·exact⟨T,.inl ⟨n,rfl⟩,j⟩
 ·exact⟨sNone,.inr ⟨n,rfl⟩,j⟩
theorem PrOf.size {T t:ByteArray} {m:Md} {n:Nat} (h:PrOf T m t) (o:Tree m→T.size≤n):t.size≤n:=by
 rcases h with ⟨j,rfl⟩|⟨_,rfl⟩
 ·exact o j
 ·exact Nat.zero_le _
def zen (t:ByteArray) (scr:Bool) (m:Md):Prop:=∃q,zb7 t scr (.ok q)∧zdx q=m
def ziX (T:ByteArray) (m:Md) (scr:Bool) (e:Ending):Prop:=∃t,PrOf T m t∧zbZ (zen t scr m) e
theorem zgN {t:ByteArray} {j:Bool} {m:Md} {p:Nat} (h:zb7 t j (.error p)): ¬zen t j m:=by
 rintro⟨q,n,_⟩
 cases zhM h n
theorem zgO {t:ByteArray} {j:Bool} {m n:Md} {q:PS} (h:zb7 t j (.ok q)) (o:n=zdx q):zen t j m↔n=m:=by
 constructor
 ·rintro⟨D,A,z⟩
  cases zhM h A
  rw[o]
  exact z
 ·intro e
  exact⟨q,h,by rw[←o];exact e⟩
theorem ParseOut.md {s:ByteArray} {j:Bool} {w D:World} {e:Ending} (h:ParseOut s j w e D):
  (∃(q:PS) (S:Sv) (n:Md),zb7 s j (.ok q)∧n=zdx q∧e= .returned (.tuple #[zp S n,.int .i64 (-1)])∧OwnMd D w.heap.size S n∧zem n)∨∃p:Nat,zb7 s j (.error p)∧e= .returned (.tuple #[.agg #[.slice none 0 0,.slice none 0 0,.slice none 0 0,.slice none 0 0,.slice none 0 0],.int .i64 p]):=by
 obtain⟨y,A,z⟩:=h
 cases y with
 |ok q=>
  obtain⟨S,E,o⟩:=z
  refine .inl ⟨q,S,zdx q,A,rfl,E,o.md,?_⟩
  have I:=o.inv
  have H:(zdx q).ep.length=q.ep.length+q.la.length:=by show (q.ep++q.la).length=_;rw[List.length_append]
  refine⟨?_,?_,by rw[H];omega,?_,?_⟩
  ·show q.rq.length≤_;omega
  ·show q.im.length≤_;omega
  ·show q.st.length≤_;omega
  ·show q.ex.length≤_;omega
 |error p=>exact .inr ⟨p,A,z⟩
theorem zoD {k:Int} {n e:ByteArray} (h:n.toList=dN→k=1):zcP k n e=zaz k n e:=by
 unfold zcP
 split
 ·next j=>
  have o:=eq_of_beq j
  rw[h o,zaz,if_pos (by decide),if_pos j]
 ·rfl
theorem zoE {α:Type} {f g:α→ByteArray} (l:List α): ∀t,(∀x∈l,f x=g x)→acc f l t=acc g l t:=by
 induction l with
 |nil=>intro t _;rfl
 |cons x l n=>
  intro t h
  show acc f l (t++f x)=acc g l (t++g x)
  rw[h x (List.mem_cons_self ..)]
  exact n _ fun y j=>h y (List.mem_cons_of_mem _ j)
theorem ziY {m:Md} (h:zdq m.st):zb1 m=zbJ m:=zoE _ _ fun s j=>zoD (h s j)
theorem zoF {m:Md} {j:Bool} {o n:ByteArray} (I:PrOf (zbJ m) m o) (D:PrOf (zb1 m) m n):zen o j m↔zen n j m:=by
 by_cases z:zdq m.st
 ·have:o=n:=by
   rw[ziY z] at D
   rcases I with ⟨a,rfl⟩|⟨a,rfl⟩<;>rcases D with ⟨b,rfl⟩|⟨b,rfl⟩
   ·rfl
   ·exact absurd a b
   ·exact absurd b a
   ·rfl
  rw[this]
 ·have A: ∀t,¬zen t j m:=by
   rintro t ⟨q,H,E⟩
   have:=zi2 H
   rw[←E] at z
   exact z this
  exact⟨fun h=>absurd h (A _),fun h=>absurd h (A _)⟩
end Go.Proofs.YticdggnnpjachaaGreat
