/-
  What the specification's draw of a program tells: some program,nothing of it long: the walk.
  What the specification's draw for ModOk tells: some program,nothing of it long,and some flag: the walk.
  What the laws count of a program,as plain functions. No program is spoken of.
  Lines of a program's text,as plain functions. No program is spoken of.
  A program's text: its lines,one behind the other. No program is spoken of.
  A program that is small has a text that is small. No program is spoken of.
  A program that was drawn is small,and so is its text. No program is spoken of.
  What slices.Equal answers of rows of the call's own,the model's != handed in: the walks.
  Two programs in memory side by side. No program is spoken of but for the numbers of its types.
  What the laws' sameTexts and sameMod answer of a program that lies twice,the model's != handed in: the walks.
  What a Print and a Parse tell,as a ModOk takes it. No program is spoken of but for the numbers of its types.
-/
import Derived.Deep.RegionWith
import Derived.Deep.RegionHeld3
import Derived.Test.YtmnemfookpjhiaaGreatClDrawProgAToSpecParseE
import Derived.Test.YtmnemfookpjhiaaGreatClSpecParsePToSpecParseR
import Derived.Test.YtmnemfookpjhiaaGreatClDrawBaseToTokMem
import Derived.WalkLawsBesides
import Derived.Lib.QuietBelow
import Derived.BigQuiet
import Derived.Test.YtmnemfookpjhiaaGreatClImplParseJToMdMem
import Derived.Deep.Cut
namespace Go.Proofs.YtmnemfookpjhiaaGreat
set_option maxRecDepth 100000
set_option maxHeartbeats 12800000
open Go.RowKit Go.PlainAid Go.Sort
def MMD (S:Src) (g:Nat) (w0:World) (b6 b7:Nat) (W:World):Prop:=∃(V:Sv) (m:Md) (q:Nat×Int),MM S g w0 b6 b7 V m q W∧Drawn 1 m
/-- A draw of a program. -/
def zxo (S:Src) (g:Nat) (w:World) (e:Ending) (w':World):Prop:=∃(V:Sv) (m:Md) (q':Nat×Int),e= .returned (modD V m)∧OwnMd w' w.heap.size V m∧Drawn 1 m∧CurW 152 S w' g q'∧w.grownBy w' (some g)
/-- What a Parse hands back, either way, of a text that is not long. -/
theorem ParseOut.drawn {s:ByteArray} {scr:Bool} {w w':World} {e:Ending} (h:ParseOut s scr w e w') (hs:s.size≤20000): ∃(V:Sv) (m:Md) (z:Int),e= .returned (.tuple #[modD V m,.int .i64 z])∧OwnMd w' w.heap.size V m∧Drawn 0 m:=by
 obtain⟨y,hy,hm⟩:=h
 cases y with
 |ok q=>
  obtain⟨V,he,ho⟩:=hm
  have hb:=zbik hy hs (by omega)
  have hi:=ho.inv
  have hl:(q.ep++q.la).length=q.ep.length+q.la.length:=List.length_append
  refine⟨V,mdOf q,-1,he,ho.md,⟨by show q.rq.length≤_;omega,hb.rq⟩,⟨by show q.im.length≤_;omega,hb.im⟩,⟨by show (q.ep++q.la).length≤_;omega,fun x hx=>?_⟩,⟨by show q.st.length≤_;omega,hb.st⟩,⟨by show q.ex.length≤_;omega,hb.ex⟩,zsd hy⟩
  rcases List.mem_append.1 (show x∈q.ep++q.la from hx) with hx|hx
  ·exact hb.ep x hx
  ·exact hb.la x hx
 |error p=>
  refine⟨⟨R0,R0,R0,R0,R0,R0⟩,⟨[],[],[],[],[]⟩,p,hm,⟨zgs _ _ _ _,zgs _ _ _ _,zgs _ _ _ _,zgs _ _ _ _,zgs _ _ _ _⟩,⟨Nat.zero_le _,?_⟩,⟨Nat.zero_le _,?_⟩,⟨Nat.zero_le _,?_⟩,⟨Nat.zero_le _,?_⟩,⟨Nat.zero_le _,?_⟩,?_⟩
  all_goals (intro x hx;cases hx)
theorem Drawn.more {k j:Nat} {m:Md} (h:Drawn k m) (hj:k≤j):Drawn j m:=⟨⟨by have:=h.rq.1;omega,h.rq.2⟩,⟨by have:=h.im.1;omega,h.im.2⟩,⟨by have:=h.ep.1;omega,h.ep.2⟩,⟨by have:=h.st.1;omega,h.st.2⟩,⟨by have:=h.ex.1;omega,h.ex.2⟩,h.fair⟩
/-- One of the texts of a row just made, behind a draw. -/
theorem zuo (S:Src) (hS:S.ok) (g:Nat) (q:Nat×Int) (N:Nat) (l:List ByteArray) (w:World) (hc:CurW 152 S w g q) (h1:1≤l.length) (h2:l.length≤1000) (hl: ∀x∈l,x.size≤N):
  Calls Tryz.prog 104 #[.pointer (some ⟨g,0,none⟩),.slice (some ⟨w.heap.size,0,none⟩) l.length l.length] (w.alloc (.cells (l.map Value.string).toArray 9)).drew (zif S g N w):=by
 have hg:=zhi hc
 have hlt:w.heap.size<(w.alloc (.cells (l.map Value.string).toArray 9)).heap.size:=by rw[ze];omega
 refine (zon S hS g q w.heap.size l.length N (w.alloc (.cells (l.map Value.string).toArray 9)).drew (zdy (zko hc _) fun _ _=>rfl) h1 h2 hlt (by omega) ?_).mono ?_
 ·intro j hj
  show ∃x,(w.alloc _).cell? _=_∧_
  rw[World.cell?_alloc_new]
  refine⟨l[j],?_,hl _ (List.getElem_mem hj)⟩
  simp[List.getElem?_eq_getElem hj]
 ·rintro e w' ⟨x,q',rfl,hx,hcx,hgx⟩
  exact⟨x,q',rfl,hx,hcx,zk (zig w (.cells (l.map Value.string).toArray 9) _) ⟨hgx.os,hgx.tape,hgx.output,hgx.size,hgx.block⟩⟩
/-- One of the texts of a row that lies there. -/
theorem zbis (S:Src) (hS:S.ok) (g b:Nat) (q:Nat×Int) (N:Nat) (l:List ByteArray) (w:World) (hc:CurW 152 S w g q) (hb:w.heap[b]? =some (.cells (l.map Value.string).toArray 9 (0,0))) (hbg:b≠g) (h1:1≤l.length) (h2:l.length≤1000) (hl: ∀x∈l,x.size≤N):
  Calls Tryz.prog 104 #[.pointer (some ⟨g,0,none⟩),.slice (some ⟨b,0,none⟩) l.length l.length] w (zif S g N w):=by
 refine (zon S hS g q b l.length N w hc h1 h2 (Array.getElem?_eq_some_iff.1 hb).1 hbg ?_).mono ?_
 ·intro j hj
  refine⟨l[j],?_,hl _ (List.getElem_mem hj)⟩
  simp[World.cell?,hb,List.getElem?_eq_getElem hj]
 ·rintro e w' ⟨x,q',rfl,hx,hcx,hgx⟩
  exact⟨x,q',rfl,hx,hcx,hgx⟩
theorem Tryz.infoS:(Tryz.prog.info? 9).map (fun i=>(i.zero,i.size,i.bytes))=some (some (.string {data:=#[]}),1,16):=by kernel_rfl
theorem zbgh (x:ByteArray): ∀u∈[Value.string x],u.oneCell'=true:=fun u hu=>by
 rw[List.mem_singleton] at hu
 rw[hu]
 rfl
abbrev zlb (w:World) (b:Nat) (x0 x1 x2 x3 x4:Value):World:=((((w.setCell ⟨b,0,none⟩ x0).setCell ⟨b,1,none⟩ x1).setCell ⟨b,2,none⟩ x2).setCell ⟨b,3,none⟩ x3).setCell ⟨b,4,none⟩ x4
theorem zkl {w:World} {b k:Nat} (h:k≠b) (x0 x1 x2 x3 x4:Value):(zlb w b x0 x1 x2 x3 x4).heap[k]? =w.heap[k]?:=by
 unfold zlb
 rw[zj h,zj h,zj h,zj h,zj h]
theorem zbdg (w:World) (b:Nat) (x0 x1 x2 x3 x4:Value):(zlb w b x0 x1 x2 x3 x4).heap.size=w.heap.size:=by
 unfold zlb
 simp only[World.size_setCell]
/-- What is told at the end. -/
theorem zblq {S:Src} {g:Nat} {w0 W:World} {b6 b7:Nat} {V:Sv} {m:Md} {q:Nat×Int} (h:MM S g w0 b6 b7 V m q W) (hd:Drawn 1 m) (x0 x1 x2 x3 x4:Value):zxo S g w0 (.returned (modD V m)) (zlb W b6 x0 x1 x2 x3 x4):=by
 have hge:=h.ge
 have hgl:=h.gl
 have bl:Below 0 W (zlb W b6 x0 x1 x2 x3 x4):=(((((Below.refl 0 W).setCell (Nat.zero_le _) _).setCell (Nat.zero_le _) _).setCell (Nat.zero_le _) _).setCell (Nat.zero_le _) _).setCell (Nat.zero_le _) _
 have one: ∀{e:TypeId} {size n:Nat} {r:Rw} {xs:List Value},OwnR W w0.heap.size e size r n xs→e≠54→OwnR (zlb W b6 x0 x1 x2 x3 x4) w0.heap.size e size r n xs:=fun hx he=>hx.keep fun k hk'=>zkl (fun e=>by
  obtain⟨_,_,cur,hc⟩:=hx.typed hk'
  rw[e,h.r6] at hc
  simp only[Option.some.injEq,Obj.cells.injEq] at hc
  exact he hc.2.1.symm) _ _ _ _ _
 refine⟨V,m,q,rfl,⟨one h.own.rq (by decide),one h.own.im (by decide),one h.own.ep (by decide),one h.own.st (by decide),one h.own.ex (by decide)⟩,hd,zdy h.cur fun k hk'=>zkl (by omega) _ _ _ _ _,⟨?_,?_,?_,?_,fun k hk' hne=>(zkl (by omega) _ _ _ _ _).trans (h.gr.block k hk' hne)⟩⟩
 ·exact bl.os.trans h.gr.os
 ·exact bl.tape.trans h.gr.tape
 ·exact bl.output.trans h.gr.output
 ·rw[zbdg]
  exact h.gr.size
theorem zbof {S:Src} {g:Nat} {w0 W:World} {b6 b7:Nat} {V:Sv} {m:Md} {q:Nat×Int} (h:MM S g w0 b6 b7 V m q W) (hd:Drawn 1 m):zxo S g w0 (.returned (.agg #[.slice V.rq.a m.rq.length V.rq.cap,.slice V.im.a m.im.length V.im.cap,.slice V.ep.a m.ep.length V.ep.cap,.slice V.st.a m.st.length V.st.cap,.slice V.ex.a m.ex.length V.ex.cap])) (zlb W b6 (.slice V.rq.a m.rq.length V.rq.cap) (.slice V.im.a m.im.length V.im.cap) (.slice V.ep.a m.ep.length V.ep.cap) (.slice V.st.a m.st.length V.st.cap) (.slice V.ex.a m.ex.length V.ex.cap)):=zblq h hd _ _ _ _ _
theorem zbdh (S:Src) (hS:S.ok) (g:Nat) (most:Nat) (hm:most≤10) (scr:Bool) (q0:Nat×Int) (w0:World) (hc:CurW 152 S w0 g q0):
  Calls Tryz.prog 73 #[.pointer (some ⟨g,0,none⟩),.int .i64 (most:Int),.bool scr] w0 (zxo S g w0):=by
 have HC0:=hidI hc
 have hgl:=zhi hc
 clear hc
 go_enter Tryz.func73,Tryz.ntmps73
 go_wp2_with fail
 refine (zzs S hS g most hm scr q0 _ (zko HC0.out _)).mono ?_
 rintro e w1 ⟨t,q1,rfl,ht,hc,hg⟩
 have HC1:=hidI hc
 have HG1:=hidI (zk (zig w0 (.cells #[.slice none 0 0,.slice none 0 0,.slice none 0 0,.slice none 0 0,.slice none 0 0] 54) (some g)) hg)
 have X1:Hid (w1.heap[w0.heap.size]? =some (.cells #[.slice none 0 0,.slice none 0 0,.slice none 0 0,.slice none 0 0,.slice none 0 0] 54 (0,0))):=(hg.block _ (by rw[ze];omega) (by simp;omega)).trans (heap_alloc_new w0 _)
 clear hc hg
 go_wp2_with fail
 refine (zsi t scr w1 (by omega)).mono ?_
 rintro e w2 ⟨hpo,hb⟩
 obtain⟨V,m,z,rfl,ho,hd⟩:=hpo.drawn ht
 have O2:=hidI ho
 have DR:=hidI hd
 have HC2:=hidI (zew HC1.out hb (zhi HC1.out))
 have HG2:=hidI (zex HG1.out hb HG1.out.size)
 have X2:=hidI ((hb.block _ (Array.getElem?_eq_some_iff.1 X1.out).1).trans X1.out)
 have hsz:=hb.size
 clear hpo ho hd hb
 unfold modD
 go_upto_region 2 with fail
 refine zbc (R:=MM S g w0 w0.heap.size w2.heap.size V m q1) ?_ ?_
 ·refine⟨?_,heap_alloc_new w2 _,?_,zko HC2.out _,zk HG2.out (zig _ _ _),Nat.le_refl _,(Array.getElem?_eq_some_iff.1 X2.out).1,hgl⟩
  ·rw[heap_alloc_old _ _ (Array.getElem?_eq_some_iff.1 X2.out).1]
   exact X2.out
  ·have h1:=HG1.out.size
   have low:OwnMd w2 w0.heap.size V m:=⟨O2.out.rq.low h1,O2.out.im.low h1,O2.out.ep.low h1,O2.out.st.low h1,O2.out.ex.low h1⟩
   exact low.alloc _
 obtain⟨b6,hb6⟩: ∃b,b=w0.heap.size:=⟨_,rfl⟩
 obtain⟨b7,hb7⟩: ∃b,b=w2.heap.size:=⟨_,rfl⟩
 rw[←hb6,←hb7]
 clear hb6 hb7 HC1 HG1 X1 O2 HC2 HG2 X2 hsz
 intro W1 hM
 have M1:=hidI hM
 clear hM
 go_wp2_with fail
 refine (zey S hS g _ 6 _ M1.out.cur (by omega)).mono ?_
 rintro e W2 ⟨rfl,hc,hg⟩
 obtain⟨q2,hq⟩: ∃q',(bw S q1 6).2=q':=⟨_,rfl⟩
 rw[hq] at hc
 have M2:=hidI (M1.out.step hc hg)
 clear hc hg hq M1
 generalize ((bw S q1 6).1==0)=b
 go_upto_if 19 with fail
 go_cut [] from 20 to 97 (fun wx=>MMD S g w0 b6 b7 wx)
 case rest=>
  obtain⟨V',m',q',hM',hD'⟩:=hcut
  have A9:=hidI hM'
  have D9:=hidI hD'
  clear hM' hD'
  obtain⟨c0,c1,c2,c3,c4,cf⟩:=zi A9.out.r7
  obtain⟨d0,d1,d2,d3,d4,df⟩:=zi A9.out.r6
  go_wp2
  refine bodyPost_ret (results_cell_row rfl _ _ b6 54 _ (0,0) _ rfl (put5 A9.out.r6) Tryz.underlying54 rfl (by kernel_rfl)) rfl ?_
  exact zbof A9.out D9.out
 cases b with
 |false=>
  go_wp2_with fail
  go_meet
  exact⟨_,_,_,M2.out,DR.out.more (by omega)⟩
 |true=>
  go_wp2_with fail
  refine (zbf S hS g _ 6 _ M2.out.cur (by omega)).mono ?_
  rintro e W3 ⟨rfl,hc,hg⟩
  have hbd:=zeu S q2 6 (by omega)
  obtain⟨k3,hk⟩: ∃k:Nat,(bw S q2 6).1=k:=⟨(bw S q2 6).1.toNat,by omega⟩
  obtain⟨q3,hq⟩: ∃q',(bw S q2 6).2=q':=⟨_,rfl⟩
  rw[hk] at hbd ⊢
  rw[hq] at hc
  have M3:=hidI (M2.out.step hc hg)
  have kb:k3<6:=by omega
  clear hc hg hbd hk hq M2
  obtain⟨c0,c1,c2,c3,c4,cf⟩:=zi M3.out.r7
  have hl7:=(Array.getElem?_eq_some_iff.1 M3.out.r7).1
  rcases (show k3=0∨k3=1∨k3=2∨k3=3∨k3=4∨k3=5 by omega) with rfl|rfl|rfl|rfl|rfl|rfl
  ·obtain⟨i0,hi,hz0,hz1,hz2⟩:=info_parts Tryz.infoS
   go_wp2_with fail
   go_region_law (first|(refine zgj rfl (.tmp 40) (.tmp 44) 22 rfl w0.heap.size 9 i0 _ 1 16 Tryz.underlying22 hi hz0 hz1 hz2 rfl (by decide) (by decide) V.rq m.rq.length (m.rq.map Value.string) (by rfl) (by exact (M4.out.alloc _).own.rq) _ ([Value.string x4]) (by rfl) (by exact heap_alloc_new _ _) rfl (zbgh x4) (by have:=DR.out.rq.1;omega) (by exact (M4.out.alloc _).gr.size) ?_;intro r' W9 hr9 hg9 hat9;have A9:=hidI ((M4.out.alloc _).app_rq (x:=x4) hr9 hg9);have F9:=hidI ((M4.out.alloc _).far_rq hg9);clear hr9 hg9 hat9;obtain⟨u0,u1,u2,u3,u4,uf⟩:=zi F9.out;have hl9:=(Array.getElem?_eq_some_iff.1 F9.out).1)|((try go_simp);go_wp2_with (first|(go_at_call 104;refine (zuo S hS g _ 100 [{data:=#[120]},{data:=#[34]},{data:=#[122,122]}] _ M3.out.cur (by simp) (by simp) (by intro x hx;simp only[List.mem_cons,List.not_mem_nil,or_false] at hx;rcases hx with rfl|rfl|rfl<;>decide)).mono ?_;rintro e W4 ⟨x4,q4,rfl,z4,hc4,hg4⟩;have M4:=hidI (M3.out.step hc4 hg4);clear hc4 hg4;obtain⟨y0,y1,y2,y3,y4,yf⟩:=zi M4.out.r7;have hl4:=(Array.getElem?_eq_some_iff.1 M4.out.r7).1))))
   all_goals
    have D9:Hid (Drawn 1 {m with rq:=m.rq++[x4]}):=⟨⟨by have:=DR.out.rq.1;simp;omega,zhq DR.out.rq.2 (by omega)⟩,(DR.out.more (Nat.zero_le 1)).im,(DR.out.more (Nat.zero_le 1)).ep,(DR.out.more (Nat.zero_le 1)).st,(DR.out.more (Nat.zero_le 1)).ex,DR.out.fair⟩
    clear c0 c1 c2 c3 c4 cf y0 y1 y2 y3 y4 yf u0 u1 u2 u3 u4 uf F9
    go_wp2_with fail
    go_meet
    exact⟨_,_,_,A9.out,D9.out⟩
  ·obtain⟨i0,hi,hz0,hz1,hz2⟩:=info_parts Tryz.infoImp
   go_wp2_with fail
   go_region_law (first|(refine zgj rfl (.tmp 50) (.tmp 55) 49 rfl w0.heap.size 119 i0 _ 3 48 Tryz.underlying49 hi hz0 hz1 hz2 rfl (by decide) (by decide) V.im m.im.length (m.im.flatMap imL) (by rfl) (by exact (M4.out.alloc _).own.im) _ (imL (⟨({data:=#[120]}:ByteArray),({data:=#[97]}:ByteArray),x4⟩:Im)) (by rfl) (by exact heap_alloc_new _ _) rfl (zte _) (by have:=DR.out.im.1;omega) (by exact (M4.out.alloc _).gr.size) ?_;intro r' W9 hr9 hg9 hat9;have A9:=hidI ((M4.out.alloc _).app_im (x:=(⟨({data:=#[120]}:ByteArray),({data:=#[97]}:ByteArray),x4⟩:Im)) hr9 hg9);have F9:=hidI ((M4.out.alloc _).far_im hg9);clear hr9 hg9 hat9;obtain⟨u0,u1,u2,u3,u4,uf⟩:=zi F9.out;have hl9:=(Array.getElem?_eq_some_iff.1 F9.out).1)|((try go_simp);go_wp2_with (first|(go_at_call 104;refine (zuo S hS g _ 100 [{data:=#[113]},{data:=#[108,101,116]},{data:=#[]}] _ M3.out.cur (by simp) (by simp) (by intro x hx;simp only[List.mem_cons,List.not_mem_nil,or_false] at hx;rcases hx with rfl|rfl|rfl<;>decide)).mono ?_;rintro e W4 ⟨x4,q4,rfl,z4,hc4,hg4⟩;have M4:=hidI (M3.out.step hc4 hg4);clear hc4 hg4;obtain⟨y0,y1,y2,y3,y4,yf⟩:=zi M4.out.r7;have hl4:=(Array.getElem?_eq_some_iff.1 M4.out.r7).1))))
   all_goals
    have D9:Hid (Drawn 1 {m with im:=m.im++[(⟨({data:=#[120]}:ByteArray),({data:=#[97]}:ByteArray),x4⟩:Im)]}):=⟨(DR.out.more (Nat.zero_le 1)).rq,⟨by have:=DR.out.im.1;simp;omega,zhq DR.out.im.2 ⟨by show 1≤_;omega,by show 1≤_;omega,by show x4.size≤_;omega⟩⟩,(DR.out.more (Nat.zero_le 1)).ep,(DR.out.more (Nat.zero_le 1)).st,(DR.out.more (Nat.zero_le 1)).ex,DR.out.fair⟩
    clear c0 c1 c2 c3 c4 cf y0 y1 y2 y3 y4 yf u0 u1 u2 u3 u4 uf F9
    go_wp2_with fail
    go_meet
    exact⟨_,_,_,A9.out,D9.out⟩
  ·obtain⟨i0,hi,hz0,hz1,hz2⟩:=info_parts Tryz.infoExp
   go_wp2_with fail
   go_region_law (first|(refine zgj rfl (.tmp 61) (.tmp 68) 50 rfl w0.heap.size 121 i0 _ 4 56 Tryz.underlying50 hi hz0 hz1 hz2 rfl (by decide) (by decide) V.ep m.ep.length (m.ep.flatMap epL) (by rfl) (by exact (M5.out.alloc _).own.ep) _ (epL (⟨(k4:Int),({data:=#[113]}:ByteArray),({data:=#[113]}:ByteArray),x5⟩:Ep)) (by rfl) (by exact heap_alloc_new _ _) rfl (zmy _) (by have:=DR.out.ep.1;omega) (by exact (M5.out.alloc _).gr.size) ?_;intro r' W9 hr9 hg9 hat9;have A9:=hidI ((M5.out.alloc _).app_ep (x:=(⟨(k4:Int),({data:=#[113]}:ByteArray),({data:=#[113]}:ByteArray),x5⟩:Ep)) hr9 hg9);have F9:=hidI ((M5.out.alloc _).far_ep hg9);clear hr9 hg9 hat9;obtain⟨u0,u1,u2,u3,u4,uf⟩:=zi F9.out;have hl9:=(Array.getElem?_eq_some_iff.1 F9.out).1)|((try go_simp);go_wp2_with (first|(go_at_call 104;refine (zbis S hS g W3.heap.size _ 100 [{data:=#[]},{data:=#[120]}] _ M4.out.cur K4.out (by have:=M3.out.gl;have:=M3.out.gr.size;omega) (by simp) (by simp) (by intro x hx;simp only[List.mem_cons,List.not_mem_nil,or_false] at hx;rcases hx with rfl|rfl<;>decide)).mono ?_;rintro e W5 ⟨x5,q5,rfl,z5,hc5,hg5⟩;have M5:=hidI (M4.out.step hc5 hg5);clear hc5 hg5;obtain⟨y0,y1,y2,y3,y4,yf⟩:=zi M5.out.r7;have hl5:=(Array.getElem?_eq_some_iff.1 M5.out.r7).1)|(go_at_call 104;refine (zde S hS g _ 100 [{data:=#[]},{data:=#[120]}] _ M4.out.cur (by simp) (by simp) (by intro x hx;simp only[List.mem_cons,List.not_mem_nil,or_false] at hx;rcases hx with rfl|rfl<;>decide)).mono ?_;rintro e W5 ⟨x5,q5,rfl,z5,hc5,hg5⟩;have M5:=hidI (M4.out.step hc5 hg5);clear hc5 hg5;obtain⟨y0,y1,y2,y3,y4,yf⟩:=zi M5.out.r7;have hl5:=(Array.getElem?_eq_some_iff.1 M5.out.r7).1)|(go_at_call 103;refine (zbf S hS g _ 5 _ M3.out.drew.cur (by omega)).mono ?_;rintro e W4 ⟨rfl,hc4,hg4⟩;have hbd4:=zeu S q3 5 (by omega);obtain⟨k4,hk4⟩: ∃k:Nat,(bw S q3 5).1=k:=⟨(bw S q3 5).1.toNat,by omega⟩;obtain⟨q4,hq4⟩: ∃q',(bw S q3 5).2=q':=⟨_,rfl⟩;rw[hk4] at hbd4 ⊢;rw[hq4] at hc4;have M4:=hidI (M3.out.drew.step hc4 hg4);clear hc4 hg4 hk4 hq4;obtain⟨y0,y1,y2,y3,y4,yf⟩:=zi M4.out.r7;have hl4:=(Array.getElem?_eq_some_iff.1 M4.out.r7).1)|(go_at_call 103;refine (zbf S hS g _ 5 _ (M3.out.alloc _).drew.cur (by omega)).mono ?_;rintro e W4 ⟨rfl,hc4,hg4⟩;have hbd4:=zeu S q3 5 (by omega);obtain⟨k4,hk4⟩: ∃k:Nat,(bw S q3 5).1=k:=⟨(bw S q3 5).1.toNat,by omega⟩;obtain⟨q4,hq4⟩: ∃q',(bw S q3 5).2=q':=⟨_,rfl⟩;rw[hk4] at hbd4 ⊢;rw[hq4] at hc4;have M4:=hidI ((M3.out.alloc _).drew.step hc4 hg4);have K4:=hidI ((hg4.block W3.heap.size (by show W3.heap.size<(W3.alloc _).heap.size;rw[ze];omega) (by have:=M3.out.gl;have:=M3.out.gr.size;simp;omega)).trans (heap_alloc_new W3 _));clear hc4 hg4 hk4 hq4;obtain⟨y0,y1,y2,y3,y4,yf⟩:=zi M4.out.r7;have hl4:=(Array.getElem?_eq_some_iff.1 M4.out.r7).1))))
   all_goals
    have D9:Hid (Drawn 1 {m with ep:=m.ep++[(⟨(k4:Int),({data:=#[113]}:ByteArray),({data:=#[113]}:ByteArray),x5⟩:Ep)]}):=⟨(DR.out.more (Nat.zero_le 1)).rq,(DR.out.more (Nat.zero_le 1)).im,⟨by have:=DR.out.ep.1;simp;omega,zhq DR.out.ep.2 ⟨by show 1≤_;omega,by show 1≤_;omega,by show x5.size≤_;omega⟩⟩,(DR.out.more (Nat.zero_le 1)).st,(DR.out.more (Nat.zero_le 1)).ex,DR.out.fair⟩
    clear c0 c1 c2 c3 c4 cf y0 y1 y2 y3 y4 yf u0 u1 u2 u3 u4 uf F9
    go_wp2_with fail
    go_meet
    exact⟨_,_,_,A9.out,D9.out⟩
  ·obtain⟨i0,hi,hz0,hz1,hz2⟩:=info_parts Tryz.infoStmt
   go_wp2_with fail
   go_region_law (first|(refine zgj rfl (.tmp 74) (.tmp 81) 51 rfl w0.heap.size 123 i0 _ 3 32 Tryz.underlying51 hi hz0 hz1 hz2 rfl (by decide) (by decide) V.st m.st.length (m.st.flatMap smL) (by rfl) (by exact (M5.out.alloc _).own.st) _ (smL (⟨(k4:Int),({data:=#[113]}:ByteArray),IntKind.i64.wrap ((k5:Int)-1)⟩:Sm)) (by rfl) (by exact heap_alloc_new _ _) rfl (zbbf _) (by have:=DR.out.st.1;omega) (by exact (M5.out.alloc _).gr.size) ?_;intro r' W9 hr9 hg9 hat9;have A9:=hidI ((M5.out.alloc _).app_st (x:=(⟨(k4:Int),({data:=#[113]}:ByteArray),IntKind.i64.wrap ((k5:Int)-1)⟩:Sm)) hr9 hg9);have F9:=hidI ((M5.out.alloc _).far_st hg9);clear hr9 hg9 hat9;obtain⟨u0,u1,u2,u3,u4,uf⟩:=zi F9.out;have hl9:=(Array.getElem?_eq_some_iff.1 F9.out).1)|((try go_simp);go_wp2_with (first|(go_at_call 103;refine (zbf S hS g _ 5 _ M4.out.cur (by omega)).mono ?_;rintro e W5 ⟨rfl,hc5,hg5⟩;have hbd5:=zeu S q4 5 (by omega);obtain⟨k5,hk5⟩: ∃k:Nat,(bw S q4 5).1=k:=⟨(bw S q4 5).1.toNat,by omega⟩;obtain⟨q5,hq5⟩: ∃q',(bw S q4 5).2=q':=⟨_,rfl⟩;rw[hk5] at hbd5 ⊢;rw[hq5] at hc5;have M5:=hidI (M4.out.step hc5 hg5);clear hc5 hg5 hk5 hq5;obtain⟨y0,y1,y2,y3,y4,yf⟩:=zi M5.out.r7;have hl5:=(Array.getElem?_eq_some_iff.1 M5.out.r7).1)|(go_at_call 103;refine (zbf S hS g _ 8 _ M3.out.drew.cur (by omega)).mono ?_;rintro e W4 ⟨rfl,hc4,hg4⟩;have hbd4:=zeu S q3 8 (by omega);obtain⟨k4,hk4⟩: ∃k:Nat,(bw S q3 8).1=k:=⟨(bw S q3 8).1.toNat,by omega⟩;obtain⟨q4,hq4⟩: ∃q',(bw S q3 8).2=q':=⟨_,rfl⟩;rw[hk4] at hbd4 ⊢;rw[hq4] at hc4;have M4:=hidI (M3.out.drew.step hc4 hg4);clear hc4 hg4 hk4 hq4;obtain⟨y0,y1,y2,y3,y4,yf⟩:=zi M4.out.r7;have hl4:=(Array.getElem?_eq_some_iff.1 M4.out.r7).1))))
   all_goals
    have D9:Hid (Drawn 1 {m with st:=m.st++[(⟨(k4:Int),({data:=#[113]}:ByteArray),IntKind.i64.wrap ((k5:Int)-1)⟩:Sm)]}):=⟨(DR.out.more (Nat.zero_le 1)).rq,(DR.out.more (Nat.zero_le 1)).im,(DR.out.more (Nat.zero_le 1)).ep,⟨by have:=DR.out.st.1;simp;omega,zhq DR.out.st.2 (by show 1≤_;omega)⟩,(DR.out.more (Nat.zero_le 1)).ex,zbfr DR.out.fair zbox⟩
    clear c0 c1 c2 c3 c4 cf y0 y1 y2 y3 y4 yf u0 u1 u2 u3 u4 uf F9
    go_wp2_with fail
    go_meet
    exact⟨_,_,_,A9.out,D9.out⟩
  ·obtain⟨i0,hi,hz0,hz1,hz2⟩:=info_parts Tryz.infoExpr
   go_wp2_with fail
   go_region_law (first|(refine zgj rfl (.tmp 87) (.tmp 95) 52 rfl w0.heap.size 125 i0 _ 6 64 Tryz.underlying52 hi hz0 hz1 hz2 rfl (by decide) (by decide) V.ex m.ex.length (m.ex.flatMap exL) (by rfl) (by exact (M6.out.alloc _).own.ex) _ (exL (⟨(k4:Int),0,sNone,sNone,(k5:Int),(k6:Int)⟩:Ex)) (by rfl) (by exact heap_alloc_new _ _) rfl (zbbd _) (by have:=DR.out.ex.1;omega) (by exact (M6.out.alloc _).gr.size) ?_;intro r' W9 hr9 hg9 hat9;have A9:=hidI ((M6.out.alloc _).app_ex (x:=(⟨(k4:Int),0,sNone,sNone,(k5:Int),(k6:Int)⟩:Ex)) hr9 hg9);have F9:=hidI ((M6.out.alloc _).far_ex hg9);clear hr9 hg9 hat9;obtain⟨u0,u1,u2,u3,u4,uf⟩:=zi F9.out;have hl9:=(Array.getElem?_eq_some_iff.1 F9.out).1)|((try go_simp);go_wp2_with (first|(go_at_call 103;refine (zbf S hS g _ 3 _ M5.out.cur (by omega)).mono ?_;rintro e W6 ⟨rfl,hc6,hg6⟩;have hbd6:=zeu S q5 3 (by omega);obtain⟨k6,hk6⟩: ∃k:Nat,(bw S q5 3).1=k:=⟨(bw S q5 3).1.toNat,by omega⟩;obtain⟨q6,hq6⟩: ∃q',(bw S q5 3).2=q':=⟨_,rfl⟩;rw[hk6] at hbd6 ⊢;rw[hq6] at hc6;have M6:=hidI (M5.out.step hc6 hg6);clear hc6 hg6 hk6 hq6;obtain⟨y0,y1,y2,y3,y4,yf⟩:=zi M6.out.r7;have hl6:=(Array.getElem?_eq_some_iff.1 M6.out.r7).1)|(go_at_call 103;refine (zbf S hS g _ 3 _ M4.out.cur (by omega)).mono ?_;rintro e W5 ⟨rfl,hc5,hg5⟩;have hbd5:=zeu S q4 3 (by omega);obtain⟨k5,hk5⟩: ∃k:Nat,(bw S q4 3).1=k:=⟨(bw S q4 3).1.toNat,by omega⟩;obtain⟨q5,hq5⟩: ∃q',(bw S q4 3).2=q':=⟨_,rfl⟩;rw[hk5] at hbd5 ⊢;rw[hq5] at hc5;have M5:=hidI (M4.out.step hc5 hg5);clear hc5 hg5 hk5 hq5;obtain⟨y0,y1,y2,y3,y4,yf⟩:=zi M5.out.r7;have hl5:=(Array.getElem?_eq_some_iff.1 M5.out.r7).1)|(go_at_call 103;refine (zbf S hS g _ 9 _ M3.out.drew.cur (by omega)).mono ?_;rintro e W4 ⟨rfl,hc4,hg4⟩;have hbd4:=zeu S q3 9 (by omega);obtain⟨k4,hk4⟩: ∃k:Nat,(bw S q3 9).1=k:=⟨(bw S q3 9).1.toNat,by omega⟩;obtain⟨q4,hq4⟩: ∃q',(bw S q3 9).2=q':=⟨_,rfl⟩;rw[hk4] at hbd4 ⊢;rw[hq4] at hc4;have M4:=hidI (M3.out.drew.step hc4 hg4);clear hc4 hg4 hk4 hq4;obtain⟨y0,y1,y2,y3,y4,yf⟩:=zi M4.out.r7;have hl4:=(Array.getElem?_eq_some_iff.1 M4.out.r7).1))))
   all_goals
    have D9:Hid (Drawn 1 {m with ex:=m.ex++[(⟨(k4:Int),0,sNone,sNone,(k5:Int),(k6:Int)⟩:Ex)]}):=⟨(DR.out.more (Nat.zero_le 1)).rq,(DR.out.more (Nat.zero_le 1)).im,(DR.out.more (Nat.zero_le 1)).ep,(DR.out.more (Nat.zero_le 1)).st,⟨by have:=DR.out.ex.1;simp;omega,zhq DR.out.ex.2 ⟨Nat.zero_le _,Nat.zero_le _,by simp,by simp⟩⟩,DR.out.fair⟩
    clear c0 c1 c2 c3 c4 cf y0 y1 y2 y3 y4 yf u0 u1 u2 u3 u4 uf F9
    go_wp2_with fail
    go_meet
    exact⟨_,_,_,A9.out,D9.out⟩
  ·by_cases hlen:0<m.ex.length
   case neg=>
    have hli: ¬0<(m.ex.length:Int):=by omega
    go_wp2_with fail
    go_meet
    exact⟨_,_,_,M3.out,DR.out.more (by omega)⟩
   have hli:0<(m.ex.length:Int):=by omega
   have hle:=DR.out.ex.1
   obtain⟨ge,hga,_⟩:=M3.out.own.expr hlen
   have GA:=hidI hga
   rw[hga] at c4
   clear hga
   go_wp2_with fail
   go_region_held3 (fun W=>W.cell? ⟨b7,4,none⟩=some (.slice (some ⟨ge,0,none⟩) m.ex.length V.ex.cap)) (first|exact c4|exact y4|exact z4|go_keep) (first|(go_at_call 103;refine (zbf S hS g _ 4 _ M4.out.cur (by omega)).mono ?_;rintro e W5 ⟨rfl,hc5,hg5⟩;have hbd5:=zeu S q4 4 (by omega);obtain⟨k5,hk5⟩: ∃k:Nat,(bw S q4 4).1=k:=⟨(bw S q4 4).1.toNat,by omega⟩;obtain⟨q5,hq5⟩: ∃q',(bw S q4 4).2=q':=⟨_,rfl⟩;rw[hk5] at hbd5 ⊢;rw[hq5] at hc5;have M5:=hidI (M4.out.step hc5 hg5);clear hc5 hg5 hk5 hq5;clear y0 y1 y2 y3 y4 yf;obtain⟨y0,y1,y2,y3,y4,yf⟩:=zi M5.out.r7;rw[GA.out] at y4;have kl:k4<m.ex.length:=Int.ofNat_lt.1 hbd4.2;have kli:(k4:Int)<(m.ex.length:Int):=hbd4.2;obtain⟨s0,sf⟩:=M5.out.spot kl GA.out;have hl5:=(Array.getElem?_eq_some_iff.1 M5.out.r7).1;obtain⟨x,hx⟩: ∃x,m.ex[k4]? =some x:=⟨_,List.getElem?_eq_getElem kl⟩;have A9:=hidI (M5.out.num hx GA.out (k5:Int));obtain⟨_,_,_,_,z4,_⟩:=zi A9.out.r7;rw[GA.out,List.length_set] at z4)|(go_at_call 103;refine (zbf S hS g _ (m.ex.length:Int) _ M3.out.drew.cur (by omega)).mono ?_;rintro e W4 ⟨rfl,hc4,hg4⟩;have hbd4:=zeu S q3 (m.ex.length:Int) (by omega);obtain⟨k4,hk4⟩: ∃k:Nat,(bw S q3 (m.ex.length:Int)).1=k:=⟨(bw S q3 (m.ex.length:Int)).1.toNat,by omega⟩;obtain⟨q4,hq4⟩: ∃q',(bw S q3 (m.ex.length:Int)).2=q':=⟨_,rfl⟩;rw[hk4] at hbd4 ⊢;rw[hq4] at hc4;have M4:=hidI (M3.out.drew.step hc4 hg4);clear hc4 hg4 hk4 hq4;obtain⟨y0,y1,y2,y3,y4,yf⟩:=zi M4.out.r7;rw[GA.out] at y4;have hl4:=(Array.getElem?_eq_some_iff.1 M4.out.r7).1))
   all_goals
    have D9:Hid (Drawn 1 {m with ex:=m.ex.set k4 {x with num:=(k5:Int)}}):=⟨(DR.out.more (Nat.zero_le 1)).rq,(DR.out.more (Nat.zero_le 1)).im,(DR.out.more (Nat.zero_le 1)).ep,(DR.out.more (Nat.zero_le 1)).st,⟨by show (m.ex.set k4 _).length≤_;rw[List.length_set];omega,zbin DR.out.ex.2 (by have:=DR.out.ex.2 x (List.mem_of_getElem? hx);exact⟨this.1,this.2.1,by show 0≤(k5:Int);omega,by show (k5:Int)≤_;omega⟩)⟩,DR.out.fair⟩
    clear c0 c1 c2 c3 c4 cf y0 y1 y2 y3 y4 yf s0 sf
    go_wp2_with fail
    go_meet
    exact⟨_,_,_,A9.out,D9.out⟩
def zbit (w:World) (e:Ending) (w':World):Prop:=∃(V:Sv) (m:Md) (scr:Bool),e= .returned (.tuple #[modD V m,.bool scr])∧OwnMd w' w.heap.size V m∧Drawn 1 m∧Below w.heap.size w w'
theorem znc {w W W':World} {g:Nat} (h:Below w.heap.size w W) (k:W.grownBy W' (some g)) (hg:w.heap.size≤g):Below w.heap.size w W':=zzf h k hg h.size
theorem ztj (S:Src) (hS:S.ok) (w:World) (hc:ziy S w) (hl:S.lim≤w.heap.size) (hlen:S.len≤1048576):
  Calls Tryz.prog 30 #[.slice S.a S.len S.cap] w (zbit w):=by
 have HA:Hid (Below w.heap.size w (w.alloc (.cells #[.slice none 0 0,.slice none 0 0,.slice none 0 0,.slice none 0 0,.slice none 0 0] 54))):=(Below.refl _ _).alloc (Nat.le_refl _) _
 have HC:Hid (ziy S (w.alloc (.cells #[.slice none 0 0,.slice none 0 0,.slice none 0 0,.slice none 0 0,.slice none 0 0] 54))):=zml hc HA.out hl
 clear hc
 go_enter Tryz.func30,Tryz.ntmps30
 go_upto_region 1 with fail
 refine zbc (R:=fun W=>W.heap[w.heap.size]? =some (.cells #[.slice none 0 0,.slice none 0 0,.slice none 0 0,.slice none 0 0,.slice none 0 0] 54 (0,0))∧ziy S W∧Below w.heap.size w W∧w.heap.size<W.heap.size) ⟨heap_alloc_new w _,HC.out,HA.out,by rw[ze];omega⟩ ?_
 obtain⟨b,hb⟩: ∃b,b=w.heap.size:=⟨_,rfl⟩
 rw[←hb]
 rintro w1 ⟨hx,hcw,hbe,hlt⟩
 clear HA HC
 have X1:=hidI hx
 have C1:=hidI hcw
 rw[hb] at hbe hlt
 have B1:=hidI hbe
 clear hx hcw hbe
 go_wp2_with fail
 refine (zbes S hS w1 C1.out (by omega)).mono ?_
 rintro e w2 ⟨rfl,hc,hbe⟩
 obtain⟨g,hg⟩: ∃g,g=w1.heap.size:=⟨_,rfl⟩
 rw[←hg] at hc ⊢
 have HC2:=hidI hc
 have B2:=hidI (B1.out.trans (hbe.mono (Nat.le_of_lt hlt)))
 have X2:=hidI ((hbe.block _ (Array.getElem?_eq_some_iff.1 X1.out).1).trans X1.out)
 have hgw:w.heap.size≤g:=by omega
 have hbg:b<g:=by omega
 have HBB:=hidI hb
 clear hc hbe C1 X1 B1 hg hb
 go_wp2_with fail
 refine (zey S hS g _ 3 _ HC2.out (by omega)).mono ?_
 rintro e w3 ⟨rfl,hc,hgr⟩
 obtain⟨q3,hq⟩: ∃q',(bw S (start S) 3).2=q':=⟨_,rfl⟩
 rw[hq] at hc
 have HC3:=hidI hc
 have B3:=hidI (znc B2.out hgr hgw)
 have X3:=hidI ((hgr.block _ (Array.getElem?_eq_some_iff.1 X2.out).1 (by simp;omega)).trans X2.out)
 clear hc hgr hq HC2 B2 X2
 generalize ((bw S (start S) 3).1==0)=scr
 go_wp2_with fail
 refine (zzr S (by omega) 10 (by omega) (by omega) _).mono ?_
 rintro e w4 ⟨⟨r,rfl,hr⟩,hw⟩
 rw[hw]
 clear hw
 go_wp2_with fail
 refine (zbdh S hS g r (by omega) scr q3 _ HC3.out).mono ?_
 rintro e w5 ⟨V,m,q5,rfl,ho,hd,hc,hgr⟩
 have h3:=B3.out.size
 have O5:Hid (OwnMd w5 w.heap.size V m):=⟨ho.rq.low h3,ho.im.low h3,ho.ep.low h3,ho.st.low h3,ho.ex.low h3⟩
 have D5:=hidI hd
 have B5:=hidI (znc B3.out hgr hgw)
 have X5:=hidI ((hgr.block _ (Array.getElem?_eq_some_iff.1 X3.out).1 (by simp;omega)).trans X3.out)
 clear ho hd hc hgr
 unfold modD
 obtain⟨d0,d1,d2,d3,d4,df⟩:=zi X5.out
 go_wp2
 refine bodyPost_ret (zl rfl _ _ b 54 _ (0,0) _ rfl (put5 X5.out) Tryz.underlying54 rfl (by kernel_rfl)) rfl ?_
 have one: ∀{e:TypeId} {size n:Nat} {r:Rw} {xs:List Value} (x0 x1 x2 x3 x4:Value),OwnR w5 w.heap.size e size r n xs→e≠54→OwnR (zlb w5 b x0 x1 x2 x3 x4) w.heap.size e size r n xs:=fun x0 x1 x2 x3 x4 hx he=>hx.keep fun k hk'=>zkl (fun e=>by
  obtain⟨_,_,cur,hc⟩:=hx.typed hk'
  rw[e,X5.out] at hc
  simp only[Option.some.injEq,Obj.cells.injEq] at hc
  exact he hc.2.1.symm) _ _ _ _ _
 exact⟨V,m,scr,rfl,⟨one _ _ _ _ _ O5.out.rq (by decide),one _ _ _ _ _ O5.out.im (by decide),one _ _ _ _ _ O5.out.ep (by decide),one _ _ _ _ _ O5.out.st (by decide),one _ _ _ _ _ O5.out.ex (by decide)⟩,D5.out,((((B5.out.setCell (Nat.le_of_eq HBB.out.symm) _).setCell (Nat.le_of_eq HBB.out.symm) _).setCell (Nat.le_of_eq HBB.out.symm) _).setCell (Nat.le_of_eq HBB.out.symm) _).setCell (Nat.le_of_eq HBB.out.symm) _⟩
def zcp {α:Type} (c:α→Nat) (l:List α):Nat:=(l.map c).sum
def zjz (x:ByteArray):Nat:=x.size
def zjj (x:Im):Nat:=x.spec.size+x.first.size+x.loc.size
def zjk (x:Ep):Nat:=x.name.size+x.loc.size+x.spec.size
def znd (x:Sm):Nat:=x.name.size
def zls (x:Ex):Nat:=x.name.size+x.field.size
def zsj (m:Md):Nat:=(m.rq.length+zcp zjz m.rq)+(m.im.length+zcp zjj m.im)+(m.ep.length+zcp zjk m.ep)+(m.st.length+zcp znd m.st)+(m.ex.length+zcp zls m.ex)
def zch (s:ByteArray):ByteArray:=({data:=#[34]}:ByteArray)++s++({data:=#[34]}:ByteArray)
def asT (a b:ByteArray):ByteArray:=if a.toList==b.toList then a else a++({data:=#[32,97,115,32]}:ByteArray)++b
def impT (x:Im):ByteArray:=
 if x.first.toList==[42] then ({data:=#[105,109,112,111,114,116,32,42,32,97,115,32]}:ByteArray)++x.loc++({data:=#[32,102,114,111,109,32]}:ByteArray)++zch x.spec++({data:=#[59,10]}:ByteArray)
 else if x.first.toList==[100,101,102,97,117,108,116] then ({data:=#[105,109,112,111,114,116,32]}:ByteArray)++x.loc++({data:=#[32,102,114,111,109,32]}:ByteArray)++zch x.spec++({data:=#[59,10]}:ByteArray)
 else ({data:=#[105,109,112,111,114,116,32,123,32]}:ByteArray)++asT x.first x.loc++({data:=#[32,125,32,102,114,111,109,32]}:ByteArray)++zch x.spec++({data:=#[59,10]}:ByteArray)
def expT (x:Ep):ByteArray:=
 if x.kind==3 then ({data:=#[101,120,112,111,114,116,32,42,32,102,114,111,109,32]}:ByteArray)++zch x.spec++({data:=#[59,10]}:ByteArray)
 else if x.kind==2 then ({data:=#[101,120,112,111,114,116,32,123,32]}:ByteArray)++asT x.loc x.name++({data:=#[32,125,32,102,114,111,109,32]}:ByteArray)++zch x.spec++({data:=#[59,10]}:ByteArray)
 else ({data:=#[101,120,112,111,114,116,32,123,32]}:ByteArray)++asT x.loc x.name++({data:=#[32,125,59,10]}:ByteArray)
def zcy (k:Int) (n e:ByteArray):ByteArray:=
 if k==1 then (if n.toList==[42,100,101,102,97,117,108,116] then ({data:=#[101,120,112,111,114,116,32,100,101,102,97,117,108,116,32]}:ByteArray)++e++({data:=#[59,10]}:ByteArray) else ({data:=#[108,101,116,32]}:ByteArray)++n++({data:=#[32,61,32]}:ByteArray)++e++({data:=#[59,10]}:ByteArray))
 else if k==2 then ({data:=#[102,117,110,99,116,105,111,110,32]}:ByteArray)++n++({data:=#[40,41,32,123,32,114,101,116,117,114,110,32]}:ByteArray)++e++({data:=#[59,32,125,10]}:ByteArray)
 else if k==3 then n++({data:=#[32,61,32]}:ByteArray)++e++({data:=#[59,10]}:ByteArray)
 else if k==4 then ({data:=#[112,114,105,110,116,40]}:ByteArray)++e++({data:=#[41,59,10]}:ByteArray)
 else if k==5 then ({data:=#[116,104,114,111,119,32]}:ByteArray)++e++({data:=#[59,10]}:ByteArray)
 else ({data:=#[102,97,105,108,32]}:ByteArray)++e++({data:=#[59,10]}:ByteArray)
/-- impl's: of DefaultName export default, whatever the kind. -/
def zii (k:Int) (n e:ByteArray):ByteArray:=if n.toList==[42,100,101,102,97,117,108,116] then ({data:=#[101,120,112,111,114,116,32,100,101,102,97,117,108,116,32]}:ByteArray)++e++({data:=#[59,10]}:ByteArray) else zcy k n e
def rqT (s:ByteArray):ByteArray:=({data:=#[105,109,112,111,114,116,32]}:ByteArray)++zch s++({data:=#[59,10]}:ByteArray)
/-- Pieces laid behind a text. -/
def acc {α:Type} (f:α→ByteArray) (l:List α) (t:ByteArray):ByteArray:=l.foldl (fun t x=>t++f x) t
theorem zeq {α:Type} (f:α→ByteArray) {l:List α} {j:Nat} {x:α} (h:l[j]? =some x) (t:ByteArray):acc f (l.take (j+1)) t=acc f (l.take j) t++f x:=by
 obtain⟨hj,rfl⟩:=List.getElem?_eq_some_iff.1 h
 rw[List.take_succ_eq_append_getElem hj,acc,List.foldl_append]
 rfl
theorem zis {α:Type} (f:α→ByteArray) (l:List α): ∀t:ByteArray,t.size≤(acc f l t).size:=by
 induction l with
 |nil=>intro t;exact Nat.le_refl _
 |cons x l ih=>
  intro t
  refine Nat.le_trans ?_ (ih (t++f x))
  rw[ByteArray.size_append]
  omega
theorem zblr {α:Type} (f:α→ByteArray) (a b:List α) (t:ByteArray):acc f (a++b) t=acc f b (acc f a t):=by rw[acc,List.foldl_append];rfl
theorem zhs {α:Type} (f:α→ByteArray) (l:List α) (j:Nat) (t:ByteArray):(acc f (l.take j) t).size≤(acc f l t).size:=by
 have:acc f l t=acc f (l.drop j) (acc f (l.take j) t):=by rw[←zblr,List.take_append_drop]
 rw[this]
 exact zis f _ _
def epF (x:Ep):ByteArray:=if x.loc.toList==[42,100,101,102,97,117,108,116] then sNone else expT x
def stF (ex:List Ex) (s:Sm):ByteArray:=zcy s.kind s.name (prX ex s.expr.toNat)
def stFI (ex:List Ex) (s:Sm):ByteArray:=zii s.kind s.name (prX ex s.expr.toNat)
def zhd (m:Md):ByteArray:=acc epF m.ep (acc impT m.im (acc rqT m.rq sNone))
/-- The specification's text, and impl's. -/
def zhe (m:Md):ByteArray:=acc (stF m.ex) m.st (zhd m)
def zge (m:Md):ByteArray:=acc (stFI m.ex) m.st (zhd m)
/-- What Print may tell. -/
def PrintOut (T:ByteArray) (m:Md) (e:Ending):Prop:=(Tree m∧e= .returned (.string T))∨(¬Tree m∧e= .returned (.string sNone))
/-- No name is longer than a text may be. -/
structure Small (m:Md):Prop where
 rq: ∀x∈m.rq,x.size≤4294967296
 im: ∀x∈m.im,x.spec.size≤4294967296∧x.first.size≤4294967296∧x.loc.size≤4294967296
 ep: ∀x∈m.ep,x.spec.size≤4294967296∧x.name.size≤4294967296∧x.loc.size≤4294967296
 st: ∀x∈m.st,x.name.size≤4294967296
 nums:Nums m.ex
 few:m.rq.length≤4294967296∧m.im.length≤4294967296∧m.ep.length≤4294967296∧m.st.length≤4294967296∧m.ex.length≤4294967296
theorem zkp {α:Type} (f:α→ByteArray) (l:List α): ∀t:ByteArray,(acc f l t).size=t.size+(l.map fun x=>(f x).size).sum:=by
 induction l with
 |nil=>intro t;rfl
 |cons x l ih=>
  intro t
  show (acc f l (t++f x)).size=_
  rw[ih,ByteArray.size_append,List.map_cons,List.sum_cons,Nat.add_assoc]
theorem zpv {α:Type} {f c:α→Nat} (l:List α) (h: ∀x∈l,f x≤40+c x):(l.map f).sum≤40*l.length+zcp c l:=by
 induction l with
 |nil=>exact Nat.le_refl _
 |cons x l ih=>
  have h1:=h x (List.mem_cons_self ..)
  have h2:=ih fun y hy=>h y (List.mem_cons_of_mem _ hy)
  unfold zcp at*
  rw[List.map_cons,List.sum_cons,List.map_cons,List.sum_cons,List.length_cons]
  omega
theorem zxp {α:Type} {f c g:α→Nat} (l:List α) (h: ∀x∈l,f x≤40+c x+g x):(l.map f).sum≤40*l.length+zcp c l+(l.map g).sum:=by
 induction l with
 |nil=>exact Nat.le_refl _
 |cons x l ih=>
  have h1:=h x (List.mem_cons_self ..)
  have h2:=ih fun y hy=>h y (List.mem_cons_of_mem _ hy)
  unfold zcp at*
  rw[List.map_cons,List.sum_cons,List.map_cons,List.sum_cons,List.map_cons,List.sum_cons,List.length_cons]
  omega
theorem zff (a:Array UInt8):(⟨a⟩:ByteArray).size=a.size:=rfl
theorem zhl (s:ByteArray):(zch s).size=s.size+2:=by
 rw[zch,ByteArray.size_append,ByteArray.size_append,zff]
 show 1+s.size+1=_
 omega
theorem zxq (a b:ByteArray):(asT a b).size≤a.size+b.size+4:=by
 unfold asT
 split
 ·omega
 ·have z:(({data:=#[32,97,115,32]}:ByteArray)).size=4:=rfl
  rw[ByteArray.size_append,ByteArray.size_append,z]
  omega
theorem zbiu (s:ByteArray):(rqT s).size≤40+zjz s:=by
 rw[rqT,ByteArray.size_append,ByteArray.size_append,zhl,zff,zff]
 show 7+(s.size+2)+2≤40+s.size
 omega
theorem zbiv (x:Im):(impT x).size≤40+zjj x:=by
 have ha:=zxq x.first x.loc
 unfold impT zjj
 split
 ·simp only[ByteArray.size_append,zhl,zff]
  simp only[List.size_toArray,List.length_cons,List.length_nil]
  omega
 ·split
  ·simp only[ByteArray.size_append,zhl,zff]
   simp only[List.size_toArray,List.length_cons,List.length_nil]
   omega
  ·simp only[ByteArray.size_append,zhl,zff]
   simp only[List.size_toArray,List.length_cons,List.length_nil]
   omega
theorem zbiw (x:Ep):(epF x).size≤40+zjk x:=by
 have ha:=zxq x.loc x.name
 unfold epF
 split
 ·exact Nat.zero_le _
 ·unfold expT zjk
  split
  ·simp only[ByteArray.size_append,zhl,zff]
   simp only[List.size_toArray,List.length_cons,List.length_nil]
   omega
  ·split
   ·simp only[ByteArray.size_append,zhl,zff]
    simp only[List.size_toArray,List.length_cons,List.length_nil]
    omega
   ·simp only[ByteArray.size_append,zff]
    simp only[List.size_toArray,List.length_cons,List.length_nil]
    omega
theorem zsk (k:Int) (n e:ByteArray):(zcy k n e).size≤40+n.size+e.size:=by
 unfold zcy
 repeat' split
 all_goals
  simp only[ByteArray.size_append,zff]
  simp only[List.size_toArray,List.length_cons,List.length_nil]
  omega
theorem zzz (k:Int) (n e:ByteArray):(zii k n e).size≤40+n.size+e.size:=by
 unfold zii
 split
 ·simp only[ByteArray.size_append,zff]
  simp only[List.size_toArray,List.length_cons,List.length_nil]
  omega
 ·exact zsk k n e
theorem zbix (l:List Ex):(l.map cost).sum≤40*l.length+zcp zls l:=zpv l fun x _=>by unfold cost zls;omega
theorem zbaa (m:Md):(zhd m).size≤40*m.rq.length+zcp zjz m.rq+(40*m.im.length+zcp zjj m.im)+(40*m.ep.length+zcp zjk m.ep):=by
 have h1:=zpv (c:=zjz) m.rq fun x _=>zbiu x
 have h2:=zpv (c:=zjj) m.im fun x _=>zbiv x
 have h3:=zpv (c:=zjk) m.ep fun x _=>zbiw x
 rw[zhd,zkp,zkp,zkp]
 have:sNone.size=0:=rfl
 omega
theorem zbdi {m:Md} (t:Tree m) (hn:Nums m.ex):(zhe m).size≤40*zsj m∧(zge m).size≤40*zsj m:=by
 have h3:=zbaa m
 have ht:=zbch t hn
 have hx:=zbix m.ex
 have hS:=zxp (c:=znd) (g:=fun s=>wt m.ex s.expr.toNat) (f:=fun s=>(stF m.ex s).size) m.st fun s _=>zsk s.kind s.name _
 have hI:=zxp (c:=znd) (g:=fun s=>wt m.ex s.expr.toNat) (f:=fun s=>(stFI m.ex s).size) m.st fun s _=>zzz s.kind s.name _
 have hc:zsj m=(m.rq.length+zcp zjz m.rq)+(m.im.length+zcp zjj m.im)+(m.ep.length+zcp zjk m.ep)+(m.st.length+zcp znd m.st)+(m.ex.length+zcp zls m.ex):=rfl
 constructor
 ·rw[zhe,zkp]
  omega
 ·rw[zge,zkp]
  omega
theorem zne {α:Type} {c:α→Nat} {B:Nat} (l:List α) (h: ∀x∈l,c x≤B):zcp c l≤l.length*B:=by
 induction l with
 |nil=>exact Nat.zero_le _
 |cons x l ih=>
  have h1:=h x (List.mem_cons_self ..)
  have h2:=ih fun y hy=>h y (List.mem_cons_of_mem _ hy)
  unfold zcp at*
  rw[List.map_cons,List.sum_cons,List.length_cons,Nat.succ_mul]
  omega
theorem Drawn.nums {k:Nat} {m:Md} (h:Drawn k m):Nums m.ex:=fun x hx=>by
 have:=(h.ex.2 x hx).2.2
 omega
theorem Drawn.cost {m:Md} (h:Drawn 1 m):zsj m≤61000000:=by
 have h1:=zne (c:=zjz) (B:=20000) m.rq fun x hx=>h.rq.2 x hx
 have h2:=zne (c:=zjj) (B:=60000) m.im fun x hx=>by have:=h.im.2 x hx;unfold zjj;omega
 have h3:=zne (c:=zjk) (B:=60000) m.ep fun x hx=>by have:=h.ep.2 x hx;unfold OkEp at this;unfold zjk;omega
 have h4:=zne (c:=znd) (B:=20000) m.st fun x hx=>h.st.2 x hx
 have h5:=zne (c:=zls) (B:=40000) m.ex fun x hx=>by have:=h.ex.2 x hx;unfold OkEx at this;unfold zls;omega
 have l1:=h.rq.1
 have l2:=h.im.1
 have l3:=h.ep.1
 have l4:=h.st.1
 have l5:=h.ex.1
 have e:zsj m=(m.rq.length+zcp zjz m.rq)+(m.im.length+zcp zjj m.im)+(m.ep.length+zcp zjk m.ep)+(m.st.length+zcp znd m.st)+(m.ex.length+zcp zls m.ex):=rfl
 omega
theorem Drawn.small {m:Md} (h:Drawn 1 m):Small m:=by
 have l1:=h.rq.1
 have l2:=h.im.1
 have l3:=h.ep.1
 have l4:=h.st.1
 have l5:=h.ex.1
 refine⟨fun x hx=>?_,fun x hx=>?_,fun x hx=>?_,fun x hx=>?_,h.nums,?_,?_,?_,?_,?_⟩
 ·have:=h.rq.2 x hx
  omega
 ·have:=h.im.2 x hx
  omega
 ·have:=h.ep.2 x hx
  unfold OkEp at this
  omega
 ·have:=h.st.2 x hx
  omega
 all_goals omega
theorem Drawn.text {m:Md} (h:Drawn 1 m) (t:Tree m):(zhe m).size≤4294967296∧(zge m).size≤4294967296:=by
 have:=zbdi t h.nums
 have:=h.cost
 omega
/-- A bool that tells whether P. -/
def zfx (P:Prop) (e:Ending):Prop:=∃b,e= .returned (.bool b)∧(b=true↔P)
theorem zci {α:Type} {l:List α} {j:Nat} (h:j<l.length): ∃x,l[j]? =some x:=⟨_,List.getElem?_eq_getElem h⟩
theorem zfw {α:Type} {l1 l2:List α} {j:Nat} {x:α} (h:l1.take j=l2.take j) (h1:l1[j]? =some x) (h2:l2[j]? =some x):l1.take (j+1)=l2.take (j+1):=by
 obtain⟨a,rfl⟩:=List.getElem?_eq_some_iff.1 h1
 obtain⟨b,hb⟩:=List.getElem?_eq_some_iff.1 h2
 rw[List.take_succ_eq_append_getElem a,List.take_succ_eq_append_getElem b,h,hb]
theorem zgn {α:Type} {l1 l2:List α} (hl:l1.length=l2.length) (h:l1.take l1.length=l2.take l1.length):l1=l2:=by
 rw[List.take_length,hl,List.take_length] at h
 exact h
theorem zlt {a b:ByteArray} (h:(a.toList==b.toList)=true):a=b:=(zvb a b).1 h
def zbdj (x y:ByteArray):Bool:=x.toList==y.toList
theorem zmi {x y:ByteArray}:zbdj x y=true↔x=y:=⟨fun h=>zlt h,fun h=>by rw[h];exact beq_self_eq_true _⟩
theorem zxr (a1 a2:Option Addr) (n1 n2 c1 c2:Nat) (w:World) (h:(n1:Int)≠(n2:Int)):Calls Tryz.prog 144 #[.slice a1 n1 c1,.slice a2 n2 c2] w fun e w'=>e= .returned (.bool false)∧Below w.heap.size w w':=by
 go_enter Tryz.func144,Tryz.ntmps144
 go_wp2
 go_ret
 exact⟨rfl,Below.refl _ _⟩
theorem zvn (a1 a2:Option Addr) (c1 c2:Nat) (w:World):Calls Tryz.prog 144 #[.slice a1 0 c1,.slice a2 0 c2] w fun e w'=>e= .returned (.bool true)∧Below w.heap.size w w':=by
 go_enter Tryz.func144,Tryz.ntmps144
 go_wp2
 go_loopg [13] 1 (fun k i wr=>k=1∧i= .int .i64 0∧wr=w)
 case atStart=>exact⟨rfl,rfl,rfl⟩
 case round=>
  obtain⟨rfl,rfl,rfl⟩:=hrel
  go_wp2
  go_ret
  exact⟨rfl,Below.refl _ _⟩
theorem zxs (b1 b2 g1 g2:Nat) (r1 r2:Rw) (l1 l2:List ByteArray) (w:World) (h1:OwnR w b1 9 1 r1 l1.length (l1.flatMap (fun x=>[Value.string x]))) (h2:OwnR w b2 9 1 r2 l2.length (l2.flatMap (fun x=>[Value.string x]))) (e1:r1.a=some ⟨g1,0,none⟩) (e2:r2.a=some ⟨g2,0,none⟩) (hl:l1.length=l2.length) (hb:l1.length≤4294967296):
  Calls Tryz.prog 144 #[.slice (some ⟨g1,0,none⟩) l1.length r1.cap,.slice (some ⟨g2,0,none⟩) l1.length r2.cap] w fun e w'=>zfx (l1=l2) e∧Below w.heap.size w w':=by
 have H1:=hidI h1
 have H2:=hidI h2
 have E1:=hidI e1
 have E2:=hidI e2
 have HL:=hidI hl
 clear h1 h2 e1 e2 hl
 go_enter Tryz.func144,Tryz.ntmps144
 go_wp2
 go_loopg [13] l1.length (fun k i wr=>∃j:Nat,i= .int .i64 j∧j+k=l1.length∧l1.take j=l2.take j∧Below w.heap.size w wr)
 case atStart=>exact⟨0,rfl,by omega,rfl,Below.refl _ _⟩
 case round=>
  obtain⟨j,rfl,hj,ht,hb⟩:=hrel
  have HB:=hidI hb
  have HT:=hidI ht
  clear hb ht
  by_cases hlt:j<l1.length
  ·have hlti:(j:Int)<(l1.length:Int):=by omega
   obtain⟨x,hx⟩:=zci hlt
   obtain⟨y,hy⟩:=zci (show j<l2.length by rw[←HL.out];exact hlt)
   obtain⟨g',ga,h1⟩:=OwnR.elem (f:=(fun x=>[Value.string x])) (m:=1) (fun _=>rfl) (H1.out.keep fun k g=>HB.out.block k (H1.out.typed g).2.1) hx
   obtain rfl:g'=g1:=by have:=ga.symm.trans E1.out;simpa using this
   obtain⟨g',gb,h2⟩:=OwnR.elem (f:=(fun x=>[Value.string x])) (m:=1) (fun _=>rfl) (H2.out.keep fun k g=>HB.out.block k (H2.out.typed g).2.1) hy
   obtain rfl:g'=g2:=by have:=gb.symm.trans E2.out;simpa using this
   have C0:=hidI (h1 0 (by omega))
   have D0:=hidI (h2 0 (by omega))
   have HX:=hidI hx
   have HY:=hidI hy
   clear h1 h2 ga gb hx hy
   obtain⟨j1,hj1⟩: ∃j1,j1=j+1:=⟨_,rfl⟩
   have ej:(j:Int)+1=(j1:Int):=by omega
   have HJ:=hidI hj1
   clear hj1
   obtain⟨b,hxy⟩: ∃b,zbdj x y=b:=⟨_,rfl⟩
   have hxz:(x.toList==y.toList)=b:=hxy
   go_wp2
   have k0:=cell_regrown C0.out
   have m0:=cell_regrown D0.out
   simp only[Nat.add_zero,Nat.mul_one] at k0 m0
   refine wp_region_quiet_below (by kernel_rfl) (by kernel_rfl) ?_
   repeat (go_big_quiet_step (fail))
   refine wpQuiet_nil ?_
   intro w2 hw'
   obtain⟨⟨dq,osq⟩,hw''⟩:=hw'
   have HB2:Hid (Below w.heap.size w w2):=by show Below _ _ _;rw[hw''];exact HB.out.trans ((below_regrown wr dq osq).mono HB.out.size)
   clear hw'' k0 m0 C0 D0
   cases b with
   |true=>
    go_wp2
    go_roundg (gk-1)
    case rel=>exact⟨j1,rfl,by have:=HJ.out;omega,by rw[HJ.out];have e:=zmi.1 hxy;exact zfw HT.out HX.out (by rw[e];exact HY.out),HB2.out⟩
    case measure=>omega
   |false=>
    go_wp2
    go_ret
    exact⟨⟨false,rfl,⟨fun k=>(by cases k),fun k=>(by have e:=HX.out;rw[k,HY.out] at e;cases e;rw[zmi.2 rfl] at hxy;cases hxy)⟩⟩,HB2.out⟩
  ·have hlti: ¬(j:Int)<(l1.length:Int):=by omega
   obtain rfl:j=l1.length:=by omega
   go_wp2
   go_ret
   exact⟨⟨true,rfl,⟨fun _=>zgn HL.out HT.out,fun _=>rfl⟩⟩,HB.out⟩
theorem zxt (b1 b2:Nat) (r1 r2:Rw) (l1 l2:List ByteArray) (w:World) (h1:OwnR w b1 9 1 r1 l1.length (l1.flatMap (fun x=>[Value.string x]))) (h2:OwnR w b2 9 1 r2 l2.length (l2.flatMap (fun x=>[Value.string x]))) (hb:l1.length≤4294967296):
  Calls Tryz.prog 144 #[.slice r1.a l1.length r1.cap,.slice r2.a l2.length r2.cap] w fun e w'=>zfx (l1=l2) e∧Below w.heap.size w w':=by
 by_cases hl:l1.length=l2.length
 ·rw[←hl]
  by_cases h0:l1.length=0
  ·rw[h0]
   refine (zvn _ _ _ _ w).mono ?_
   rintro e w' ⟨rfl,hw⟩
   exact⟨⟨true,rfl,⟨fun _=>(by rw[List.eq_nil_of_length_eq_zero h0,List.eq_nil_of_length_eq_zero (hl.symm.trans h0)]),fun _=>rfl⟩⟩,hw⟩
  ·rcases h1.nil_or with ⟨_,_,e⟩|⟨g1,e1⟩
   ·exact absurd e h0
   ·rcases h2.nil_or with ⟨_,_,e⟩|⟨g2,e2⟩
    ·exact absurd (hl.trans e) h0
    ·rw[e1,e2]
     exact zxs b1 b2 g1 g2 r1 r2 l1 l2 w h1 h2 e1 e2 hl hb
 ·refine (zxr _ _ _ _ _ _ w (by omega)).mono ?_
  rintro e w' ⟨rfl,hw⟩
  exact⟨⟨false,rfl,⟨fun k=>(by cases k),fun k=>absurd (by rw[k]) hl⟩⟩,hw⟩
def eqIm (x y:Im):Bool:=x.spec.toList==y.spec.toList&&x.first.toList==y.first.toList&&x.loc.toList==y.loc.toList
theorem zlu {x y:Im}:eqIm x y=true↔x=y:=by
 constructor
 ·intro h
  unfold eqIm at h
  simp only[Bool.and_eq_true] at h
  obtain⟨⟨h0,h1⟩,h2⟩:=h
  cases x
  cases y
  simp only at h0 h1 h2
  congr 1<;>first|(apply zlt;assumption)|(apply eq_of_beq;assumption)
 ·intro h
  rw[h]
  simp[eqIm]
theorem zbab (a1 a2:Option Addr) (n1 n2 c1 c2:Nat) (w:World) (h:(n1:Int)≠(n2:Int)):Calls Tryz.prog 145 #[.slice a1 n1 c1,.slice a2 n2 c2] w fun e w'=>e= .returned (.bool false)∧Below w.heap.size w w':=by
 go_enter Tryz.func145,Tryz.ntmps145
 go_wp2
 go_ret
 exact⟨rfl,Below.refl _ _⟩
theorem zxu (a1 a2:Option Addr) (c1 c2:Nat) (w:World):Calls Tryz.prog 145 #[.slice a1 0 c1,.slice a2 0 c2] w fun e w'=>e= .returned (.bool true)∧Below w.heap.size w w':=by
 go_enter Tryz.func145,Tryz.ntmps145
 go_wp2
 go_loopg [13] 1 (fun k i wr=>k=1∧i= .int .i64 0∧wr=w)
 case atStart=>exact⟨rfl,rfl,rfl⟩
 case round=>
  obtain⟨rfl,rfl,rfl⟩:=hrel
  go_wp2
  go_ret
  exact⟨rfl,Below.refl _ _⟩
theorem zbac (hne: ∀(x y:Im) (W:World),Sem.run Tryz.prog (binOp .neq 119 (.agg #[.string x.spec,.string x.first,.string x.loc]) (.agg #[.string y.spec,.string y.first,.string y.loc])) W= .ok (.bool (!eqIm x y)) W) (hgd: ∀(op:BinOp) (a b:Operand) (x y:Im) (W:World),Sem.run Tryz.prog (eqGuard op 119 a b (.agg #[.string x.spec,.string x.first,.string x.loc]) (.agg #[.string y.spec,.string y.first,.string y.loc])) W= .ok () W) (b1 b2 g1 g2:Nat) (r1 r2:Rw) (l1 l2:List Im) (w:World) (h1:OwnR w b1 119 3 r1 l1.length (l1.flatMap imL)) (h2:OwnR w b2 119 3 r2 l2.length (l2.flatMap imL)) (e1:r1.a=some ⟨g1,0,none⟩) (e2:r2.a=some ⟨g2,0,none⟩) (hl:l1.length=l2.length) (hb:l1.length≤4294967296):
  Calls Tryz.prog 145 #[.slice (some ⟨g1,0,none⟩) l1.length r1.cap,.slice (some ⟨g2,0,none⟩) l1.length r2.cap] w fun e w'=>zfx (l1=l2) e∧Below w.heap.size w w':=by
 have H1:=hidI h1
 have H2:=hidI h2
 have E1:=hidI e1
 have E2:=hidI e2
 have HL:=hidI hl
 clear h1 h2 e1 e2 hl
 go_enter Tryz.func145,Tryz.ntmps145
 go_wp2
 go_loopg [13] l1.length (fun k i wr=>∃j:Nat,i= .int .i64 j∧j+k=l1.length∧l1.take j=l2.take j∧Below w.heap.size w wr)
 case atStart=>exact⟨0,rfl,by omega,rfl,Below.refl _ _⟩
 case round=>
  obtain⟨j,rfl,hj,ht,hb⟩:=hrel
  have HB:=hidI hb
  have HT:=hidI ht
  clear hb ht
  by_cases hlt:j<l1.length
  ·have hlti:(j:Int)<(l1.length:Int):=by omega
   obtain⟨x,hx⟩:=zci hlt
   obtain⟨y,hy⟩:=zci (show j<l2.length by rw[←HL.out];exact hlt)
   obtain⟨g',ga,h1⟩:=OwnR.elem (f:=imL) (m:=3) (fun _=>rfl) (H1.out.keep fun k g=>HB.out.block k (H1.out.typed g).2.1) hx
   obtain rfl:g'=g1:=by have:=ga.symm.trans E1.out;simpa using this
   obtain⟨g',gb,h2⟩:=OwnR.elem (f:=imL) (m:=3) (fun _=>rfl) (H2.out.keep fun k g=>HB.out.block k (H2.out.typed g).2.1) hy
   obtain rfl:g'=g2:=by have:=gb.symm.trans E2.out;simpa using this
   have C0:=hidI (h1 0 (by omega))
   have D0:=hidI (h2 0 (by omega))
   have C1:=hidI (h1 1 (by omega))
   have D1:=hidI (h2 1 (by omega))
   have C2:=hidI (h1 2 (by omega))
   have D2:=hidI (h2 2 (by omega))
   have HX:=hidI hx
   have HY:=hidI hy
   clear h1 h2 ga gb hx hy
   obtain⟨j1,hj1⟩: ∃j1,j1=j+1:=⟨_,rfl⟩
   have ej:(j:Int)+1=(j1:Int):=by omega
   have HJ:=hidI hj1
   clear hj1
   obtain⟨b,hxy⟩: ∃b,eqIm x y=b:=⟨_,rfl⟩
   have hn1: ∀W:World,Sem.run Tryz.prog (binOp .neq 119 (.agg #[.string x.spec,.string x.first,.string x.loc]) (.agg #[.string y.spec,.string y.first,.string y.loc])) W= .ok (.bool !b) W:=fun W=>by rw[hne,hxy]
   have hg1: ∀(op:BinOp) (a b:Operand) (W:World),Sem.run Tryz.prog (eqGuard op 119 a b (.agg #[.string x.spec,.string x.first,.string x.loc]) (.agg #[.string y.spec,.string y.first,.string y.loc])) W= .ok () W:=fun op a b W=>hgd op a b x y W
   go_wp2
   have k0:=cell_regrown C0.out
   have m0:=cell_regrown D0.out
   have k1:=cell_regrown C1.out
   have m1:=cell_regrown D1.out
   have k2:=cell_regrown C2.out
   have m2:=cell_regrown D2.out
   simp only[Nat.add_zero] at k0 m0
   refine wp_region_quiet_below (by kernel_rfl) (by kernel_rfl) ?_
   repeat (go_big_quiet_step (fail))
   refine wpQuiet_nil ?_
   intro w2 hw'
   obtain⟨⟨dq,osq⟩,hw''⟩:=hw'
   have HB2:Hid (Below w.heap.size w w2):=by show Below _ _ _;rw[hw''];exact HB.out.trans ((below_regrown wr dq osq).mono HB.out.size)
   clear hw'' k0 m0 C0 D0 k1 m1 C1 D1 k2 m2 C2 D2
   cases b with
   |true=>
    go_wp2
    go_roundg (gk-1)
    case rel=>exact⟨j1,rfl,by have:=HJ.out;omega,by rw[HJ.out];have e:=zlu.1 hxy;exact zfw HT.out HX.out (by rw[e];exact HY.out),HB2.out⟩
    case measure=>omega
   |false=>
    go_wp2
    go_ret
    exact⟨⟨false,rfl,⟨fun k=>(by cases k),fun k=>(by have e:=HX.out;rw[k,HY.out] at e;cases e;rw[zlu.2 rfl] at hxy;cases hxy)⟩⟩,HB2.out⟩
  ·have hlti: ¬(j:Int)<(l1.length:Int):=by omega
   obtain rfl:j=l1.length:=by omega
   go_wp2
   go_ret
   exact⟨⟨true,rfl,⟨fun _=>zgn HL.out HT.out,fun _=>rfl⟩⟩,HB.out⟩
theorem zbad (hne: ∀(x y:Im) (W:World),Sem.run Tryz.prog (binOp .neq 119 (.agg #[.string x.spec,.string x.first,.string x.loc]) (.agg #[.string y.spec,.string y.first,.string y.loc])) W= .ok (.bool (!eqIm x y)) W) (hgd: ∀(op:BinOp) (a b:Operand) (x y:Im) (W:World),Sem.run Tryz.prog (eqGuard op 119 a b (.agg #[.string x.spec,.string x.first,.string x.loc]) (.agg #[.string y.spec,.string y.first,.string y.loc])) W= .ok () W) (b1 b2:Nat) (r1 r2:Rw) (l1 l2:List Im) (w:World) (h1:OwnR w b1 119 3 r1 l1.length (l1.flatMap imL)) (h2:OwnR w b2 119 3 r2 l2.length (l2.flatMap imL)) (hb:l1.length≤4294967296):
  Calls Tryz.prog 145 #[.slice r1.a l1.length r1.cap,.slice r2.a l2.length r2.cap] w fun e w'=>zfx (l1=l2) e∧Below w.heap.size w w':=by
 by_cases hl:l1.length=l2.length
 ·rw[←hl]
  by_cases h0:l1.length=0
  ·rw[h0]
   refine (zxu _ _ _ _ w).mono ?_
   rintro e w' ⟨rfl,hw⟩
   exact⟨⟨true,rfl,⟨fun _=>(by rw[List.eq_nil_of_length_eq_zero h0,List.eq_nil_of_length_eq_zero (hl.symm.trans h0)]),fun _=>rfl⟩⟩,hw⟩
  ·rcases h1.nil_or with ⟨_,_,e⟩|⟨g1,e1⟩
   ·exact absurd e h0
   ·rcases h2.nil_or with ⟨_,_,e⟩|⟨g2,e2⟩
    ·exact absurd (hl.trans e) h0
    ·rw[e1,e2]
     exact zbac hne hgd b1 b2 g1 g2 r1 r2 l1 l2 w h1 h2 e1 e2 hl hb
 ·refine (zbab _ _ _ _ _ _ w (by omega)).mono ?_
  rintro e w' ⟨rfl,hw⟩
  exact⟨⟨false,rfl,⟨fun k=>(by cases k),fun k=>absurd (by rw[k]) hl⟩⟩,hw⟩
def eqEp (x y:Ep):Bool:=x.kind==y.kind&&x.name.toList==y.name.toList&&x.loc.toList==y.loc.toList&&x.spec.toList==y.spec.toList
theorem zlv {x y:Ep}:eqEp x y=true↔x=y:=by
 constructor
 ·intro h
  unfold eqEp at h
  simp only[Bool.and_eq_true] at h
  obtain⟨⟨⟨h0,h1⟩,h2⟩,h3⟩:=h
  cases x
  cases y
  simp only at h0 h1 h2 h3
  congr 1<;>first|(apply zlt;assumption)|(apply eq_of_beq;assumption)
 ·intro h
  rw[h]
  simp[eqEp]
theorem zbae (a1 a2:Option Addr) (n1 n2 c1 c2:Nat) (w:World) (h:(n1:Int)≠(n2:Int)):Calls Tryz.prog 146 #[.slice a1 n1 c1,.slice a2 n2 c2] w fun e w'=>e= .returned (.bool false)∧Below w.heap.size w w':=by
 go_enter Tryz.func146,Tryz.ntmps146
 go_wp2
 go_ret
 exact⟨rfl,Below.refl _ _⟩
theorem zxv (a1 a2:Option Addr) (c1 c2:Nat) (w:World):Calls Tryz.prog 146 #[.slice a1 0 c1,.slice a2 0 c2] w fun e w'=>e= .returned (.bool true)∧Below w.heap.size w w':=by
 go_enter Tryz.func146,Tryz.ntmps146
 go_wp2
 go_loopg [13] 1 (fun k i wr=>k=1∧i= .int .i64 0∧wr=w)
 case atStart=>exact⟨rfl,rfl,rfl⟩
 case round=>
  obtain⟨rfl,rfl,rfl⟩:=hrel
  go_wp2
  go_ret
  exact⟨rfl,Below.refl _ _⟩
theorem zbaf (hne: ∀(x y:Ep) (W:World),Sem.run Tryz.prog (binOp .neq 121 (.agg #[.int .i64 x.kind,.string x.name,.string x.loc,.string x.spec]) (.agg #[.int .i64 y.kind,.string y.name,.string y.loc,.string y.spec])) W= .ok (.bool (!eqEp x y)) W) (hgd: ∀(op:BinOp) (a b:Operand) (x y:Ep) (W:World),Sem.run Tryz.prog (eqGuard op 121 a b (.agg #[.int .i64 x.kind,.string x.name,.string x.loc,.string x.spec]) (.agg #[.int .i64 y.kind,.string y.name,.string y.loc,.string y.spec])) W= .ok () W) (b1 b2 g1 g2:Nat) (r1 r2:Rw) (l1 l2:List Ep) (w:World) (h1:OwnR w b1 121 4 r1 l1.length (l1.flatMap epL)) (h2:OwnR w b2 121 4 r2 l2.length (l2.flatMap epL)) (e1:r1.a=some ⟨g1,0,none⟩) (e2:r2.a=some ⟨g2,0,none⟩) (hl:l1.length=l2.length) (hb:l1.length≤4294967296):
  Calls Tryz.prog 146 #[.slice (some ⟨g1,0,none⟩) l1.length r1.cap,.slice (some ⟨g2,0,none⟩) l1.length r2.cap] w fun e w'=>zfx (l1=l2) e∧Below w.heap.size w w':=by
 have H1:=hidI h1
 have H2:=hidI h2
 have E1:=hidI e1
 have E2:=hidI e2
 have HL:=hidI hl
 clear h1 h2 e1 e2 hl
 go_enter Tryz.func146,Tryz.ntmps146
 go_wp2
 go_loopg [13] l1.length (fun k i wr=>∃j:Nat,i= .int .i64 j∧j+k=l1.length∧l1.take j=l2.take j∧Below w.heap.size w wr)
 case atStart=>exact⟨0,rfl,by omega,rfl,Below.refl _ _⟩
 case round=>
  obtain⟨j,rfl,hj,ht,hb⟩:=hrel
  have HB:=hidI hb
  have HT:=hidI ht
  clear hb ht
  by_cases hlt:j<l1.length
  ·have hlti:(j:Int)<(l1.length:Int):=by omega
   obtain⟨x,hx⟩:=zci hlt
   obtain⟨y,hy⟩:=zci (show j<l2.length by rw[←HL.out];exact hlt)
   obtain⟨g',ga,h1⟩:=OwnR.elem (f:=epL) (m:=4) (fun _=>rfl) (H1.out.keep fun k g=>HB.out.block k (H1.out.typed g).2.1) hx
   obtain rfl:g'=g1:=by have:=ga.symm.trans E1.out;simpa using this
   obtain⟨g',gb,h2⟩:=OwnR.elem (f:=epL) (m:=4) (fun _=>rfl) (H2.out.keep fun k g=>HB.out.block k (H2.out.typed g).2.1) hy
   obtain rfl:g'=g2:=by have:=gb.symm.trans E2.out;simpa using this
   have C0:=hidI (h1 0 (by omega))
   have D0:=hidI (h2 0 (by omega))
   have C1:=hidI (h1 1 (by omega))
   have D1:=hidI (h2 1 (by omega))
   have C2:=hidI (h1 2 (by omega))
   have D2:=hidI (h2 2 (by omega))
   have C3:=hidI (h1 3 (by omega))
   have D3:=hidI (h2 3 (by omega))
   have HX:=hidI hx
   have HY:=hidI hy
   clear h1 h2 ga gb hx hy
   obtain⟨j1,hj1⟩: ∃j1,j1=j+1:=⟨_,rfl⟩
   have ej:(j:Int)+1=(j1:Int):=by omega
   have HJ:=hidI hj1
   clear hj1
   obtain⟨b,hxy⟩: ∃b,eqEp x y=b:=⟨_,rfl⟩
   have hn1: ∀W:World,Sem.run Tryz.prog (binOp .neq 121 (.agg #[.int .i64 x.kind,.string x.name,.string x.loc,.string x.spec]) (.agg #[.int .i64 y.kind,.string y.name,.string y.loc,.string y.spec])) W= .ok (.bool !b) W:=fun W=>by rw[hne,hxy]
   have hg1: ∀(op:BinOp) (a b:Operand) (W:World),Sem.run Tryz.prog (eqGuard op 121 a b (.agg #[.int .i64 x.kind,.string x.name,.string x.loc,.string x.spec]) (.agg #[.int .i64 y.kind,.string y.name,.string y.loc,.string y.spec])) W= .ok () W:=fun op a b W=>hgd op a b x y W
   go_wp2
   have k0:=cell_regrown C0.out
   have m0:=cell_regrown D0.out
   have k1:=cell_regrown C1.out
   have m1:=cell_regrown D1.out
   have k2:=cell_regrown C2.out
   have m2:=cell_regrown D2.out
   have k3:=cell_regrown C3.out
   have m3:=cell_regrown D3.out
   simp only[Nat.add_zero] at k0 m0
   refine wp_region_quiet_below (by kernel_rfl) (by kernel_rfl) ?_
   repeat (go_big_quiet_step (fail))
   refine wpQuiet_nil ?_
   intro w2 hw'
   obtain⟨⟨dq,osq⟩,hw''⟩:=hw'
   have HB2:Hid (Below w.heap.size w w2):=by show Below _ _ _;rw[hw''];exact HB.out.trans ((below_regrown wr dq osq).mono HB.out.size)
   clear hw'' k0 m0 C0 D0 k1 m1 C1 D1 k2 m2 C2 D2 k3 m3 C3 D3
   cases b with
   |true=>
    go_wp2
    go_roundg (gk-1)
    case rel=>exact⟨j1,rfl,by have:=HJ.out;omega,by rw[HJ.out];have e:=zlv.1 hxy;exact zfw HT.out HX.out (by rw[e];exact HY.out),HB2.out⟩
    case measure=>omega
   |false=>
    go_wp2
    go_ret
    exact⟨⟨false,rfl,⟨fun k=>(by cases k),fun k=>(by have e:=HX.out;rw[k,HY.out] at e;cases e;rw[zlv.2 rfl] at hxy;cases hxy)⟩⟩,HB2.out⟩
  ·have hlti: ¬(j:Int)<(l1.length:Int):=by omega
   obtain rfl:j=l1.length:=by omega
   go_wp2
   go_ret
   exact⟨⟨true,rfl,⟨fun _=>zgn HL.out HT.out,fun _=>rfl⟩⟩,HB.out⟩
theorem zbag (hne: ∀(x y:Ep) (W:World),Sem.run Tryz.prog (binOp .neq 121 (.agg #[.int .i64 x.kind,.string x.name,.string x.loc,.string x.spec]) (.agg #[.int .i64 y.kind,.string y.name,.string y.loc,.string y.spec])) W= .ok (.bool (!eqEp x y)) W) (hgd: ∀(op:BinOp) (a b:Operand) (x y:Ep) (W:World),Sem.run Tryz.prog (eqGuard op 121 a b (.agg #[.int .i64 x.kind,.string x.name,.string x.loc,.string x.spec]) (.agg #[.int .i64 y.kind,.string y.name,.string y.loc,.string y.spec])) W= .ok () W) (b1 b2:Nat) (r1 r2:Rw) (l1 l2:List Ep) (w:World) (h1:OwnR w b1 121 4 r1 l1.length (l1.flatMap epL)) (h2:OwnR w b2 121 4 r2 l2.length (l2.flatMap epL)) (hb:l1.length≤4294967296):
  Calls Tryz.prog 146 #[.slice r1.a l1.length r1.cap,.slice r2.a l2.length r2.cap] w fun e w'=>zfx (l1=l2) e∧Below w.heap.size w w':=by
 by_cases hl:l1.length=l2.length
 ·rw[←hl]
  by_cases h0:l1.length=0
  ·rw[h0]
   refine (zxv _ _ _ _ w).mono ?_
   rintro e w' ⟨rfl,hw⟩
   exact⟨⟨true,rfl,⟨fun _=>(by rw[List.eq_nil_of_length_eq_zero h0,List.eq_nil_of_length_eq_zero (hl.symm.trans h0)]),fun _=>rfl⟩⟩,hw⟩
  ·rcases h1.nil_or with ⟨_,_,e⟩|⟨g1,e1⟩
   ·exact absurd e h0
   ·rcases h2.nil_or with ⟨_,_,e⟩|⟨g2,e2⟩
    ·exact absurd (hl.trans e) h0
    ·rw[e1,e2]
     exact zbaf hne hgd b1 b2 g1 g2 r1 r2 l1 l2 w h1 h2 e1 e2 hl hb
 ·refine (zbae _ _ _ _ _ _ w (by omega)).mono ?_
  rintro e w' ⟨rfl,hw⟩
  exact⟨⟨false,rfl,⟨fun k=>(by cases k),fun k=>absurd (by rw[k]) hl⟩⟩,hw⟩
def eqSm (x y:Sm):Bool:=x.kind==y.kind&&x.name.toList==y.name.toList&&x.expr==y.expr
theorem zlw {x y:Sm}:eqSm x y=true↔x=y:=by
 constructor
 ·intro h
  unfold eqSm at h
  simp only[Bool.and_eq_true] at h
  obtain⟨⟨h0,h1⟩,h2⟩:=h
  cases x
  cases y
  simp only at h0 h1 h2
  congr 1<;>first|(apply zlt;assumption)|(apply eq_of_beq;assumption)
 ·intro h
  rw[h]
  simp[eqSm]
theorem zbah (a1 a2:Option Addr) (n1 n2 c1 c2:Nat) (w:World) (h:(n1:Int)≠(n2:Int)):Calls Tryz.prog 147 #[.slice a1 n1 c1,.slice a2 n2 c2] w fun e w'=>e= .returned (.bool false)∧Below w.heap.size w w':=by
 go_enter Tryz.func147,Tryz.ntmps147
 go_wp2
 go_ret
 exact⟨rfl,Below.refl _ _⟩
theorem zxw (a1 a2:Option Addr) (c1 c2:Nat) (w:World):Calls Tryz.prog 147 #[.slice a1 0 c1,.slice a2 0 c2] w fun e w'=>e= .returned (.bool true)∧Below w.heap.size w w':=by
 go_enter Tryz.func147,Tryz.ntmps147
 go_wp2
 go_loopg [13] 1 (fun k i wr=>k=1∧i= .int .i64 0∧wr=w)
 case atStart=>exact⟨rfl,rfl,rfl⟩
 case round=>
  obtain⟨rfl,rfl,rfl⟩:=hrel
  go_wp2
  go_ret
  exact⟨rfl,Below.refl _ _⟩
theorem zbai (hne: ∀(x y:Sm) (W:World),Sem.run Tryz.prog (binOp .neq 123 (.agg #[.int .i64 x.kind,.string x.name,.int .i64 x.expr]) (.agg #[.int .i64 y.kind,.string y.name,.int .i64 y.expr])) W= .ok (.bool (!eqSm x y)) W) (hgd: ∀(op:BinOp) (a b:Operand) (x y:Sm) (W:World),Sem.run Tryz.prog (eqGuard op 123 a b (.agg #[.int .i64 x.kind,.string x.name,.int .i64 x.expr]) (.agg #[.int .i64 y.kind,.string y.name,.int .i64 y.expr])) W= .ok () W) (b1 b2 g1 g2:Nat) (r1 r2:Rw) (l1 l2:List Sm) (w:World) (h1:OwnR w b1 123 3 r1 l1.length (l1.flatMap smL)) (h2:OwnR w b2 123 3 r2 l2.length (l2.flatMap smL)) (e1:r1.a=some ⟨g1,0,none⟩) (e2:r2.a=some ⟨g2,0,none⟩) (hl:l1.length=l2.length) (hb:l1.length≤4294967296):
  Calls Tryz.prog 147 #[.slice (some ⟨g1,0,none⟩) l1.length r1.cap,.slice (some ⟨g2,0,none⟩) l1.length r2.cap] w fun e w'=>zfx (l1=l2) e∧Below w.heap.size w w':=by
 have H1:=hidI h1
 have H2:=hidI h2
 have E1:=hidI e1
 have E2:=hidI e2
 have HL:=hidI hl
 clear h1 h2 e1 e2 hl
 go_enter Tryz.func147,Tryz.ntmps147
 go_wp2
 go_loopg [13] l1.length (fun k i wr=>∃j:Nat,i= .int .i64 j∧j+k=l1.length∧l1.take j=l2.take j∧Below w.heap.size w wr)
 case atStart=>exact⟨0,rfl,by omega,rfl,Below.refl _ _⟩
 case round=>
  obtain⟨j,rfl,hj,ht,hb⟩:=hrel
  have HB:=hidI hb
  have HT:=hidI ht
  clear hb ht
  by_cases hlt:j<l1.length
  ·have hlti:(j:Int)<(l1.length:Int):=by omega
   obtain⟨x,hx⟩:=zci hlt
   obtain⟨y,hy⟩:=zci (show j<l2.length by rw[←HL.out];exact hlt)
   obtain⟨g',ga,h1⟩:=OwnR.elem (f:=smL) (m:=3) (fun _=>rfl) (H1.out.keep fun k g=>HB.out.block k (H1.out.typed g).2.1) hx
   obtain rfl:g'=g1:=by have:=ga.symm.trans E1.out;simpa using this
   obtain⟨g',gb,h2⟩:=OwnR.elem (f:=smL) (m:=3) (fun _=>rfl) (H2.out.keep fun k g=>HB.out.block k (H2.out.typed g).2.1) hy
   obtain rfl:g'=g2:=by have:=gb.symm.trans E2.out;simpa using this
   have C0:=hidI (h1 0 (by omega))
   have D0:=hidI (h2 0 (by omega))
   have C1:=hidI (h1 1 (by omega))
   have D1:=hidI (h2 1 (by omega))
   have C2:=hidI (h1 2 (by omega))
   have D2:=hidI (h2 2 (by omega))
   have HX:=hidI hx
   have HY:=hidI hy
   clear h1 h2 ga gb hx hy
   obtain⟨j1,hj1⟩: ∃j1,j1=j+1:=⟨_,rfl⟩
   have ej:(j:Int)+1=(j1:Int):=by omega
   have HJ:=hidI hj1
   clear hj1
   obtain⟨b,hxy⟩: ∃b,eqSm x y=b:=⟨_,rfl⟩
   have hn1: ∀W:World,Sem.run Tryz.prog (binOp .neq 123 (.agg #[.int .i64 x.kind,.string x.name,.int .i64 x.expr]) (.agg #[.int .i64 y.kind,.string y.name,.int .i64 y.expr])) W= .ok (.bool !b) W:=fun W=>by rw[hne,hxy]
   have hg1: ∀(op:BinOp) (a b:Operand) (W:World),Sem.run Tryz.prog (eqGuard op 123 a b (.agg #[.int .i64 x.kind,.string x.name,.int .i64 x.expr]) (.agg #[.int .i64 y.kind,.string y.name,.int .i64 y.expr])) W= .ok () W:=fun op a b W=>hgd op a b x y W
   go_wp2
   have k0:=cell_regrown C0.out
   have m0:=cell_regrown D0.out
   have k1:=cell_regrown C1.out
   have m1:=cell_regrown D1.out
   have k2:=cell_regrown C2.out
   have m2:=cell_regrown D2.out
   simp only[Nat.add_zero] at k0 m0
   refine wp_region_quiet_below (by kernel_rfl) (by kernel_rfl) ?_
   repeat (go_big_quiet_step (fail))
   refine wpQuiet_nil ?_
   intro w2 hw'
   obtain⟨⟨dq,osq⟩,hw''⟩:=hw'
   have HB2:Hid (Below w.heap.size w w2):=by show Below _ _ _;rw[hw''];exact HB.out.trans ((below_regrown wr dq osq).mono HB.out.size)
   clear hw'' k0 m0 C0 D0 k1 m1 C1 D1 k2 m2 C2 D2
   cases b with
   |true=>
    go_wp2
    go_roundg (gk-1)
    case rel=>exact⟨j1,rfl,by have:=HJ.out;omega,by rw[HJ.out];have e:=zlw.1 hxy;exact zfw HT.out HX.out (by rw[e];exact HY.out),HB2.out⟩
    case measure=>omega
   |false=>
    go_wp2
    go_ret
    exact⟨⟨false,rfl,⟨fun k=>(by cases k),fun k=>(by have e:=HX.out;rw[k,HY.out] at e;cases e;rw[zlw.2 rfl] at hxy;cases hxy)⟩⟩,HB2.out⟩
  ·have hlti: ¬(j:Int)<(l1.length:Int):=by omega
   obtain rfl:j=l1.length:=by omega
   go_wp2
   go_ret
   exact⟨⟨true,rfl,⟨fun _=>zgn HL.out HT.out,fun _=>rfl⟩⟩,HB.out⟩
theorem zbaj (hne: ∀(x y:Sm) (W:World),Sem.run Tryz.prog (binOp .neq 123 (.agg #[.int .i64 x.kind,.string x.name,.int .i64 x.expr]) (.agg #[.int .i64 y.kind,.string y.name,.int .i64 y.expr])) W= .ok (.bool (!eqSm x y)) W) (hgd: ∀(op:BinOp) (a b:Operand) (x y:Sm) (W:World),Sem.run Tryz.prog (eqGuard op 123 a b (.agg #[.int .i64 x.kind,.string x.name,.int .i64 x.expr]) (.agg #[.int .i64 y.kind,.string y.name,.int .i64 y.expr])) W= .ok () W) (b1 b2:Nat) (r1 r2:Rw) (l1 l2:List Sm) (w:World) (h1:OwnR w b1 123 3 r1 l1.length (l1.flatMap smL)) (h2:OwnR w b2 123 3 r2 l2.length (l2.flatMap smL)) (hb:l1.length≤4294967296):
  Calls Tryz.prog 147 #[.slice r1.a l1.length r1.cap,.slice r2.a l2.length r2.cap] w fun e w'=>zfx (l1=l2) e∧Below w.heap.size w w':=by
 by_cases hl:l1.length=l2.length
 ·rw[←hl]
  by_cases h0:l1.length=0
  ·rw[h0]
   refine (zxw _ _ _ _ w).mono ?_
   rintro e w' ⟨rfl,hw⟩
   exact⟨⟨true,rfl,⟨fun _=>(by rw[List.eq_nil_of_length_eq_zero h0,List.eq_nil_of_length_eq_zero (hl.symm.trans h0)]),fun _=>rfl⟩⟩,hw⟩
  ·rcases h1.nil_or with ⟨_,_,e⟩|⟨g1,e1⟩
   ·exact absurd e h0
   ·rcases h2.nil_or with ⟨_,_,e⟩|⟨g2,e2⟩
    ·exact absurd (hl.trans e) h0
    ·rw[e1,e2]
     exact zbai hne hgd b1 b2 g1 g2 r1 r2 l1 l2 w h1 h2 e1 e2 hl hb
 ·refine (zbah _ _ _ _ _ _ w (by omega)).mono ?_
  rintro e w' ⟨rfl,hw⟩
  exact⟨⟨false,rfl,⟨fun k=>(by cases k),fun k=>absurd (by rw[k]) hl⟩⟩,hw⟩
def eqEx (x y:Ex):Bool:=x.kind==y.kind&&x.num==y.num&&x.name.toList==y.name.toList&&x.field.toList==y.field.toList&&x.l==y.l&&x.r==y.r
theorem zlx {x y:Ex}:eqEx x y=true↔x=y:=by
 constructor
 ·intro h
  unfold eqEx at h
  simp only[Bool.and_eq_true] at h
  obtain⟨⟨⟨⟨⟨h0,h1⟩,h2⟩,h3⟩,h4⟩,h5⟩:=h
  cases x
  cases y
  simp only at h0 h1 h2 h3 h4 h5
  congr 1<;>first|(apply zlt;assumption)|(apply eq_of_beq;assumption)
 ·intro h
  rw[h]
  simp[eqEx]
theorem zbak (a1 a2:Option Addr) (n1 n2 c1 c2:Nat) (w:World) (h:(n1:Int)≠(n2:Int)):Calls Tryz.prog 148 #[.slice a1 n1 c1,.slice a2 n2 c2] w fun e w'=>e= .returned (.bool false)∧Below w.heap.size w w':=by
 go_enter Tryz.func148,Tryz.ntmps148
 go_wp2
 go_ret
 exact⟨rfl,Below.refl _ _⟩
theorem zxx (a1 a2:Option Addr) (c1 c2:Nat) (w:World):Calls Tryz.prog 148 #[.slice a1 0 c1,.slice a2 0 c2] w fun e w'=>e= .returned (.bool true)∧Below w.heap.size w w':=by
 go_enter Tryz.func148,Tryz.ntmps148
 go_wp2
 go_loopg [13] 1 (fun k i wr=>k=1∧i= .int .i64 0∧wr=w)
 case atStart=>exact⟨rfl,rfl,rfl⟩
 case round=>
  obtain⟨rfl,rfl,rfl⟩:=hrel
  go_wp2
  go_ret
  exact⟨rfl,Below.refl _ _⟩
theorem zbal (hne: ∀(x y:Ex) (W:World),Sem.run Tryz.prog (binOp .neq 125 (.agg #[.int .i64 x.kind,.int .i64 x.num,.string x.name,.string x.field,.int .i64 x.l,.int .i64 x.r]) (.agg #[.int .i64 y.kind,.int .i64 y.num,.string y.name,.string y.field,.int .i64 y.l,.int .i64 y.r])) W= .ok (.bool (!eqEx x y)) W) (hgd: ∀(op:BinOp) (a b:Operand) (x y:Ex) (W:World),Sem.run Tryz.prog (eqGuard op 125 a b (.agg #[.int .i64 x.kind,.int .i64 x.num,.string x.name,.string x.field,.int .i64 x.l,.int .i64 x.r]) (.agg #[.int .i64 y.kind,.int .i64 y.num,.string y.name,.string y.field,.int .i64 y.l,.int .i64 y.r])) W= .ok () W) (b1 b2 g1 g2:Nat) (r1 r2:Rw) (l1 l2:List Ex) (w:World) (h1:OwnR w b1 125 6 r1 l1.length (l1.flatMap exL)) (h2:OwnR w b2 125 6 r2 l2.length (l2.flatMap exL)) (e1:r1.a=some ⟨g1,0,none⟩) (e2:r2.a=some ⟨g2,0,none⟩) (hl:l1.length=l2.length) (hb:l1.length≤4294967296):
  Calls Tryz.prog 148 #[.slice (some ⟨g1,0,none⟩) l1.length r1.cap,.slice (some ⟨g2,0,none⟩) l1.length r2.cap] w fun e w'=>zfx (l1=l2) e∧Below w.heap.size w w':=by
 have H1:=hidI h1
 have H2:=hidI h2
 have E1:=hidI e1
 have E2:=hidI e2
 have HL:=hidI hl
 clear h1 h2 e1 e2 hl
 go_enter Tryz.func148,Tryz.ntmps148
 go_wp2
 go_loopg [13] l1.length (fun k i wr=>∃j:Nat,i= .int .i64 j∧j+k=l1.length∧l1.take j=l2.take j∧Below w.heap.size w wr)
 case atStart=>exact⟨0,rfl,by omega,rfl,Below.refl _ _⟩
 case round=>
  obtain⟨j,rfl,hj,ht,hb⟩:=hrel
  have HB:=hidI hb
  have HT:=hidI ht
  clear hb ht
  by_cases hlt:j<l1.length
  ·have hlti:(j:Int)<(l1.length:Int):=by omega
   obtain⟨x,hx⟩:=zci hlt
   obtain⟨y,hy⟩:=zci (show j<l2.length by rw[←HL.out];exact hlt)
   obtain⟨g',ga,h1⟩:=OwnR.elem (f:=exL) (m:=6) (fun _=>rfl) (H1.out.keep fun k g=>HB.out.block k (H1.out.typed g).2.1) hx
   obtain rfl:g'=g1:=by have:=ga.symm.trans E1.out;simpa using this
   obtain⟨g',gb,h2⟩:=OwnR.elem (f:=exL) (m:=6) (fun _=>rfl) (H2.out.keep fun k g=>HB.out.block k (H2.out.typed g).2.1) hy
   obtain rfl:g'=g2:=by have:=gb.symm.trans E2.out;simpa using this
   have C0:=hidI (h1 0 (by omega))
   have D0:=hidI (h2 0 (by omega))
   have C1:=hidI (h1 1 (by omega))
   have D1:=hidI (h2 1 (by omega))
   have C2:=hidI (h1 2 (by omega))
   have D2:=hidI (h2 2 (by omega))
   have C3:=hidI (h1 3 (by omega))
   have D3:=hidI (h2 3 (by omega))
   have C4:=hidI (h1 4 (by omega))
   have D4:=hidI (h2 4 (by omega))
   have C5:=hidI (h1 5 (by omega))
   have D5:=hidI (h2 5 (by omega))
   have HX:=hidI hx
   have HY:=hidI hy
   clear h1 h2 ga gb hx hy
   obtain⟨j1,hj1⟩: ∃j1,j1=j+1:=⟨_,rfl⟩
   have ej:(j:Int)+1=(j1:Int):=by omega
   have HJ:=hidI hj1
   clear hj1
   obtain⟨b,hxy⟩: ∃b,eqEx x y=b:=⟨_,rfl⟩
   have hn1: ∀W:World,Sem.run Tryz.prog (binOp .neq 125 (.agg #[.int .i64 x.kind,.int .i64 x.num,.string x.name,.string x.field,.int .i64 x.l,.int .i64 x.r]) (.agg #[.int .i64 y.kind,.int .i64 y.num,.string y.name,.string y.field,.int .i64 y.l,.int .i64 y.r])) W= .ok (.bool !b) W:=fun W=>by rw[hne,hxy]
   have hg1: ∀(op:BinOp) (a b:Operand) (W:World),Sem.run Tryz.prog (eqGuard op 125 a b (.agg #[.int .i64 x.kind,.int .i64 x.num,.string x.name,.string x.field,.int .i64 x.l,.int .i64 x.r]) (.agg #[.int .i64 y.kind,.int .i64 y.num,.string y.name,.string y.field,.int .i64 y.l,.int .i64 y.r])) W= .ok () W:=fun op a b W=>hgd op a b x y W
   go_wp2
   have k0:=cell_regrown C0.out
   have m0:=cell_regrown D0.out
   have k1:=cell_regrown C1.out
   have m1:=cell_regrown D1.out
   have k2:=cell_regrown C2.out
   have m2:=cell_regrown D2.out
   have k3:=cell_regrown C3.out
   have m3:=cell_regrown D3.out
   have k4:=cell_regrown C4.out
   have m4:=cell_regrown D4.out
   have k5:=cell_regrown C5.out
   have m5:=cell_regrown D5.out
   simp only[Nat.add_zero] at k0 m0
   refine wp_region_quiet_below (by kernel_rfl) (by kernel_rfl) ?_
   repeat (go_big_quiet_step (fail))
   refine wpQuiet_nil ?_
   intro w2 hw'
   obtain⟨⟨dq,osq⟩,hw''⟩:=hw'
   have HB2:Hid (Below w.heap.size w w2):=by show Below _ _ _;rw[hw''];exact HB.out.trans ((below_regrown wr dq osq).mono HB.out.size)
   clear hw'' k0 m0 C0 D0 k1 m1 C1 D1 k2 m2 C2 D2 k3 m3 C3 D3 k4 m4 C4 D4 k5 m5 C5 D5
   cases b with
   |true=>
    go_wp2
    go_roundg (gk-1)
    case rel=>exact⟨j1,rfl,by have:=HJ.out;omega,by rw[HJ.out];have e:=zlx.1 hxy;exact zfw HT.out HX.out (by rw[e];exact HY.out),HB2.out⟩
    case measure=>omega
   |false=>
    go_wp2
    go_ret
    exact⟨⟨false,rfl,⟨fun k=>(by cases k),fun k=>(by have e:=HX.out;rw[k,HY.out] at e;cases e;rw[zlx.2 rfl] at hxy;cases hxy)⟩⟩,HB2.out⟩
  ·have hlti: ¬(j:Int)<(l1.length:Int):=by omega
   obtain rfl:j=l1.length:=by omega
   go_wp2
   go_ret
   exact⟨⟨true,rfl,⟨fun _=>zgn HL.out HT.out,fun _=>rfl⟩⟩,HB.out⟩
theorem zbam (hne: ∀(x y:Ex) (W:World),Sem.run Tryz.prog (binOp .neq 125 (.agg #[.int .i64 x.kind,.int .i64 x.num,.string x.name,.string x.field,.int .i64 x.l,.int .i64 x.r]) (.agg #[.int .i64 y.kind,.int .i64 y.num,.string y.name,.string y.field,.int .i64 y.l,.int .i64 y.r])) W= .ok (.bool (!eqEx x y)) W) (hgd: ∀(op:BinOp) (a b:Operand) (x y:Ex) (W:World),Sem.run Tryz.prog (eqGuard op 125 a b (.agg #[.int .i64 x.kind,.int .i64 x.num,.string x.name,.string x.field,.int .i64 x.l,.int .i64 x.r]) (.agg #[.int .i64 y.kind,.int .i64 y.num,.string y.name,.string y.field,.int .i64 y.l,.int .i64 y.r])) W= .ok () W) (b1 b2:Nat) (r1 r2:Rw) (l1 l2:List Ex) (w:World) (h1:OwnR w b1 125 6 r1 l1.length (l1.flatMap exL)) (h2:OwnR w b2 125 6 r2 l2.length (l2.flatMap exL)) (hb:l1.length≤4294967296):
  Calls Tryz.prog 148 #[.slice r1.a l1.length r1.cap,.slice r2.a l2.length r2.cap] w fun e w'=>zfx (l1=l2) e∧Below w.heap.size w w':=by
 by_cases hl:l1.length=l2.length
 ·rw[←hl]
  by_cases h0:l1.length=0
  ·rw[h0]
   refine (zxx _ _ _ _ w).mono ?_
   rintro e w' ⟨rfl,hw⟩
   exact⟨⟨true,rfl,⟨fun _=>(by rw[List.eq_nil_of_length_eq_zero h0,List.eq_nil_of_length_eq_zero (hl.symm.trans h0)]),fun _=>rfl⟩⟩,hw⟩
  ·rcases h1.nil_or with ⟨_,_,e⟩|⟨g1,e1⟩
   ·exact absurd e h0
   ·rcases h2.nil_or with ⟨_,_,e⟩|⟨g2,e2⟩
    ·exact absurd (hl.trans e) h0
    ·rw[e1,e2]
     exact zbal hne hgd b1 b2 g1 g2 r1 r2 l1 l2 w h1 h2 e1 e2 hl hb
 ·refine (zbak _ _ _ _ _ _ w (by omega)).mono ?_
  rintro e w' ⟨rfl,hw⟩
  exact⟨⟨false,rfl,⟨fun k=>(by cases k),fun k=>absurd (by rw[k]) hl⟩⟩,hw⟩
theorem zka (l:List ByteArray):l.map Value.string=l.flatMap (fun x=>[Value.string x]):=by
 induction l with
 |nil=>rfl
 |cons x l ih=>rw[List.map_cons,List.flatMap_cons,ih];rfl
/-- Two programs side by side, each in its box. -/
def TwoM (w0:World) (b1 b2:Nat) (S1 S2:Sv) (m1 m2:Md) (w:World):Prop:=
 w.heap[w0.heap.size]? =some (.cells #[.slice S1.rq.a m1.rq.length S1.rq.cap,.slice S1.im.a m1.im.length S1.im.cap,.slice S1.ep.a m1.ep.length S1.ep.cap,.slice S1.st.a m1.st.length S1.st.cap,.slice S1.ex.a m1.ex.length S1.ex.cap] 54 (0,0))∧w.heap[w0.heap.size+1]? =some (.cells #[.slice S2.rq.a m2.rq.length S2.rq.cap,.slice S2.im.a m2.im.length S2.im.cap,.slice S2.ep.a m2.ep.length S2.ep.cap,.slice S2.st.a m2.st.length S2.st.cap,.slice S2.ex.a m2.ex.length S2.ex.cap] 54 (0,0))∧OwnMd w b1 S1 m1∧OwnMd w b2 S2 m2∧Below w0.heap.size w0 w
theorem TwoM.later {w0 w w':World} {b1 b2:Nat} {S1 S2:Sv} {m1 m2:Md} (h:TwoM w0 b1 b2 S1 S2 m1 m2 w) (hb:Below w.heap.size w w'):TwoM w0 b1 b2 S1 S2 m1 m2 w':=
 ⟨(hb.block _ (Array.getElem?_eq_some_iff.1 h.1).1).trans h.1,(hb.block _ (Array.getElem?_eq_some_iff.1 h.2.1).1).trans h.2.1,h.2.2.1.later hb,h.2.2.2.1.later hb,h.2.2.2.2.trans (hb.mono h.2.2.2.2.size)⟩
theorem zpe (w:World) (b1 b2:Nat) (S1 S2:Sv) (m1 m2:Md) (h1:OwnMd w b1 S1 m1) (h2:OwnMd w b2 S2 m2):TwoM w b1 b2 S1 S2 m1 m2 ((w.alloc (.cells #[.slice S1.rq.a m1.rq.length S1.rq.cap,.slice S1.im.a m1.im.length S1.im.cap,.slice S1.ep.a m1.ep.length S1.ep.cap,.slice S1.st.a m1.st.length S1.st.cap,.slice S1.ex.a m1.ex.length S1.ex.cap] 54)).alloc (.cells #[.slice S2.rq.a m2.rq.length S2.rq.cap,.slice S2.im.a m2.im.length S2.im.cap,.slice S2.ep.a m2.ep.length S2.ep.cap,.slice S2.st.a m2.st.length S2.st.cap,.slice S2.ex.a m2.ex.length S2.ex.cap] 54)):=by
 have a1:Below w.heap.size w (w.alloc (.cells #[.slice S1.rq.a m1.rq.length S1.rq.cap,.slice S1.im.a m1.im.length S1.im.cap,.slice S1.ep.a m1.ep.length S1.ep.cap,.slice S1.st.a m1.st.length S1.st.cap,.slice S1.ex.a m1.ex.length S1.ex.cap] 54)):=(Below.refl _ _).alloc (Nat.le_refl _) _
 have a2:Below (w.alloc (.cells #[.slice S1.rq.a m1.rq.length S1.rq.cap,.slice S1.im.a m1.im.length S1.im.cap,.slice S1.ep.a m1.ep.length S1.ep.cap,.slice S1.st.a m1.st.length S1.st.cap,.slice S1.ex.a m1.ex.length S1.ex.cap] 54)).heap.size (w.alloc (.cells #[.slice S1.rq.a m1.rq.length S1.rq.cap,.slice S1.im.a m1.im.length S1.im.cap,.slice S1.ep.a m1.ep.length S1.ep.cap,.slice S1.st.a m1.st.length S1.st.cap,.slice S1.ex.a m1.ex.length S1.ex.cap] 54)) ((w.alloc (.cells #[.slice S1.rq.a m1.rq.length S1.rq.cap,.slice S1.im.a m1.im.length S1.im.cap,.slice S1.ep.a m1.ep.length S1.ep.cap,.slice S1.st.a m1.st.length S1.st.cap,.slice S1.ex.a m1.ex.length S1.ex.cap] 54)).alloc (.cells #[.slice S2.rq.a m2.rq.length S2.rq.cap,.slice S2.im.a m2.im.length S2.im.cap,.slice S2.ep.a m2.ep.length S2.ep.cap,.slice S2.st.a m2.st.length S2.st.cap,.slice S2.ex.a m2.ex.length S2.ex.cap] 54)):=(Below.refl _ _).alloc (Nat.le_refl _) _
 refine⟨(a2.block _ (by rw[ze];omega)).trans (heap_alloc_new w _),?_,(h1.later a1).later a2,(h2.later a1).later a2,a1.trans (a2.mono (by rw[ze];omega))⟩
 have:=heap_alloc_new (w.alloc (.cells #[.slice S1.rq.a m1.rq.length S1.rq.cap,.slice S1.im.a m1.im.length S1.im.cap,.slice S1.ep.a m1.ep.length S1.ep.cap,.slice S1.st.a m1.st.length S1.st.cap,.slice S1.ex.a m1.ex.length S1.ex.cap] 54)) (.cells #[.slice S2.rq.a m2.rq.length S2.rq.cap,.slice S2.im.a m2.im.length S2.im.cap,.slice S2.ep.a m2.ep.length S2.ep.cap,.slice S2.st.a m2.st.length S2.st.cap,.slice S2.ex.a m2.ex.length S2.ex.cap] 54)
 rw[ze] at this
 exact this
def zpw (m:Md):Prop:=m.rq.length≤4294967296∧m.im.length≤4294967296∧m.ep.length≤4294967296∧m.st.length≤4294967296∧m.ex.length≤4294967296
theorem zbkj {a b:Md} (h1:a.rq=b.rq) (h2:a.im=b.im) (h3:a.ep=b.ep) (h4:a.st=b.st) (h5:a.ex=b.ex):a=b:=by
 cases a
 cases b
 simp only at h1 h2 h3 h4 h5
 rw[h1,h2,h3,h4,h5]
theorem ztk (a1 a2:Option Addr) (c1 c2:Nat) (w:World):Calls Tryz.prog 71 #[.slice a1 0 c1,.slice a2 0 c2] w fun e w'=>e= .returned (.bool true)∧Below w.heap.size w w':=by
 go_enter Tryz.func71,Tryz.ntmps71
 go_wp2
 go_loopg [5] 1 (fun k i wr=>k=1∧i= .int .i64 0∧wr=w)
 case atStart=>exact⟨rfl,rfl,rfl⟩
 case round=>
  obtain⟨rfl,rfl,rfl⟩:=hrel
  go_wp2
  go_ret
  exact⟨rfl,Below.refl _ _⟩
theorem zvo (b1 b2 g1 g2:Nat) (r1 r2:Rw) (l:List ByteArray) (w:World) (h1:OwnR w b1 9 1 r1 l.length (l.flatMap (fun x=>[Value.string x]))) (h2:OwnR w b2 9 1 r2 l.length (l.flatMap (fun x=>[Value.string x]))) (e1:r1.a=some ⟨g1,0,none⟩) (e2:r2.a=some ⟨g2,0,none⟩) (hl:l.length≤4294967296):
  Calls Tryz.prog 71 #[.slice (some ⟨g1,0,none⟩) l.length r1.cap,.slice (some ⟨g2,0,none⟩) l.length r2.cap] w fun e w'=>e= .returned (.bool true)∧Below w.heap.size w w':=by
 have H1:=hidI h1
 have H2:=hidI h2
 have E1:=hidI e1
 have E2:=hidI e2
 clear h1 h2 e1 e2
 go_enter Tryz.func71,Tryz.ntmps71
 go_wp2
 go_loopg [5] l.length (fun k i wr=>∃j:Nat,i= .int .i64 j∧j+k=l.length∧Below w.heap.size w wr)
 case atStart=>exact⟨0,rfl,by omega,Below.refl _ _⟩
 case round=>
  obtain⟨j,rfl,hj,hb⟩:=hrel
  have HB:=hidI hb
  clear hb
  by_cases hlt:j<l.length
  ·have hlti:(j:Int)<(l.length:Int):=by omega
   obtain⟨x,hx⟩:=zci hlt
   obtain⟨g',ga,h1⟩:=OwnR.elem (f:=(fun x=>[Value.string x])) (m:=1) (fun _=>rfl) (H1.out.keep fun k g=>HB.out.block k (H1.out.typed g).2.1) hx
   obtain rfl:g'=g1:=by have:=ga.symm.trans E1.out;simpa using this
   obtain⟨g',gb,h2⟩:=OwnR.elem (f:=(fun x=>[Value.string x])) (m:=1) (fun _=>rfl) (H2.out.keep fun k g=>HB.out.block k (H2.out.typed g).2.1) hx
   obtain rfl:g'=g2:=by have:=gb.symm.trans E2.out;simpa using this
   have C0:=hidI (h1 0 (by omega))
   have D0:=hidI (h2 0 (by omega))
   clear h1 h2 ga gb hx
   obtain⟨j1,hj1⟩: ∃j1,j1=j+1:=⟨_,rfl⟩
   have ej:(j:Int)+1=(j1:Int):=by omega
   have HJ:=hidI hj1
   clear hj1
   go_wp2
   have k0:=cell_regrown C0.out
   have l0:=cell_regrown D0.out
   simp only[Nat.add_zero,Nat.mul_one] at k0 l0
   refine wp_region_quiet_below (by kernel_rfl) (by kernel_rfl) ?_
   repeat (go_big_quiet_step (fail))
   refine wpQuiet_nil ?_
   intro w2 hw'
   obtain⟨⟨dq,osq⟩,hw''⟩:=hw'
   have HB2:Hid (Below w.heap.size w w2):=by show Below _ _ _;rw[hw''];exact HB.out.trans ((below_regrown wr dq osq).mono HB.out.size)
   clear hw'' k0 l0 C0 D0
   go_wp2
   go_roundg (gk-1)
   case rel=>exact⟨j1,rfl,by have:=HJ.out;omega,HB2.out⟩
   case measure=>omega
  ·have hlti: ¬(j:Int)<(l.length:Int):=by omega
   go_wp2
   go_ret
   exact⟨rfl,HB.out⟩
theorem zvp (b1 b2:Nat) (r1 r2:Rw) (l:List ByteArray) (w:World) (h1:OwnR w b1 9 1 r1 l.length (l.flatMap (fun x=>[Value.string x]))) (h2:OwnR w b2 9 1 r2 l.length (l.flatMap (fun x=>[Value.string x]))) (hl:l.length≤4294967296):
  Calls Tryz.prog 71 #[.slice r1.a l.length r1.cap,.slice r2.a l.length r2.cap] w fun e w'=>e= .returned (.bool true)∧Below w.heap.size w w':=by
 by_cases h0:l.length=0
 ·rw[h0]
  exact ztk _ _ _ _ w
 ·rcases h1.nil_or with ⟨_,_,e⟩|⟨g1,e1⟩
  ·exact absurd e h0
  ·rcases h2.nil_or with ⟨_,_,e⟩|⟨g2,e2⟩
   ·exact absurd e h0
   ·rw[e1,e2]
    exact zvo b1 b2 g1 g2 r1 r2 l w h1 h2 e1 e2 hl
theorem zxy (hneIm: ∀(x y:Im) (W:World),Sem.run Tryz.prog (binOp .neq 119 (.agg #[.string x.spec,.string x.first,.string x.loc]) (.agg #[.string y.spec,.string y.first,.string y.loc])) W= .ok (.bool (!eqIm x y)) W) (hgdIm: ∀(op:BinOp) (a b:Operand) (x y:Im) (W:World),Sem.run Tryz.prog (eqGuard op 119 a b (.agg #[.string x.spec,.string x.first,.string x.loc]) (.agg #[.string y.spec,.string y.first,.string y.loc])) W= .ok () W) (hneEp: ∀(x y:Ep) (W:World),Sem.run Tryz.prog (binOp .neq 121 (.agg #[.int .i64 x.kind,.string x.name,.string x.loc,.string x.spec]) (.agg #[.int .i64 y.kind,.string y.name,.string y.loc,.string y.spec])) W= .ok (.bool (!eqEp x y)) W) (hgdEp: ∀(op:BinOp) (a b:Operand) (x y:Ep) (W:World),Sem.run Tryz.prog (eqGuard op 121 a b (.agg #[.int .i64 x.kind,.string x.name,.string x.loc,.string x.spec]) (.agg #[.int .i64 y.kind,.string y.name,.string y.loc,.string y.spec])) W= .ok () W) (hneSm: ∀(x y:Sm) (W:World),Sem.run Tryz.prog (binOp .neq 123 (.agg #[.int .i64 x.kind,.string x.name,.int .i64 x.expr]) (.agg #[.int .i64 y.kind,.string y.name,.int .i64 y.expr])) W= .ok (.bool (!eqSm x y)) W) (hgdSm: ∀(op:BinOp) (a b:Operand) (x y:Sm) (W:World),Sem.run Tryz.prog (eqGuard op 123 a b (.agg #[.int .i64 x.kind,.string x.name,.int .i64 x.expr]) (.agg #[.int .i64 y.kind,.string y.name,.int .i64 y.expr])) W= .ok () W) (hneEx: ∀(x y:Ex) (W:World),Sem.run Tryz.prog (binOp .neq 125 (.agg #[.int .i64 x.kind,.int .i64 x.num,.string x.name,.string x.field,.int .i64 x.l,.int .i64 x.r]) (.agg #[.int .i64 y.kind,.int .i64 y.num,.string y.name,.string y.field,.int .i64 y.l,.int .i64 y.r])) W= .ok (.bool (!eqEx x y)) W) (hgdEx: ∀(op:BinOp) (a b:Operand) (x y:Ex) (W:World),Sem.run Tryz.prog (eqGuard op 125 a b (.agg #[.int .i64 x.kind,.int .i64 x.num,.string x.name,.string x.field,.int .i64 x.l,.int .i64 x.r]) (.agg #[.int .i64 y.kind,.int .i64 y.num,.string y.name,.string y.field,.int .i64 y.l,.int .i64 y.r])) W= .ok () W) (b1 b2:Nat) (S1 S2:Sv) (m:Md) (w:World) (h1:OwnMd w b1 S1 m) (h2:OwnMd w b2 S2 m) (hf:zpw m):
  Calls Tryz.prog 28 #[modD S1 m,modD S2 m] w fun e w'=>e= .returned (.bool true)∧Below w.heap.size w w':=by
 have H1:=hidI h1
 have H2:=hidI h2
 obtain⟨f1,f2,f3,f4,f5⟩:=hf
 clear h1 h2
 unfold modD
 go_enter Tryz.func28,Tryz.ntmps28
 go_upto_region 1 with fail
 refine zbc (R:=TwoM w b1 b2 S1 S2 m m) (zpe w b1 b2 S1 S2 m m H1.out H2.out) ?_
 clear H1 H2
 intro w0 h
 have T0:=hidI h
 clear h
 obtain⟨c0,c1,c2,c3,c4,cf⟩:=zi T0.out.1
 obtain⟨d0,d1,d2,d3,d4,df⟩:=zi T0.out.2.1
 go_wp2_with fail
 refine (zvp b1 b2 S1.rq S2.rq m.rq w0 (by rw[←zka];exact T0.out.2.2.1.rq) (by rw[←zka];exact T0.out.2.2.2.1.rq) f1).mono ?_
 rintro e w1 ⟨rfl,hb⟩
 have T:=hidI (T0.out.later hb)
 clear hb c0 c1 c2 c3 c4 cf d0 d1 d2 d3 d4 df T0
 obtain⟨c0,c1,c2,c3,c4,cf⟩:=zi T.out.1
 obtain⟨d0,d1,d2,d3,d4,df⟩:=zi T.out.2.1
 go_wp2
 go_loopg [5] m.im.length (fun k i wr=>∃j:Nat,i= .int .i64 j∧j+k=m.im.length∧TwoM w b1 b2 S1 S2 m m wr)
 case atStart=>exact⟨0,rfl,by omega,T.out⟩
 case round=>
  obtain⟨j,rfl,hj,hT⟩:=hrel
  clear T c0 c1 c2 c3 c4 cf d0 d1 d2 d3 d4 df
  have T:=hidI hT
  clear hT
  obtain⟨c0,c1,c2,c3,c4,cf⟩:=zi T.out.1
  obtain⟨d0,d1,d2,d3,d4,df⟩:=zi T.out.2.1
  by_cases hlt:j<m.im.length
  ·have hlti:(j:Int)<(m.im.length:Int):=by omega
   obtain⟨x,hx⟩:=zci hlt
   obtain⟨g1,ga,h1⟩:=OwnR.elem (f:=imL) (m:=3) (fun _=>rfl) T.out.2.2.1.im hx
   obtain⟨g2,gb,h2⟩:=OwnR.elem (f:=imL) (m:=3) (fun _=>rfl) T.out.2.2.2.1.im hx
   rw[ga] at c1
   rw[gb] at d1
   obtain⟨y,hy⟩: ∃y,y=x:=⟨_,rfl⟩
   rw[←hy] at h2
   obtain⟨b,hxy⟩: ∃b,eqIm x y=b:=⟨_,rfl⟩
   have BT:Hid (b=true):=by show _=_;rw[←hxy,hy];exact zlu.2 rfl
   have C0:=hidI (h1 0 (by omega))
   have D0:=hidI (h2 0 (by omega))
   have C1:=hidI (h1 1 (by omega))
   have D1:=hidI (h2 1 (by omega))
   have C2:=hidI (h1 2 (by omega))
   have D2:=hidI (h2 2 (by omega))
   clear h1 h2 ga gb hx
   obtain⟨j1,hj1⟩: ∃j1,j1=j+1:=⟨_,rfl⟩
   have ej:(j:Int)+1=(j1:Int):=by omega
   have HJ:=hidI hj1
   clear hj1
   have hn1: ∀W:World,Sem.run Tryz.prog (binOp .neq 119 (.agg #[.string x.spec,.string x.first,.string x.loc]) (.agg #[.string y.spec,.string y.first,.string y.loc])) W= .ok (.bool !b) W:=fun W=>by rw[hneIm,hxy]
   have hg1: ∀(op:BinOp) (a b:Operand) (W:World),Sem.run Tryz.prog (eqGuard op 119 a b (.agg #[.string x.spec,.string x.first,.string x.loc]) (.agg #[.string y.spec,.string y.first,.string y.loc])) W= .ok () W:=fun op a b W=>hgdIm op a b x y W
   clear hy
   go_wp2
   have kc:=cell_regrown c1
   have kd:=cell_regrown d1
   have k0:=cell_regrown C0.out
   have v0:=cell_regrown D0.out
   have k1:=cell_regrown C1.out
   have v1:=cell_regrown D1.out
   have k2:=cell_regrown C2.out
   have v2:=cell_regrown D2.out
   simp only[Nat.add_zero] at k0 v0
   refine wp_region_quiet_below (by kernel_rfl) (by kernel_rfl) ?_
   repeat (go_big_quiet_step (fail))
   refine wpQuiet_nil ?_
   intro w2 hw'
   obtain⟨⟨dq,osq⟩,hw''⟩:=hw'
   have T2:Hid (TwoM w b1 b2 S1 S2 m m w2):=by show TwoM _ _ _ _ _ _ _ _;rw[hw''];exact T.out.later (below_regrown wr dq osq)
   clear hw'' kc kd c0 c1 c2 c3 c4 cf d0 d1 d2 d3 d4 df hn1 hg1 k0 v0 C0 D0 k1 v1 C1 D1 k2 v2 C2 D2
   cases b with
   |false=>exact absurd BT.out (by decide)
   |true=>
    go_wp2
    go_roundg (gk-1)
    case rel=>exact⟨j1,rfl,by have:=HJ.out;omega,T2.out⟩
    case measure=>omega
  ·have hlti: ¬(j:Int)<(m.im.length:Int):=by omega
   obtain rfl:j=m.im.length:=by omega
   clear hlti hlt hj
   go_wp2
   go_loopg [6] m.ep.length (fun k i wr=>∃j:Nat,i= .int .i64 j∧j+k=m.ep.length∧TwoM w b1 b2 S1 S2 m m wr)
   case atStart=>exact⟨0,rfl,by omega,T.out⟩
   case round=>
    obtain⟨j,rfl,hj,hT⟩:=hrel
    clear T c0 c1 c2 c3 c4 cf d0 d1 d2 d3 d4 df
    have T:=hidI hT
    clear hT
    obtain⟨c0,c1,c2,c3,c4,cf⟩:=zi T.out.1
    obtain⟨d0,d1,d2,d3,d4,df⟩:=zi T.out.2.1
    by_cases hlt:j<m.ep.length
    ·have hlti:(j:Int)<(m.ep.length:Int):=by omega
     obtain⟨x,hx⟩:=zci hlt
     obtain⟨g1,ga,h1⟩:=OwnR.elem (f:=epL) (m:=4) (fun _=>rfl) T.out.2.2.1.ep hx
     obtain⟨g2,gb,h2⟩:=OwnR.elem (f:=epL) (m:=4) (fun _=>rfl) T.out.2.2.2.1.ep hx
     rw[ga] at c2
     rw[gb] at d2
     obtain⟨y,hy⟩: ∃y,y=x:=⟨_,rfl⟩
     rw[←hy] at h2
     obtain⟨b,hxy⟩: ∃b,eqEp x y=b:=⟨_,rfl⟩
     have BT:Hid (b=true):=by show _=_;rw[←hxy,hy];exact zlv.2 rfl
     have C0:=hidI (h1 0 (by omega))
     have D0:=hidI (h2 0 (by omega))
     have C1:=hidI (h1 1 (by omega))
     have D1:=hidI (h2 1 (by omega))
     have C2:=hidI (h1 2 (by omega))
     have D2:=hidI (h2 2 (by omega))
     have C3:=hidI (h1 3 (by omega))
     have D3:=hidI (h2 3 (by omega))
     clear h1 h2 ga gb hx
     obtain⟨j1,hj1⟩: ∃j1,j1=j+1:=⟨_,rfl⟩
     have ej:(j:Int)+1=(j1:Int):=by omega
     have HJ:=hidI hj1
     clear hj1
     have hn1: ∀W:World,Sem.run Tryz.prog (binOp .neq 121 (.agg #[.int .i64 x.kind,.string x.name,.string x.loc,.string x.spec]) (.agg #[.int .i64 y.kind,.string y.name,.string y.loc,.string y.spec])) W= .ok (.bool !b) W:=fun W=>by rw[hneEp,hxy]
     have hg1: ∀(op:BinOp) (a b:Operand) (W:World),Sem.run Tryz.prog (eqGuard op 121 a b (.agg #[.int .i64 x.kind,.string x.name,.string x.loc,.string x.spec]) (.agg #[.int .i64 y.kind,.string y.name,.string y.loc,.string y.spec])) W= .ok () W:=fun op a b W=>hgdEp op a b x y W
     clear hy
     go_wp2
     have kc:=cell_regrown c2
     have kd:=cell_regrown d2
     have k0:=cell_regrown C0.out
     have v0:=cell_regrown D0.out
     have k1:=cell_regrown C1.out
     have v1:=cell_regrown D1.out
     have k2:=cell_regrown C2.out
     have v2:=cell_regrown D2.out
     have k3:=cell_regrown C3.out
     have v3:=cell_regrown D3.out
     simp only[Nat.add_zero] at k0 v0
     refine wp_region_quiet_below (by kernel_rfl) (by kernel_rfl) ?_
     repeat (go_big_quiet_step (fail))
     refine wpQuiet_nil ?_
     intro w2 hw'
     obtain⟨⟨dq,osq⟩,hw''⟩:=hw'
     have T2:Hid (TwoM w b1 b2 S1 S2 m m w2):=by show TwoM _ _ _ _ _ _ _ _;rw[hw''];exact T.out.later (below_regrown wr dq osq)
     clear hw'' kc kd c0 c1 c2 c3 c4 cf d0 d1 d2 d3 d4 df hn1 hg1 k0 v0 C0 D0 k1 v1 C1 D1 k2 v2 C2 D2 k3 v3 C3 D3
     cases b with
     |false=>exact absurd BT.out (by decide)
     |true=>
      go_wp2
      go_roundg (gk-1)
      case rel=>exact⟨j1,rfl,by have:=HJ.out;omega,T2.out⟩
      case measure=>omega
    ·have hlti: ¬(j:Int)<(m.ep.length:Int):=by omega
     obtain rfl:j=m.ep.length:=by omega
     clear hlti hlt hj
     go_wp2
     go_loopg [7] m.st.length (fun k i wr=>∃j:Nat,i= .int .i64 j∧j+k=m.st.length∧TwoM w b1 b2 S1 S2 m m wr)
     case atStart=>exact⟨0,rfl,by omega,T.out⟩
     case round=>
      obtain⟨j,rfl,hj,hT⟩:=hrel
      clear T c0 c1 c2 c3 c4 cf d0 d1 d2 d3 d4 df
      have T:=hidI hT
      clear hT
      obtain⟨c0,c1,c2,c3,c4,cf⟩:=zi T.out.1
      obtain⟨d0,d1,d2,d3,d4,df⟩:=zi T.out.2.1
      by_cases hlt:j<m.st.length
      ·have hlti:(j:Int)<(m.st.length:Int):=by omega
       obtain⟨x,hx⟩:=zci hlt
       obtain⟨g1,ga,h1⟩:=OwnR.elem (f:=smL) (m:=3) (fun _=>rfl) T.out.2.2.1.st hx
       obtain⟨g2,gb,h2⟩:=OwnR.elem (f:=smL) (m:=3) (fun _=>rfl) T.out.2.2.2.1.st hx
       rw[ga] at c3
       rw[gb] at d3
       obtain⟨y,hy⟩: ∃y,y=x:=⟨_,rfl⟩
       rw[←hy] at h2
       obtain⟨b,hxy⟩: ∃b,eqSm x y=b:=⟨_,rfl⟩
       have BT:Hid (b=true):=by show _=_;rw[←hxy,hy];exact zlw.2 rfl
       have C0:=hidI (h1 0 (by omega))
       have D0:=hidI (h2 0 (by omega))
       have C1:=hidI (h1 1 (by omega))
       have D1:=hidI (h2 1 (by omega))
       have C2:=hidI (h1 2 (by omega))
       have D2:=hidI (h2 2 (by omega))
       clear h1 h2 ga gb hx
       obtain⟨j1,hj1⟩: ∃j1,j1=j+1:=⟨_,rfl⟩
       have ej:(j:Int)+1=(j1:Int):=by omega
       have HJ:=hidI hj1
       clear hj1
       have hn1: ∀W:World,Sem.run Tryz.prog (binOp .neq 123 (.agg #[.int .i64 x.kind,.string x.name,.int .i64 x.expr]) (.agg #[.int .i64 y.kind,.string y.name,.int .i64 y.expr])) W= .ok (.bool !b) W:=fun W=>by rw[hneSm,hxy]
       have hg1: ∀(op:BinOp) (a b:Operand) (W:World),Sem.run Tryz.prog (eqGuard op 123 a b (.agg #[.int .i64 x.kind,.string x.name,.int .i64 x.expr]) (.agg #[.int .i64 y.kind,.string y.name,.int .i64 y.expr])) W= .ok () W:=fun op a b W=>hgdSm op a b x y W
       clear hy
       go_wp2
       have kc:=cell_regrown c3
       have kd:=cell_regrown d3
       have k0:=cell_regrown C0.out
       have v0:=cell_regrown D0.out
       have k1:=cell_regrown C1.out
       have v1:=cell_regrown D1.out
       have k2:=cell_regrown C2.out
       have v2:=cell_regrown D2.out
       simp only[Nat.add_zero] at k0 v0
       refine wp_region_quiet_below (by kernel_rfl) (by kernel_rfl) ?_
       repeat (go_big_quiet_step (fail))
       refine wpQuiet_nil ?_
       intro w2 hw'
       obtain⟨⟨dq,osq⟩,hw''⟩:=hw'
       have T2:Hid (TwoM w b1 b2 S1 S2 m m w2):=by show TwoM _ _ _ _ _ _ _ _;rw[hw''];exact T.out.later (below_regrown wr dq osq)
       clear hw'' kc kd c0 c1 c2 c3 c4 cf d0 d1 d2 d3 d4 df hn1 hg1 k0 v0 C0 D0 k1 v1 C1 D1 k2 v2 C2 D2
       cases b with
       |false=>exact absurd BT.out (by decide)
       |true=>
        go_wp2
        go_roundg (gk-1)
        case rel=>exact⟨j1,rfl,by have:=HJ.out;omega,T2.out⟩
        case measure=>omega
      ·have hlti: ¬(j:Int)<(m.st.length:Int):=by omega
       obtain rfl:j=m.st.length:=by omega
       clear hlti hlt hj
       go_wp2
       go_loopg [8] m.ex.length (fun k i wr=>∃j:Nat,i= .int .i64 j∧j+k=m.ex.length∧TwoM w b1 b2 S1 S2 m m wr)
       case atStart=>exact⟨0,rfl,by omega,T.out⟩
       case round=>
        obtain⟨j,rfl,hj,hT⟩:=hrel
        clear T c0 c1 c2 c3 c4 cf d0 d1 d2 d3 d4 df
        have T:=hidI hT
        clear hT
        obtain⟨c0,c1,c2,c3,c4,cf⟩:=zi T.out.1
        obtain⟨d0,d1,d2,d3,d4,df⟩:=zi T.out.2.1
        by_cases hlt:j<m.ex.length
        ·have hlti:(j:Int)<(m.ex.length:Int):=by omega
         obtain⟨x,hx⟩:=zci hlt
         obtain⟨g1,ga,h1⟩:=OwnR.elem (f:=exL) (m:=6) (fun _=>rfl) T.out.2.2.1.ex hx
         obtain⟨g2,gb,h2⟩:=OwnR.elem (f:=exL) (m:=6) (fun _=>rfl) T.out.2.2.2.1.ex hx
         rw[ga] at c4
         rw[gb] at d4
         obtain⟨y,hy⟩: ∃y,y=x:=⟨_,rfl⟩
         rw[←hy] at h2
         obtain⟨b,hxy⟩: ∃b,eqEx x y=b:=⟨_,rfl⟩
         have BT:Hid (b=true):=by show _=_;rw[←hxy,hy];exact zlx.2 rfl
         have C0:=hidI (h1 0 (by omega))
         have D0:=hidI (h2 0 (by omega))
         have C1:=hidI (h1 1 (by omega))
         have D1:=hidI (h2 1 (by omega))
         have C2:=hidI (h1 2 (by omega))
         have D2:=hidI (h2 2 (by omega))
         have C3:=hidI (h1 3 (by omega))
         have D3:=hidI (h2 3 (by omega))
         have C4:=hidI (h1 4 (by omega))
         have D4:=hidI (h2 4 (by omega))
         have C5:=hidI (h1 5 (by omega))
         have D5:=hidI (h2 5 (by omega))
         clear h1 h2 ga gb hx
         obtain⟨j1,hj1⟩: ∃j1,j1=j+1:=⟨_,rfl⟩
         have ej:(j:Int)+1=(j1:Int):=by omega
         have HJ:=hidI hj1
         clear hj1
         have hn1: ∀W:World,Sem.run Tryz.prog (binOp .neq 125 (.agg #[.int .i64 x.kind,.int .i64 x.num,.string x.name,.string x.field,.int .i64 x.l,.int .i64 x.r]) (.agg #[.int .i64 y.kind,.int .i64 y.num,.string y.name,.string y.field,.int .i64 y.l,.int .i64 y.r])) W= .ok (.bool !b) W:=fun W=>by rw[hneEx,hxy]
         have hg1: ∀(op:BinOp) (a b:Operand) (W:World),Sem.run Tryz.prog (eqGuard op 125 a b (.agg #[.int .i64 x.kind,.int .i64 x.num,.string x.name,.string x.field,.int .i64 x.l,.int .i64 x.r]) (.agg #[.int .i64 y.kind,.int .i64 y.num,.string y.name,.string y.field,.int .i64 y.l,.int .i64 y.r])) W= .ok () W:=fun op a b W=>hgdEx op a b x y W
         clear hy
         go_wp2
         have kc:=cell_regrown c4
         have kd:=cell_regrown d4
         have k0:=cell_regrown C0.out
         have v0:=cell_regrown D0.out
         have k1:=cell_regrown C1.out
         have v1:=cell_regrown D1.out
         have k2:=cell_regrown C2.out
         have v2:=cell_regrown D2.out
         have k3:=cell_regrown C3.out
         have v3:=cell_regrown D3.out
         have k4:=cell_regrown C4.out
         have v4:=cell_regrown D4.out
         have k5:=cell_regrown C5.out
         have v5:=cell_regrown D5.out
         simp only[Nat.add_zero] at k0 v0
         refine wp_region_quiet_below (by kernel_rfl) (by kernel_rfl) ?_
         repeat (go_big_quiet_step (fail))
         refine wpQuiet_nil ?_
         intro w2 hw'
         obtain⟨⟨dq,osq⟩,hw''⟩:=hw'
         have T2:Hid (TwoM w b1 b2 S1 S2 m m w2):=by show TwoM _ _ _ _ _ _ _ _;rw[hw''];exact T.out.later (below_regrown wr dq osq)
         clear hw'' kc kd c0 c1 c2 c3 c4 cf d0 d1 d2 d3 d4 df hn1 hg1 k0 v0 C0 D0 k1 v1 C1 D1 k2 v2 C2 D2 k3 v3 C3 D3 k4 v4 C4 D4 k5 v5 C5 D5
         cases b with
         |false=>exact absurd BT.out (by decide)
         |true=>
          go_wp2
          go_roundg (gk-1)
          case rel=>exact⟨j1,rfl,by have:=HJ.out;omega,T2.out⟩
          case measure=>omega
        ·have hlti: ¬(j:Int)<(m.ex.length:Int):=by omega
         obtain rfl:j=m.ex.length:=by omega
         clear hlti hlt hj
         go_wp2
         go_ret
         exact⟨rfl,T.out.2.2.2.2⟩
/-- The text that a Print tells. -/
def PrOf (T:ByteArray) (m:Md) (t:ByteArray):Prop:=(Tree m∧t=T)∨(¬Tree m∧t=sNone)
theorem PrintOut.form {T:ByteArray} {m:Md} {e:Ending} (h:PrintOut T m e): ∃t,PrOf T m t∧e= .returned (.string t):=by
 rcases h with ⟨h1,h2⟩|⟨h1,h2⟩
 ·exact⟨T,.inl ⟨h1,rfl⟩,h2⟩
 ·exact⟨sNone,.inr ⟨h1,rfl⟩,h2⟩
theorem PrOf.size {T t:ByteArray} {m:Md} {n:Nat} (h:PrOf T m t) (hs:Tree m→T.size≤n):t.size≤n:=by
 rcases h with ⟨h1,rfl⟩|⟨_,rfl⟩
 ·exact hs h1
 ·exact Nat.zero_le _
/-- A text is read as just that program. -/
def OkOf (t:ByteArray) (scr:Bool) (m:Md):Prop:=∃q,zfq t scr (.ok q)∧mdOf q=m
def zbkk (T:ByteArray) (m:Md) (scr:Bool) (e:Ending):Prop:=∃t,PrOf T m t∧zfx (OkOf t scr m) e
theorem zxz {t:ByteArray} {scr:Bool} {m:Md} {p:Nat} (h:zfq t scr (.error p)): ¬OkOf t scr m:=by
 rintro⟨q,hq,_⟩
 cases zry h hq
theorem zya {t:ByteArray} {scr:Bool} {m n:Md} {q:PS} (h:zfq t scr (.ok q)) (hn:n=mdOf q):OkOf t scr m↔n=m:=by
 constructor
 ·rintro⟨q',hq,he⟩
  cases zry h hq
  rw[hn]
  exact he
 ·intro e
  exact⟨q,h,by rw[←hn];exact e⟩
theorem ParseOut.md {s:ByteArray} {scr:Bool} {w w':World} {e:Ending} (h:ParseOut s scr w e w'):
  (∃(q:PS) (S:Sv) (n:Md),zfq s scr (.ok q)∧n=mdOf q∧e= .returned (.tuple #[modD S n,.int .i64 (-1)])∧OwnMd w' w.heap.size S n∧zpw n)∨∃p:Nat,zfq s scr (.error p)∧e= .returned (.tuple #[.agg #[.slice none 0 0,.slice none 0 0,.slice none 0 0,.slice none 0 0,.slice none 0 0],.int .i64 p]):=by
 obtain⟨y,hy,hm⟩:=h
 cases y with
 |ok q=>
  obtain⟨S,he,ho⟩:=hm
  refine .inl ⟨q,S,mdOf q,hy,rfl,he,ho.md,?_⟩
  have hi:=ho.inv
  have hl:(mdOf q).ep.length=q.ep.length+q.la.length:=by show (q.ep++q.la).length=_;rw[List.length_append]
  refine⟨?_,?_,by rw[hl];omega,?_,?_⟩
  ·show q.rq.length≤_;omega
  ·show q.im.length≤_;omega
  ·show q.st.length≤_;omega
  ·show q.ex.length≤_;omega
 |error p=>exact .inr ⟨p,hy,hm⟩
theorem zbgi {k:Int} {n e:ByteArray} (h:n.toList=dN→k=1):zii k n e=zcy k n e:=by
 unfold zii
 split
 ·next hn=>
  have e1:=eq_of_beq hn
  rw[h e1,zcy,if_pos (by decide),if_pos hn]
 ·rfl
theorem zbgj {α:Type} {f g:α→ByteArray} (l:List α): ∀t,(∀x∈l,f x=g x)→acc f l t=acc g l t:=by
 induction l with
 |nil=>intro t _;rfl
 |cons x l ih=>
  intro t h
  show acc f l (t++f x)=acc g l (t++g x)
  rw[h x (List.mem_cons_self ..)]
  exact ih _ fun y hy=>h y (List.mem_cons_of_mem _ hy)
theorem zup {m:Md} (h:zfl m.st):zge m=zhe m:=zbgj _ _ fun s hs=>zbgi (h s hs)
/-- Both ModOks tell the same. -/
theorem zbls {m:Md} {scr:Bool} {t1 t2:ByteArray} (h1:PrOf (zhe m) m t1) (h2:PrOf (zge m) m t2):OkOf t1 scr m↔OkOf t2 scr m:=by
 by_cases hf:zfl m.st
 ·have:t1=t2:=by
   rw[zup hf] at h2
   rcases h1 with ⟨a,rfl⟩|⟨a,rfl⟩<;>rcases h2 with ⟨b,rfl⟩|⟨b,rfl⟩
   ·rfl
   ·exact absurd a b
   ·exact absurd b a
   ·rfl
  rw[this]
 ·have no: ∀t,¬OkOf t scr m:=by
   rintro t ⟨q,hq,he⟩
   have:=zsd hq
   rw[←he] at hf
   exact hf this
  exact⟨fun h=>absurd h (no _),fun h=>absurd h (no _)⟩
end Go.Proofs.YtmnemfookpjhiaaGreat
