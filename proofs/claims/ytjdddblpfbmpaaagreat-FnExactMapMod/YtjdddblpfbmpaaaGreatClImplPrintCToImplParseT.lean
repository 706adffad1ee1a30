/-
  What impl's imp answers: the walk.
  What impl's exp answers: the walk.
  What impl's kind answers,and side,if expr answers so: the walks.
  What impl's stmt answers,if expr answers so: the walk.
  What impl's program of the printer answers,if expr answers so: the walk.
  What impl's sum answers,if expr answers so,and what expr answers,kind by kind: the walks.
  What impl's expr answers,whole. No walk is zu.
  What impl.Print answers: the walk.
  What importList of impl's parser answers: the walk.
  What importFrom of impl's parser answers: the walk.
  What importItem of impl's parser answers: the walks.
-/
import Derived.Test.YtjdddblpfbmpaaaGreatClImplBuilderToImplPrintB
namespace Go.Proofs.YtjdddblpfbmpaaaGreat
set_option maxRecDepth 100000
set_option maxHeartbeats 12800000
open Go.RowKit Go.PlainAid Go.Sort
theorem zc2 (c:PC) (t:ByteArray) (j:List ByteArray) (w:World) (h:PP c t w) (z:(zv t j).size≤140737488355328) (M:j.length≤4294967296):
  Calls Tryz.prog 122 #[.slice (some ⟨w.heap.size,0,none⟩) j.length j.length,.pointer (some ⟨c.b,0,none⟩)] (w.alloc (.cells (j.map Value.string).toArray 9)).drew (PO c (zv t j) w):=by
 have A:Below w.heap.size w (w.alloc (.cells (j.map Value.string).toArray 9)).drew:=((Below.refl _ _).alloc (Nat.le_refl _) _).drew
 refine (zkE c t j w.heap.size _ (h.later A) (heap_alloc_new w _) z M).mono ?_
 rintro e N ⟨H,J,I,L⟩
 exact⟨H,J,(A.mono h.1.2).trans I,(KeepB.of_below A).trans L⟩
def zc3 (x:Im):ByteArray:=
 if x.first.toList==[42] then ({data:=#[105,109,112,111,114,116,32]}:ByteArray)++({data:=#[42,32,97,115,32]}:ByteArray)++x.loc
 else if x.first.toList==[100,101,102,97,117,108,116] then ({data:=#[105,109,112,111,114,116,32]}:ByteArray)++x.loc
 else ({data:=#[105,109,112,111,114,116,32]}:ByteArray)++zca x.first x.loc
theorem zsm {x:Im} (e:(x.first.toList==[42])=true):zc3 x=({data:=#[105,109,112,111,114,116,32]}:ByteArray)++({data:=#[42,32,97,115,32]}:ByteArray)++x.loc:=by rw[zc3,e];rfl
theorem zsn {x:Im} (e:(x.first.toList==[42])=false) (h:(x.first.toList==[100,101,102,97,117,108,116])=true):zc3 x=({data:=#[105,109,112,111,114,116,32]}:ByteArray)++x.loc:=by rw[zc3,e,h];rfl
theorem zso {x:Im} (e:(x.first.toList==[42])=false) (h:(x.first.toList==[100,101,102,97,117,108,116])=false):zc3 x=({data:=#[105,109,112,111,114,116,32]}:ByteArray)++zca x.first x.loc:=by rw[zc3,e,h];rfl
theorem zcg (a b:Array UInt8):(⟨a++b⟩:ByteArray)=⟨a⟩++⟨b⟩:=by
 apply ByteArray.ext
 simp
theorem zeG (x:Im):zad x=zc3 x++({data:=#[32,102,114,111,109,32]}:ByteArray)++za0 x.spec++({data:=#[59]}:ByteArray)++({data:=#[10]}:ByteArray):=by
 have z:({data:=#[59,10]}:ByteArray)={data:=#[59]}++{data:=#[10]}:=zcg #[59] #[10]
 have j:({data:=#[105,109,112,111,114,116,32,42,32,97,115,32]}:ByteArray)={data:=#[105,109,112,111,114,116,32]}++{data:=#[42,32,97,115,32]}:=zcg #[105,109,112,111,114,116,32] #[42,32,97,115,32]
 have w:({data:=#[105,109,112,111,114,116,32,123,32]}:ByteArray)={data:=#[105,109,112,111,114,116,32]}++{data:=#[123,32]}:=zcg #[105,109,112,111,114,116,32] #[123,32]
 have h:({data:=#[32,125,32,102,114,111,109,32]}:ByteArray)={data:=#[32,125]}++{data:=#[32,102,114,111,109,32]}:=zcg #[32,125] #[32,102,114,111,109,32]
 unfold zad zc3 zca
 rw[z,j,w,h]
 split
 ·simp only[ByteArray.append_assoc]
 ·split<;>simp only[ByteArray.append_assoc]
theorem zsp (x:Im):(({data:=#[105,109,112,111,114,116,32]}:ByteArray)).size≤(zad x).size:=by
 rw[zeG,zc3]
 split
 ·simp only[ByteArray.size_append];omega
 ·split<;>(simp only[ByteArray.size_append];omega)
theorem zsq (c:PC) (t:ByteArray) (x:Im) (w:World) (h:PP c t w) (H:(t++zad x).size≤140737488355328) (h1:x.spec.size≤1099511627776):
  Calls Tryz.prog 172 #[.pointer (some ⟨c.gp,0,none⟩),imV x] w (PO c (t++zad x) w):=by
 have HP:=zc h
 have U:=zc H
 clear h H
 have HZ:Hid (t.size+(zad x).size≤140737488355328∧(({data:=#[105,109,112,111,114,116,32]}:ByteArray)).size≤(zad x).size):=⟨by have:=U.out;rw[ByteArray.size_append] at this;exact this,zsp x⟩
 unfold imV
 go_enter Tryz.func172,Tryz.ntmps172
 go_upto_region 1 with fail
 have HW:Hid (Below w.heap.size w (w.alloc (.cells #[.string x.spec,.string x.first,.string x.loc] 84))):=(Below.refl _ _).alloc (Nat.le_refl _) _
 refine zV (R:=fun W=>W.heap[w.heap.size]? =some (.cells #[.string x.spec,.string x.first,.string x.loc] 84 (0,0))∧PP c t W∧Below c.B w W∧KeepB c.b w W) ⟨heap_alloc_new w _,HP.out.later HW.out,HW.out.mono HP.out.1.2,KeepB.of_below HW.out⟩ ?_
 obtain⟨gx,O⟩: ∃gx,gx=w.heap.size:=⟨_,rfl⟩
 have aa:gx≠c.b:=by
  rw[O]
  obtain⟨am,hc⟩:=zcf HP.out.1.1
  have:=(Array.getElem?_eq_some_iff.1 hc).1
  omega
 rw[←O]
 rintro W ⟨hx,hp,hb,hk⟩
 clear O HW
 have X:=zc hx
 have M:=zc hp
 have ab:=zc hb
 have ad:=zc hk
 clear hx hp hb hk
 obtain⟨x0,x1,x2,xf⟩:=zbK X.out
 obtain⟨p0,p1,p2,p3,p4,p5,pf⟩:=zy M.out.2.2.1
 go_wp2_with fail
 refine (zbL c t [{data:=#[105,109,112,111,114,116,32]}] W M.out (by have:=HZ.out;simp only[zv,List.foldl_cons,List.foldl_nil,ByteArray.size_append] at this ⊢;omega) (by simp)).mono ?_
 rintro e Y ⟨rfl,Z,ae,L⟩
 have I:=zc Z
 have ai:=zc (ab.out.trans ae)
 have ag:=zc (ad.out.trans L)
 have X1:=zc ((L _ _ _ _ X.out aa (by decide)).trans X.out)
 clear Z ae L p0 p1 p2 p3 p4 p5 pf x0 x1 x2 xf M ab ad X
 obtain⟨x0,x1,x2,xf⟩:=zbK X1.out
 obtain⟨p0,p1,p2,p3,p4,p5,pf⟩:=zy I.out.2.2.1
 have af:=(Array.getElem?_eq_some_iff.1 I.out.2.2.1).1
 have V:=(Array.getElem?_eq_some_iff.1 X1.out).1
 have H:=U.out
 go_upto_block 0 with fail
 go_cut [] from 12 to 37 (fun wx=>PP c (t++zc3 x) wx∧Below c.B Y wx∧KeepB c.b Y wx)
 case first=>
  cases e1:(x.first.toList==[42]) with
  |true=>
   have J:Hid (zc3 x=({data:=#[105,109,112,111,114,116,32]}:ByteArray)++({data:=#[42,32,97,115,32]}:ByteArray)++x.loc):=zsm e1
   go_wp2_with fail
   go_region_with (go_at_call 122;refine (zc2 c _ [{data:=#[42,32,97,115,32]},x.loc] Y I.out (by have:=U.out;rw[zeG,J.out] at this;simp only[zv,List.foldl_cons,List.foldl_nil,ByteArray.size_append] at this ⊢;omega) (by simp)).mono ?_;rintro e w2 ⟨rfl,j,A,z⟩)
   all_goals (go_wp2_with fail;go_meet;exact⟨by rw[J.out];simp only[zv,List.foldl_cons,List.foldl_nil,←ByteArray.append_assoc] at j ⊢;exact j,A,z⟩)
  |false=>
   cases e2:(x.first.toList==[100,101,102,97,117,108,116]) with
   |true=>
    have J:Hid (zc3 x=({data:=#[105,109,112,111,114,116,32]}:ByteArray)++x.loc):=zsn e1 e2
    go_wp2_with fail
    go_region_with (go_at_call 122;refine (zc2 c _ [x.loc] Y I.out (by have:=U.out;rw[zeG,J.out] at this;simp only[zv,List.foldl_cons,List.foldl_nil,ByteArray.size_append] at this ⊢;omega) (by simp)).mono ?_;rintro e w2 ⟨rfl,j,A,z⟩)
    all_goals (go_wp2_with fail;go_meet;exact⟨by rw[J.out];simp only[zv,List.foldl_cons,List.foldl_nil,←ByteArray.append_assoc] at j ⊢;exact j,A,z⟩)
   |false=>
    have J:Hid (zc3 x=({data:=#[105,109,112,111,114,116,32]}:ByteArray)++zca x.first x.loc):=zso e1 e2
    go_wp2_with fail
    refine (zhK c _ x.first x.loc Y I.out (by have:=U.out;rw[zeG,J.out] at this;simp only[zv,List.foldl_cons,List.foldl_nil,ByteArray.size_append] at this ⊢;omega)).mono ?_
    rintro e w2 ⟨rfl,j,A,z⟩
    go_wp2_with fail
    go_meet
    exact⟨by rw[J.out];simp only[zv,List.foldl_cons,List.foldl_nil,←ByteArray.append_assoc] at j ⊢;exact j,A,z⟩
 case rest=>
 obtain⟨j,A,z⟩:=hcut
 rename_i w2
 have N:=zc j
 have aj:=zc (ai.out.trans A)
 have ah:=zc (ag.out.trans z)
 have X2:=zc ((z _ _ _ _ X1.out aa (by decide)).trans X1.out)
 clear j A z p0 p1 p2 p3 p4 p5 pf x0 x1 x2 xf af V
 obtain⟨p0,p1,p2,p3,p4,p5,pf⟩:=zy N.out.2.2.1
 obtain⟨x0,x1,x2,xf⟩:=zbK X2.out
 have af:=(Array.getElem?_eq_some_iff.1 N.out.2.2.1).1
 have V:=(Array.getElem?_eq_some_iff.1 X2.out).1
 go_wp2_with fail
 go_region_with (first|(go_at_call 171;refine (zg9 x.spec _ h1).mono ?_;rintro e w' ⟨rfl,rfl⟩)|(go_at_call 122;refine (zc2 c _ [{data:=#[32,102,114,111,109,32]},za0 x.spec,{data:=#[59]},{data:=#[10]}] _ N.out (by have:=U.out;rw[zeG] at this;simp only[zv,List.foldl_cons,List.foldl_nil,ByteArray.size_append] at this ⊢;omega) (by simp)).mono ?_;rintro e w3 ⟨rfl,ac,al,ak⟩))
 all_goals (go_wp2;go_end0;exact⟨rfl,(by rw[zeG];simp only[zv,List.foldl_cons,List.foldl_nil,←ByteArray.append_assoc] at ac ⊢;exact ac),aj.out.trans al,ah.out.trans ak⟩)
def zc4 (x:Ep):ByteArray:=
 if x.kind==3 then ({data:=#[101,120,112,111,114,116,32]}:ByteArray)++({data:=#[42,32,102,114,111,109,32]}:ByteArray)++za0 x.spec
 else if x.kind==2 then ({data:=#[101,120,112,111,114,116,32]}:ByteArray)++zca x.loc x.name++({data:=#[32,102,114,111,109,32]}:ByteArray)++za0 x.spec
 else ({data:=#[101,120,112,111,114,116,32]}:ByteArray)++zca x.loc x.name
theorem zsr {x:Ep} (e:(x.kind==3)=true):zc4 x=({data:=#[101,120,112,111,114,116,32]}:ByteArray)++({data:=#[42,32,102,114,111,109,32]}:ByteArray)++za0 x.spec:=by rw[zc4,e];rfl
theorem zss {x:Ep} (e:(x.kind==3)=false) (h:(x.kind==2)=true):zc4 x=({data:=#[101,120,112,111,114,116,32]}:ByteArray)++zca x.loc x.name++({data:=#[32,102,114,111,109,32]}:ByteArray)++za0 x.spec:=by rw[zc4,e,h];rfl
theorem zst {x:Ep} (e:(x.kind==3)=false) (h:(x.kind==2)=false):zc4 x=({data:=#[101,120,112,111,114,116,32]}:ByteArray)++zca x.loc x.name:=by rw[zc4,e,h];rfl
theorem zeh (x:Ep):zbq x=zc4 x++({data:=#[59]}:ByteArray)++({data:=#[10]}:ByteArray):=by
 have j:({data:=#[59,10]}:ByteArray)={data:=#[59]}++{data:=#[10]}:=zcg #[59] #[10]
 have w:({data:=#[101,120,112,111,114,116,32,42,32,102,114,111,109,32]}:ByteArray)={data:=#[101,120,112,111,114,116,32]}++{data:=#[42,32,102,114,111,109,32]}:=zcg #[101,120,112,111,114,116,32] #[42,32,102,114,111,109,32]
 have A:({data:=#[101,120,112,111,114,116,32,123,32]}:ByteArray)={data:=#[101,120,112,111,114,116,32]}++{data:=#[123,32]}:=zcg #[101,120,112,111,114,116,32] #[123,32]
 have h:({data:=#[32,125,32,102,114,111,109,32]}:ByteArray)={data:=#[32,125]}++{data:=#[32,102,114,111,109,32]}:=zcg #[32,125] #[32,102,114,111,109,32]
 have z:({data:=#[32,125,59,10]}:ByteArray)={data:=#[32,125]}++{data:=#[59,10]}:=zcg #[32,125] #[59,10]
 unfold zbq zc4 zca
 rw[z,j,w,A,h]
 split
 ·simp only[ByteArray.append_assoc]
 ·split<;>simp only[ByteArray.append_assoc]
theorem zsu (x:Ep):(({data:=#[101,120,112,111,114,116,32]}:ByteArray)).size≤(zbq x).size:=by
 rw[zeh,zc4]
 split
 ·simp only[ByteArray.size_append];omega
 ·split<;>(simp only[ByteArray.size_append];omega)
theorem zsv (c:PC) (t:ByteArray) (x:Ep) (w:World) (h:PP c t w) (L:(t++zbq x).size≤140737488355328) (h1:x.spec.size≤1099511627776):
  Calls Tryz.prog 173 #[.pointer (some ⟨c.gp,0,none⟩),epV x] w (PO c (t++zbq x) w):=by
 have HP:=zc h
 have HL:=zc L
 clear h L
 have HZ:Hid (t.size+(zbq x).size≤140737488355328∧(({data:=#[101,120,112,111,114,116,32]}:ByteArray)).size≤(zbq x).size):=⟨by have:=HL.out;rw[ByteArray.size_append] at this;exact this,zsu x⟩
 unfold epV
 go_enter Tryz.func173,Tryz.ntmps173
 go_upto_region 1 with fail
 have HW:Hid (Below w.heap.size w (w.alloc (.cells #[.int .i64 x.kind,.string x.name,.string x.loc,.string x.spec] 86))):=(Below.refl _ _).alloc (Nat.le_refl _) _
 refine zV (R:=fun W=>W.heap[w.heap.size]? =some (.cells #[.int .i64 x.kind,.string x.name,.string x.loc,.string x.spec] 86 (0,0))∧PP c t W∧Below c.B w W∧KeepB c.b w W) ⟨heap_alloc_new w _,HP.out.later HW.out,HW.out.mono HP.out.1.2,KeepB.of_below HW.out⟩ ?_
 obtain⟨gx,ad⟩: ∃gx,gx=w.heap.size:=⟨_,rfl⟩
 have ah:gx≠c.b:=by
  rw[ad]
  obtain⟨aq,hc⟩:=zcf HP.out.1.1
  have:=(Array.getElem?_eq_some_iff.1 hc).1
  omega
 rw[←ad]
 rintro W ⟨hx,hp,hb,hk⟩
 clear ad HW
 have X:=zc hx
 have ac:=zc hp
 have ai:=zc hb
 have aj:=zc hk
 clear hx hp hb hk
 obtain⟨x0,x1,x2,x3,xf⟩:=zd9 X.out
 obtain⟨p0,p1,p2,Z,V,U,pf⟩:=zy ac.out.2.2.1
 go_wp2_with fail
 refine (zbL c t [{data:=#[101,120,112,111,114,116,32]}] W ac.out (by have:=HZ.out;simp only[zv,List.foldl_cons,List.foldl_nil,ByteArray.size_append] at this ⊢;omega) (by simp)).mono ?_
 rintro e w1 ⟨rfl,ag,al,aa⟩
 have M:=zc ag
 have ao:=zc (ai.out.trans al)
 have am:=zc (aj.out.trans aa)
 have X1:=zc ((aa _ _ _ _ X.out ah (by decide)).trans X.out)
 clear ag al aa p0 p1 p2 Z V U pf x0 x1 x2 x3 xf ac ai aj X
 obtain⟨x0,x1,x2,x3,xf⟩:=zd9 X1.out
 obtain⟨p0,p1,p2,Z,V,U,pf⟩:=zy M.out.2.2.1
 have af:=(Array.getElem?_eq_some_iff.1 M.out.2.2.1).1
 have Y:=(Array.getElem?_eq_some_iff.1 X1.out).1
 have L:=HL.out
 go_upto_block 0 with fail
 go_cut [] from 12 to 45 (fun wx=>PP c (t++zc4 x) wx∧Below c.B w1 wx∧KeepB c.b w1 wx)
 case first=>
  cases e1:(x.kind==3) with
  |true=>
   have O:Hid (zc4 x=({data:=#[101,120,112,111,114,116,32]}:ByteArray)++({data:=#[42,32,102,114,111,109,32]}:ByteArray)++za0 x.spec):=zsr e1
   go_wp2_with fail
   go_region_with (first|(go_at_call 171;refine (zg9 x.spec _ h1).mono ?_;rintro e w' ⟨rfl,rfl⟩)|(go_at_call 122;refine (zc2 c _ [{data:=#[42,32,102,114,111,109,32]},za0 x.spec] w1 M.out (by have:=HL.out;rw[zeh,O.out] at this;simp only[zv,List.foldl_cons,List.foldl_nil,ByteArray.size_append] at this ⊢;omega) (by simp)).mono ?_;rintro e w2 ⟨rfl,j,H,z⟩))
   all_goals (go_wp2_with fail;go_meet;exact⟨by rw[O.out];simp only[zv,List.foldl_cons,List.foldl_nil,←ByteArray.append_assoc] at j ⊢;exact j,H,z⟩)
  |false=>
   cases e2:(x.kind==2) with
   |true=>
    have O:Hid (zc4 x=({data:=#[101,120,112,111,114,116,32]}:ByteArray)++zca x.loc x.name++({data:=#[32,102,114,111,109,32]}:ByteArray)++za0 x.spec):=zss e1 e2
    go_wp2_with fail
    refine (zhK c _ x.loc x.name w1 M.out (by have:=HL.out;rw[zeh,O.out] at this;simp only[zv,List.foldl_cons,List.foldl_nil,ByteArray.size_append] at this ⊢;omega)).mono ?_
    rintro e w3 ⟨rfl,A,N,I⟩
    have J:=zc A
    have X3:=zc ((I _ _ _ _ X1.out ah (by decide)).trans X1.out)
    have ab:=zc N
    have ae:=zc I
    clear A N I p0 p1 p2 Z V U pf x0 x1 x2 x3 xf af Y
    obtain⟨p0,p1,p2,Z,V,U,pf⟩:=zy J.out.2.2.1
    obtain⟨x0,x1,x2,x3,xf⟩:=zd9 X3.out
    have af:=(Array.getElem?_eq_some_iff.1 J.out.2.2.1).1
    have Y:=(Array.getElem?_eq_some_iff.1 X3.out).1
    go_wp2_with fail
    go_region_with (first|(go_at_call 171;refine (zg9 x.spec _ h1).mono ?_;rintro e w' ⟨rfl,rfl⟩)|(go_at_call 122;refine (zc2 c _ [{data:=#[32,102,114,111,109,32]},za0 x.spec] w3 J.out (by have:=HL.out;rw[zeh,O.out] at this;simp only[zv,List.foldl_cons,List.foldl_nil,ByteArray.size_append] at this ⊢;omega) (by simp)).mono ?_;rintro e w2 ⟨rfl,j,H,z⟩))
    all_goals (go_wp2_with fail;go_meet;exact⟨by rw[O.out];simp only[zv,List.foldl_cons,List.foldl_nil,←ByteArray.append_assoc] at j ⊢;exact j,ab.out.trans H,ae.out.trans z⟩)
   |false=>
    have O:Hid (zc4 x=({data:=#[101,120,112,111,114,116,32]}:ByteArray)++zca x.loc x.name):=zst e1 e2
    go_wp2_with fail
    refine (zhK c _ x.loc x.name w1 M.out (by have:=HL.out;rw[zeh,O.out] at this;simp only[zv,List.foldl_cons,List.foldl_nil,ByteArray.size_append] at this ⊢;omega)).mono ?_
    rintro e w2 ⟨rfl,j,H,z⟩
    go_wp2_with fail
    go_meet
    exact⟨by rw[O.out];simp only[zv,List.foldl_cons,List.foldl_nil,←ByteArray.append_assoc] at j ⊢;exact j,H,z⟩
 case rest=>
 obtain⟨j,H,z⟩:=hcut
 rename_i w2
 have ak:=zc j
 have ap:=zc (ao.out.trans H)
 have an:=zc (am.out.trans z)
 clear j H z p0 p1 p2 Z V U pf x0 x1 x2 x3 xf af Y
 obtain⟨p0,p1,p2,Z,V,U,pf⟩:=zy ak.out.2.2.1
 go_wp2_with fail
 refine (zbL c _ [{data:=#[59]},{data:=#[10]}] _ ak.out (by have:=HL.out;rw[zeh] at this;simp only[zv,List.foldl_cons,List.foldl_nil,ByteArray.size_append] at this ⊢;omega) (by simp)).mono ?_
 rintro e w3 ⟨rfl,A,N,I⟩
 have J:=zc A
 have ab:=zc (ap.out.trans N)
 have ae:=zc (an.out.trans I)
 clear A N I p0 p1 p2 Z V U pf
 go_wp2
 go_end0
 exact⟨rfl,(by have A:=J.out;rw[zeh];simp only[zv,List.foldl_cons,List.foldl_nil,←ByteArray.append_assoc] at A ⊢;exact A),ab.out,ae.out⟩
theorem zhL (c:PC) (t:ByteArray) (i:Nat) (w:World) (h:PP c t w) (L:i<c.m.ex.length):
  Calls Tryz.prog 222 #[.pointer (some ⟨c.gp,0,none⟩),.int .i64 (i:Int)] w fun e w'=>e= .returned (.int .i64 (c.m.ex.getD i zj).kind)∧w'=w:=by
 obtain⟨p0,Z,U,N,I,O,Y⟩:=zy h.2.2.1
 obtain⟨g,z,M,H,x1,x2,X,V,x5⟩:=h.2.1.expr L
 rw[z] at I
 have J:(i:Int)<(c.m.ex.length:Int):=by omega
 obtain⟨A,j⟩: ∃A,(c.m.ex.getD i zj).kind=A:=⟨_,rfl⟩
 rw[j] at H
 rw[j]
 clear h z j
 go_enter Tryz.func222,Tryz.ntmps222
 go_wp2
 go_ret
 exact⟨rfl,rfl⟩
def zc5 (c:PC) (i:Nat):Prop:=∀(t:ByteArray) (w:World),PP c t w→(t++prX c.m.ex i).size≤140737488355328→Calls Tryz.prog 201 #[.pointer (some ⟨c.gp,0,none⟩),.int .i64 (i:Int)] w (PO c (t++prX c.m.ex i) w)
theorem zgA (c:PC) (t:ByteArray) (i:Nat) (o:Bool) (w:World) (ok:zc5 c i) (h:PP c t w) (j:(t++zG o (prX c.m.ex i)).size≤140737488355328):
  Calls Tryz.prog 221 #[.pointer (some ⟨c.gp,0,none⟩),.int .i64 (i:Int),.bool o] w (PO c (t++zG o (prX c.m.ex i)) w):=by
 have OK:=zc ok
 have HP:=zc h
 clear ok h
 obtain⟨p0,p1,p2,p3,p4,p5,pf⟩:=zy HP.out.2.2.1
 cases o with
 |false=>
  have U:Hid ((t++prX c.m.ex i).size≤140737488355328):=j
  clear j
  go_enter Tryz.func221,Tryz.ntmps221
  go_wp2_with fail
  refine (OK.out t w HP.out U.out).mono ?_
  rintro e w1 ⟨rfl,z,I,A⟩
  have L:=zc z
  have M:=zc I
  have J:=zc A
  clear z I A p0 p1 p2 p3 p4 p5 pf
  go_wp2
  refine bodyPost_ret (results_none rfl _ _ _) rfl ?_
  exact⟨rfl,L.out,M.out,J.out⟩
 |true=>
  have U:Hid ((t++(zr++prX c.m.ex i++za8)).size≤140737488355328):=j
  clear j
  go_enter Tryz.func221,Tryz.ntmps221
  go_wp2_with fail
  refine (zbL c t [zr] w HP.out (by have:=U.out;simp only[zv,List.foldl_cons,List.foldl_nil,ByteArray.size_append] at this ⊢;omega) (by simp)).mono ?_
  rintro e w1 ⟨rfl,z,I,A⟩
  have L:=zc z
  have M:=zc I
  have J:=zc A
  clear z I A p0 p1 p2 p3 p4 p5 pf
  go_wp2_with fail
  refine (OK.out _ w1 L.out (by have:=U.out;simp only[zv,List.foldl_cons,List.foldl_nil,ByteArray.size_append] at this ⊢;omega)).mono ?_
  rintro e w2 ⟨rfl,O,V,N⟩
  have Y:=zc O
  have ad:=zc (M.out.trans V)
  have ac:=zc (J.out.trans N)
  clear O V N
  obtain⟨p0,p1,p2,p3,p4,p5,pf⟩:=zy Y.out.2.2.1
  go_wp2_with fail
  refine (zbL c _ [za8] w2 Y.out (by have:=U.out;simp only[zv,List.foldl_cons,List.foldl_nil,ByteArray.size_append] at this ⊢;omega) (by simp)).mono ?_
  rintro e w3 ⟨rfl,H,Z,X⟩
  have ab:=zc H
  have aa:=zc (ad.out.trans Z)
  have ae:=zc (ac.out.trans X)
  clear H Z X p0 p1 p2 p3 p4 p5 pf
  go_wp2
  go_end0
  exact⟨rfl,(by have H:=ab.out;unfold zG;rw[if_pos rfl];simp only[zv,List.foldl_cons,List.foldl_nil,←ByteArray.append_assoc] at H ⊢;exact H),aa.out,ae.out⟩
def zaT (k:Int) (n:ByteArray):ByteArray:=
 if n.toList==[42,100,101,102,97,117,108,116] then ({data:=#[101,120,112,111,114,116,32]}:ByteArray)++({data:=#[100,101,102,97,117,108,116]}:ByteArray)++({data:=#[32]}:ByteArray)
 else if k==1 then ({data:=#[108,101,116,32]}:ByteArray)++n++({data:=#[32,61,32]}:ByteArray)
 else if k==2 then ({data:=#[102,117,110,99,116,105,111,110,32]}:ByteArray)++n++({data:=#[40,41,32,123,32,114,101,116,117,114,110,32]}:ByteArray)
 else if k==3 then n++({data:=#[32,61,32]}:ByteArray)
 else if k==4 then ({data:=#[112,114,105,110,116,40]}:ByteArray)
 else if k==5 then ({data:=#[116,104,114,111,119,32]}:ByteArray)
 else ({data:=#[102,97,105,108,32]}:ByteArray)
def zaP (k:Int) (n:ByteArray):ByteArray:=
 if n.toList==[42,100,101,102,97,117,108,116] then ({data:=#[59]}:ByteArray) else if k==2 then ({data:=#[59,32,125]}:ByteArray) else if k==4 then ({data:=#[41,59]}:ByteArray) else ({data:=#[59]}:ByteArray)
theorem zkF {k:Int} {n:ByteArray} (e:(n.toList==[42,100,101,102,97,117,108,116])=true):zaT k n=({data:=#[101,120,112,111,114,116,32]}:ByteArray)++({data:=#[100,101,102,97,117,108,116]}:ByteArray)++({data:=#[32]}:ByteArray):=by rw[zaT,e];rfl
theorem zkG {k:Int} {n:ByteArray} (e:(n.toList==[42,100,101,102,97,117,108,116])=true):zaP k n=({data:=#[59]}:ByteArray):=by rw[zaP,e];rfl
theorem zkH {k:Int} {n:ByteArray} (e:(n.toList==[42,100,101,102,97,117,108,116])=false) (h:(k==1)=true):zaT k n=({data:=#[108,101,116,32]}:ByteArray)++n++({data:=#[32,61,32]}:ByteArray):=by rw[zaT,e,h];rfl
theorem zkI {k:Int} {n:ByteArray} (e:(n.toList==[42,100,101,102,97,117,108,116])=false) (h:(k==1)=true):zaP k n=({data:=#[59]}:ByteArray):=by have q:=eq_of_beq h;subst q;rw[zaP,e];rfl
theorem zkJ {k:Int} {n:ByteArray} (e:(n.toList==[42,100,101,102,97,117,108,116])=false) (j:(k==1)=false) (h:(k==2)=true):zaT k n=({data:=#[102,117,110,99,116,105,111,110,32]}:ByteArray)++n++({data:=#[40,41,32,123,32,114,101,116,117,114,110,32]}:ByteArray):=by rw[zaT,e,j,h];rfl
theorem zkK {k:Int} {n:ByteArray} (e:(n.toList==[42,100,101,102,97,117,108,116])=false) (h:(k==2)=true):zaP k n=({data:=#[59,32,125]}:ByteArray):=by rw[zaP,e,h];rfl
theorem zkL {k:Int} {n:ByteArray} (e:(n.toList==[42,100,101,102,97,117,108,116])=false) (w:(k==1)=false) (j:(k==2)=false) (h:(k==3)=true):zaT k n=n++({data:=#[32,61,32]}:ByteArray):=by rw[zaT,e,w,j,h];rfl
theorem zkM {k:Int} {n:ByteArray} (e:(n.toList==[42,100,101,102,97,117,108,116])=false) (h:(k==3)=true):zaP k n=({data:=#[59]}:ByteArray):=by have q:=eq_of_beq h;subst q;rw[zaP,e];rfl
theorem zkN {k:Int} {n:ByteArray} (e:(n.toList==[42,100,101,102,97,117,108,116])=false) (z:(k==1)=false) (j:(k==2)=false) (h:(k==3)=false) (w:(k==4)=true):zaT k n=({data:=#[112,114,105,110,116,40]}:ByteArray):=by rw[zaT,e,z,j,h,w];rfl
theorem zkO {k:Int} {n:ByteArray} (e:(n.toList==[42,100,101,102,97,117,108,116])=false) (h:(k==2)=false) (j:(k==4)=true):zaP k n=({data:=#[41,59]}:ByteArray):=by rw[zaP,e,h,j];rfl
theorem zkP {k:Int} {n:ByteArray} (e:(n.toList==[42,100,101,102,97,117,108,116])=false) (j:(k==1)=false) (A:(k==2)=false) (w:(k==3)=false) (z:(k==4)=false) (h:(k==5)=true):zaT k n=({data:=#[116,104,114,111,119,32]}:ByteArray):=by rw[zaT,e,j,A,w,z,h];rfl
theorem zkQ {k:Int} {n:ByteArray} (e:(n.toList==[42,100,101,102,97,117,108,116])=false) (h:(k==2)=false) (j:(k==4)=false):zaP k n=({data:=#[59]}:ByteArray):=by rw[zaP,e,h,j];rfl
theorem zkR {k:Int} {n:ByteArray} (e:(n.toList==[42,100,101,102,97,117,108,116])=false) (j:(k==1)=false) (A:(k==2)=false) (w:(k==3)=false) (z:(k==4)=false) (h:(k==5)=false):zaT k n=({data:=#[102,97,105,108,32]}:ByteArray):=by rw[zaT,e,j,A,w,z,h];rfl
theorem zkS {k:Int} {n:ByteArray} (e:(n.toList==[42,100,101,102,97,117,108,116])=false) (h:(k==2)=false) (j:(k==4)=false):zaP k n=({data:=#[59]}:ByteArray):=by rw[zaP,e,h,j];rfl
theorem zkT (k:Int) (n e:ByteArray):zdk k n e=zaT k n++e++zaP k n++({data:=#[10]}:ByteArray):=by
 have L:({data:=#[59,10]}:ByteArray)=({data:=#[59]}:ByteArray)++({data:=#[10]}:ByteArray):=zcg #[59] #[10]
 have J:({data:=#[59,32,125,10]}:ByteArray)=({data:=#[59,32,125]}:ByteArray)++({data:=#[10]}:ByteArray):=zcg #[59,32,125] #[10]
 have N:({data:=#[41,59,10]}:ByteArray)=({data:=#[41,59]}:ByteArray)++({data:=#[10]}:ByteArray):=zcg #[41,59] #[10]
 have I:({data:=#[101,120,112,111,114,116,32,100,101,102,97,117,108,116,32]}:ByteArray)=({data:=#[101,120,112,111,114,116,32,100,101,102,97,117,108,116]}:ByteArray)++({data:=#[32]}:ByteArray):=zcg #[101,120,112,111,114,116,32,100,101,102,97,117,108,116] #[32]
 have M:({data:=#[101,120,112,111,114,116,32,100,101,102,97,117,108,116]}:ByteArray)=({data:=#[101,120,112,111,114,116,32]}:ByteArray)++({data:=#[100,101,102,97,117,108,116]}:ByteArray):=zcg #[101,120,112,111,114,116,32] #[100,101,102,97,117,108,116]
 unfold zdk za7
 rw[L,J,N,I,M]
 cases h:(n.toList==[42,100,101,102,97,117,108,116]) with
 |true=>rw[zkF h,zkG h];simp only[↓reduceIte,ByteArray.append_assoc]
 |false=>
  cases w:(k==1) with
  |true=>rw[zkH h w,zkI h w];simp only[↓reduceIte,Bool.false_eq_true,ByteArray.append_assoc]
  |false=>
   cases j:(k==2) with
   |true=>rw[zkJ h w j,zkK h j];simp only[↓reduceIte,Bool.false_eq_true,ByteArray.append_assoc]
   |false=>
    cases A:(k==3) with
    |true=>rw[zkL h w j A,zkM h A];simp only[↓reduceIte,Bool.false_eq_true,ByteArray.append_assoc]
    |false=>
     cases z:(k==4) with
     |true=>rw[zkN h w j A z,zkO h j z];simp only[↓reduceIte,Bool.false_eq_true,ByteArray.append_assoc]
     |false=>
      cases H:(k==5) with
      |true=>rw[zkP h w j A z H,zkQ h j z];simp only[↓reduceIte,Bool.false_eq_true,ByteArray.append_assoc]
      |false=>
       rw[zkR h w j A z H,zkS h j z];simp only[↓reduceIte,Bool.false_eq_true,ByteArray.append_assoc]
theorem zsw (k:Int) (n e:ByteArray):(zdk k n e).size=(zaT k n).size+e.size+(zaP k n).size+1:=by
 rw[zkT,ByteArray.size_append,ByteArray.size_append,ByteArray.size_append]
 rfl
theorem zsx (c:PC) (t:ByteArray) (k:Int) (n:ByteArray) (i:Nat) (w:World) (ok:zc5 c i) (h:PP c t w) (U:(t++zdk k n (prX c.m.ex i)).size≤140737488355328):
  Calls Tryz.prog 174 #[.pointer (some ⟨c.gp,0,none⟩),.agg #[.int .i64 k,.string n,.int .i64 (i:Int)]] w (PO c (t++zdk k n (prX c.m.ex i)) w):=by
 have HP:=zc h
 have OK:=zc ok
 have Y:Hid (t.size+((zaT k n).size+(prX c.m.ex i).size+(zaP k n).size+1)≤140737488355328):=by show _≤_;rw[ByteArray.size_append,zsw] at U;exact U
 clear h U ok
 go_enter Tryz.func174,Tryz.ntmps174
 go_upto_region 1 with fail
 have HW:Hid (Below w.heap.size w (w.alloc (.cells #[.int .i64 k,.string n,.int .i64 (i:Int)] 107))):=(Below.refl _ _).alloc (Nat.le_refl _) _
 refine zV (R:=fun W=>W.heap[w.heap.size]? =some (.cells #[.int .i64 k,.string n,.int .i64 (i:Int)] 107 (0,0))∧PP c t W∧Below c.B w W∧KeepB c.b w W) ⟨heap_alloc_new w _,HP.out.later HW.out,HW.out.mono HP.out.1.2,KeepB.of_below HW.out⟩ ?_
 obtain⟨gx,aa⟩: ∃gx,gx=w.heap.size:=⟨_,rfl⟩
 have ai:gx≠c.b:=by
  rw[aa]
  obtain⟨aw,hc⟩:=zcf HP.out.1.1
  have:=(Array.getElem?_eq_some_iff.1 hc).1
  omega
 rw[←aa]
 rintro V ⟨hx,hp,hb,hk⟩
 clear aa HW
 have X1:=zc hx
 have J:=zc hp
 have ao:=zc hb
 have al:=zc hk
 clear hx hp hb hk
 obtain⟨x0,x1,x2,xf⟩:=zbK X1.out
 obtain⟨p0,p1,p2,p3,p4,p5,pf⟩:=zy J.out.2.2.1
 have av:=(Array.getElem?_eq_some_iff.1 J.out.2.2.1).1
 have ah:=(Array.getElem?_eq_some_iff.1 X1.out).1
 go_upto_block 0 with fail
 go_cut [4] from 5 to 76 (fun s4 wx=>s4= .string (zaP k n)∧PP c (t++zaT k n) wx∧Below c.B V wx∧KeepB c.b V wx)
 case first=>
  cases L:(n.toList==[42,100,101,102,97,117,108,116]) with
  |true=>
   have I:Hid (zaT k n=({data:=#[101,120,112,111,114,116,32]}:ByteArray)++({data:=#[100,101,102,97,117,108,116]}:ByteArray)++({data:=#[32]}:ByteArray)):=zkF L
   have N:Hid (zaP k n=({data:=#[59]}:ByteArray)):=zkG L
   have M:Hid ((zv t [{data:=#[101,120,112,111,114,116,32]},{data:=#[100,101,102,97,117,108,116]},{data:=#[32]}]).size≤140737488355328):=by show _≤_;have:=Y.out;rw[I.out] at this;simp only[zv,List.foldl_cons,List.foldl_nil,ByteArray.size_append] at this ⊢;omega
   go_wp2_with fail
   refine (zbL c t [{data:=#[101,120,112,111,114,116,32]},{data:=#[100,101,102,97,117,108,116]},{data:=#[32]}] V J.out M.out (by simp)).mono ?_
   rintro e w2 ⟨rfl,j,H,A⟩
   go_wp2_with fail
   go_meet
   exact⟨by rw[N.out],by rw[I.out];simp only[zv,List.foldl_cons,List.foldl_nil,←ByteArray.append_assoc] at j ⊢;exact j,H,A⟩
  |false=>
   cases Z:(k==1) with
   |true=>
    have I:Hid (zaT k n=({data:=#[108,101,116,32]}:ByteArray)++n++({data:=#[32,61,32]}:ByteArray)):=zkH L Z
    have N:Hid (zaP k n=({data:=#[59]}:ByteArray)):=zkI L Z
    have M:Hid ((zv t [{data:=#[108,101,116,32]},n,{data:=#[32,61,32]}]).size≤140737488355328):=by show _≤_;have:=Y.out;rw[I.out] at this;simp only[zv,List.foldl_cons,List.foldl_nil,ByteArray.size_append] at this ⊢;omega
    go_wp2_with fail
    go_region_with (go_at_call 122;refine (zc2 c t [{data:=#[108,101,116,32]},n,{data:=#[32,61,32]}] V J.out M.out (by simp)).mono ?_;rintro e w2 ⟨rfl,j,H,A⟩)
    all_goals (go_wp2_with fail;go_meet;exact⟨by rw[N.out],by rw[I.out];simp only[zv,List.foldl_cons,List.foldl_nil,←ByteArray.append_assoc] at j ⊢;exact j,H,A⟩)
   |false=>
    cases X:(k==2) with
    |true=>
     have I:Hid (zaT k n=({data:=#[102,117,110,99,116,105,111,110,32]}:ByteArray)++n++({data:=#[40,41,32,123,32,114,101,116,117,114,110,32]}:ByteArray)):=zkJ L Z X
     have N:Hid (zaP k n=({data:=#[59,32,125]}:ByteArray)):=zkK L X
     have M:Hid ((zv t [{data:=#[102,117,110,99,116,105,111,110,32]},n,{data:=#[40,41,32,123,32,114,101,116,117,114,110,32]}]).size≤140737488355328):=by show _≤_;have:=Y.out;rw[I.out] at this;simp only[zv,List.foldl_cons,List.foldl_nil,ByteArray.size_append] at this ⊢;omega
     go_wp2_with fail
     go_region_with (go_at_call 122;refine (zc2 c t [{data:=#[102,117,110,99,116,105,111,110,32]},n,{data:=#[40,41,32,123,32,114,101,116,117,114,110,32]}] V J.out M.out (by simp)).mono ?_;rintro e w2 ⟨rfl,j,H,A⟩)
     all_goals (go_wp2_with fail;go_meet;exact⟨by rw[N.out],by rw[I.out];simp only[zv,List.foldl_cons,List.foldl_nil,←ByteArray.append_assoc] at j ⊢;exact j,H,A⟩)
    |false=>
     cases h3:(k==3) with
     |true=>
      have I:Hid (zaT k n=n++({data:=#[32,61,32]}:ByteArray)):=zkL L Z X h3
      have N:Hid (zaP k n=({data:=#[59]}:ByteArray)):=zkM L h3
      have M:Hid ((zv t [n,{data:=#[32,61,32]}]).size≤140737488355328):=by show _≤_;have:=Y.out;rw[I.out] at this;simp only[zv,List.foldl_cons,List.foldl_nil,ByteArray.size_append] at this ⊢;omega
      go_wp2_with fail
      go_region_with (go_at_call 122;refine (zc2 c t [n,{data:=#[32,61,32]}] V J.out M.out (by simp)).mono ?_;rintro e w2 ⟨rfl,j,H,A⟩)
      all_goals (go_wp2_with fail;go_meet;exact⟨by rw[N.out],by rw[I.out];simp only[zv,List.foldl_cons,List.foldl_nil,←ByteArray.append_assoc] at j ⊢;exact j,H,A⟩)
     |false=>
      cases h4:(k==4) with
      |true=>
       have I:Hid (zaT k n=({data:=#[112,114,105,110,116,40]}:ByteArray)):=zkN L Z X h3 h4
       have N:Hid (zaP k n=({data:=#[41,59]}:ByteArray)):=zkO L X h4
       have M:Hid ((zv t [{data:=#[112,114,105,110,116,40]}]).size≤140737488355328):=by show _≤_;have:=Y.out;rw[I.out] at this;simp only[zv,List.foldl_cons,List.foldl_nil,ByteArray.size_append] at this ⊢;omega
       go_wp2_with fail
       refine (zbL c t [{data:=#[112,114,105,110,116,40]}] V J.out M.out (by simp)).mono ?_
       rintro e w2 ⟨rfl,j,H,A⟩
       go_wp2_with fail
       go_meet
       exact⟨by rw[N.out],by rw[I.out];exact j,H,A⟩
      |false=>
       cases h5:(k==5) with
       |true=>
        have I:Hid (zaT k n=({data:=#[116,104,114,111,119,32]}:ByteArray)):=zkP L Z X h3 h4 h5
        have N:Hid (zaP k n=({data:=#[59]}:ByteArray)):=zkQ L X h4
        have M:Hid ((zv t [{data:=#[116,104,114,111,119,32]}]).size≤140737488355328):=by show _≤_;have:=Y.out;rw[I.out] at this;simp only[zv,List.foldl_cons,List.foldl_nil,ByteArray.size_append] at this ⊢;omega
        go_wp2_with fail
        refine (zbL c t [{data:=#[116,104,114,111,119,32]}] V J.out M.out (by simp)).mono ?_
        rintro e w2 ⟨rfl,j,H,A⟩
        go_wp2_with fail
        go_meet
        exact⟨by rw[N.out],by rw[I.out];exact j,H,A⟩
       |false=>
        have I:Hid (zaT k n=({data:=#[102,97,105,108,32]}:ByteArray)):=zkR L Z X h3 h4 h5
        have N:Hid (zaP k n=({data:=#[59]}:ByteArray)):=zkS L X h4
        have M:Hid ((zv t [{data:=#[102,97,105,108,32]}]).size≤140737488355328):=by show _≤_;have:=Y.out;rw[I.out] at this;simp only[zv,List.foldl_cons,List.foldl_nil,ByteArray.size_append] at this ⊢;omega
        go_wp2_with fail
        refine (zbL c t [{data:=#[102,97,105,108,32]}] V J.out M.out (by simp)).mono ?_
        rintro e w2 ⟨rfl,j,H,A⟩
        go_wp2_with fail
        go_meet
        exact⟨by rw[N.out],by rw[I.out];exact j,H,A⟩
 case rest=>
 rename_i s4 w2
 obtain⟨rfl,j,H,A⟩:=hcut
 have ar:=zc j
 have ap:=zc (ao.out.trans H)
 have an:=zc (al.out.trans A)
 have X2:=zc ((A _ _ _ _ X1.out ai (by decide)).trans X1.out)
 clear j H A p0 p1 p2 p3 p4 p5 pf x0 x1 x2 xf av ah
 obtain⟨x0,x1,x2,xf⟩:=zbK X2.out
 go_wp2_with fail
 refine (OK.out _ _ ar.out (by have:=Y.out;simp only[ByteArray.size_append] at this ⊢;omega)).mono ?_
 rintro e w3 ⟨rfl,O,ag,ae⟩
 have ab:=zc O
 have aj:=zc (ap.out.trans ag)
 have au:=zc (an.out.trans ae)
 clear O ag ae x0 x1 x2 xf
 obtain⟨p0,p1,p2,p3,p4,p5,pf⟩:=zy ab.out.2.2.1
 go_wp2_with fail
 refine (zbL c _ [zaP k n,{data:=#[10]}] _ ab.out (by have:=Y.out;have z:(({data:=#[10]}:ByteArray)).size=1:=rfl;simp only[zv,List.foldl_cons,List.foldl_nil,ByteArray.size_append,z] at this ⊢;omega) (by simp)).mono ?_
 rintro e w4 ⟨rfl,ad,af,ac⟩
 have am:=zc ad
 have aq:=zc (aj.out.trans af)
 have ak:=zc (au.out.trans ac)
 clear ad af ac p0 p1 p2 p3 p4 p5 pf
 go_wp2
 go_end0
 exact⟨rfl,(by have O:=am.out;rw[zkT];simp only[zv,List.foldl_cons,List.foldl_nil,←ByteArray.append_assoc] at O ⊢;exact O),aq.out,ak.out⟩
theorem zgB {α:Type} {l:List α} {j:Nat} (h:j<l.length): ∃x,l[j]? =some x:=⟨_,List.getElem?_eq_getElem h⟩
theorem zsy (l:List ByteArray):l.map Value.string=l.flatMap (fun x=>[Value.string x]):=by
 induction l with
 |nil=>rfl
 |cons x l h=>rw[List.map_cons,List.flatMap_cons,h];rfl
theorem zsz (t:ByteArray):t++sNone=t:=by
 cases t with
 |mk d=>
  show ByteArray.append _ _=_
  simp[ByteArray.append]
theorem zkU (m:Md):(acc epF m.ep (acc zad m.im (acc rqT m.rq sNone))).size≤(zbr m).size:=zdV _ _ _
theorem zkV (m:Md):(acc zad m.im (acc rqT m.rq sNone)).size≤(zbr m).size:=Nat.le_trans (zdV _ _ _) (zkU m)
theorem zs0 (m:Md):(acc rqT m.rq sNone).size≤(zbr m).size:=Nat.le_trans (zdV _ _ _) (zkV m)
theorem zkW (s:ByteArray):rqT s=({data:=#[105,109,112,111,114,116,32]}:ByteArray)++za0 s++({data:=#[59]}:ByteArray)++({data:=#[10]}:ByteArray):=by
 have h:({data:=#[59,10]}:ByteArray)={data:=#[59]}++{data:=#[10]}:=zcg #[59] #[10]
 rw[rqT,h]
 simp only[ByteArray.append_assoc]
theorem zkX {x:Ep} (h:(x.loc.toList==[42,100,101,102,97,117,108,116])=false):epF x=zbq x:=by rw[epF,h];rfl
theorem zs1 {x:Ep} (h:(x.loc.toList==[42,100,101,102,97,117,108,116])=true):epF x=sNone:=by rw[epF,h];rfl
theorem zs2 (c:PC) (w:World) (ok: ∀i,i<c.m.ex.length→zc5 c i) (hs: ∀s∈c.m.st,0≤s.expr∧s.expr<(c.m.ex.length:Int)) (hm:Small c.m) (h:PP c sNone w) (ah:(zbr c.m).size≤140737488355328):
  Calls Tryz.prog 124 #[.pointer (some ⟨c.gp,0,none⟩)] w (PO c (zbr c.m) w):=by
 have aj:=zc h
 have SM:=zc hm
 have OK:=zc ok
 have HS:=zc hs
 have HL:=zc ah
 obtain⟨f1,f2,f3,f4,f5⟩:=hm.few
 clear h hm ok hs ah
 obtain⟨p0,p1,p2,p3,p4,p5,pf⟩:=zy aj.out.2.2.1
 go_enter Tryz.func124,Tryz.ntmps124
 go_wp2
 go_loopg [16] c.m.rq.length (fun k i wr=>∃j:Nat,i= .int .i64 j∧j+k=c.m.rq.length∧PP c (acc rqT (c.m.rq.take j) sNone) wr∧Below c.B w wr∧KeepB c.b w wr)
 case atStart=>exact⟨0,rfl,by omega,aj.out,Below.refl _ _,fun _ _ _ _ _ _ _=>rfl⟩
 case round=>
  obtain⟨j,rfl,hj,X,U,V⟩:=hrel
  have A:=zc X
  have L:=zc U
  have J:=zc V
  clear X U V p0 p1 p2 p3 p4 p5 pf
  obtain⟨p0,p1,p2,p3,p4,p5,pf⟩:=zy A.out.2.2.1
  by_cases ac:j<c.m.rq.length
  ·have N:(j:Int)<(c.m.rq.length:Int):=by omega
   obtain⟨x,z⟩:=zgB ac
   have I:=List.mem_of_getElem? z
   have HZ:Hid ((acc rqT (c.m.rq.take j) sNone++rqT x).size≤140737488355328):=by show _≤_;rw[←zcy rqT z];exact Nat.le_trans (zdC rqT c.m.rq (j+1) sNone) (Nat.le_trans (zs0 c.m) HL.out)
   have HX:=zc z
   obtain⟨O,M⟩: ∃O,O=j+1:=⟨_,rfl⟩
   have ej:(j:Int)+1=(O:Int):=by omega
   have HJ:=zc M
   clear M
   obtain⟨g,hg,k0⟩: ∃g,c.S.rq.a=some ⟨g,0,none⟩∧wr.cell? ⟨g,j,none⟩=some (.string x):=by
    obtain⟨g,hg,hc⟩:=OwnR.elem (f:=fun x=>[Value.string x]) (m:=1) (fun _=>rfl) (show OwnR wr c.base 9 1 c.S.rq c.m.rq.length (c.m.rq.flatMap fun x=>[Value.string x]) by rw[←zsy];exact A.out.2.1.rq) z
    have k0:=hc 0 (by omega)
    simp only[Nat.mul_one,Nat.add_zero,List.getElem?_cons_zero] at k0
    exact⟨g,hg,k0⟩
   have al:=SM.out.rq x I
   have HG:Hid (Value.slice c.S.rq.a c.m.rq.length c.S.rq.cap=Value.slice (some ⟨g,0,none⟩) c.m.rq.length c.S.rq.cap):=by show _=_;rw[hg]
   clear hg z I p0 p1 p2 p3 p4 p5 pf
   rw[HG.out]
   obtain⟨p0,p1,p2,p3,p4,p5,pf⟩:=zy A.out.2.2.1
   have an:=(Array.getElem?_eq_some_iff.1 A.out.2.2.1).1
   go_wp2_with fail
   go_region_with (first|(go_at_call 171;refine (zg9 x _ (by omega)).mono ?_;rintro e w' ⟨rfl,rfl⟩)|(go_at_call 122;refine (zc2 c _ [{data:=#[105,109,112,111,114,116,32]},za0 x,{data:=#[59]},{data:=#[10]}] wr A.out (by have:=HZ.out;rw[zkW] at this;simp only[zv,List.foldl_cons,List.foldl_nil,ByteArray.size_append] at this ⊢;omega) (by simp)).mono ?_;rintro e w3 ⟨rfl,ad,ak,am⟩))
   all_goals
    have ao:=zc ad
    have ap:=zc (L.out.trans ak)
    have ar:=zc (J.out.trans am)
    clear ad ak am p0 p1 p2 p3 p4 p5 pf an k0
    go_wp2
    rw[←HG.out]
    go_roundg (gk-1)
    case rel=>exact⟨O,rfl,by have:=HJ.out;omega,by rw[HJ.out,zcy rqT HX.out];exact (by have ad:=ao.out;rw[zkW];simp only[zv,List.foldl_cons,List.foldl_nil,←ByteArray.append_assoc] at ad ⊢;exact ad),ap.out,ar.out⟩
    case measure=>omega
  ·have N: ¬(j:Int)<(c.m.rq.length:Int):=by omega
   obtain rfl:j=c.m.rq.length:=by omega
   have HN:Hid (PP c (acc zad (c.m.im.take 0) (acc rqT c.m.rq sNone)) wr):=by have:=A.out;rw[List.take_length] at this;exact this
   go_wp2
   go_loopg [35] c.m.im.length (fun k i wr=>∃j:Nat,i= .int .i64 j∧j+k=c.m.im.length∧PP c (acc zad (c.m.im.take j) (acc rqT c.m.rq sNone)) wr∧Below c.B w wr∧KeepB c.b w wr)
   case atStart=>exact⟨0,rfl,by omega,HN.out,L.out,J.out⟩
   case round=>
    obtain⟨j,rfl,hj,X,U,V⟩:=hrel
    clear A L J HN
    have A:=zc X
    have L:=zc U
    have J:=zc V
    clear X U V p0 p1 p2 p3 p4 p5 pf
    obtain⟨p0,p1,p2,p3,p4,p5,pf⟩:=zy A.out.2.2.1
    by_cases ac:j<c.m.im.length
    ·have N:(j:Int)<(c.m.im.length:Int):=by omega
     obtain⟨x,z⟩:=zgB ac
     have I:=List.mem_of_getElem? z
     have HZ:Hid ((acc zad (c.m.im.take j) (acc rqT c.m.rq sNone)++zad x).size≤140737488355328):=by show _≤_;rw[←zcy zad z];exact Nat.le_trans (zdC zad c.m.im (j+1) (acc rqT c.m.rq sNone)) (Nat.le_trans (zkV c.m) HL.out)
     have HX:=zc z
     obtain⟨O,M⟩: ∃O,O=j+1:=⟨_,rfl⟩
     have ej:(j:Int)+1=(O:Int):=by omega
     have HJ:=zc M
     clear M
     obtain⟨g,hg,H⟩:=OwnR.elem (f:=imL) (m:=3) (fun _=>rfl) A.out.2.1.im z
     have k0:=H 0 (by omega)
     have k1:=H 1 (by omega)
     have k2:=H 2 (by omega)
     simp only[imL,Nat.add_zero,List.getElem?_cons_zero,List.getElem?_cons_succ] at k0 k1 k2
     clear H
     have al:=(SM.out.im x I).1
     have HG:Hid (Value.slice c.S.im.a c.m.im.length c.S.im.cap=Value.slice (some ⟨g,0,none⟩) c.m.im.length c.S.im.cap):=by show _=_;rw[hg]
     clear hg z I p0 p1 p2 p3 p4 p5 pf
     rw[HG.out]
     go_upto_region 8 with fail
     have HW:Hid (Below wr.heap.size wr (wr.alloc (.cells #[.string x.spec,.string x.first,.string x.loc] 84))):=(Below.refl _ _).alloc (Nat.le_refl _) _
     refine zV (R:=fun W=>W.heap[wr.heap.size]? =some (.cells #[.string x.spec,.string x.first,.string x.loc] 84 (0,0))∧PP c (acc zad (c.m.im.take j) (acc rqT c.m.rq sNone)) W∧Below c.B w W∧KeepB c.b w W) ⟨heap_alloc_new wr _,A.out.later HW.out,L.out.trans (HW.out.mono A.out.1.2),J.out.trans (KeepB.of_below HW.out)⟩ ?_
     obtain⟨gx,Y⟩: ∃gx,gx=wr.heap.size:=⟨_,rfl⟩
     rw[←Y]
     clear k0 k1 k2 HW
     rintro W ⟨xb,X,U,V⟩
     clear Y A L J
     have XB:=zc xb
     have A:=zc X
     have L:=zc U
     have J:=zc V
     clear xb X U V
     obtain⟨x0,x1,x2,xf⟩:=zbK XB.out
     go_wp2_with fail
     refine (zsq c _ x W A.out HZ.out (by omega)).mono ?_
     rintro e W2 ⟨rfl,ab,aa,Z⟩
     have ae:=zc ab
     have af:=zc (L.out.trans aa)
     have ag:=zc (J.out.trans Z)
     clear ab aa Z x0 x1 x2 xf
     go_wp2
     rw[←HG.out]
     go_roundg (gk-1)
     case rel=>exact⟨O,rfl,by have:=HJ.out;omega,by rw[HJ.out,zcy zad HX.out];exact ae.out,af.out,ag.out⟩
     case measure=>omega
    ·have N: ¬(j:Int)<(c.m.im.length:Int):=by omega
     obtain rfl:j=c.m.im.length:=by omega
     have HN:Hid (PP c (acc epF (c.m.ep.take 0) (acc zad c.m.im (acc rqT c.m.rq sNone))) wr):=by have:=A.out;rw[List.take_length] at this;exact this
     go_wp2
     go_loopg [49] c.m.ep.length (fun k i wr=>∃j:Nat,i= .int .i64 j∧j+k=c.m.ep.length∧PP c (acc epF (c.m.ep.take j) (acc zad c.m.im (acc rqT c.m.rq sNone))) wr∧Below c.B w wr∧KeepB c.b w wr)
     case atStart=>exact⟨0,rfl,by omega,HN.out,L.out,J.out⟩
     case round=>
      obtain⟨j,rfl,hj,X,U,V⟩:=hrel
      clear A L J HN
      have A:=zc X
      have L:=zc U
      have J:=zc V
      clear X U V p0 p1 p2 p3 p4 p5 pf
      obtain⟨p0,p1,p2,p3,p4,p5,pf⟩:=zy A.out.2.2.1
      by_cases ac:j<c.m.ep.length
      ·have N:(j:Int)<(c.m.ep.length:Int):=by omega
       obtain⟨x,z⟩:=zgB ac
       have I:=List.mem_of_getElem? z
       have HZ:Hid ((acc epF (c.m.ep.take j) (acc zad c.m.im (acc rqT c.m.rq sNone))++epF x).size≤140737488355328):=by show _≤_;rw[←zcy epF z];exact Nat.le_trans (zdC epF c.m.ep (j+1) (acc zad c.m.im (acc rqT c.m.rq sNone))) (Nat.le_trans (zkU c.m) HL.out)
       have HX:=zc z
       obtain⟨O,M⟩: ∃O,O=j+1:=⟨_,rfl⟩
       have ej:(j:Int)+1=(O:Int):=by omega
       have HJ:=zc M
       clear M
       obtain⟨g,hg,H⟩:=OwnR.elem (f:=epL) (m:=4) (fun _=>rfl) A.out.2.1.ep z
       have k0:=H 0 (by omega)
       have k1:=H 1 (by omega)
       have k2:=H 2 (by omega)
       have k3:=H 3 (by omega)
       simp only[epL,Nat.add_zero,List.getElem?_cons_zero,List.getElem?_cons_succ] at k0 k1 k2 k3
       clear H
       have al:=(SM.out.ep x I).1
       have HG:Hid (Value.slice c.S.ep.a c.m.ep.length c.S.ep.cap=Value.slice (some ⟨g,0,none⟩) c.m.ep.length c.S.ep.cap):=by show _=_;rw[hg]
       clear hg z I p0 p1 p2 p3 p4 p5 pf
       rw[HG.out]
       go_upto_region 13 with fail
       have HW:Hid (Below wr.heap.size wr (wr.alloc (.cells #[.int .i64 x.kind,.string x.name,.string x.loc,.string x.spec] 86))):=(Below.refl _ _).alloc (Nat.le_refl _) _
       refine zV (R:=fun W=>W.heap[wr.heap.size]? =some (.cells #[.int .i64 x.kind,.string x.name,.string x.loc,.string x.spec] 86 (0,0))∧PP c (acc epF (c.m.ep.take j) (acc zad c.m.im (acc rqT c.m.rq sNone))) W∧Below c.B w W∧KeepB c.b w W) ⟨heap_alloc_new wr _,A.out.later HW.out,L.out.trans (HW.out.mono A.out.1.2),J.out.trans (KeepB.of_below HW.out)⟩ ?_
       obtain⟨gx,Y⟩: ∃gx,gx=wr.heap.size:=⟨_,rfl⟩
       rw[←Y]
       clear k0 k1 k2 k3 HW
       rintro W ⟨xb,X,U,V⟩
       clear Y A L J
       have XB:=zc xb
       have A:=zc X
       have L:=zc U
       have J:=zc V
       clear xb X U V
       obtain⟨x0,x1,x2,x3,xf⟩:=zd9 XB.out
       cases e1:(x.loc.toList==[42,100,101,102,97,117,108,116]) with
       |false=>
        go_wp2_with fail
        refine (zsv c _ x W A.out (by have:=HZ.out;rw[zkX e1] at this;exact this) (by omega)).mono ?_
        rintro e W2 ⟨rfl,ab,aa,Z⟩
        have ae:=zc ab
        have af:=zc (L.out.trans aa)
        have ag:=zc (J.out.trans Z)
        clear ab aa Z x0 x1 x2 x3 xf
        go_wp2
        rw[←HG.out]
        go_roundg (gk-1)
        case rel=>exact⟨O,rfl,by have:=HJ.out;omega,by rw[HJ.out,zcy epF HX.out];exact (by rw[zkX e1];exact ae.out),af.out,ag.out⟩
        case measure=>omega
       |true=>
        go_wp2
        rw[←HG.out]
        go_roundg (gk-1)
        case rel=>exact⟨O,rfl,by have:=HJ.out;omega,by rw[HJ.out,zcy epF HX.out];exact (by rw[zs1 e1,zsz];exact A.out),L.out,J.out⟩
        case measure=>omega
      ·have N: ¬(j:Int)<(c.m.ep.length:Int):=by omega
       obtain rfl:j=c.m.ep.length:=by omega
       have HN:Hid (PP c (acc (zcD c.m.ex) (c.m.st.take 0) (zce c.m)) wr):=by have:=A.out;rw[List.take_length] at this;exact this
       go_wp2
       go_loopg [66] c.m.st.length (fun k i wr=>∃j:Nat,i= .int .i64 j∧j+k=c.m.st.length∧PP c (acc (zcD c.m.ex) (c.m.st.take j) (zce c.m)) wr∧Below c.B w wr∧KeepB c.b w wr)
       case atStart=>exact⟨0,rfl,by omega,HN.out,L.out,J.out⟩
       case round=>
        obtain⟨j,rfl,hj,X,U,V⟩:=hrel
        clear A L J HN
        have A:=zc X
        have L:=zc U
        have J:=zc V
        clear X U V p0 p1 p2 p3 p4 p5 pf
        obtain⟨p0,p1,p2,p3,p4,p5,pf⟩:=zy A.out.2.2.1
        by_cases ac:j<c.m.st.length
        ·have N:(j:Int)<(c.m.st.length:Int):=by omega
         obtain⟨x,z⟩:=zgB ac
         have I:=List.mem_of_getElem? z
         have HZ:Hid ((acc (zcD c.m.ex) (c.m.st.take j) (zce c.m)++(zcD c.m.ex) x).size≤140737488355328):=by show _≤_;rw[←zcy (zcD c.m.ex) z];exact Nat.le_trans (zdC (zcD c.m.ex) c.m.st (j+1) (zce c.m)) HL.out
         have HX:=zc z
         obtain⟨O,M⟩: ∃O,O=j+1:=⟨_,rfl⟩
         have ej:(j:Int)+1=(O:Int):=by omega
         have HJ:=zc M
         clear M
         obtain⟨ei,ai⟩: ∃n:Nat,x.expr=(n:Int):=⟨x.expr.toNat,by have:=HS.out x I;omega⟩
         have aq:ei<c.m.ex.length:=by have:=HS.out x I;omega
         obtain⟨g,hg,H⟩:=OwnR.elem (f:=smL) (m:=3) (fun _=>rfl) A.out.2.1.st z
         have k0:=H 0 (by omega)
         have k1:=H 1 (by omega)
         have k2:=H 2 (by omega)
         simp only[smL,Nat.add_zero,List.getElem?_cons_zero,List.getElem?_cons_succ,ai] at k0 k1 k2
         clear H
         have HG:Hid (Value.slice c.S.st.a c.m.st.length c.S.st.cap=Value.slice (some ⟨g,0,none⟩) c.m.st.length c.S.st.cap):=by show _=_;rw[hg]
         clear hg z I p0 p1 p2 p3 p4 p5 pf
         rw[HG.out]
         go_upto_region 19 with fail
         have HW:Hid (Below wr.heap.size wr (wr.alloc (.cells #[.int .i64 x.kind,.string x.name,.int .i64 (ei:Int)] 107))):=(Below.refl _ _).alloc (Nat.le_refl _) _
         refine zV (R:=fun W=>W.heap[wr.heap.size]? =some (.cells #[.int .i64 x.kind,.string x.name,.int .i64 (ei:Int)] 107 (0,0))∧PP c (acc (zcD c.m.ex) (c.m.st.take j) (zce c.m)) W∧Below c.B w W∧KeepB c.b w W) ⟨heap_alloc_new wr _,A.out.later HW.out,L.out.trans (HW.out.mono A.out.1.2),J.out.trans (KeepB.of_below HW.out)⟩ ?_
         obtain⟨gx,Y⟩: ∃gx,gx=wr.heap.size:=⟨_,rfl⟩
         rw[←Y]
         clear k0 k1 k2 HW
         rintro W ⟨xb,X,U,V⟩
         clear Y A L J
         have XB:=zc xb
         have A:=zc X
         have L:=zc U
         have J:=zc V
         clear xb X U V
         obtain⟨x0,x1,x2,xf⟩:=zbK XB.out
         go_wp2_with fail
         refine (zsx c _ x.kind x.name ei W (OK.out ei aq) A.out (by have:=HZ.out;rw[zcD,ai,Int.toNat_natCast] at this;exact this)).mono ?_
         rintro e W2 ⟨rfl,ab,aa,Z⟩
         have ae:=zc ab
         have af:=zc (L.out.trans aa)
         have ag:=zc (J.out.trans Z)
         clear ab aa Z x0 x1 x2 xf
         go_wp2
         rw[←HG.out]
         go_roundg (gk-1)
         case rel=>exact⟨O,rfl,by have:=HJ.out;omega,by rw[HJ.out,zcy (zcD c.m.ex) HX.out];exact (by rw[zcD,ai,Int.toNat_natCast];exact ae.out),af.out,ag.out⟩
         case measure=>omega
        ·have N: ¬(j:Int)<(c.m.st.length:Int):=by omega
         obtain rfl:j=c.m.st.length:=by omega
         have HN:Hid (PP c (zbr c.m) wr):=by have:=A.out;rw[List.take_length] at this;exact this
         go_wp2
         go_end0
         exact⟨rfl,HN.out,L.out,J.out⟩
theorem zkY (c:PC) (t:ByteArray) (k U:Int) (H j sg:ByteArray) (l r:Nat) (w:World) (ad:zc5 c l) (ab:zc5 c r) (hr:r<c.m.ex.length) (h:PP c t w) (z:(t++(prX c.m.ex l++sg++zG (zP (c.m.ex.getD r zj).kind) (prX c.m.ex r))).size≤140737488355328):
  Calls Tryz.prog 220 #[.pointer (some ⟨c.gp,0,none⟩),.agg #[.int .i64 k,.int .i64 U,.string H,.string j,.int .i64 (l:Int),.int .i64 (r:Int)],.string sg] w (PO c (t++(prX c.m.ex l++sg++zG (zP (c.m.ex.getD r zj).kind) (prX c.m.ex r))) w):=by
 have HP:=zc h
 obtain⟨kk,O⟩: ∃kk,(c.m.ex.getD r zj).kind=kk:=⟨_,rfl⟩
 rw[O] at z ⊢
 have KK:=zc O
 have HL:Hid (t.size+((prX c.m.ex l).size+sg.size+(zG (zP kk) (prX c.m.ex r)).size)≤140737488355328):=by show _≤_;simp only[ByteArray.size_append] at z;exact z
 obtain⟨T,hT⟩: ∃T,T=prX c.m.ex l++sg++zG (zP kk) (prX c.m.ex r):=⟨_,rfl⟩
 rw[←hT]
 have HT:=zc hT
 have af:=zc ad
 have ae:=zc ab
 have HR:=zc hr
 clear h z ad ab hr O hT
 go_enter Tryz.func220,Tryz.ntmps220
 go_upto_region 1 with fail
 have HW:Hid (Below w.heap.size w (w.alloc (.cells #[.int .i64 k,.int .i64 U,.string H,.string j,.int .i64 (l:Int),.int .i64 (r:Int)] 109))):=(Below.refl _ _).alloc (Nat.le_refl _) _
 refine zV (R:=fun W=>W.heap[w.heap.size]? =some (.cells #[.int .i64 k,.int .i64 U,.string H,.string j,.int .i64 (l:Int),.int .i64 (r:Int)] 109 (0,0))∧PP c t W∧Below c.B w W∧KeepB c.b w W) ⟨heap_alloc_new w _,HP.out.later HW.out,HW.out.mono HP.out.1.2,KeepB.of_below HW.out⟩ ?_
 obtain⟨gx,Y⟩: ∃gx,gx=w.heap.size:=⟨_,rfl⟩
 have aa:gx≠c.b:=by
  rw[Y]
  obtain⟨am,hc⟩:=zcf HP.out.1.1
  have:=(Array.getElem?_eq_some_iff.1 hc).1
  omega
 rw[←Y]
 rintro w1 ⟨hx,I,J,A⟩
 clear Y HW
 have X1:=zc hx
 have V:=zc I
 have aj:=zc J
 have ah:=zc A
 clear hx I J A
 obtain⟨x0,x1,x2,x3,x4,x5,xf⟩:=zy X1.out
 obtain⟨p0,p1,p2,p3,p4,p5,pf⟩:=zy V.out.2.2.1
 have N:=(Array.getElem?_eq_some_iff.1 V.out.2.2.1).1
 have L:=(Array.getElem?_eq_some_iff.1 X1.out).1
 go_wp2_with fail
 refine (zgA c t l false w1 af.out V.out (by have:=HL.out;simp only[zG,Bool.false_eq_true,↓reduceIte,ByteArray.size_append] at this ⊢;omega)).mono ?_
 rintro e w2 ⟨rfl,I,J,A⟩
 have X:=zc I
 have ak:=zc (aj.out.trans J)
 have ai:=zc (ah.out.trans A)
 have X2:=zc ((A _ _ _ _ X1.out aa (by decide)).trans X1.out)
 clear I J A p0 p1 p2 p3 p4 p5 pf x0 x1 x2 x3 x4 x5 xf N L
 obtain⟨x0,x1,x2,x3,x4,x5,xf⟩:=zy X2.out
 obtain⟨p0,p1,p2,p3,p4,p5,pf⟩:=zy X.out.2.2.1
 have N:=(Array.getElem?_eq_some_iff.1 X.out.2.2.1).1
 have L:=(Array.getElem?_eq_some_iff.1 X2.out).1
 go_wp2_with fail
 refine (zbL c _ [sg] w2 X.out (by have:=HL.out;simp only[zv,zG,Bool.false_eq_true,↓reduceIte,List.foldl_cons,List.foldl_nil,ByteArray.size_append] at this ⊢;omega) (by simp)).mono ?_
 rintro e Z ⟨rfl,I,J,A⟩
 have M:=zc I
 have ag:=zc (ak.out.trans J)
 have al:=zc (ai.out.trans A)
 have X3:=zc ((A _ _ _ _ X2.out aa (by decide)).trans X2.out)
 clear I J A p0 p1 p2 p3 p4 p5 pf x0 x1 x2 x3 x4 x5 xf N L
 obtain⟨x0,x1,x2,x3,x4,x5,xf⟩:=zy X3.out
 obtain⟨p0,p1,p2,p3,p4,p5,pf⟩:=zy M.out.2.2.1
 have N:=(Array.getElem?_eq_some_iff.1 M.out.2.2.1).1
 have L:=(Array.getElem?_eq_some_iff.1 X3.out).1
 go_wp2_with fail
 have ac:=zc (M.out.later ((Below.refl Z.heap.size Z).drew))
 go_region_with (first|(go_at_call 222;refine (zhL c _ r _ ac.out HR.out).mono ?_;rintro e w' ⟨rfl,rfl⟩;rw[KK.out])|(go_at_call 197;refine (zf3 _ _).mono ?_;rintro e w' ⟨rfl,rfl⟩)|(go_at_call 221;refine (zgA c _ r (zP kk) _ ae.out ac.out (by have:=HL.out;simp only[zv,show ∀q,zG false q=q from fun _=>rfl,List.foldl_cons,List.foldl_nil,ByteArray.size_append] at this ⊢;omega)).mono ?_;rintro e w4 ⟨rfl,I,J,A⟩))
 all_goals (go_wp2;go_end0;exact⟨rfl,(by rw[HT.out];simp only[zv,show ∀q,zG false q=q from fun _=>rfl,List.foldl_cons,List.foldl_nil,←ByteArray.append_assoc] at I ⊢;exact I),ag.out.trans ((((Below.refl Z.heap.size Z).drew).mono M.out.1.2).trans J),al.out.trans ((KeepB.of_below ((Below.refl Z.heap.size Z).drew)).trans A)⟩)
theorem zs3 (c:PC) (t:ByteArray) (i:Nat) (j:Int) (A z:ByteArray) (l r:Int) (w:World) (h:PP c t w) (hi:i<c.m.ex.length) (U:c.m.ex.getD i zj=⟨1,j,A,z,l,r⟩) (hn: -9223372036854775808≤j∧j≤9223372036854775807) (H:(t++(strOfNums (zbU j))).size≤140737488355328):
  Calls Tryz.prog 201 #[.pointer (some ⟨c.gp,0,none⟩),.int .i64 (i:Int)] w (PO c (t++(strOfNums (zbU j))) w):=by
 have N:=zc h
 obtain⟨T,hT⟩: ∃T,T=strOfNums (zbU j):=⟨_,rfl⟩
 rw[←hT] at H ⊢
 have HT:=zc hT
 have HL:=zc H
 clear h H hT
 obtain⟨p0,p1,p2,p3,p4,p5,pf⟩:=zy N.out.2.2.1
 obtain⟨g,hg,V,X,x1,x2,Z,Y,x5⟩:=N.out.2.1.expr hi
 rw[U] at X x1 x2 Z Y x5
 dsimp only at X x1 x2 Z Y x5
 rw[hg] at p4
 have ab:(i:Int)<(c.m.ex.length:Int):=by omega
 clear hg U
 go_enter Tryz.func201,Tryz.ntmps201
 go_upto_region 1 with fail
 have HW:Hid (Below w.heap.size w (w.alloc (.cells #[.int .i64 1,.int .i64 j,.string A,.string z,.int .i64 l,.int .i64 r] 109))):=(Below.refl _ _).alloc (Nat.le_refl _) _
 refine zV (R:=fun W=>W.heap[w.heap.size]? =some (.cells #[.int .i64 1,.int .i64 j,.string A,.string z,.int .i64 l,.int .i64 r] 109 (0,0))∧PP c t W∧Below c.B w W∧KeepB c.b w W) ⟨heap_alloc_new w _,N.out.later HW.out,HW.out.mono N.out.1.2,KeepB.of_below HW.out⟩ ?_
 obtain⟨gx,M⟩: ∃gx,gx=w.heap.size:=⟨_,rfl⟩
 have ai:gx≠c.b:=by
  rw[M]
  obtain⟨aj,hc⟩:=zcf N.out.1.1
  have:=(Array.getElem?_eq_some_iff.1 hc).1
  omega
 rw[←M]
 rintro w1 ⟨U,hp,hb,hk⟩
 clear M HW V X x1 x2 Z Y x5 p0 p1 p2 p3 p4 p5 pf ab
 have X1:=zc U
 have I:=zc hp
 have ac:=zc hb
 have aa:=zc hk
 clear U hp hb hk
 obtain⟨X,x1,x2,Z,Y,x5,xf⟩:=zy X1.out
 obtain⟨p0,p1,p2,p3,p4,p5,pf⟩:=zy I.out.2.2.1
 have V:=(Array.getElem?_eq_some_iff.1 I.out.2.2.1).1
 have ah:=(Array.getElem?_eq_some_iff.1 X1.out).1
 have HN:=zc hn
 go_wp2_with fail
 go_region_with (first|(go_at_call 219;refine (zqi j _ HN.out).mono ?_;rintro e w2 ⟨rfl,O⟩;have J:=zc (((Below.refl w1.heap.size w1).drew).trans O);have L:=zc (I.out.later J.out);have X2:=zc ((J.out.block _ (Array.getElem?_eq_some_iff.1 X1.out).1).trans X1.out);clear O;obtain⟨y0,y1,y2,y3,y4,y5,yf⟩:=zy X2.out;obtain⟨q0,q1,q2,q3,q4,q5,qf⟩:=zy L.out.2.2.1;have af:=(Array.getElem?_eq_some_iff.1 L.out.2.2.1).1;have ag:=(Array.getElem?_eq_some_iff.1 X2.out).1)|(go_at_call 122;refine (zbL c t [strOfNums (zbU j)] _ L.out (by have:=HL.out;rw[HT.out] at this;simp only[zv,List.foldl_cons,List.foldl_nil,ByteArray.size_append] at this ⊢;omega) (by simp)).mono ?_;rintro e w3 ⟨rfl,hp,ae,ad⟩))
 all_goals (have hb:=(J.out.mono I.out.1.2).trans ae;have hk:=(KeepB.of_below (b:=c.b) J.out).trans ad;go_wp2;go_end0;exact⟨rfl,(by rw[HT.out];exact hp),ac.out.trans hb,aa.out.trans hk⟩)
theorem zs4 (c:PC) (t:ByteArray) (i:Nat) (H:Int) (j z:ByteArray) (l r:Int) (w:World) (h:PP c t w) (hi:i<c.m.ex.length) (L:c.m.ex.getD i zj=⟨2,H,j,z,l,r⟩) (A:(t++(j)).size≤140737488355328):
  Calls Tryz.prog 201 #[.pointer (some ⟨c.gp,0,none⟩),.int .i64 (i:Int)] w (PO c (t++(j)) w):=by
 have N:=zc h
 obtain⟨T,hT⟩: ∃T,T=j:=⟨_,rfl⟩
 rw[←hT] at A ⊢
 have HT:=zc hT
 have HL:=zc A
 clear h A hT
 obtain⟨p0,p1,p2,p3,p4,p5,pf⟩:=zy N.out.2.2.1
 obtain⟨g,hg,M,O,x1,x2,V,U,x5⟩:=N.out.2.1.expr hi
 rw[L] at O x1 x2 V U x5
 dsimp only at O x1 x2 V U x5
 rw[hg] at p4
 have ab:(i:Int)<(c.m.ex.length:Int):=by omega
 clear hg L
 go_enter Tryz.func201,Tryz.ntmps201
 go_upto_region 1 with fail
 have HW:Hid (Below w.heap.size w (w.alloc (.cells #[.int .i64 2,.int .i64 H,.string j,.string z,.int .i64 l,.int .i64 r] 109))):=(Below.refl _ _).alloc (Nat.le_refl _) _
 refine zV (R:=fun W=>W.heap[w.heap.size]? =some (.cells #[.int .i64 2,.int .i64 H,.string j,.string z,.int .i64 l,.int .i64 r] 109 (0,0))∧PP c t W∧Below c.B w W∧KeepB c.b w W) ⟨heap_alloc_new w _,N.out.later HW.out,HW.out.mono N.out.1.2,KeepB.of_below HW.out⟩ ?_
 obtain⟨gx,J⟩: ∃gx,gx=w.heap.size:=⟨_,rfl⟩
 have ae:gx≠c.b:=by
  rw[J]
  obtain⟨af,hc⟩:=zcf N.out.1.1
  have:=(Array.getElem?_eq_some_iff.1 hc).1
  omega
 rw[←J]
 rintro w1 ⟨L,Z,X,Y⟩
 clear J HW M O x1 x2 V U x5 p0 p1 p2 p3 p4 p5 pf ab
 have X1:=zc L
 have I:=zc Z
 have ac:=zc X
 have aa:=zc Y
 clear L Z X Y
 obtain⟨O,x1,x2,V,U,x5,xf⟩:=zy X1.out
 obtain⟨p0,p1,p2,p3,p4,p5,pf⟩:=zy I.out.2.2.1
 have M:=(Array.getElem?_eq_some_iff.1 I.out.2.2.1).1
 have ad:=(Array.getElem?_eq_some_iff.1 X1.out).1
 go_wp2_with fail
 go_region_with (go_at_call 122;refine (zc2 c t [j] w1 I.out (by have:=HL.out;rw[HT.out] at this;simp only[zv,List.foldl_cons,List.foldl_nil,ByteArray.size_append] at this ⊢;omega) (by simp)).mono ?_;rintro e w2 ⟨rfl,Z,X,Y⟩)
 all_goals (go_wp2;go_end0;exact⟨rfl,(by rw[HT.out];exact Z),ac.out.trans X,aa.out.trans Y⟩)
theorem zs5 (c:PC) (t:ByteArray) (i:Nat) (H:Int) (j z:ByteArray) (l r:Int) (w:World) (h:PP c t w) (hi:i<c.m.ex.length) (M:c.m.ex.getD i zj=⟨3,H,j,z,l,r⟩) (A:(t++(j++cParens)).size≤140737488355328):
  Calls Tryz.prog 201 #[.pointer (some ⟨c.gp,0,none⟩),.int .i64 (i:Int)] w (PO c (t++(j++cParens)) w):=by
 have O:=zc h
 obtain⟨T,hT⟩: ∃T,T=j++cParens:=⟨_,rfl⟩
 rw[←hT] at A ⊢
 have HT:=zc hT
 have HL:=zc A
 clear h A hT
 obtain⟨p0,p1,p2,p3,p4,p5,pf⟩:=zy O.out.2.2.1
 obtain⟨g,hg,N,U,x1,x2,X,V,x5⟩:=O.out.2.1.expr hi
 rw[M] at U x1 x2 X V x5
 dsimp only at U x1 x2 X V x5
 rw[hg] at p4
 have ab:(i:Int)<(c.m.ex.length:Int):=by omega
 clear hg M
 go_enter Tryz.func201,Tryz.ntmps201
 go_upto_region 1 with fail
 have HW:Hid (Below w.heap.size w (w.alloc (.cells #[.int .i64 3,.int .i64 H,.string j,.string z,.int .i64 l,.int .i64 r] 109))):=(Below.refl _ _).alloc (Nat.le_refl _) _
 refine zV (R:=fun W=>W.heap[w.heap.size]? =some (.cells #[.int .i64 3,.int .i64 H,.string j,.string z,.int .i64 l,.int .i64 r] 109 (0,0))∧PP c t W∧Below c.B w W∧KeepB c.b w W) ⟨heap_alloc_new w _,O.out.later HW.out,HW.out.mono O.out.1.2,KeepB.of_below HW.out⟩ ?_
 obtain⟨gx,J⟩: ∃gx,gx=w.heap.size:=⟨_,rfl⟩
 have ae:gx≠c.b:=by
  rw[J]
  obtain⟨af,hc⟩:=zcf O.out.1.1
  have:=(Array.getElem?_eq_some_iff.1 hc).1
  omega
 rw[←J]
 rintro w1 ⟨M,L,Y,Z⟩
 clear J HW N U x1 x2 X V x5 p0 p1 p2 p3 p4 p5 pf ab
 have X1:=zc M
 have I:=zc L
 have ac:=zc Y
 have aa:=zc Z
 clear M L Y Z
 obtain⟨U,x1,x2,X,V,x5,xf⟩:=zy X1.out
 obtain⟨p0,p1,p2,p3,p4,p5,pf⟩:=zy I.out.2.2.1
 have N:=(Array.getElem?_eq_some_iff.1 I.out.2.2.1).1
 have ad:=(Array.getElem?_eq_some_iff.1 X1.out).1
 go_wp2_with fail
 go_region_with (go_at_call 122;refine (zc2 c t [j,cParens] w1 I.out (by have:=HL.out;rw[HT.out] at this;simp only[zv,List.foldl_cons,List.foldl_nil,ByteArray.size_append] at this ⊢;omega) (by simp)).mono ?_;rintro e w2 ⟨rfl,L,Y,Z⟩)
 all_goals (go_wp2;go_end0;exact⟨rfl,(by rw[HT.out];simp only[zv,List.foldl_cons,List.foldl_nil,←ByteArray.append_assoc] at L ⊢;exact L),ac.out.trans Y,aa.out.trans Z⟩)
theorem zs6 (c:PC) (t:ByteArray) (i:Nat) (H:Int) (z j:ByteArray) (l r:Int) (w:World) (h:PP c t w) (hi:i<c.m.ex.length) (M:c.m.ex.getD i zj=⟨4,H,z,j,l,r⟩) (A:(t++(z++cPoint++j)).size≤140737488355328):
  Calls Tryz.prog 201 #[.pointer (some ⟨c.gp,0,none⟩),.int .i64 (i:Int)] w (PO c (t++(z++cPoint++j)) w):=by
 have O:=zc h
 obtain⟨T,hT⟩: ∃T,T=z++cPoint++j:=⟨_,rfl⟩
 rw[←hT] at A ⊢
 have HT:=zc hT
 have HL:=zc A
 clear h A hT
 obtain⟨p0,p1,p2,p3,p4,p5,pf⟩:=zy O.out.2.2.1
 obtain⟨g,hg,N,U,x1,x2,X,V,x5⟩:=O.out.2.1.expr hi
 rw[M] at U x1 x2 X V x5
 dsimp only at U x1 x2 X V x5
 rw[hg] at p4
 have ab:(i:Int)<(c.m.ex.length:Int):=by omega
 clear hg M
 go_enter Tryz.func201,Tryz.ntmps201
 go_upto_region 1 with fail
 have HW:Hid (Below w.heap.size w (w.alloc (.cells #[.int .i64 4,.int .i64 H,.string z,.string j,.int .i64 l,.int .i64 r] 109))):=(Below.refl _ _).alloc (Nat.le_refl _) _
 refine zV (R:=fun W=>W.heap[w.heap.size]? =some (.cells #[.int .i64 4,.int .i64 H,.string z,.string j,.int .i64 l,.int .i64 r] 109 (0,0))∧PP c t W∧Below c.B w W∧KeepB c.b w W) ⟨heap_alloc_new w _,O.out.later HW.out,HW.out.mono O.out.1.2,KeepB.of_below HW.out⟩ ?_
 obtain⟨gx,J⟩: ∃gx,gx=w.heap.size:=⟨_,rfl⟩
 have ae:gx≠c.b:=by
  rw[J]
  obtain⟨af,hc⟩:=zcf O.out.1.1
  have:=(Array.getElem?_eq_some_iff.1 hc).1
  omega
 rw[←J]
 rintro w1 ⟨M,L,Y,Z⟩
 clear J HW N U x1 x2 X V x5 p0 p1 p2 p3 p4 p5 pf ab
 have X1:=zc M
 have I:=zc L
 have ac:=zc Y
 have aa:=zc Z
 clear M L Y Z
 obtain⟨U,x1,x2,X,V,x5,xf⟩:=zy X1.out
 obtain⟨p0,p1,p2,p3,p4,p5,pf⟩:=zy I.out.2.2.1
 have N:=(Array.getElem?_eq_some_iff.1 I.out.2.2.1).1
 have ad:=(Array.getElem?_eq_some_iff.1 X1.out).1
 go_wp2_with fail
 go_region_with (go_at_call 122;refine (zc2 c t [z,cPoint,j] w1 I.out (by have:=HL.out;rw[HT.out] at this;simp only[zv,List.foldl_cons,List.foldl_nil,ByteArray.size_append] at this ⊢;omega) (by simp)).mono ?_;rintro e w2 ⟨rfl,L,Y,Z⟩)
 all_goals (go_wp2;go_end0;exact⟨rfl,(by rw[HT.out];simp only[zv,List.foldl_cons,List.foldl_nil,←ByteArray.append_assoc] at L ⊢;exact L),ac.out.trans Y,aa.out.trans Z⟩)
theorem zs7 (c:PC) (t:ByteArray) (i:Nat) (H:Int) (z j:ByteArray) (l r:Int) (w:World) (h:PP c t w) (hi:i<c.m.ex.length) (M:c.m.ex.getD i zj=⟨5,H,z,j,l,r⟩) (A:(t++(z++cPoint++j++cParens)).size≤140737488355328):
  Calls Tryz.prog 201 #[.pointer (some ⟨c.gp,0,none⟩),.int .i64 (i:Int)] w (PO c (t++(z++cPoint++j++cParens)) w):=by
 have O:=zc h
 obtain⟨T,hT⟩: ∃T,T=z++cPoint++j++cParens:=⟨_,rfl⟩
 rw[←hT] at A ⊢
 have HT:=zc hT
 have HL:=zc A
 clear h A hT
 obtain⟨p0,p1,p2,p3,p4,p5,pf⟩:=zy O.out.2.2.1
 obtain⟨g,hg,N,U,x1,x2,X,V,x5⟩:=O.out.2.1.expr hi
 rw[M] at U x1 x2 X V x5
 dsimp only at U x1 x2 X V x5
 rw[hg] at p4
 have ab:(i:Int)<(c.m.ex.length:Int):=by omega
 clear hg M
 go_enter Tryz.func201,Tryz.ntmps201
 go_upto_region 1 with fail
 have HW:Hid (Below w.heap.size w (w.alloc (.cells #[.int .i64 5,.int .i64 H,.string z,.string j,.int .i64 l,.int .i64 r] 109))):=(Below.refl _ _).alloc (Nat.le_refl _) _
 refine zV (R:=fun W=>W.heap[w.heap.size]? =some (.cells #[.int .i64 5,.int .i64 H,.string z,.string j,.int .i64 l,.int .i64 r] 109 (0,0))∧PP c t W∧Below c.B w W∧KeepB c.b w W) ⟨heap_alloc_new w _,O.out.later HW.out,HW.out.mono O.out.1.2,KeepB.of_below HW.out⟩ ?_
 obtain⟨gx,J⟩: ∃gx,gx=w.heap.size:=⟨_,rfl⟩
 have ae:gx≠c.b:=by
  rw[J]
  obtain⟨af,hc⟩:=zcf O.out.1.1
  have:=(Array.getElem?_eq_some_iff.1 hc).1
  omega
 rw[←J]
 rintro w1 ⟨M,L,Y,Z⟩
 clear J HW N U x1 x2 X V x5 p0 p1 p2 p3 p4 p5 pf ab
 have X1:=zc M
 have I:=zc L
 have ac:=zc Y
 have aa:=zc Z
 clear M L Y Z
 obtain⟨U,x1,x2,X,V,x5,xf⟩:=zy X1.out
 obtain⟨p0,p1,p2,p3,p4,p5,pf⟩:=zy I.out.2.2.1
 have N:=(Array.getElem?_eq_some_iff.1 I.out.2.2.1).1
 have ad:=(Array.getElem?_eq_some_iff.1 X1.out).1
 go_wp2_with fail
 go_region_with (go_at_call 122;refine (zc2 c t [z,cPoint,j,cParens] w1 I.out (by have:=HL.out;rw[HT.out] at this;simp only[zv,List.foldl_cons,List.foldl_nil,ByteArray.size_append] at this ⊢;omega) (by simp)).mono ?_;rintro e w2 ⟨rfl,L,Y,Z⟩)
 all_goals (go_wp2;go_end0;exact⟨rfl,(by rw[HT.out];simp only[zv,List.foldl_cons,List.foldl_nil,←ByteArray.append_assoc] at L ⊢;exact L),ac.out.trans Y,aa.out.trans Z⟩)
theorem zs8 (c:PC) (t:ByteArray) (i:Nat) (H:Int) (z j:ByteArray) (l r:Nat) (w:World) (h:PP c t w) (hi:i<c.m.ex.length) (M:c.m.ex.getD i zj=⟨6,H,z,j,(l:Int),(r:Int)⟩) (ae:zc5 c l) (ac:zc5 c r) (hr:r<c.m.ex.length) (A:(t++(prX c.m.ex l++tPlus++zG (zP (c.m.ex.getD r zj).kind) (prX c.m.ex r))).size≤140737488355328):
  Calls Tryz.prog 201 #[.pointer (some ⟨c.gp,0,none⟩),.int .i64 (i:Int)] w (PO c (t++(prX c.m.ex l++tPlus++zG (zP (c.m.ex.getD r zj).kind) (prX c.m.ex r))) w):=by
 have O:=zc h
 obtain⟨T,hT⟩: ∃T,T=prX c.m.ex l++tPlus++zG (zP (c.m.ex.getD r zj).kind) (prX c.m.ex r):=⟨_,rfl⟩
 rw[←hT] at A ⊢
 have HT:=zc hT
 have HL:=zc A
 clear h A hT
 obtain⟨p0,p1,p2,p3,p4,p5,pf⟩:=zy O.out.2.2.1
 obtain⟨g,hg,N,U,x1,x2,X,V,x5⟩:=O.out.2.1.expr hi
 rw[M] at U x1 x2 X V x5
 dsimp only at U x1 x2 X V x5
 rw[hg] at p4
 have ab:(i:Int)<(c.m.ex.length:Int):=by omega
 clear hg M
 go_enter Tryz.func201,Tryz.ntmps201
 go_upto_region 1 with fail
 have HW:Hid (Below w.heap.size w (w.alloc (.cells #[.int .i64 6,.int .i64 H,.string z,.string j,.int .i64 (l:Int),.int .i64 (r:Int)] 109))):=(Below.refl _ _).alloc (Nat.le_refl _) _
 refine zV (R:=fun W=>W.heap[w.heap.size]? =some (.cells #[.int .i64 6,.int .i64 H,.string z,.string j,.int .i64 (l:Int),.int .i64 (r:Int)] 109 (0,0))∧PP c t W∧Below c.B w W∧KeepB c.b w W) ⟨heap_alloc_new w _,O.out.later HW.out,HW.out.mono O.out.1.2,KeepB.of_below HW.out⟩ ?_
 obtain⟨gx,J⟩: ∃gx,gx=w.heap.size:=⟨_,rfl⟩
 have ah:gx≠c.b:=by
  rw[J]
  obtain⟨ai,hc⟩:=zcf O.out.1.1
  have:=(Array.getElem?_eq_some_iff.1 hc).1
  omega
 rw[←J]
 rintro w1 ⟨M,L,Y,Z⟩
 clear J HW N U x1 x2 X V x5 p0 p1 p2 p3 p4 p5 pf ab
 have X1:=zc M
 have I:=zc L
 have ad:=zc Y
 have aa:=zc Z
 clear M L Y Z
 obtain⟨U,x1,x2,X,V,x5,xf⟩:=zy X1.out
 obtain⟨p0,p1,p2,p3,p4,p5,pf⟩:=zy I.out.2.2.1
 have N:=(Array.getElem?_eq_some_iff.1 I.out.2.2.1).1
 have ag:=(Array.getElem?_eq_some_iff.1 X1.out).1
 go_wp2_with fail
 refine (zkY c t 6 H z j tPlus l r w1 ae ac hr I.out (by rw[←HT.out];exact HL.out)).mono ?_
 rw[←HT.out]
 rintro e w2 ⟨rfl,L,Y,Z⟩
 have af:=zc L
 clear L
 go_wp2
 go_end0
 exact⟨rfl,af.out,ad.out.trans Y,aa.out.trans Z⟩
theorem zs9 (c:PC) (t:ByteArray) (i:Nat) (H:Int) (z j:ByteArray) (l r:Nat) (w:World) (h:PP c t w) (hi:i<c.m.ex.length) (M:c.m.ex.getD i zj=⟨7,H,z,j,(l:Int),(r:Int)⟩) (ae:zc5 c l) (ac:zc5 c r) (hr:r<c.m.ex.length) (A:(t++(prX c.m.ex l++tMinus++zG (zP (c.m.ex.getD r zj).kind) (prX c.m.ex r))).size≤140737488355328):
  Calls Tryz.prog 201 #[.pointer (some ⟨c.gp,0,none⟩),.int .i64 (i:Int)] w (PO c (t++(prX c.m.ex l++tMinus++zG (zP (c.m.ex.getD r zj).kind) (prX c.m.ex r))) w):=by
 have O:=zc h
 obtain⟨T,hT⟩: ∃T,T=prX c.m.ex l++tMinus++zG (zP (c.m.ex.getD r zj).kind) (prX c.m.ex r):=⟨_,rfl⟩
 rw[←hT] at A ⊢
 have HT:=zc hT
 have HL:=zc A
 clear h A hT
 obtain⟨p0,p1,p2,p3,p4,p5,pf⟩:=zy O.out.2.2.1
 obtain⟨g,hg,N,U,x1,x2,X,V,x5⟩:=O.out.2.1.expr hi
 rw[M] at U x1 x2 X V x5
 dsimp only at U x1 x2 X V x5
 rw[hg] at p4
 have ab:(i:Int)<(c.m.ex.length:Int):=by omega
 clear hg M
 go_enter Tryz.func201,Tryz.ntmps201
 go_upto_region 1 with fail
 have HW:Hid (Below w.heap.size w (w.alloc (.cells #[.int .i64 7,.int .i64 H,.string z,.string j,.int .i64 (l:Int),.int .i64 (r:Int)] 109))):=(Below.refl _ _).alloc (Nat.le_refl _) _
 refine zV (R:=fun W=>W.heap[w.heap.size]? =some (.cells #[.int .i64 7,.int .i64 H,.string z,.string j,.int .i64 (l:Int),.int .i64 (r:Int)] 109 (0,0))∧PP c t W∧Below c.B w W∧KeepB c.b w W) ⟨heap_alloc_new w _,O.out.later HW.out,HW.out.mono O.out.1.2,KeepB.of_below HW.out⟩ ?_
 obtain⟨gx,J⟩: ∃gx,gx=w.heap.size:=⟨_,rfl⟩
 have ah:gx≠c.b:=by
  rw[J]
  obtain⟨ai,hc⟩:=zcf O.out.1.1
  have:=(Array.getElem?_eq_some_iff.1 hc).1
  omega
 rw[←J]
 rintro w1 ⟨M,L,Y,Z⟩
 clear J HW N U x1 x2 X V x5 p0 p1 p2 p3 p4 p5 pf ab
 have X1:=zc M
 have I:=zc L
 have ad:=zc Y
 have aa:=zc Z
 clear M L Y Z
 obtain⟨U,x1,x2,X,V,x5,xf⟩:=zy X1.out
 obtain⟨p0,p1,p2,p3,p4,p5,pf⟩:=zy I.out.2.2.1
 have N:=(Array.getElem?_eq_some_iff.1 I.out.2.2.1).1
 have ag:=(Array.getElem?_eq_some_iff.1 X1.out).1
 go_wp2_with fail
 refine (zkY c t 7 H z j tMinus l r w1 ae ac hr I.out (by rw[←HT.out];exact HL.out)).mono ?_
 rw[←HT.out]
 rintro e w2 ⟨rfl,L,Y,Z⟩
 have af:=zc L
 clear L
 go_wp2
 go_end0
 exact⟨rfl,af.out,ad.out.trans Y,aa.out.trans Z⟩
theorem zsA (c:PC) (t:ByteArray) (i:Nat) (ac:Int) (J j:ByteArray) (l r:Nat) (w:World) (h:PP c t w) (hi:i<c.m.ex.length) (hx:c.m.ex.getD i zj=⟨8,ac,J,j,(l:Int),(r:Int)⟩) (ah:zc5 c l) (ag:zc5 c r) (hl:l<c.m.ex.length) (hr:r<c.m.ex.length) (L:(t++(zG (zP (c.m.ex.getD l zj).kind) (prX c.m.ex l)++tStar++zG (zaa (c.m.ex.getD r zj).kind) (prX c.m.ex r))).size≤140737488355328):
  Calls Tryz.prog 201 #[.pointer (some ⟨c.gp,0,none⟩),.int .i64 (i:Int)] w (PO c (t++(zG (zP (c.m.ex.getD l zj).kind) (prX c.m.ex l)++tStar++zG (zaa (c.m.ex.getD r zj).kind) (prX c.m.ex r))) w):=by
 have HP:=zc h
 obtain⟨T,hT⟩: ∃T,T=zG (zP (c.m.ex.getD l zj).kind) (prX c.m.ex l)++tStar++zG (zaa (c.m.ex.getD r zj).kind) (prX c.m.ex r):=⟨_,rfl⟩
 rw[←hT] at L ⊢
 have HT:=zc hT
 have HL:=zc L
 clear h L hT
 obtain⟨p0,p1,p2,p3,p4,p5,pf⟩:=zy HP.out.2.2.1
 obtain⟨g,hg,H,V,x1,x2,Z,Y,x5⟩:=HP.out.2.1.expr hi
 rw[hx] at V x1 x2 Z Y x5
 dsimp only at V x1 x2 Z Y x5
 rw[hg] at p4
 have ao:(i:Int)<(c.m.ex.length:Int):=by omega
 clear hg hx
 go_enter Tryz.func201,Tryz.ntmps201
 go_upto_region 1 with fail
 have HW:Hid (Below w.heap.size w (w.alloc (.cells #[.int .i64 8,.int .i64 ac,.string J,.string j,.int .i64 (l:Int),.int .i64 (r:Int)] 109))):=(Below.refl _ _).alloc (Nat.le_refl _) _
 refine zV (R:=fun W=>W.heap[w.heap.size]? =some (.cells #[.int .i64 8,.int .i64 ac,.string J,.string j,.int .i64 (l:Int),.int .i64 (r:Int)] 109 (0,0))∧PP c t W∧Below c.B w W∧KeepB c.b w W) ⟨heap_alloc_new w _,HP.out.later HW.out,HW.out.mono HP.out.1.2,KeepB.of_below HW.out⟩ ?_
 obtain⟨gx,ae⟩: ∃gx,gx=w.heap.size:=⟨_,rfl⟩
 have af:gx≠c.b:=by
  rw[ae]
  obtain⟨au,hc⟩:=zcf HP.out.1.1
  have:=(Array.getElem?_eq_some_iff.1 hc).1
  omega
 rw[←ae]
 rintro X ⟨hx,A,I,z⟩
 clear ae HW H V x1 x2 Z Y x5 p0 p1 p2 p3 p4 p5 pf ao
 have X1:=zc hx
 have U:=zc A
 have ap:=zc I
 have am:=zc z
 clear hx A I z
 obtain⟨V,x1,x2,Z,Y,x5,xf⟩:=zy X1.out
 obtain⟨p0,p1,p2,p3,p4,p5,pf⟩:=zy U.out.2.2.1
 have H:=(Array.getElem?_eq_some_iff.1 U.out.2.2.1).1
 have N:=(Array.getElem?_eq_some_iff.1 X1.out).1
 have aj:=zc ah
 have ai:=zc ag
 have HR:=zc hr
 have ak:=zc hl
 obtain⟨kk,ab⟩: ∃kk,(c.m.ex.getD r zj).kind=kk:=⟨_,rfl⟩
 obtain⟨kl,aa⟩: ∃kl,(c.m.ex.getD l zj).kind=kl:=⟨_,rfl⟩
 have HU:Hid (T=zG (zP kl) (prX c.m.ex l)++tStar++zG (zaa kk) (prX c.m.ex r)):=by show _=_;rw[←ab,←aa];exact HT.out
 have KK:=zc ab
 have KL:=zc aa
 clear ah ag hr hl ab aa HT
 go_upto_region 17 with fail
 go_cut [] from 82 to 90 (fun wx=>PP c (t++zG (zP kl) (prX c.m.ex l)) wx∧Below c.B X wx∧KeepB c.b X wx)
 case first=>
  go_wp2_with fail
  have M:=zc (U.out.later ((Below.refl X.heap.size X).drew))
  go_region_with (first|(go_at_call 222;refine (zhL c _ l _ M.out ak.out).mono ?_;rintro e w' ⟨rfl,rfl⟩;rw[KL.out])|(go_at_call 197;refine (zf3 _ _).mono ?_;rintro e w' ⟨rfl,rfl⟩)|(go_at_call 221;refine (zgA c _ l (zP kl) _ aj.out M.out (by have:=HL.out;rw[HU.out] at this;simp only[ByteArray.size_append] at this ⊢;omega)).mono ?_;rintro e w2 ⟨rfl,A,I,z⟩))
  all_goals (go_wp2_with fail;go_meet;exact⟨A,(((Below.refl X.heap.size X).drew).mono U.out.1.2).trans I,(KeepB.of_below ((Below.refl X.heap.size X).drew)).trans z⟩)
 case rest=>
 obtain⟨A,I,z⟩:=hcut
 rename_i w2
 have ad:=zc A
 have aq:=zc (ap.out.trans I)
 have an:=zc (am.out.trans z)
 have X2:=zc ((z _ _ _ _ X1.out af (by decide)).trans X1.out)
 clear A I z p0 p1 p2 p3 p4 p5 pf V x1 x2 Z Y x5 xf H N
 obtain⟨V,x1,x2,Z,Y,x5,xf⟩:=zy X2.out
 obtain⟨p0,p1,p2,p3,p4,p5,pf⟩:=zy ad.out.2.2.1
 have H:=(Array.getElem?_eq_some_iff.1 ad.out.2.2.1).1
 have N:=(Array.getElem?_eq_some_iff.1 X2.out).1
 go_wp2_with fail
 refine (zbL c _ [tStar] _ ad.out (by have:=HL.out;rw[HU.out] at this;simp only[zv,List.foldl_cons,List.foldl_nil,ByteArray.size_append] at this ⊢;omega) (by simp)).mono ?_
 rintro e w3 ⟨rfl,A,I,z⟩
 have O:=zc A
 have al:=zc (aq.out.trans I)
 have ar:=zc (an.out.trans z)
 have X3:=zc ((z _ _ _ _ X2.out af (by decide)).trans X2.out)
 clear A I z p0 p1 p2 p3 p4 p5 pf V x1 x2 Z Y x5 xf H N
 obtain⟨V,x1,x2,Z,Y,x5,xf⟩:=zy X3.out
 obtain⟨p0,p1,p2,p3,p4,p5,pf⟩:=zy O.out.2.2.1
 have H:=(Array.getElem?_eq_some_iff.1 O.out.2.2.1).1
 have N:=(Array.getElem?_eq_some_iff.1 X3.out).1
 go_wp2_with fail
 have M:=zc (O.out.later ((Below.refl w3.heap.size w3).drew))
 go_region_with (first|(go_at_call 222;refine (zhL c _ r _ M.out HR.out).mono ?_;rintro e w' ⟨rfl,rfl⟩;rw[KK.out])|(go_at_call 167;refine (zk6 _ _).mono ?_;rintro e w' ⟨rfl,rfl⟩)|(go_at_call 221;refine (zgA c _ r (zaa kk) _ ai.out M.out (by have:=HL.out;rw[HU.out] at this;simp only[zv,List.foldl_cons,List.foldl_nil,ByteArray.size_append] at this ⊢;omega)).mono ?_;rintro e w4 ⟨rfl,A,I,z⟩))
 all_goals (go_wp2;go_end0;exact⟨rfl,(by rw[HU.out];simp only[zv,List.foldl_cons,List.foldl_nil,←ByteArray.append_assoc] at A ⊢;exact A),al.out.trans ((((Below.refl w3.heap.size w3).drew).mono O.out.1.2).trans I),ar.out.trans ((KeepB.of_below ((Below.refl w3.heap.size w3).drew)).trans z)⟩)
theorem zsB (c:PC) (t:ByteArray) (i:Nat) (k H:Int) (z j:ByteArray) (l r:Int) (w:World) (h:PP c t w) (hi:i<c.m.ex.length) (M:c.m.ex.getD i zj=⟨k,H,z,j,l,r⟩) (k1:(k==1)=false) (k2:(k==2)=false) (k3:(k==3)=false) (k4:(k==4)=false) (k5:(k==5)=false) (k6:(k==6)=false) (k7:(k==7)=false) (k8:(k==8)=false) (A:(t++(sNone)).size≤140737488355328):
  Calls Tryz.prog 201 #[.pointer (some ⟨c.gp,0,none⟩),.int .i64 (i:Int)] w (PO c (t++(sNone)) w):=by
 have N:=zc h
 obtain⟨T,hT⟩: ∃T,T=sNone:=⟨_,rfl⟩
 rw[←hT] at A ⊢
 have HT:=zc hT
 have HL:=zc A
 clear h A hT
 obtain⟨p0,p1,p2,p3,p4,p5,pf⟩:=zy N.out.2.2.1
 obtain⟨g,hg,L,O,x1,Y,V,U,Z⟩:=N.out.2.1.expr hi
 rw[M] at O x1 Y V U Z
 dsimp only at O x1 Y V U Z
 rw[hg] at p4
 have ab:(i:Int)<(c.m.ex.length:Int):=by omega
 clear hg M
 go_enter Tryz.func201,Tryz.ntmps201
 go_upto_region 1 with fail
 have X:Hid (Below w.heap.size w (w.alloc (.cells #[.int .i64 k,.int .i64 H,.string z,.string j,.int .i64 l,.int .i64 r] 109))):=(Below.refl _ _).alloc (Nat.le_refl _) _
 refine zV (R:=fun W=>W.heap[w.heap.size]? =some (.cells #[.int .i64 k,.int .i64 H,.string z,.string j,.int .i64 l,.int .i64 r] 109 (0,0))∧PP c t W∧Below c.B w W∧KeepB c.b w W) ⟨heap_alloc_new w _,N.out.later X.out,X.out.mono N.out.1.2,KeepB.of_below X.out⟩ ?_
 obtain⟨gx,J⟩: ∃gx,gx=w.heap.size:=⟨_,rfl⟩
 have ae:gx≠c.b:=by
  rw[J]
  obtain⟨af,hc⟩:=zcf N.out.1.1
  have:=(Array.getElem?_eq_some_iff.1 hc).1
  omega
 rw[←J]
 rintro w1 ⟨M,hp,hb,hk⟩
 clear J X L O x1 Y V U Z p0 p1 p2 p3 p4 p5 pf ab
 have X1:=zc M
 have I:=zc hp
 have ac:=zc hb
 have aa:=zc hk
 clear M hp hb hk
 obtain⟨O,x1,Y,V,U,Z,xf⟩:=zy X1.out
 obtain⟨p0,p1,p2,p3,p4,p5,pf⟩:=zy I.out.2.2.1
 have L:=(Array.getElem?_eq_some_iff.1 I.out.2.2.1).1
 have ad:=(Array.getElem?_eq_some_iff.1 X1.out).1
 go_wp2
 go_end0
 exact⟨rfl,(by rw[HT.out,show t++sNone=t from ByteArray.append_empty];exact I.out),ac.out,aa.out⟩
theorem zsC (c:PC) (hn:zaR c.m.ex) (ha:zb2 c.m.ex) (n:Nat): ∀i,i<n→i<c.m.ex.length→zc5 c i:=by
 induction n with
 |zero=>intro i L;omega
 |succ n ih=>
  intro i ab L t w h A
  by_cases aa:i<n
  ·exact ih i aa L t w h A
  ·have O: ∀j,j<i→zc5 c j:=fun j hj=>ih j (by omega) (by omega)
   have N:=hn (c.m.ex.getD i zj) (by rw[zdM L];exact List.getElem_mem L)
   have J:=zfF ha (i:=i)
   rw[zgT ha] at A ⊢
   obtain⟨x,M⟩: ∃x,c.m.ex.getD i zj=x:=⟨_,rfl⟩
   rw[M] at A N J ⊢
   obtain⟨k,I,H,z,l,r⟩:=x
   simp only at A N J ⊢
   by_cases U:(k==1)=true
   ·rw[if_pos U] at A ⊢
    have e:=eq_of_beq U
    subst e
    exact zs3 c t i I H z l r w h L M N A
   rw[if_neg U] at A ⊢
   by_cases k2:(k==2)=true
   ·rw[if_pos k2] at A ⊢
    have e:=eq_of_beq k2
    subst e
    exact zs4 c t i I H z l r w h L M A
   rw[if_neg k2] at A ⊢
   by_cases Y:(k==3)=true
   ·rw[if_pos Y] at A ⊢
    have e:=eq_of_beq Y
    subst e
    exact zs5 c t i I H z l r w h L M A
   rw[if_neg Y] at A ⊢
   by_cases k4:(k==4)=true
   ·rw[if_pos k4] at A ⊢
    have e:=eq_of_beq k4
    subst e
    exact zs6 c t i I H z l r w h L M A
   rw[if_neg k4] at A ⊢
   by_cases Z:(k==5)=true
   ·rw[if_pos Z] at A ⊢
    have e:=eq_of_beq Z
    subst e
    exact zs7 c t i I H z l r w h L M A
   rw[if_neg Z] at A ⊢
   by_cases k6:(k==6)=true
   ·rw[if_pos k6] at A ⊢
    have e:=eq_of_beq k6
    subst e
    have J:=J (by decide)
    obtain⟨l,rfl⟩: ∃n:Nat,l=(n:Int):=⟨l.toNat,by omega⟩
    obtain⟨r,rfl⟩: ∃n:Nat,r=(n:Int):=⟨r.toNat,by omega⟩
    simp only[Int.toNat_natCast] at A ⊢
    exact zs8 c t i I H z l r w h L M (O l (by omega)) (O r (by omega)) (by omega) A
   rw[if_neg k6] at A ⊢
   by_cases X:(k==7)=true
   ·rw[if_pos X] at A ⊢
    have e:=eq_of_beq X
    subst e
    have J:=J (by decide)
    obtain⟨l,rfl⟩: ∃n:Nat,l=(n:Int):=⟨l.toNat,by omega⟩
    obtain⟨r,rfl⟩: ∃n:Nat,r=(n:Int):=⟨r.toNat,by omega⟩
    simp only[Int.toNat_natCast] at A ⊢
    exact zs9 c t i I H z l r w h L M (O l (by omega)) (O r (by omega)) (by omega) A
   rw[if_neg X] at A ⊢
   by_cases V:(k==8)=true
   ·rw[if_pos V] at A ⊢
    have e:=eq_of_beq V
    subst e
    have J:=J (by decide)
    obtain⟨l,rfl⟩: ∃n:Nat,l=(n:Int):=⟨l.toNat,by omega⟩
    obtain⟨r,rfl⟩: ∃n:Nat,r=(n:Int):=⟨r.toNat,by omega⟩
    simp only[Int.toNat_natCast] at A ⊢
    exact zsA c t i I H z l r w h L M (O l (by omega)) (O r (by omega)) (by omega) (by omega) A
   rw[if_neg V] at A ⊢
   exact zsB c t i k I H z l r w h L M (Bool.eq_false_iff.2 U) (Bool.eq_false_iff.2 k2) (Bool.eq_false_iff.2 Y) (Bool.eq_false_iff.2 k4) (Bool.eq_false_iff.2 Z) (Bool.eq_false_iff.2 k6) (Bool.eq_false_iff.2 X) (Bool.eq_false_iff.2 V) A
theorem zsD (j:Nat) (S:Sv) (m:Md) (ad:Bool) (w:World) (h:OwnMd w j S m) (hm:Small m) (V:Tree m→(zbr m).size≤140737488355328):
  Calls Tryz.prog 90 #[zh S m,.bool ad] w fun e w'=>PrintOut (zbr m) m e∧Below w.heap.size w w':=by
 have HH:=zc h
 have SM:=zc hm
 have HU:=zc V
 obtain⟨f1,f2,f3,f4,f5⟩:=hm.few
 clear h hm V
 unfold zh
 go_enter Tryz.func90,Tryz.ntmps90
 go_wp2_with fail
 refine (zsc j S m _ (HH.out.alloc _) f5 f4).mono ?_
 rintro e A ⟨⟨b,rfl,N⟩,I⟩
 have HT:=zc N
 have z:Hid (Below w.heap.size w A):=((Below.refl _ _).alloc (Nat.le_refl _) _).trans (I.mono (by rw[zn];omega))
 have L:Hid (A.heap[w.heap.size]? =some (.cells #[.slice S.rq.a m.rq.length S.rq.cap,.slice S.im.a m.im.length S.im.cap,.slice S.ep.a m.ep.length S.ep.cap,.slice S.st.a m.st.length S.st.cap,.slice S.ex.a m.ex.length S.ex.cap] 36 (0,0))):=(I.block _ (by rw[zn];omega)).trans (heap_alloc_new w _)
 have X:=zc (HH.out.later z.out)
 clear N I
 cases b with
 |false=>
  go_wp2
  go_ret
  exact⟨.inr ⟨(fun t=>by have:=HT.out.2 t;cases this),rfl⟩,z.out⟩
 |true=>
  have TR:=zc (HT.out.1 rfl)
  have HZ:=zc (HU.out TR.out)
  go_upto_region 4 with fail
  have H:Hid (Below A.heap.size A (A.alloc (.cells #[.pointer none,.slice none 0 0] 163))):=(Below.refl _ _).alloc (Nat.le_refl _) _
  have hz:=(Array.getElem?_eq_some_iff.1 L.out).1
  refine zV (R:=fun W=>(Lib.IsBuilder 163 5 A.heap.size A.heap.size [] W∧A.heap.size≤W.heap.size)∧OwnMd W j S m∧W.heap[w.heap.size]? =some (.cells #[.slice S.rq.a m.rq.length S.rq.cap,.slice S.im.a m.im.length S.im.cap,.slice S.ep.a m.ep.length S.ep.cap,.slice S.st.a m.st.length S.st.cap,.slice S.ex.a m.ex.length S.ex.cap] 36 (0,0))∧Below w.heap.size w W) ⟨⟨Lib.fresh_isBuilder _ _ A,H.out.size⟩,X.out.later H.out,(H.out.block _ hz).trans L.out,z.out.trans (H.out.mono z.out.size)⟩ ?_
  obtain⟨b,J⟩: ∃b,b=A.heap.size:=⟨_,rfl⟩
  have O:w.heap.size≤b:=by rw[J];exact z.out.size
  rw[←J]
  rintro W ⟨⟨M,aa⟩,ho,hx,N⟩
  clear hz H L X z HH J A
  have BL:=zc M
  have HO:=zc ho
  have HX:=zc hx
  have HB:=zc N
  clear M ho hx N
  obtain⟨c0,c1,c2,c3,c4,cf⟩:=zg HX.out
  go_upto_region 6 with fail
  have H:Hid (Below W.heap.size W (W.alloc (.cells #[.slice S.rq.a m.rq.length S.rq.cap,.slice S.im.a m.im.length S.im.cap,.slice S.ep.a m.ep.length S.ep.cap,.slice S.st.a m.st.length S.st.cap,.slice S.ex.a m.ex.length S.ex.cap,.func (.func 122) #[] #[.pointer (some ⟨b,0,none⟩)]] 171))):=(Below.refl _ _).alloc (Nat.le_refl _) _
  have ag:Hid (PP ⟨b,b,W.heap.size,j,S,m⟩ sNone (W.alloc (.cells #[.slice S.rq.a m.rq.length S.rq.cap,.slice S.im.a m.im.length S.im.cap,.slice S.ep.a m.ep.length S.ep.cap,.slice S.st.a m.st.length S.st.cap,.slice S.ex.a m.ex.length S.ex.cap,.func (.func 122) #[] #[.pointer (some ⟨b,0,none⟩)]] 171))):=by
   refine⟨⟨zkD BL.out H.out,Nat.le_trans aa H.out.size⟩,HO.out.later H.out,heap_alloc_new W _,?_⟩
   obtain⟨ah,hc⟩:=zcf BL.out
   have:=(Array.getElem?_eq_some_iff.1 hc).1
   show W.heap.size≠b
   omega
  have ab:=zc (HB.out.trans (H.out.mono HB.out.size))
  go_wp2_with fail
  refine (zs2 ⟨b,b,W.heap.size,j,S,m⟩ _ (fun i hi=>zsC _ SM.out.nums TR.out.ahead _ i hi hi) TR.out.stm SM.out ag.out HZ.out).mono ?_
  rintro e w3 ⟨rfl,hp,Z,ae⟩
  have U:=zc hp
  have ac:=zc (ab.out.trans (Z.mono O))
  clear hp Z ae c0 c1 c2 c3 c4 cf
  go_wp2_with fail
  refine (Tryz.Builder_String_any b b (zbr m).data.toList w3 U.out.1.1 U.out.1.2).mono ?_
  rintro e w4 ⟨rfl,Y⟩
  have af:=zc (ac.out.trans (Y.mono O))
  clear Y
  go_wp2
  go_ret
  exact⟨.inl ⟨TR.out,rfl⟩,af.out⟩
theorem zhM {C:Cx} {j:Bool} {q:PS} {x:PS×Ep} (h:zb9 C j q= .ok x):q.pos<x.1.pos:=by
 obtain⟨a,H,z⟩:=zp h
 obtain⟨b,I,A⟩:=zp z
 have w:=zeW I
 rw[(zb0 H).1] at w
 cases A
 exact w
def zkZ (C:Cx) (gt cap base gp:Nat) (t:TypeId) (size:Nat) (f:Ep→List Value) (y:PRL) (S:Sv) (w:World) (e:Ending) (w':World):Prop:=
 match y with
 | .ok a=>∃r S',e= .returned (.slice r.a a.2.length r.cap)∧IM C gt cap base gp S' a.1 w'∧IS gp S w S' w'∧Fr t size w' w.heap.size r a.2.length (a.2.flatMap f) S'∧0<a.2.length∧a.2.length≤4000
 | .error p=>e=Pan p∧Below base w w'
theorem zla {C:Cx} {I z j A:Nat} {S:Sv} {q:PS} {w:World} (h:IM C I z j A S q w) (t:TypeId) (size:Nat):Fr t size (w.alloc (.cells #[] t)) w.heap.size ⟨some ⟨w.heap.size,0,none⟩,0⟩ 0 [] S:=by
 refine⟨World.ownsRow_lit w #[] 0 (Nat.le_refl _) (by unfold maxLen;omega) (Nat.zero_mul _).symm,fun k g H=>?_⟩
 have J:w.heap.size=k:=by simpa [Rw.blk,Value.ownBlock] using g
 have:=(h.mem.own.has H).2
 omega
theorem zsE (C:Cx) (Y A j J:Nat) (S:Sv) (q:PS) (w:World) (h:IM C Y A j J S q w):
  Calls Tryz.prog 209 #[.pointer (some ⟨J,0,none⟩)] w (zkZ C Y A j J 84 3 (fun e=>imL (zbe e)) (za5 C false q []) S w):=by
 obtain⟨i0,hi,ap,ar,av⟩:=info_parts Tryz.infoImp
 go_enter Tryz.func209,Tryz.ntmps209
 go_wp2
 go_loopg [3] (C.ts.length+1) (fun k v wr=>∃(S':Sv) (Z:PS) (r:Rw) (l:List Ep),v= .slice r.a l.length r.cap∧za5 C false q []=za5 C false Z l∧C.ts.length-Z.pos<k∧l.length+(C.ts.length-Z.pos)≤C.ts.length∧IM C Y A j J S' Z wr∧IS J S w S' wr∧Fr 84 3 wr w.heap.size r l.length (l.flatMap (fun e=>imL (zbe e))) S')
 case atStart=>exact⟨S,q,⟨some ⟨w.heap.size,0,none⟩,0⟩,[],rfl,rfl,by omega,by simp,h.alloc _,(IS.refl _ _ _).alloc _,zla h _ _⟩
 case round=>
  obtain⟨S',Z,r,l,rfl,hy,hk,hl,m',s',f'⟩:=hrel
  have HY:=zc hy
  have HZ:=zc (HY.out.trans (zjV C false Z l))
  have ae:=m'
  have an:=s'
  have au:Hid (Fr 84 3 wr w.heap.size r l.length (l.flatMap (fun e=>imL (zbe e))) S'):=f'
  have ay:=m'.mem.few
  clear hy m' s' f'
  go_wp2_with fail
  refine (zqz C Y A j J S' Z _ ae).mono ?_
  cases aa:zb9 C false Z with
  |error p=>
   rintro e w1 ⟨rfl,hb⟩
   have HB:=(h.back an).trans hb
   have HX:Hid (za5 C false q []= .error p):=bdE HZ.out aa
   unfold Pan
   go_wp2
   refine⟨rfl,?_⟩
   rw[HX.out]
   exact⟨rfl,HB⟩
  |ok z=>
   rintro e w1 ⟨rfl,L,m,s⟩
   have I:Hid (Fr 84 3 w1 w.heap.size r l.length (l.flatMap (fun e=>imL (zbe e))) L):=au.out.step ae (by decide) s
   have N:=zc m
   have ah:Hid (IS J S w L w1):=an.trans s
   clear m s
   have aj:=zc (bdO HZ.out aa)
   have aB:=zhM aa
   have aA:=N.out.mem.inv.pos
   unfold imV
   have V:=fun o1=>(I.out.later ((Below.refl w1.heap.size w1).alloc (Nat.le_refl _) o1)).1
   have ak:=fun o1=>(ah.out.alloc o1).size
   go_wp2_with (at_builtin;refine zcv _ rfl _ _ 31 rfl w.heap.size 84 i0 _ 3 48 Tryz.underlying31 hi ap ar av rfl (by decide) (by decide) r l.length _ (by rfl) (V _) w1.heap.size (imL (zbe z.2)) (by rfl) (by exact heap_alloc_new w1 _) rfl (ziL _) (by omega) (ak _) ?_;intro X w2 hr ac ag;have HR:Hid (OwnR w2 w.heap.size 84 3 X (l.length+1) _):=hr;have O:Hid (IM C Y A j J L z.1 w2):=(N.out.alloc _).aside ac (fun k g=>⟨I.out.2 k g,I.out.ngp N.out (by decide) g,I.out.ngt N.out (by decide) g⟩);have ai:Hid (IS J S w L w2):=(ah.out.alloc _).aside ac (fun k g=>(I.out.1.typed g).1);have al:Hid (Fr 84 3 w2 w.heap.size X (l.length+1) _ L):=(I.out.later ((Below.refl _ _).alloc (Nat.le_refl _) _)).grown (N.out.alloc _) hr ag;clear hr ac ag V ak)
   have el:(l++[z.2]).length=l.length+1:=by simp
   have am:Hid (Fr 84 3 w2 w.heap.size X (l++[z.2]).length ((l++[z.2]).flatMap (fun e=>imL (zbe e))) L):=by
    show Fr ..
    rw[el,List.flatMap_append]
    simpa using al.out
   have M:=zc el
   clear el al HR
   go_wp2_with fail
   cases hc:isT C z.1.pos 4 zbD with
   |true=>
    have az:=za9 hc (by decide)
    have HC:=zc (aj.out.trans (if_pos hc))
    refine (zN C Y A j J L (z.1) 4 zbD _ O.out (by decide)).mono ?_
    rintro e w3 ⟨rfl,H,s⟩
    rw[hc] at H ⊢
    have U:=ai.out.trans s
    have af:=s
    clear s
    have ab:Hid (Fr 84 3 w3 w.heap.size X (l++[z.2]).length ((l++[z.2]).flatMap (fun e=>imL (zbe e))) L):=am.out.step O.out (by decide) af
    clear af
    go_wp2
    go_roundg (gk-1)
    case rel=>exact⟨L,adv z.1,X,l++[z.2],by rw[M.out],HC.out,by rw[zA];omega,by rw[zA,M.out];omega,H,U,ab.out⟩
    case measure=>omega
   |false=>
    have HC:=zc (aj.out.trans (if_neg (by rw[hc];decide)))
    refine (zN C Y A j J L (z.1) 4 zbD _ O.out (by decide)).mono ?_
    rintro e w3 ⟨rfl,H,s⟩
    rw[hc] at H ⊢
    have U:=ai.out.trans s
    have ab:Hid (Fr 84 3 w3 w.heap.size X (l++[z.2]).length ((l++[z.2]).flatMap (fun e=>imL (zbe e))) L):=am.out.step O.out (by decide) s
    clear s
    go_wp2_with fail
    refine (zcx C Y A j J L z.1 125 _ H).mono ?_
    cases ad:ze C 4 zbz z.1 with
    |error p=>
     rintro e w4 ⟨rfl,hb⟩
     have HB:=(h.back U).trans hb
     have HX:Hid (za5 C false q []= .error p):=bdE HC.out ad
     unfold Pan
     go_wp2
     refine⟨rfl,?_⟩
     rw[HX.out]
     exact⟨rfl,HB⟩
    |ok a4=>
     rintro e w4 ⟨rfl,S4,aq,s⟩
     have ax:Hid (Fr 84 3 w4 w.heap.size X (l++[z.2]).length ((l++[z.2]).flatMap (fun e=>imL (zbe e))) S4):=ab.out.step H (by decide) s
     have ao:=U.trans s
     clear s
     have aw:=zc (bdO HC.out ad)
     go_wp2
     go_ret
     rw[aw.out]
     exact⟨X,S4,by rw[M.out];rfl,aq,ao,ax.out,by show 0<(l++[z.2]).length;rw[M.out];omega,by show (l++[z.2]).length≤4000;rw[M.out];omega⟩
def impFromI (C:Cx) (l:List Ep) (q:PS):PR:=bd (ze C 1 zU q) fun a=>bd (zJ C a) fun b=>bd (ze C 4 cSemi b.1) fun c=>zX (fun e=>zao C (zcb b.2 e)) l (.ok c)
theorem zgC {α:Type} (f:α→PS→PR) (p:Nat): ∀l:List α,zX f l (.error p)= .error p
 |[]=>rfl
 |_::l=>zgC f p l
theorem zhN {α:Type} (f:α→PS→PR) {l:List α} {j:Nat} {x:α} (h:l[j]? =some x) (q:PS):zX f (l.drop j) (.ok q)=zX f (l.drop (j+1)) (f x q):=by
 obtain⟨w,rfl⟩:=List.getElem?_eq_some_iff.1 h
 rw[List.drop_eq_getElem_cons w]
 rfl
theorem zsF {C:Cx} {x:Im} {q a:PS} (h:zao C x q= .ok a):a.pos=q.pos:=by
 unfold zao at h
 split at h
 ·cases h
 ·cases h
  rfl
theorem zlb {C:Cx} {x:Ep} {q a:PS} (h:zs C x q= .ok a):a.pos=q.pos:=by
 unfold zs at h
 split at h
 ·cases h
 ·split at h
  ·cases h
   rfl
  ·cases h
   rfl
theorem zf4 {α:Type} {l:List α} {j:Nat} (h:j<l.length): ∃x,l[j]? =some x:=⟨_,List.getElem?_eq_getElem h⟩
theorem zsG (C:Cx) (V A z H b0 g:Nat) (r:Rw) (S:Sv) (q:PS) (l:List Ep) (w:World) (h:IM C V A z H S q w) (hC:zbn C) (hl:l.length≤4000) (hf:Fr 84 3 w b0 r l.length (l.flatMap (fun e=>imL (zbe e))) S) (hg:r.a=some ⟨g,0,none⟩):
  Calls Tryz.prog 208 #[.pointer (some ⟨H,0,none⟩),.slice (some ⟨g,0,none⟩) l.length r.cap] w (zR C V A z H (impFromI C l q) id (fun _=>.tuple #[]) S w):=by
 have HF:=zc hf
 have HG:=zc hg
 have HY:=zc (impFromI.eq_1 C l q)
 clear hf hg
 go_enter Tryz.func208,Tryz.ntmps208
 go_wp2_with fail
 refine (ze0 C V A z H S q zU _ h).mono ?_
 cases ab:ze C 1 zU q with
 |error p=>
  rintro e w1 ⟨rfl,M⟩
  have Z:Below z w w1:=(h.back (IS.refl _ _ _)).trans M
  have HX:Hid (impFromI C l q= .error p):=bdE HY.out ab
  unfold Pan
  go_wp2
  refine⟨rfl,?_⟩
  rw[HX.out]
  exact⟨rfl,Z⟩
 |ok a1=>
  rintro e w1 ⟨rfl,S1,am,N⟩
  have ao:Hid (Fr 84 3 w1 b0 r l.length (l.flatMap (fun e=>imL (zbe e))) S1):=HF.out.step h (by decide) N
  have ai:=zc (bdO HY.out ab)
  go_wp2_with fail
  refine (zfW C V A z H S1 a1 _ am hC).mono ?_
  cases al:zJ C a1 with
  |error p=>
   rintro e w2 ⟨rfl,M⟩
   have Z:=(h.back N).trans M
   have HX:Hid (impFromI C l q= .error p):=bdE ai.out al
   unfold Pan
   go_wp2
   refine⟨rfl,?_⟩
   rw[HX.out]
   exact⟨rfl,Z⟩
  |ok a2=>
   rintro e w2 ⟨rfl,S2,aj,s⟩
   have az:Hid (Fr 84 3 w2 b0 r l.length (l.flatMap (fun e=>imL (zbe e))) S2):=ao.out.step am (by decide) s
   have ae:=N.trans s
   clear s
   have ak:=zc (bdO ai.out al)
   go_wp2_with fail
   refine (zcx C V A z H S2 a2.1 59 _ aj).mono ?_
   cases U:ze C 4 cSemi (a2.1) with
   |error p=>
    rintro e w3 ⟨rfl,M⟩
    have Z:=(h.back ae).trans M
    have HX:Hid (impFromI C l q= .error p):=bdE ak.out U
    unfold Pan
    go_wp2
    refine⟨rfl,?_⟩
    rw[HX.out]
    exact⟨rfl,Z⟩
   |ok a3=>
    rintro e w3 ⟨rfl,S3,ay,s⟩
    have aA:Hid (Fr 84 3 w3 b0 r l.length (l.flatMap (fun e=>imL (zbe e))) S3):=az.out.step aj (by decide) s
    have au:=ae.trans s
    clear s
    have ar:=zc (bdO ak.out U)
    have af:0<a3.pos:=by rw[(zbT U).1];exact Nat.succ_pos _
    generalize aB:a2.2=sp at*
    clear aB
    go_wp2
    go_loopg [15] l.length (fun k i wr=>∃(j:Nat) (X:Sv) (L:PS),i= .int .i64 j∧j+k=l.length∧impFromI C l q=zX (fun e=>zao C (zcb sp e)) (l.drop j) (.ok L)∧0<L.pos∧IM C V A z H X L wr∧IS H S w X wr∧Fr 84 3 wr b0 r l.length (l.flatMap (fun e=>imL (zbe e))) X)
    case atStart=>exact⟨0,S3,a3,rfl,by omega,ar.out,af,ay,au,aA.out⟩
    case round=>
     obtain⟨j,X,L,rfl,hj,hy,ac,m',s',f'⟩:=hrel
     have ag:=zc hy
     have I:=m'
     have Y:=s'
     have aa:Hid (Fr 84 3 wr b0 r l.length (l.flatMap (fun e=>imL (zbe e))) X):=f'
     clear hy m' s' f'
     by_cases ap:j<l.length
     ·have ah:(j:Int)<(l.length:Int):=by omega
      obtain⟨x,hx⟩:=zf4 ap
      obtain⟨g',ad,J⟩:=OwnR.elem (f:=fun e=>imL (zbe e)) (m:=3) (fun _=>rfl) aa.out.1 hx
      have eg:g'=g:=by have:=ad.symm.trans HG.out;simpa using this
      subst eg
      have k0:=J 0 (by omega)
      have k1:=J 1 (by omega)
      have k2:=J 2 (by omega)
      simp only[imL,zbe,Nat.add_zero,List.getElem?_cons_zero,List.getElem?_cons_succ] at k0 k1 k2
      have HZ:=zc (ag.out.trans (zhN (fun e=>zao C (zcb sp e)) hx L))
      clear J ad hx
      obtain⟨j1,O⟩: ∃j1,j1=j+1:=⟨_,rfl⟩
      have ej:(j:Int)+1=(j1:Int):=by omega
      rw[←O] at HZ
      have aC:=(Array.getElem?_eq_some_iff.1 (aa.out.1.typed (by rw[Rw.blk,HG.out];rfl)).2.2.choose_spec).1
      have aD:=I.lt
      have HJ:=zc O
      clear O
      go_wp2_with fail
      refine (zmJ C V A z H X L (zcb sp x) _ (I.alloc _) ac).mono ?_
      cases hn:zao C (zcb sp x) L with
      |error p=>
       rintro e w5 ⟨rfl,M⟩
       have Z:Below z w w5:=(h.back (Y.alloc _)).trans M
       have HX:Hid (impFromI C l q= .error p):=by show _=_;rw[HZ.out,hn];exact zgC _ _ _
       unfold Pan
       go_wp2
       refine⟨rfl,?_⟩
       rw[HX.out]
       exact⟨rfl,Z⟩
      |ok a5=>
       rintro e w5 ⟨rfl,S5,an,s⟩
       have av:IS H S w S5 w5:=(Y.alloc _).trans s
       have aw:Hid (Fr 84 3 w5 b0 r l.length (l.flatMap (fun e=>imL (zbe e))) S5):=(aa.out.later ((Below.refl _ _).alloc (Nat.le_refl _) _)).step (I.alloc _) (by decide) s
       have aq:Hid (impFromI C l q=zX (fun e=>zao C (zcb sp e)) (l.drop j1) (.ok a5)):=by show _=_;rw[HZ.out,hn]
       have ax:Hid (0<a5.pos):=by show 0<a5.pos;rw[zsF hn];exact ac
       clear s
       go_wp2
       go_roundg (gk-1)
       case rel=>exact⟨j1,S5,a5,rfl,by have:=HJ.out;omega,aq.out,ax.out,an,av,aw.out⟩
       case measure=>omega
     ·have ah: ¬(j:Int)<(l.length:Int):=by omega
      have HZ:Hid (impFromI C l q= .ok L):=by show _=_;rw[ag.out,List.drop_eq_nil_of_le (by omega)];rfl
      go_wp2
      go_end0
      rw[HZ.out]
      exact⟨rfl,X,I,Y⟩
theorem zhO (C:Cx) (H z j A b0:Nat) (r:Rw) (S:Sv) (q:PS) (l:List Ep) (w:World) (h:IM C H z j A S q w) (L:zbn C) (M:l.length≤4000) (N:l.length≠0) (I:Fr 84 3 w b0 r l.length (l.flatMap (fun e=>imL (zbe e))) S):
  Calls Tryz.prog 208 #[.pointer (some ⟨A,0,none⟩),.slice r.a l.length r.cap] w (zR C H z j A (impFromI C l q) id (fun _=>.tuple #[]) S w):=by
 rcases I.1.nil_or with ⟨_,_,e⟩|⟨g,J⟩
 ·exact absurd e N
 ·rw[J]
  exact zsG C H z j A b0 g r S q l w h L M I J
theorem zlc {C:Cx} {I z j A:Nat} {S:Sv} {q:PS} {w:World} (h:IM C I z j A S q w) (t:TypeId) (xs:List Value):Fr t xs.length (w.alloc (.cells xs.toArray t)) w.heap.size ⟨some ⟨w.heap.size,0,none⟩,1⟩ 1 xs S:=by
 refine⟨?_,fun k g H=>?_⟩
 ·have:=World.ownsRow_lit (e:=t) (size:=xs.length) w xs.toArray 1 (Nat.le_refl _) (by unfold maxLen;omega) (by simp)
  simpa [OwnR] using this
 ·have J:w.heap.size=k:=by simpa [Rw.blk,Value.ownBlock] using g
  have:=(h.mem.own.has H).2
  omega
def zaQ (C:Cx) (q:PS):PR:=
 if (zf C q.pos).kind==3 then bd (zJ C q) fun a=>ze C 4 cSemi a.1
 else if isT C q.pos 4 zL then bd (za5 C false (adv q) []) fun a=>impFromI C a.2 a.1
 else if isT C q.pos 4 zz then bd (ze C 1 sAs (adv q)) fun a=>bd (zo C false a) fun b=>impFromI C [⟨0,b.2,zz,sNone⟩] b.1
 else bd (zo C false q) fun b=>impFromI C [⟨0,b.2,sDefault,sNone⟩] b.1
theorem zsH (C:Cx) (N z j H:Nat) (S:Sv) (q:PS) (w:World) (h:IM C N z j H S q w) (hC:zbn C) (hk:((zf C q.pos).kind==3)=true):
  Calls Tryz.prog 191 #[.pointer (some ⟨H,0,none⟩)] w (zR C N z j H (zaQ C q) id (fun _=>.tuple #[]) S w):=by
 have ab:=zda
 have HY:Hid (zaQ C q=bd (zJ C q) fun a=>ze C 4 cSemi a.1):=if_pos hk
 go_enter Tryz.func191,Tryz.ntmps191
 go_wp2_with fail
 refine (zb6 C N z j H S q _ h).mono ?_
 rintro e w1 ⟨rfl,A⟩
 unfold tkV
 have aa:=h.later A
 have J:IS H S w S w1:=IS.below A
 clear A
 go_wp2_with fail
 refine (zfW C N z j H S q _ aa hC).mono ?_
 cases O:zJ C q with
 |error p=>
  rintro e w2 ⟨rfl,A⟩
  have V:=(h.back J).trans A
  have HX:Hid (zaQ C q= .error p):=bdE HY.out O
  unfold Pan
  go_wp2
  refine⟨rfl,?_⟩
  rw[HX.out]
  exact⟨rfl,V⟩
 |ok a2=>
  rintro e w2 ⟨rfl,S2,U,s⟩
  have L:=J.trans s
  clear s
  have I:=zc (bdO HY.out O)
  go_wp2_with fail
  refine (zcx C N z j H S2 a2.1 59 _ U).mono ?_
  cases M:ze C 4 cSemi a2.1 with
  |error p=>
   rintro e w3 ⟨rfl,A⟩
   have V:=(h.back L).trans A
   have HX:Hid (zaQ C q= .error p):=I.out.trans M
   unfold Pan
   go_wp2
   refine⟨rfl,?_⟩
   rw[HX.out]
   exact⟨rfl,V⟩
  |ok a3=>
   rintro e w3 ⟨rfl,S3,X,s⟩
   have Z:=L.trans s
   clear s
   have Y:=zc (I.out.trans M)
   go_wp2
   go_end0
   rw[Y.out]
   exact⟨rfl,S3,X,Z⟩
theorem zsI (C:Cx) (I z j A:Nat) (S:Sv) (q:PS) (w:World) (h:IM C I z j A S q w) (hC:zbn C) (hk:((zf C q.pos).kind==3)=false) (h1:isT C q.pos 4 zL=true):
  Calls Tryz.prog 191 #[.pointer (some ⟨A,0,none⟩)] w (zR C I z j A (zaQ C q) id (fun _=>.tuple #[]) S w):=by
 have ae:=zda
 have HY:Hid (zaQ C q=bd (za5 C false (adv q) []) fun a=>impFromI C a.2 a.1):=by show _=_;rw[zaQ,hk,h1];rfl
 go_enter Tryz.func191,Tryz.ntmps191
 go_wp2_with fail
 refine (zb6 C I z j A S q _ h).mono ?_
 rintro e w1 ⟨rfl,H⟩
 unfold tkV
 have ad:=h.later H
 have Z:IS A S w S w1:=IS.below H
 clear H
 go_wp2_with fail
 refine (zN C I z j A S q 4 zL _ ad (by decide)).mono ?_
 rintro e w2 ⟨rfl,L,s⟩
 rw[h1] at L ⊢
 have M:=Z.trans s
 clear s
 go_wp2_with fail
 refine (zsE C I z j A S (adv q) _ L).mono ?_
 cases N:za5 C false (adv q) [] with
 |error p=>
  rintro e w3 ⟨rfl,H⟩
  have HB:=(h.back M).trans H
  have HX:Hid (zaQ C q= .error p):=bdE HY.out N
  unfold Pan
  go_wp2
  refine⟨rfl,?_⟩
  rw[HX.out]
  exact⟨rfl,HB⟩
 |ok V=>
  rintro e w3 ⟨r,S3,rfl,aa,s,f,l0,l1⟩
  have U:=M.trans s
  have ab:=zc f
  clear s f
  have O:=zc (bdO HY.out N)
  go_wp2_with fail
  refine (zhO C I z j A _ r S3 V.1 V.2 _ aa hC l1 (by omega) ab.out).mono ?_
  cases J:impFromI C V.2 V.1 with
  |error p=>
   rintro e w4 ⟨rfl,H⟩
   have HB:=(h.back U).trans H
   have HX:Hid (zaQ C q= .error p):=O.out.trans J
   unfold Pan
   go_wp2
   refine⟨rfl,?_⟩
   rw[HX.out]
   exact⟨rfl,HB⟩
  |ok a4=>
   rintro e w4 ⟨rfl,S4,Y,s⟩
   have X:=U.trans s
   clear s
   have ac:=zc (O.out.trans J)
   go_wp2
   go_end0
   rw[ac.out]
   exact⟨rfl,S4,Y,X⟩
theorem zsJ (C:Cx) (I z j A:Nat) (S:Sv) (q:PS) (w:World) (h:IM C I z j A S q w) (hC:zbn C) (hk:((zf C q.pos).kind==3)=false) (h1:isT C q.pos 4 zL=false) (h2:isT C q.pos 4 zz=true):
  Calls Tryz.prog 191 #[.pointer (some ⟨A,0,none⟩)] w (zR C I z j A (zaQ C q) id (fun _=>.tuple #[]) S w):=by
 have ak:=zda
 have HY:Hid (zaQ C q=bd (ze C 1 sAs (adv q)) fun a=>bd (zo C false a) fun b=>impFromI C [⟨0,b.2,zz,sNone⟩] b.1):=by show _=_;rw[zaQ,hk,h1,h2];rfl
 go_enter Tryz.func191,Tryz.ntmps191
 go_wp2_with fail
 refine (zb6 C I z j A S q _ h).mono ?_
 rintro e w1 ⟨rfl,H⟩
 unfold tkV
 have ai:=h.later H
 have ae:IS A S w S w1:=IS.below H
 clear H
 go_wp2_with fail
 refine (zN C I z j A S q 4 zL _ ai (by decide)).mono ?_
 rintro e w2 ⟨rfl,N,s⟩
 rw[h1] at N ⊢
 have af:=ae.trans s
 clear s
 go_wp2_with fail
 refine (zN C I z j A S q 4 zz _ N (by decide)).mono ?_
 rintro e w3 ⟨rfl,Z,s⟩
 rw[h2] at Z ⊢
 have aa:=af.trans s
 clear s
 go_wp2_with fail
 refine (ze0 C I z j A S (adv q) sAs _ Z).mono ?_
 cases J:ze C 1 sAs (adv q) with
 |error p=>
  rintro e w4 ⟨rfl,H⟩
  have V:=(h.back aa).trans H
  have HX:Hid (zaQ C q= .error p):=bdE HY.out J
  unfold Pan
  go_wp2
  refine⟨rfl,?_⟩
  rw[HX.out]
  exact⟨rfl,V⟩
 |ok a4=>
  rintro e w4 ⟨rfl,S4,ad,s⟩
  have L:=aa.trans s
  clear s
  have ab:=zc (bdO HY.out J)
  go_wp2_with fail
  refine (zdz C I z j A S4 a4 _ ad).mono ?_
  cases M:zo C false a4 with
  |error p=>
   rintro e w5 ⟨rfl,H⟩
   have V:=(h.back L).trans H
   have HX:Hid (zaQ C q= .error p):=bdE ab.out M
   unfold Pan
   go_wp2
   refine⟨rfl,?_⟩
   rw[HX.out]
   exact⟨rfl,V⟩
  |ok Y=>
   rintro e w5 ⟨rfl,S5,O,s⟩
   have ac:=L.trans s
   clear s
   have U:=zc (bdO ab.out M)
   go_wp2_with fail
   refine (zhO C I z j A _ ⟨some ⟨w5.heap.size,0,none⟩,1⟩ S5 Y.1 [⟨0,Y.2,zz,sNone⟩] _ (O.alloc _) hC (by simp) (by simp) (zlc O 84 (imL (zbe ⟨0,Y.2,zz,sNone⟩)))).mono ?_
   cases X:impFromI C [⟨0,Y.2,zz,sNone⟩] Y.1 with
   |error p=>
    rintro e w6 ⟨rfl,H⟩
    have V:Below j w w6:=(h.back (ac.alloc _)).trans H
    have HX:Hid (zaQ C q= .error p):=U.out.trans X
    unfold Pan
    go_wp2
    refine⟨rfl,?_⟩
    rw[HX.out]
    exact⟨rfl,V⟩
   |ok a6=>
    rintro e w6 ⟨rfl,S6,ag,s⟩
    have ah:IS A S w S6 w6:=(ac.alloc _).trans s
    clear s
    have aj:=zc (U.out.trans X)
    go_wp2
    go_end0
    rw[aj.out]
    exact⟨rfl,S6,ag,ah⟩
theorem zsK (C:Cx) (I z j A:Nat) (S:Sv) (q:PS) (w:World) (h:IM C I z j A S q w) (hC:zbn C) (hk:((zf C q.pos).kind==3)=false) (h1:isT C q.pos 4 zL=false) (h2:isT C q.pos 4 zz=false):
  Calls Tryz.prog 191 #[.pointer (some ⟨A,0,none⟩)] w (zR C I z j A (zaQ C q) id (fun _=>.tuple #[]) S w):=by
 have af:=zda
 have HY:Hid (zaQ C q=bd (zo C false q) fun b=>impFromI C [⟨0,b.2,sDefault,sNone⟩] b.1):=by show _=_;rw[zaQ,hk,h1,h2];rfl
 go_enter Tryz.func191,Tryz.ntmps191
 go_wp2_with fail
 refine (zb6 C I z j A S q _ h).mono ?_
 rintro e w1 ⟨rfl,H⟩
 unfold tkV
 have ae:=h.later H
 have aa:IS A S w S w1:=IS.below H
 clear H
 go_wp2_with fail
 refine (zN C I z j A S q 4 zL _ ae (by decide)).mono ?_
 rintro e w2 ⟨rfl,N,s⟩
 rw[h1] at N ⊢
 have ab:=aa.trans s
 clear s
 go_wp2_with fail
 refine (zN C I z j A S q 4 zz _ N (by decide)).mono ?_
 rintro e w3 ⟨rfl,V,s⟩
 rw[h2] at V ⊢
 have X:=ab.trans s
 clear s
 go_wp2_with fail
 refine (zdz C I z j A S q _ V).mono ?_
 cases J:zo C false q with
 |error p=>
  rintro e w4 ⟨rfl,H⟩
  have HB:=(h.back X).trans H
  have HX:Hid (zaQ C q= .error p):=bdE HY.out J
  unfold Pan
  go_wp2
  refine⟨rfl,?_⟩
  rw[HX.out]
  exact⟨rfl,HB⟩
 |ok U=>
  rintro e w4 ⟨rfl,S4,O,s⟩
  have L:=X.trans s
  clear s
  have Y:=zc (bdO HY.out J)
  go_wp2_with fail
  refine (zhO C I z j A _ ⟨some ⟨w4.heap.size,0,none⟩,1⟩ S4 U.1 [⟨0,U.2,sDefault,sNone⟩] _ (O.alloc _) hC (by simp) (by simp) (zlc O 84 (imL (zbe ⟨0,U.2,sDefault,sNone⟩)))).mono ?_
  cases M:impFromI C [⟨0,U.2,sDefault,sNone⟩] U.1 with
  |error p=>
   rintro e w5 ⟨rfl,H⟩
   have HB:Below j w w5:=(h.back (L.alloc _)).trans H
   have HX:Hid (zaQ C q= .error p):=Y.out.trans M
   unfold Pan
   go_wp2
   refine⟨rfl,?_⟩
   rw[HX.out]
   exact⟨rfl,HB⟩
  |ok a5=>
   rintro e w5 ⟨rfl,S5,Z,s⟩
   have ad:IS A S w S5 w5:=(L.alloc _).trans s
   clear s
   have ac:=zc (Y.out.trans M)
   go_wp2
   go_end0
   rw[ac.out]
   exact⟨rfl,S5,Z,ad⟩
theorem zsL (C:Cx) (H z j A:Nat) (S:Sv) (q:PS) (w:World) (h:IM C H z j A S q w) (J:zbn C):
  Calls Tryz.prog 191 #[.pointer (some ⟨A,0,none⟩)] w (zR C H z j A (zaQ C q) id (fun _=>.tuple #[]) S w):=by
 cases I:((zf C q.pos).kind==3) with
 |true=>exact zsH C H z j A S q w h J I
 |false=>
  cases L:isT C q.pos 4 zL with
  |true=>exact zsI C H z j A S q w h J I L
  |false=>
   cases M:isT C q.pos 4 zz with
   |true=>exact zsJ C H z j A S q w h J I L M
   |false=>exact zsK C H z j A S q w h J I L M
end Go.Proofs.YtjdddblpfbmpaaaGreat
