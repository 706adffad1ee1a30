/-
  What impl's imp answers: the walk.
  What impl's exp answers: the walk.
  What impl's kind answers,and side,if expr answers so: the walks.
  What impl's stmt answers,if expr answers so: the walk.
  What impl's program of the printer answers,if expr answers so: the walk.
  What impl's sum answers,if expr answers so,and what expr answers,kind by kind: the walks.
  What impl's expr answers,whole. No walk is zu.
  What impl.Print answers: the walk.
  What importList of impl's parser answers: the walk.
  What importFrom of impl's parser answers: the walk.
  What importItem of impl's parser answers: the walks.
-/
import Derived.Test.YtjdddblpfbmpaaaGreatCmImplBuilderToImplPrintB
namespace Go.Proofs.YtjdddblpfbmpaaaGreat
set_option maxRecDepth 100000
set_option maxHeartbeats 12800000
open Go.RowKit Go.PlainAid Go.Sort
theorem zc0 (c:PC) (t:ByteArray) (j:List ByteArray) (w:World) (h:PP c t w) (q:(zv t j).size≤140737488355328) (L:j.length≤4294967296):
  Calls Tryz.prog 122 #[.slice (some ⟨w.heap.size,0,none⟩) j.length j.length,.pointer (some ⟨c.b,0,none⟩)] (w.alloc (.cells (j.map Value.string).toArray 9)).drew (PO c (zv t j) w):=by
 have z:Below w.heap.size w (w.alloc (.cells (j.map Value.string).toArray 9)).drew:=((Below.refl _ _).alloc (Nat.le_refl _) _).drew
 refine (zlp c t j w.heap.size _ (h.later z) (heap_alloc_new w _) q L).mono ?_
 rintro e M ⟨A,I,H,J⟩
 exact⟨A,I,(z.mono h.1.2).trans H,(KeepB.of_below z).trans J⟩
def zc1 (x:Im):ByteArray:=
 if x.first.toList==[42] then ({data:=#[105,109,112,111,114,116,32]}:ByteArray)++({data:=#[42,32,97,115,32]}:ByteArray)++x.loc
 else if x.first.toList==[100,101,102,97,117,108,116] then ({data:=#[105,109,112,111,114,116,32]}:ByteArray)++x.loc
 else ({data:=#[105,109,112,111,114,116,32]}:ByteArray)++zbZ x.first x.loc
theorem zsw {x:Im} (e:(x.first.toList==[42])=true):zc1 x=({data:=#[105,109,112,111,114,116,32]}:ByteArray)++({data:=#[42,32,97,115,32]}:ByteArray)++x.loc:=by rw[zc1,e];rfl
theorem zsx {x:Im} (e:(x.first.toList==[42])=false) (j:(x.first.toList==[100,101,102,97,117,108,116])=true):zc1 x=({data:=#[105,109,112,111,114,116,32]}:ByteArray)++x.loc:=by rw[zc1,e,j];rfl
theorem zsy {x:Im} (e:(x.first.toList==[42])=false) (j:(x.first.toList==[100,101,102,97,117,108,116])=false):zc1 x=({data:=#[105,109,112,111,114,116,32]}:ByteArray)++zbZ x.first x.loc:=by rw[zc1,e,j];rfl
theorem zcj (a b:Array UInt8):(⟨a++b⟩:ByteArray)=⟨a⟩++⟨b⟩:=by
 apply ByteArray.ext
 simp
theorem zeQ (x:Im):zad x=zc1 x++({data:=#[32,102,114,111,109,32]}:ByteArray)++za2 x.spec++({data:=#[59]}:ByteArray)++({data:=#[10]}:ByteArray):=by
 have A:({data:=#[59,10]}:ByteArray)={data:=#[59]}++{data:=#[10]}:=zcj #[59] #[10]
 have q:({data:=#[105,109,112,111,114,116,32,42,32,97,115,32]}:ByteArray)={data:=#[105,109,112,111,114,116,32]}++{data:=#[42,32,97,115,32]}:=zcj #[105,109,112,111,114,116,32] #[42,32,97,115,32]
 have z:({data:=#[105,109,112,111,114,116,32,123,32]}:ByteArray)={data:=#[105,109,112,111,114,116,32]}++{data:=#[123,32]}:=zcj #[105,109,112,111,114,116,32] #[123,32]
 have j:({data:=#[32,125,32,102,114,111,109,32]}:ByteArray)={data:=#[32,125]}++{data:=#[32,102,114,111,109,32]}:=zcj #[32,125] #[32,102,114,111,109,32]
 unfold zad zc1 zbZ
 rw[A,q,z,j]
 split
 ·simp only[ByteArray.append_assoc]
 ·split<;>simp only[ByteArray.append_assoc]
theorem zsz (x:Im):(({data:=#[105,109,112,111,114,116,32]}:ByteArray)).size≤(zad x).size:=by
 rw[zeQ,zc1]
 split
 ·simp only[ByteArray.size_append];omega
 ·split<;>(simp only[ByteArray.size_append];omega)
theorem zs0 (c:PC) (t:ByteArray) (x:Im) (w:World) (h:PP c t w) (A:(t++zad x).size≤140737488355328) (h1:x.spec.size≤1099511627776):
  Calls Tryz.prog 172 #[.pointer (some ⟨c.gp,0,none⟩),imV x] w (PO c (t++zad x) w):=by
 have HP:=zc h
 have O:=zc A
 clear h A
 have HZ:Hid (t.size+(zad x).size≤140737488355328∧(({data:=#[105,109,112,111,114,116,32]}:ByteArray)).size≤(zad x).size):=⟨by have:=O.out;rw[ByteArray.size_append] at this;exact this,zsz x⟩
 unfold imV
 go_enter Tryz.func172,Tryz.ntmps172
 go_upto_region 1 with fail
 have HW:Hid (Below w.heap.size w (w.alloc (.cells #[.string x.spec,.string x.first,.string x.loc] 84))):=(Below.refl _ _).alloc (Nat.le_refl _) _
 refine zac (R:=fun W=>W.heap[w.heap.size]? =some (.cells #[.string x.spec,.string x.first,.string x.loc] 84 (0,0))∧PP c t W∧Below c.B w W∧KeepB c.b w W) ⟨heap_alloc_new w _,HP.out.later HW.out,HW.out.mono HP.out.1.2,KeepB.of_below HW.out⟩ ?_
 obtain⟨gx,N⟩: ∃gx,gx=w.heap.size:=⟨_,rfl⟩
 have Z:gx≠c.b:=by
  rw[N]
  obtain⟨al,hc⟩:=zci HP.out.1.1
  have:=(Array.getElem?_eq_some_iff.1 hc).1
  omega
 rw[←N]
 rintro W ⟨hx,hp,hb,hk⟩
 clear N HW
 have X:=zc hx
 have L:=zc hp
 have aa:=zc hb
 have ac:=zc hk
 clear hx hp hb hk
 obtain⟨x0,x1,x2,xf⟩:=zbJ X.out
 obtain⟨p0,p1,p2,p3,p4,p5,pf⟩:=zx L.out.2.2.1
 go_wp2_with fail
 refine (zbK c t [{data:=#[105,109,112,111,114,116,32]}] W L.out (by have:=HZ.out;simp only[zv,List.foldl_cons,List.foldl_nil,ByteArray.size_append] at this ⊢;omega) (by simp)).mono ?_
 rintro e V ⟨rfl,Y,ad,J⟩
 have H:=zc Y
 have ah:=zc (aa.out.trans ad)
 have af:=zc (ac.out.trans J)
 have X1:=zc ((J _ _ _ _ X.out Z (by decide)).trans X.out)
 clear Y ad J p0 p1 p2 p3 p4 p5 pf x0 x1 x2 xf L aa ac X
 obtain⟨x0,x1,x2,xf⟩:=zbJ X1.out
 obtain⟨p0,p1,p2,p3,p4,p5,pf⟩:=zx H.out.2.2.1
 have ae:=(Array.getElem?_eq_some_iff.1 H.out.2.2.1).1
 have U:=(Array.getElem?_eq_some_iff.1 X1.out).1
 have A:=O.out
 go_upto_block 0 with fail
 go_cut [] from 12 to 37 (fun wx=>PP c (t++zc1 x) wx∧Below c.B V wx∧KeepB c.b V wx)
 case first=>
  cases e1:(x.first.toList==[42]) with
  |true=>
   have I:Hid (zc1 x=({data:=#[105,109,112,111,114,116,32]}:ByteArray)++({data:=#[42,32,97,115,32]}:ByteArray)++x.loc):=zsw e1
   go_wp2_with fail
   go_region_with (go_at_call 122;refine (zc0 c _ [{data:=#[42,32,97,115,32]},x.loc] V H.out (by have:=O.out;rw[zeQ,I.out] at this;simp only[zv,List.foldl_cons,List.foldl_nil,ByteArray.size_append] at this ⊢;omega) (by simp)).mono ?_;rintro e w2 ⟨rfl,j,z,q⟩)
   all_goals (go_wp2_with fail;go_meet;exact⟨by rw[I.out];simp only[zv,List.foldl_cons,List.foldl_nil,←ByteArray.append_assoc] at j ⊢;exact j,z,q⟩)
  |false=>
   cases e2:(x.first.toList==[100,101,102,97,117,108,116]) with
   |true=>
    have I:Hid (zc1 x=({data:=#[105,109,112,111,114,116,32]}:ByteArray)++x.loc):=zsx e1 e2
    go_wp2_with fail
    go_region_with (go_at_call 122;refine (zc0 c _ [x.loc] V H.out (by have:=O.out;rw[zeQ,I.out] at this;simp only[zv,List.foldl_cons,List.foldl_nil,ByteArray.size_append] at this ⊢;omega) (by simp)).mono ?_;rintro e w2 ⟨rfl,j,z,q⟩)
    all_goals (go_wp2_with fail;go_meet;exact⟨by rw[I.out];simp only[zv,List.foldl_cons,List.foldl_nil,←ByteArray.append_assoc] at j ⊢;exact j,z,q⟩)
   |false=>
    have I:Hid (zc1 x=({data:=#[105,109,112,111,114,116,32]}:ByteArray)++zbZ x.first x.loc):=zsy e1 e2
    go_wp2_with fail
    refine (zit c _ x.first x.loc V H.out (by have:=O.out;rw[zeQ,I.out] at this;simp only[zv,List.foldl_cons,List.foldl_nil,ByteArray.size_append] at this ⊢;omega)).mono ?_
    rintro e w2 ⟨rfl,j,z,q⟩
    go_wp2_with fail
    go_meet
    exact⟨by rw[I.out];simp only[zv,List.foldl_cons,List.foldl_nil,←ByteArray.append_assoc] at j ⊢;exact j,z,q⟩
 case rest=>
 obtain⟨j,z,q⟩:=hcut
 rename_i w2
 have M:=zc j
 have ai:=zc (ah.out.trans z)
 have ag:=zc (af.out.trans q)
 have X2:=zc ((q _ _ _ _ X1.out Z (by decide)).trans X1.out)
 clear j z q p0 p1 p2 p3 p4 p5 pf x0 x1 x2 xf ae U
 obtain⟨p0,p1,p2,p3,p4,p5,pf⟩:=zx M.out.2.2.1
 obtain⟨x0,x1,x2,xf⟩:=zbJ X2.out
 have ae:=(Array.getElem?_eq_some_iff.1 M.out.2.2.1).1
 have U:=(Array.getElem?_eq_some_iff.1 X2.out).1
 go_wp2_with fail
 go_region_with (first|(go_at_call 171;refine (zgR x.spec _ h1).mono ?_;rintro e w' ⟨rfl,rfl⟩)|(go_at_call 122;refine (zc0 c _ [{data:=#[32,102,114,111,109,32]},za2 x.spec,{data:=#[59]},{data:=#[10]}] _ M.out (by have:=O.out;rw[zeQ] at this;simp only[zv,List.foldl_cons,List.foldl_nil,ByteArray.size_append] at this ⊢;omega) (by simp)).mono ?_;rintro e w3 ⟨rfl,ab,ak,aj⟩))
 all_goals (go_wp2;go_end0;exact⟨rfl,(by rw[zeQ];simp only[zv,List.foldl_cons,List.foldl_nil,←ByteArray.append_assoc] at ab ⊢;exact ab),ai.out.trans ak,ag.out.trans aj⟩)
def zc2 (x:Ep):ByteArray:=
 if x.kind==3 then ({data:=#[101,120,112,111,114,116,32]}:ByteArray)++({data:=#[42,32,102,114,111,109,32]}:ByteArray)++za2 x.spec
 else if x.kind==2 then ({data:=#[101,120,112,111,114,116,32]}:ByteArray)++zbZ x.loc x.name++({data:=#[32,102,114,111,109,32]}:ByteArray)++za2 x.spec
 else ({data:=#[101,120,112,111,114,116,32]}:ByteArray)++zbZ x.loc x.name
theorem zs1 {x:Ep} (e:(x.kind==3)=true):zc2 x=({data:=#[101,120,112,111,114,116,32]}:ByteArray)++({data:=#[42,32,102,114,111,109,32]}:ByteArray)++za2 x.spec:=by rw[zc2,e];rfl
theorem zs2 {x:Ep} (e:(x.kind==3)=false) (j:(x.kind==2)=true):zc2 x=({data:=#[101,120,112,111,114,116,32]}:ByteArray)++zbZ x.loc x.name++({data:=#[32,102,114,111,109,32]}:ByteArray)++za2 x.spec:=by rw[zc2,e,j];rfl
theorem zs3 {x:Ep} (e:(x.kind==3)=false) (j:(x.kind==2)=false):zc2 x=({data:=#[101,120,112,111,114,116,32]}:ByteArray)++zbZ x.loc x.name:=by rw[zc2,e,j];rfl
theorem zeo (x:Ep):zbw x=zc2 x++({data:=#[59]}:ByteArray)++({data:=#[10]}:ByteArray):=by
 have q:({data:=#[59,10]}:ByteArray)={data:=#[59]}++{data:=#[10]}:=zcj #[59] #[10]
 have z:({data:=#[101,120,112,111,114,116,32,42,32,102,114,111,109,32]}:ByteArray)={data:=#[101,120,112,111,114,116,32]}++{data:=#[42,32,102,114,111,109,32]}:=zcj #[101,120,112,111,114,116,32] #[42,32,102,114,111,109,32]
 have H:({data:=#[101,120,112,111,114,116,32,123,32]}:ByteArray)={data:=#[101,120,112,111,114,116,32]}++{data:=#[123,32]}:=zcj #[101,120,112,111,114,116,32] #[123,32]
 have j:({data:=#[32,125,32,102,114,111,109,32]}:ByteArray)={data:=#[32,125]}++{data:=#[32,102,114,111,109,32]}:=zcj #[32,125] #[32,102,114,111,109,32]
 have A:({data:=#[32,125,59,10]}:ByteArray)={data:=#[32,125]}++{data:=#[59,10]}:=zcj #[32,125] #[59,10]
 unfold zbw zc2 zbZ
 rw[A,q,z,H,j]
 split
 ·simp only[ByteArray.append_assoc]
 ·split<;>simp only[ByteArray.append_assoc]
theorem zs4 (x:Ep):(({data:=#[101,120,112,111,114,116,32]}:ByteArray)).size≤(zbw x).size:=by
 rw[zeo,zc2]
 split
 ·simp only[ByteArray.size_append];omega
 ·split<;>(simp only[ByteArray.size_append];omega)
theorem zs5 (c:PC) (t:ByteArray) (x:Ep) (w:World) (h:PP c t w) (J:(t++zbw x).size≤140737488355328) (h1:x.spec.size≤1099511627776):
  Calls Tryz.prog 173 #[.pointer (some ⟨c.gp,0,none⟩),epV x] w (PO c (t++zbw x) w):=by
 have HP:=zc h
 have HL:=zc J
 clear h J
 have HZ:Hid (t.size+(zbw x).size≤140737488355328∧(({data:=#[101,120,112,111,114,116,32]}:ByteArray)).size≤(zbw x).size):=⟨by have:=HL.out;rw[ByteArray.size_append] at this;exact this,zs4 x⟩
 unfold epV
 go_enter Tryz.func173,Tryz.ntmps173
 go_upto_region 1 with fail
 have HW:Hid (Below w.heap.size w (w.alloc (.cells #[.int .i64 x.kind,.string x.name,.string x.loc,.string x.spec] 86))):=(Below.refl _ _).alloc (Nat.le_refl _) _
 refine zac (R:=fun W=>W.heap[w.heap.size]? =some (.cells #[.int .i64 x.kind,.string x.name,.string x.loc,.string x.spec] 86 (0,0))∧PP c t W∧Below c.B w W∧KeepB c.b w W) ⟨heap_alloc_new w _,HP.out.later HW.out,HW.out.mono HP.out.1.2,KeepB.of_below HW.out⟩ ?_
 obtain⟨gx,ac⟩: ∃gx,gx=w.heap.size:=⟨_,rfl⟩
 have ag:gx≠c.b:=by
  rw[ac]
  obtain⟨ap,hc⟩:=zci HP.out.1.1
  have:=(Array.getElem?_eq_some_iff.1 hc).1
  omega
 rw[←ac]
 rintro W ⟨hx,hp,hb,hk⟩
 clear ac HW
 have X:=zc hx
 have ab:=zc hp
 have ah:=zc hb
 have ai:=zc hk
 clear hx hp hb hk
 obtain⟨x0,x1,x2,x3,xf⟩:=zdH X.out
 obtain⟨p0,p1,p2,Y,U,O,pf⟩:=zx ab.out.2.2.1
 go_wp2_with fail
 refine (zbK c t [{data:=#[101,120,112,111,114,116,32]}] W ab.out (by have:=HZ.out;simp only[zv,List.foldl_cons,List.foldl_nil,ByteArray.size_append] at this ⊢;omega) (by simp)).mono ?_
 rintro e w1 ⟨rfl,af,ak,Z⟩
 have L:=zc af
 have an:=zc (ah.out.trans ak)
 have al:=zc (ai.out.trans Z)
 have X1:=zc ((Z _ _ _ _ X.out ag (by decide)).trans X.out)
 clear af ak Z p0 p1 p2 Y U O pf x0 x1 x2 x3 xf ab ah ai X
 obtain⟨x0,x1,x2,x3,xf⟩:=zdH X1.out
 obtain⟨p0,p1,p2,Y,U,O,pf⟩:=zx L.out.2.2.1
 have ae:=(Array.getElem?_eq_some_iff.1 L.out.2.2.1).1
 have V:=(Array.getElem?_eq_some_iff.1 X1.out).1
 have J:=HL.out
 go_upto_block 0 with fail
 go_cut [] from 12 to 45 (fun wx=>PP c (t++zc2 x) wx∧Below c.B w1 wx∧KeepB c.b w1 wx)
 case first=>
  cases e1:(x.kind==3) with
  |true=>
   have N:Hid (zc2 x=({data:=#[101,120,112,111,114,116,32]}:ByteArray)++({data:=#[42,32,102,114,111,109,32]}:ByteArray)++za2 x.spec):=zs1 e1
   go_wp2_with fail
   go_region_with (first|(go_at_call 171;refine (zgR x.spec _ h1).mono ?_;rintro e w' ⟨rfl,rfl⟩)|(go_at_call 122;refine (zc0 c _ [{data:=#[42,32,102,114,111,109,32]},za2 x.spec] w1 L.out (by have:=HL.out;rw[zeo,N.out] at this;simp only[zv,List.foldl_cons,List.foldl_nil,ByteArray.size_append] at this ⊢;omega) (by simp)).mono ?_;rintro e w2 ⟨rfl,j,A,q⟩))
   all_goals (go_wp2_with fail;go_meet;exact⟨by rw[N.out];simp only[zv,List.foldl_cons,List.foldl_nil,←ByteArray.append_assoc] at j ⊢;exact j,A,q⟩)
  |false=>
   cases e2:(x.kind==2) with
   |true=>
    have N:Hid (zc2 x=({data:=#[101,120,112,111,114,116,32]}:ByteArray)++zbZ x.loc x.name++({data:=#[32,102,114,111,109,32]}:ByteArray)++za2 x.spec):=zs2 e1 e2
    go_wp2_with fail
    refine (zit c _ x.loc x.name w1 L.out (by have:=HL.out;rw[zeo,N.out] at this;simp only[zv,List.foldl_cons,List.foldl_nil,ByteArray.size_append] at this ⊢;omega)).mono ?_
    rintro e w3 ⟨rfl,z,M,H⟩
    have I:=zc z
    have X3:=zc ((H _ _ _ _ X1.out ag (by decide)).trans X1.out)
    have aa:=zc M
    have ad:=zc H
    clear z M H p0 p1 p2 Y U O pf x0 x1 x2 x3 xf ae V
    obtain⟨p0,p1,p2,Y,U,O,pf⟩:=zx I.out.2.2.1
    obtain⟨x0,x1,x2,x3,xf⟩:=zdH X3.out
    have ae:=(Array.getElem?_eq_some_iff.1 I.out.2.2.1).1
    have V:=(Array.getElem?_eq_some_iff.1 X3.out).1
    go_wp2_with fail
    go_region_with (first|(go_at_call 171;refine (zgR x.spec _ h1).mono ?_;rintro e w' ⟨rfl,rfl⟩)|(go_at_call 122;refine (zc0 c _ [{data:=#[32,102,114,111,109,32]},za2 x.spec] w3 I.out (by have:=HL.out;rw[zeo,N.out] at this;simp only[zv,List.foldl_cons,List.foldl_nil,ByteArray.size_append] at this ⊢;omega) (by simp)).mono ?_;rintro e w2 ⟨rfl,j,A,q⟩))
    all_goals (go_wp2_with fail;go_meet;exact⟨by rw[N.out];simp only[zv,List.foldl_cons,List.foldl_nil,←ByteArray.append_assoc] at j ⊢;exact j,aa.out.trans A,ad.out.trans q⟩)
   |false=>
    have N:Hid (zc2 x=({data:=#[101,120,112,111,114,116,32]}:ByteArray)++zbZ x.loc x.name):=zs3 e1 e2
    go_wp2_with fail
    refine (zit c _ x.loc x.name w1 L.out (by have:=HL.out;rw[zeo,N.out] at this;simp only[zv,List.foldl_cons,List.foldl_nil,ByteArray.size_append] at this ⊢;omega)).mono ?_
    rintro e w2 ⟨rfl,j,A,q⟩
    go_wp2_with fail
    go_meet
    exact⟨by rw[N.out];simp only[zv,List.foldl_cons,List.foldl_nil,←ByteArray.append_assoc] at j ⊢;exact j,A,q⟩
 case rest=>
 obtain⟨j,A,q⟩:=hcut
 rename_i w2
 have aj:=zc j
 have ao:=zc (an.out.trans A)
 have am:=zc (al.out.trans q)
 clear j A q p0 p1 p2 Y U O pf x0 x1 x2 x3 xf ae V
 obtain⟨p0,p1,p2,Y,U,O,pf⟩:=zx aj.out.2.2.1
 go_wp2_with fail
 refine (zbK c _ [{data:=#[59]},{data:=#[10]}] _ aj.out (by have:=HL.out;rw[zeo] at this;simp only[zv,List.foldl_cons,List.foldl_nil,ByteArray.size_append] at this ⊢;omega) (by simp)).mono ?_
 rintro e w3 ⟨rfl,z,M,H⟩
 have I:=zc z
 have aa:=zc (ao.out.trans M)
 have ad:=zc (am.out.trans H)
 clear z M H p0 p1 p2 Y U O pf
 go_wp2
 go_end0
 exact⟨rfl,(by have z:=I.out;rw[zeo];simp only[zv,List.foldl_cons,List.foldl_nil,←ByteArray.append_assoc] at z ⊢;exact z),aa.out,ad.out⟩
theorem ziu (c:PC) (t:ByteArray) (i:Nat) (w:World) (h:PP c t w) (J:i<c.m.ex.length):
  Calls Tryz.prog 222 #[.pointer (some ⟨c.gp,0,none⟩),.int .i64 (i:Int)] w fun e w'=>e= .returned (.int .i64 (c.m.ex.getD i zi).kind)∧w'=w:=by
 obtain⟨p0,Y,O,M,H,N,X⟩:=zx h.2.2.1
 obtain⟨g,q,L,A,x1,Z,V,U,x5⟩:=h.2.1.expr J
 rw[q] at H
 have I:(i:Int)<(c.m.ex.length:Int):=by omega
 obtain⟨z,j⟩: ∃z,(c.m.ex.getD i zi).kind=z:=⟨_,rfl⟩
 rw[j] at A
 rw[j]
 clear h q j
 go_enter Tryz.func222,Tryz.ntmps222
 go_wp2
 go_ret
 exact⟨rfl,rfl⟩
def zc3 (c:PC) (i:Nat):Prop:=∀(t:ByteArray) (w:World),PP c t w→(t++prX c.m.ex i).size≤140737488355328→Calls Tryz.prog 201 #[.pointer (some ⟨c.gp,0,none⟩),.int .i64 (i:Int)] w (PO c (t++prX c.m.ex i) w)
theorem zgS (c:PC) (t:ByteArray) (i:Nat) (o:Bool) (w:World) (ok:zc3 c i) (h:PP c t w) (j:(t++zJ o (prX c.m.ex i)).size≤140737488355328):
  Calls Tryz.prog 221 #[.pointer (some ⟨c.gp,0,none⟩),.int .i64 (i:Int),.bool o] w (PO c (t++zJ o (prX c.m.ex i)) w):=by
 have OK:=zc ok
 have HP:=zc h
 clear ok h
 obtain⟨p0,p1,p2,Z,p4,p5,pf⟩:=zx HP.out.2.2.1
 cases o with
 |false=>
  have O:Hid ((t++prX c.m.ex i).size≤140737488355328):=j
  clear j
  go_enter Tryz.func221,Tryz.ntmps221
  go_wp2_with fail
  refine (OK.out t w HP.out O.out).mono ?_
  rintro e w1 ⟨rfl,q,H,z⟩
  have J:=zc q
  have L:=zc H
  have I:=zc z
  clear q H z p0 p1 p2 Z p4 p5 pf
  go_wp2
  refine bodyPost_ret (results_none rfl _ _ _) rfl ?_
  exact⟨rfl,J.out,L.out,I.out⟩
 |true=>
  have O:Hid ((t++(zr++prX c.m.ex i++za8)).size≤140737488355328):=j
  clear j
  go_enter Tryz.func221,Tryz.ntmps221
  go_wp2_with fail
  refine (zbK c t [zr] w HP.out (by have:=O.out;simp only[zv,List.foldl_cons,List.foldl_nil,ByteArray.size_append] at this ⊢;omega) (by simp)).mono ?_
  rintro e w1 ⟨rfl,q,H,z⟩
  have J:=zc q
  have L:=zc H
  have I:=zc z
  clear q H z p0 p1 p2 Z p4 p5 pf
  go_wp2_with fail
  refine (OK.out _ w1 J.out (by have:=O.out;simp only[zv,List.foldl_cons,List.foldl_nil,ByteArray.size_append] at this ⊢;omega)).mono ?_
  rintro e w2 ⟨rfl,N,U,M⟩
  have X:=zc N
  have ad:=zc (L.out.trans U)
  have ac:=zc (I.out.trans M)
  clear N U M
  obtain⟨p0,p1,p2,Z,p4,p5,pf⟩:=zx X.out.2.2.1
  go_wp2_with fail
  refine (zbK c _ [za8] w2 X.out (by have:=O.out;simp only[zv,List.foldl_cons,List.foldl_nil,ByteArray.size_append] at this ⊢;omega) (by simp)).mono ?_
  rintro e w3 ⟨rfl,A,Y,V⟩
  have ab:=zc A
  have aa:=zc (ad.out.trans Y)
  have ae:=zc (ac.out.trans V)
  clear A Y V p0 p1 p2 Z p4 p5 pf
  go_wp2
  go_end0
  exact⟨rfl,(by have A:=ab.out;unfold zJ;rw[if_pos rfl];simp only[zv,List.foldl_cons,List.foldl_nil,←ByteArray.append_assoc] at A ⊢;exact A),aa.out,ae.out⟩
def zaT (k:Int) (n:ByteArray):ByteArray:=
 if n.toList==[42,100,101,102,97,117,108,116] then ({data:=#[101,120,112,111,114,116,32]}:ByteArray)++({data:=#[100,101,102,97,117,108,116]}:ByteArray)++({data:=#[32]}:ByteArray)
 else if k==1 then ({data:=#[108,101,116,32]}:ByteArray)++n++({data:=#[32,61,32]}:ByteArray)
 else if k==2 then ({data:=#[102,117,110,99,116,105,111,110,32]}:ByteArray)++n++({data:=#[40,41,32,123,32,114,101,116,117,114,110,32]}:ByteArray)
 else if k==3 then n++({data:=#[32,61,32]}:ByteArray)
 else if k==4 then ({data:=#[112,114,105,110,116,40]}:ByteArray)
 else if k==5 then ({data:=#[116,104,114,111,119,32]}:ByteArray)
 else ({data:=#[102,97,105,108,32]}:ByteArray)
def zaP (k:Int) (n:ByteArray):ByteArray:=
 if n.toList==[42,100,101,102,97,117,108,116] then ({data:=#[59]}:ByteArray) else if k==2 then ({data:=#[59,32,125]}:ByteArray) else if k==4 then ({data:=#[41,59]}:ByteArray) else ({data:=#[59]}:ByteArray)
theorem zlq {k:Int} {n:ByteArray} (e:(n.toList==[42,100,101,102,97,117,108,116])=true):zaT k n=({data:=#[101,120,112,111,114,116,32]}:ByteArray)++({data:=#[100,101,102,97,117,108,116]}:ByteArray)++({data:=#[32]}:ByteArray):=by rw[zaT,e];rfl
theorem zlr {k:Int} {n:ByteArray} (e:(n.toList==[42,100,101,102,97,117,108,116])=true):zaP k n=({data:=#[59]}:ByteArray):=by rw[zaP,e];rfl
theorem zls {k:Int} {n:ByteArray} (e:(n.toList==[42,100,101,102,97,117,108,116])=false) (j:(k==1)=true):zaT k n=({data:=#[108,101,116,32]}:ByteArray)++n++({data:=#[32,61,32]}:ByteArray):=by rw[zaT,e,j];rfl
theorem zlt {k:Int} {n:ByteArray} (e:(n.toList==[42,100,101,102,97,117,108,116])=false) (j:(k==1)=true):zaP k n=({data:=#[59]}:ByteArray):=by have q:=eq_of_beq j;subst q;rw[zaP,e];rfl
theorem zlu {k:Int} {n:ByteArray} (e:(n.toList==[42,100,101,102,97,117,108,116])=false) (q:(k==1)=false) (j:(k==2)=true):zaT k n=({data:=#[102,117,110,99,116,105,111,110,32]}:ByteArray)++n++({data:=#[40,41,32,123,32,114,101,116,117,114,110,32]}:ByteArray):=by rw[zaT,e,q,j];rfl
theorem zlv {k:Int} {n:ByteArray} (e:(n.toList==[42,100,101,102,97,117,108,116])=false) (j:(k==2)=true):zaP k n=({data:=#[59,32,125]}:ByteArray):=by rw[zaP,e,j];rfl
theorem zlw {k:Int} {n:ByteArray} (e:(n.toList==[42,100,101,102,97,117,108,116])=false) (z:(k==1)=false) (q:(k==2)=false) (j:(k==3)=true):zaT k n=n++({data:=#[32,61,32]}:ByteArray):=by rw[zaT,e,z,q,j];rfl
theorem zlx {k:Int} {n:ByteArray} (e:(n.toList==[42,100,101,102,97,117,108,116])=false) (j:(k==3)=true):zaP k n=({data:=#[59]}:ByteArray):=by have q:=eq_of_beq j;subst q;rw[zaP,e];rfl
theorem zly {k:Int} {n:ByteArray} (e:(n.toList==[42,100,101,102,97,117,108,116])=false) (A:(k==1)=false) (q:(k==2)=false) (j:(k==3)=false) (z:(k==4)=true):zaT k n=({data:=#[112,114,105,110,116,40]}:ByteArray):=by rw[zaT,e,A,q,j,z];rfl
theorem zlz {k:Int} {n:ByteArray} (e:(n.toList==[42,100,101,102,97,117,108,116])=false) (j:(k==2)=false) (q:(k==4)=true):zaP k n=({data:=#[41,59]}:ByteArray):=by rw[zaP,e,j,q];rfl
theorem zl0 {k:Int} {n:ByteArray} (e:(n.toList==[42,100,101,102,97,117,108,116])=false) (q:(k==1)=false) (H:(k==2)=false) (z:(k==3)=false) (A:(k==4)=false) (j:(k==5)=true):zaT k n=({data:=#[116,104,114,111,119,32]}:ByteArray):=by rw[zaT,e,q,H,z,A,j];rfl
theorem zl1 {k:Int} {n:ByteArray} (e:(n.toList==[42,100,101,102,97,117,108,116])=false) (j:(k==2)=false) (q:(k==4)=false):zaP k n=({data:=#[59]}:ByteArray):=by rw[zaP,e,j,q];rfl
theorem zl2 {k:Int} {n:ByteArray} (e:(n.toList==[42,100,101,102,97,117,108,116])=false) (q:(k==1)=false) (H:(k==2)=false) (z:(k==3)=false) (A:(k==4)=false) (j:(k==5)=false):zaT k n=({data:=#[102,97,105,108,32]}:ByteArray):=by rw[zaT,e,q,H,z,A,j];rfl
theorem zl3 {k:Int} {n:ByteArray} (e:(n.toList==[42,100,101,102,97,117,108,116])=false) (j:(k==2)=false) (q:(k==4)=false):zaP k n=({data:=#[59]}:ByteArray):=by rw[zaP,e,j,q];rfl
theorem zl4 (k:Int) (n e:ByteArray):zdo k n e=zaT k n++e++zaP k n++({data:=#[10]}:ByteArray):=by
 have L:({data:=#[59,10]}:ByteArray)=({data:=#[59]}:ByteArray)++({data:=#[10]}:ByteArray):=zcj #[59] #[10]
 have J:({data:=#[59,32,125,10]}:ByteArray)=({data:=#[59,32,125]}:ByteArray)++({data:=#[10]}:ByteArray):=zcj #[59,32,125] #[10]
 have N:({data:=#[41,59,10]}:ByteArray)=({data:=#[41,59]}:ByteArray)++({data:=#[10]}:ByteArray):=zcj #[41,59] #[10]
 have I:({data:=#[101,120,112,111,114,116,32,100,101,102,97,117,108,116,32]}:ByteArray)=({data:=#[101,120,112,111,114,116,32,100,101,102,97,117,108,116]}:ByteArray)++({data:=#[32]}:ByteArray):=zcj #[101,120,112,111,114,116,32,100,101,102,97,117,108,116] #[32]
 have M:({data:=#[101,120,112,111,114,116,32,100,101,102,97,117,108,116]}:ByteArray)=({data:=#[101,120,112,111,114,116,32]}:ByteArray)++({data:=#[100,101,102,97,117,108,116]}:ByteArray):=zcj #[101,120,112,111,114,116,32] #[100,101,102,97,117,108,116]
 unfold zdo za7
 rw[L,J,N,I,M]
 cases h:(n.toList==[42,100,101,102,97,117,108,116]) with
 |true=>rw[zlq h,zlr h];simp only[↓reduceIte,ByteArray.append_assoc]
 |false=>
  cases q:(k==1) with
  |true=>rw[zls h q,zlt h q];simp only[↓reduceIte,Bool.false_eq_true,ByteArray.append_assoc]
  |false=>
   cases j:(k==2) with
   |true=>rw[zlu h q j,zlv h j];simp only[↓reduceIte,Bool.false_eq_true,ByteArray.append_assoc]
   |false=>
    cases A:(k==3) with
    |true=>rw[zlw h q j A,zlx h A];simp only[↓reduceIte,Bool.false_eq_true,ByteArray.append_assoc]
    |false=>
     cases z:(k==4) with
     |true=>rw[zly h q j A z,zlz h j z];simp only[↓reduceIte,Bool.false_eq_true,ByteArray.append_assoc]
     |false=>
      cases H:(k==5) with
      |true=>rw[zl0 h q j A z H,zl1 h j z];simp only[↓reduceIte,Bool.false_eq_true,ByteArray.append_assoc]
      |false=>
       rw[zl2 h q j A z H,zl3 h j z];simp only[↓reduceIte,Bool.false_eq_true,ByteArray.append_assoc]
theorem zs6 (k:Int) (n e:ByteArray):(zdo k n e).size=(zaT k n).size+e.size+(zaP k n).size+1:=by
 rw[zl4,ByteArray.size_append,ByteArray.size_append,ByteArray.size_append]
 rfl
theorem zs7 (c:PC) (t:ByteArray) (k:Int) (n:ByteArray) (i:Nat) (w:World) (ok:zc3 c i) (h:PP c t w) (O:(t++zdo k n (prX c.m.ex i)).size≤140737488355328):
  Calls Tryz.prog 174 #[.pointer (some ⟨c.gp,0,none⟩),.agg #[.int .i64 k,.string n,.int .i64 (i:Int)]] w (PO c (t++zdo k n (prX c.m.ex i)) w):=by
 have HP:=zc h
 have OK:=zc ok
 have X:Hid (t.size+((zaT k n).size+(prX c.m.ex i).size+(zaP k n).size+1)≤140737488355328):=by show _≤_;rw[ByteArray.size_append,zs6] at O;exact O
 clear h O ok
 go_enter Tryz.func174,Tryz.ntmps174
 go_upto_region 1 with fail
 have HW:Hid (Below w.heap.size w (w.alloc (.cells #[.int .i64 k,.string n,.int .i64 (i:Int)] 107))):=(Below.refl _ _).alloc (Nat.le_refl _) _
 refine zac (R:=fun W=>W.heap[w.heap.size]? =some (.cells #[.int .i64 k,.string n,.int .i64 (i:Int)] 107 (0,0))∧PP c t W∧Below c.B w W∧KeepB c.b w W) ⟨heap_alloc_new w _,HP.out.later HW.out,HW.out.mono HP.out.1.2,KeepB.of_below HW.out⟩ ?_
 obtain⟨gx,Z⟩: ∃gx,gx=w.heap.size:=⟨_,rfl⟩
 have ah:gx≠c.b:=by
  rw[Z]
  obtain⟨av,hc⟩:=zci HP.out.1.1
  have:=(Array.getElem?_eq_some_iff.1 hc).1
  omega
 rw[←Z]
 rintro U ⟨hx,hp,hb,hk⟩
 clear Z HW
 have X1:=zc hx
 have I:=zc hp
 have an:=zc hb
 have ak:=zc hk
 clear hx hp hb hk
 obtain⟨x0,x1,x2,xf⟩:=zbJ X1.out
 obtain⟨p0,p1,p2,p3,p4,p5,pf⟩:=zx I.out.2.2.1
 have au:=(Array.getElem?_eq_some_iff.1 I.out.2.2.1).1
 have ag:=(Array.getElem?_eq_some_iff.1 X1.out).1
 go_upto_block 0 with fail
 go_cut [4] from 5 to 76 (fun s4 wx=>s4= .string (zaP k n)∧PP c (t++zaT k n) wx∧Below c.B U wx∧KeepB c.b U wx)
 case first=>
  cases J:(n.toList==[42,100,101,102,97,117,108,116]) with
  |true=>
   have H:Hid (zaT k n=({data:=#[101,120,112,111,114,116,32]}:ByteArray)++({data:=#[100,101,102,97,117,108,116]}:ByteArray)++({data:=#[32]}:ByteArray)):=zlq J
   have M:Hid (zaP k n=({data:=#[59]}:ByteArray)):=zlr J
   have L:Hid ((zv t [{data:=#[101,120,112,111,114,116,32]},{data:=#[100,101,102,97,117,108,116]},{data:=#[32]}]).size≤140737488355328):=by show _≤_;have:=X.out;rw[H.out] at this;simp only[zv,List.foldl_cons,List.foldl_nil,ByteArray.size_append] at this ⊢;omega
   go_wp2_with fail
   refine (zbK c t [{data:=#[101,120,112,111,114,116,32]},{data:=#[100,101,102,97,117,108,116]},{data:=#[32]}] U I.out L.out (by simp)).mono ?_
   rintro e w2 ⟨rfl,j,A,q⟩
   go_wp2_with fail
   go_meet
   exact⟨by rw[M.out],by rw[H.out];simp only[zv,List.foldl_cons,List.foldl_nil,←ByteArray.append_assoc] at j ⊢;exact j,A,q⟩
  |false=>
   cases Y:(k==1) with
   |true=>
    have H:Hid (zaT k n=({data:=#[108,101,116,32]}:ByteArray)++n++({data:=#[32,61,32]}:ByteArray)):=zls J Y
    have M:Hid (zaP k n=({data:=#[59]}:ByteArray)):=zlt J Y
    have L:Hid ((zv t [{data:=#[108,101,116,32]},n,{data:=#[32,61,32]}]).size≤140737488355328):=by show _≤_;have:=X.out;rw[H.out] at this;simp only[zv,List.foldl_cons,List.foldl_nil,ByteArray.size_append] at this ⊢;omega
    go_wp2_with fail
    go_region_with (go_at_call 122;refine (zc0 c t [{data:=#[108,101,116,32]},n,{data:=#[32,61,32]}] U I.out L.out (by simp)).mono ?_;rintro e w2 ⟨rfl,j,A,q⟩)
    all_goals (go_wp2_with fail;go_meet;exact⟨by rw[M.out],by rw[H.out];simp only[zv,List.foldl_cons,List.foldl_nil,←ByteArray.append_assoc] at j ⊢;exact j,A,q⟩)
   |false=>
    cases V:(k==2) with
    |true=>
     have H:Hid (zaT k n=({data:=#[102,117,110,99,116,105,111,110,32]}:ByteArray)++n++({data:=#[40,41,32,123,32,114,101,116,117,114,110,32]}:ByteArray)):=zlu J Y V
     have M:Hid (zaP k n=({data:=#[59,32,125]}:ByteArray)):=zlv J V
     have L:Hid ((zv t [{data:=#[102,117,110,99,116,105,111,110,32]},n,{data:=#[40,41,32,123,32,114,101,116,117,114,110,32]}]).size≤140737488355328):=by show _≤_;have:=X.out;rw[H.out] at this;simp only[zv,List.foldl_cons,List.foldl_nil,ByteArray.size_append] at this ⊢;omega
     go_wp2_with fail
     go_region_with (go_at_call 122;refine (zc0 c t [{data:=#[102,117,110,99,116,105,111,110,32]},n,{data:=#[40,41,32,123,32,114,101,116,117,114,110,32]}] U I.out L.out (by simp)).mono ?_;rintro e w2 ⟨rfl,j,A,q⟩)
     all_goals (go_wp2_with fail;go_meet;exact⟨by rw[M.out],by rw[H.out];simp only[zv,List.foldl_cons,List.foldl_nil,←ByteArray.append_assoc] at j ⊢;exact j,A,q⟩)
    |false=>
     cases h3:(k==3) with
     |true=>
      have H:Hid (zaT k n=n++({data:=#[32,61,32]}:ByteArray)):=zlw J Y V h3
      have M:Hid (zaP k n=({data:=#[59]}:ByteArray)):=zlx J h3
      have L:Hid ((zv t [n,{data:=#[32,61,32]}]).size≤140737488355328):=by show _≤_;have:=X.out;rw[H.out] at this;simp only[zv,List.foldl_cons,List.foldl_nil,ByteArray.size_append] at this ⊢;omega
      go_wp2_with fail
      go_region_with (go_at_call 122;refine (zc0 c t [n,{data:=#[32,61,32]}] U I.out L.out (by simp)).mono ?_;rintro e w2 ⟨rfl,j,A,q⟩)
      all_goals (go_wp2_with fail;go_meet;exact⟨by rw[M.out],by rw[H.out];simp only[zv,List.foldl_cons,List.foldl_nil,←ByteArray.append_assoc] at j ⊢;exact j,A,q⟩)
     |false=>
      cases h4:(k==4) with
      |true=>
       have H:Hid (zaT k n=({data:=#[112,114,105,110,116,40]}:ByteArray)):=zly J Y V h3 h4
       have M:Hid (zaP k n=({data:=#[41,59]}:ByteArray)):=zlz J V h4
       have L:Hid ((zv t [{data:=#[112,114,105,110,116,40]}]).size≤140737488355328):=by show _≤_;have:=X.out;rw[H.out] at this;simp only[zv,List.foldl_cons,List.foldl_nil,ByteArray.size_append] at this ⊢;omega
       go_wp2_with fail
       refine (zbK c t [{data:=#[112,114,105,110,116,40]}] U I.out L.out (by simp)).mono ?_
       rintro e w2 ⟨rfl,j,A,q⟩
       go_wp2_with fail
       go_meet
       exact⟨by rw[M.out],by rw[H.out];exact j,A,q⟩
      |false=>
       cases h5:(k==5) with
       |true=>
        have H:Hid (zaT k n=({data:=#[116,104,114,111,119,32]}:ByteArray)):=zl0 J Y V h3 h4 h5
        have M:Hid (zaP k n=({data:=#[59]}:ByteArray)):=zl1 J V h4
        have L:Hid ((zv t [{data:=#[116,104,114,111,119,32]}]).size≤140737488355328):=by show _≤_;have:=X.out;rw[H.out] at this;simp only[zv,List.foldl_cons,List.foldl_nil,ByteArray.size_append] at this ⊢;omega
        go_wp2_with fail
        refine (zbK c t [{data:=#[116,104,114,111,119,32]}] U I.out L.out (by simp)).mono ?_
        rintro e w2 ⟨rfl,j,A,q⟩
        go_wp2_with fail
        go_meet
        exact⟨by rw[M.out],by rw[H.out];exact j,A,q⟩
       |false=>
        have H:Hid (zaT k n=({data:=#[102,97,105,108,32]}:ByteArray)):=zl2 J Y V h3 h4 h5
        have M:Hid (zaP k n=({data:=#[59]}:ByteArray)):=zl3 J V h4
        have L:Hid ((zv t [{data:=#[102,97,105,108,32]}]).size≤140737488355328):=by show _≤_;have:=X.out;rw[H.out] at this;simp only[zv,List.foldl_cons,List.foldl_nil,ByteArray.size_append] at this ⊢;omega
        go_wp2_with fail
        refine (zbK c t [{data:=#[102,97,105,108,32]}] U I.out L.out (by simp)).mono ?_
        rintro e w2 ⟨rfl,j,A,q⟩
        go_wp2_with fail
        go_meet
        exact⟨by rw[M.out],by rw[H.out];exact j,A,q⟩
 case rest=>
 rename_i s4 w2
 obtain⟨rfl,j,A,q⟩:=hcut
 have aq:=zc j
 have ao:=zc (an.out.trans A)
 have am:=zc (ak.out.trans q)
 have X2:=zc ((q _ _ _ _ X1.out ah (by decide)).trans X1.out)
 clear j A q p0 p1 p2 p3 p4 p5 pf x0 x1 x2 xf au ag
 obtain⟨x0,x1,x2,xf⟩:=zbJ X2.out
 go_wp2_with fail
 refine (OK.out _ _ aq.out (by have:=X.out;simp only[ByteArray.size_append] at this ⊢;omega)).mono ?_
 rintro e w3 ⟨rfl,N,af,ad⟩
 have aa:=zc N
 have ai:=zc (ao.out.trans af)
 have ar:=zc (am.out.trans ad)
 clear N af ad x0 x1 x2 xf
 obtain⟨p0,p1,p2,p3,p4,p5,pf⟩:=zx aa.out.2.2.1
 go_wp2_with fail
 refine (zbK c _ [zaP k n,{data:=#[10]}] _ aa.out (by have:=X.out;have z:(({data:=#[10]}:ByteArray)).size=1:=rfl;simp only[zv,List.foldl_cons,List.foldl_nil,ByteArray.size_append,z] at this ⊢;omega) (by simp)).mono ?_
 rintro e w4 ⟨rfl,ac,ae,ab⟩
 have al:=zc ac
 have ap:=zc (ai.out.trans ae)
 have aj:=zc (ar.out.trans ab)
 clear ac ae ab p0 p1 p2 p3 p4 p5 pf
 go_wp2
 go_end0
 exact⟨rfl,(by have N:=al.out;rw[zl4];simp only[zv,List.foldl_cons,List.foldl_nil,←ByteArray.append_assoc] at N ⊢;exact N),ap.out,aj.out⟩
theorem zgT {α:Type} {l:List α} {j:Nat} (h:j<l.length): ∃x,l[j]? =some x:=⟨_,List.getElem?_eq_getElem h⟩
theorem zs8 (l:List ByteArray):l.map Value.string=l.flatMap (fun x=>[Value.string x]):=by
 induction l with
 |nil=>rfl
 |cons x l j=>rw[List.map_cons,List.flatMap_cons,j];rfl
theorem zs9 (t:ByteArray):t++sNone=t:=by
 cases t with
 |mk d=>
  show ByteArray.append _ _=_
  simp[ByteArray.append]
theorem zl5 (m:Md):(acc epF m.ep (acc zad m.im (acc rqT m.rq sNone))).size≤(zbj m).size:=zef _ _ _
theorem zl6 (m:Md):(acc zad m.im (acc rqT m.rq sNone)).size≤(zbj m).size:=Nat.le_trans (zef _ _ _) (zl5 m)
theorem zsA (m:Md):(acc rqT m.rq sNone).size≤(zbj m).size:=Nat.le_trans (zef _ _ _) (zl6 m)
theorem zl7 (s:ByteArray):rqT s=({data:=#[105,109,112,111,114,116,32]}:ByteArray)++za2 s++({data:=#[59]}:ByteArray)++({data:=#[10]}:ByteArray):=by
 have j:({data:=#[59,10]}:ByteArray)={data:=#[59]}++{data:=#[10]}:=zcj #[59] #[10]
 rw[rqT,j]
 simp only[ByteArray.append_assoc]
theorem zl8 {x:Ep} (h:(x.loc.toList==[42,100,101,102,97,117,108,116])=false):epF x=zbw x:=by rw[epF,h];rfl
theorem zsB {x:Ep} (h:(x.loc.toList==[42,100,101,102,97,117,108,116])=true):epF x=sNone:=by rw[epF,h];rfl
theorem zsC (c:PC) (w:World) (ok: ∀i,i<c.m.ex.length→zc3 c i) (hs: ∀s∈c.m.st,0≤s.expr∧s.expr<(c.m.ex.length:Int)) (hm:Small c.m) (h:PP c sNone w) (ag:(zbj c.m).size≤140737488355328):
  Calls Tryz.prog 124 #[.pointer (some ⟨c.gp,0,none⟩)] w (PO c (zbj c.m) w):=by
 have ai:=zc h
 have SM:=zc hm
 have OK:=zc ok
 have HS:=zc hs
 have HL:=zc ag
 obtain⟨f1,f2,f3,f4,f5⟩:=hm.few
 clear h hm ok hs ag
 obtain⟨p0,p1,p2,p3,p4,p5,pf⟩:=zx ai.out.2.2.1
 go_enter Tryz.func124,Tryz.ntmps124
 go_wp2
 go_loopg [16] c.m.rq.length (fun k i wr=>∃j:Nat,i= .int .i64 j∧j+k=c.m.rq.length∧PP c (acc rqT (c.m.rq.take j) sNone) wr∧Below c.B w wr∧KeepB c.b w wr)
 case atStart=>exact⟨0,rfl,by omega,ai.out,Below.refl _ _,fun _ _ _ _ _ _ _=>rfl⟩
 case round=>
  obtain⟨j,rfl,hj,V,O,U⟩:=hrel
  have z:=zc V
  have J:=zc O
  have I:=zc U
  clear V O U p0 p1 p2 p3 p4 p5 pf
  obtain⟨p0,p1,p2,p3,p4,p5,pf⟩:=zx z.out.2.2.1
  by_cases ab:j<c.m.rq.length
  ·have M:(j:Int)<(c.m.rq.length:Int):=by omega
   obtain⟨x,q⟩:=zgT ab
   have H:=List.mem_of_getElem? q
   have HZ:Hid ((acc rqT (c.m.rq.take j) sNone++rqT x).size≤140737488355328):=by show _≤_;rw[←zcz rqT q];exact Nat.le_trans (zdJ rqT c.m.rq (j+1) sNone) (Nat.le_trans (zsA c.m) HL.out)
   have HX:=zc q
   obtain⟨N,L⟩: ∃N,N=j+1:=⟨_,rfl⟩
   have ej:(j:Int)+1=(N:Int):=by omega
   have HJ:=zc L
   clear L
   obtain⟨g,hg,k0⟩: ∃g,c.S.rq.a=some ⟨g,0,none⟩∧wr.cell? ⟨g,j,none⟩=some (.string x):=by
    obtain⟨g,hg,hc⟩:=OwnR.elem (f:=fun x=>[Value.string x]) (m:=1) (fun _=>rfl) (show OwnR wr c.base 9 1 c.S.rq c.m.rq.length (c.m.rq.flatMap fun x=>[Value.string x]) by rw[←zs8];exact z.out.2.1.rq) q
    have k0:=hc 0 (by omega)
    simp only[Nat.mul_one,Nat.add_zero,List.getElem?_cons_zero] at k0
    exact⟨g,hg,k0⟩
   have ak:=SM.out.rq x H
   have HG:Hid (Value.slice c.S.rq.a c.m.rq.length c.S.rq.cap=Value.slice (some ⟨g,0,none⟩) c.m.rq.length c.S.rq.cap):=by show _=_;rw[hg]
   clear hg q H p0 p1 p2 p3 p4 p5 pf
   rw[HG.out]
   obtain⟨p0,p1,p2,p3,p4,p5,pf⟩:=zx z.out.2.2.1
   have am:=(Array.getElem?_eq_some_iff.1 z.out.2.2.1).1
   go_wp2_with fail
   go_region_with (first|(go_at_call 171;refine (zgR x _ (by omega)).mono ?_;rintro e w' ⟨rfl,rfl⟩)|(go_at_call 122;refine (zc0 c _ [{data:=#[105,109,112,111,114,116,32]},za2 x,{data:=#[59]},{data:=#[10]}] wr z.out (by have:=HZ.out;rw[zl7] at this;simp only[zv,List.foldl_cons,List.foldl_nil,ByteArray.size_append] at this ⊢;omega) (by simp)).mono ?_;rintro e w3 ⟨rfl,ac,aj,al⟩))
   all_goals
    have an:=zc ac
    have ao:=zc (J.out.trans aj)
    have aq:=zc (I.out.trans al)
    clear ac aj al p0 p1 p2 p3 p4 p5 pf am k0
    go_wp2
    rw[←HG.out]
    go_roundg (gk-1)
    case rel=>exact⟨N,rfl,by have:=HJ.out;omega,by rw[HJ.out,zcz rqT HX.out];exact (by have ac:=an.out;rw[zl7];simp only[zv,List.foldl_cons,List.foldl_nil,←ByteArray.append_assoc] at ac ⊢;exact ac),ao.out,aq.out⟩
    case measure=>omega
  ·have M: ¬(j:Int)<(c.m.rq.length:Int):=by omega
   obtain rfl:j=c.m.rq.length:=by omega
   have HN:Hid (PP c (acc zad (c.m.im.take 0) (acc rqT c.m.rq sNone)) wr):=by have:=z.out;rw[List.take_length] at this;exact this
   go_wp2
   go_loopg [35] c.m.im.length (fun k i wr=>∃j:Nat,i= .int .i64 j∧j+k=c.m.im.length∧PP c (acc zad (c.m.im.take j) (acc rqT c.m.rq sNone)) wr∧Below c.B w wr∧KeepB c.b w wr)
   case atStart=>exact⟨0,rfl,by omega,HN.out,J.out,I.out⟩
   case round=>
    obtain⟨j,rfl,hj,V,O,U⟩:=hrel
    clear z J I HN
    have z:=zc V
    have J:=zc O
    have I:=zc U
    clear V O U p0 p1 p2 p3 p4 p5 pf
    obtain⟨p0,p1,p2,p3,p4,p5,pf⟩:=zx z.out.2.2.1
    by_cases ab:j<c.m.im.length
    ·have M:(j:Int)<(c.m.im.length:Int):=by omega
     obtain⟨x,q⟩:=zgT ab
     have H:=List.mem_of_getElem? q
     have HZ:Hid ((acc zad (c.m.im.take j) (acc rqT c.m.rq sNone)++zad x).size≤140737488355328):=by show _≤_;rw[←zcz zad q];exact Nat.le_trans (zdJ zad c.m.im (j+1) (acc rqT c.m.rq sNone)) (Nat.le_trans (zl6 c.m) HL.out)
     have HX:=zc q
     obtain⟨N,L⟩: ∃N,N=j+1:=⟨_,rfl⟩
     have ej:(j:Int)+1=(N:Int):=by omega
     have HJ:=zc L
     clear L
     obtain⟨g,hg,A⟩:=OwnR.elem (f:=imL) (m:=3) (fun _=>rfl) z.out.2.1.im q
     have k0:=A 0 (by omega)
     have k1:=A 1 (by omega)
     have k2:=A 2 (by omega)
     simp only[imL,Nat.add_zero,List.getElem?_cons_zero,List.getElem?_cons_succ] at k0 k1 k2
     clear A
     have ak:=(SM.out.im x H).1
     have HG:Hid (Value.slice c.S.im.a c.m.im.length c.S.im.cap=Value.slice (some ⟨g,0,none⟩) c.m.im.length c.S.im.cap):=by show _=_;rw[hg]
     clear hg q H p0 p1 p2 p3 p4 p5 pf
     rw[HG.out]
     go_upto_region 8 with fail
     have HW:Hid (Below wr.heap.size wr (wr.alloc (.cells #[.string x.spec,.string x.first,.string x.loc] 84))):=(Below.refl _ _).alloc (Nat.le_refl _) _
     refine zac (R:=fun W=>W.heap[wr.heap.size]? =some (.cells #[.string x.spec,.string x.first,.string x.loc] 84 (0,0))∧PP c (acc zad (c.m.im.take j) (acc rqT c.m.rq sNone)) W∧Below c.B w W∧KeepB c.b w W) ⟨heap_alloc_new wr _,z.out.later HW.out,J.out.trans (HW.out.mono z.out.1.2),I.out.trans (KeepB.of_below HW.out)⟩ ?_
     obtain⟨gx,X⟩: ∃gx,gx=wr.heap.size:=⟨_,rfl⟩
     rw[←X]
     clear k0 k1 k2 HW
     rintro W ⟨xb,V,O,U⟩
     clear X z J I
     have XB:=zc xb
     have z:=zc V
     have J:=zc O
     have I:=zc U
     clear xb V O U
     obtain⟨x0,x1,x2,xf⟩:=zbJ XB.out
     go_wp2_with fail
     refine (zs0 c _ x W z.out HZ.out (by omega)).mono ?_
     rintro e W2 ⟨rfl,aa,Z,Y⟩
     have ad:=zc aa
     have ae:=zc (J.out.trans Z)
     have af:=zc (I.out.trans Y)
     clear aa Z Y x0 x1 x2 xf
     go_wp2
     rw[←HG.out]
     go_roundg (gk-1)
     case rel=>exact⟨N,rfl,by have:=HJ.out;omega,by rw[HJ.out,zcz zad HX.out];exact ad.out,ae.out,af.out⟩
     case measure=>omega
    ·have M: ¬(j:Int)<(c.m.im.length:Int):=by omega
     obtain rfl:j=c.m.im.length:=by omega
     have HN:Hid (PP c (acc epF (c.m.ep.take 0) (acc zad c.m.im (acc rqT c.m.rq sNone))) wr):=by have:=z.out;rw[List.take_length] at this;exact this
     go_wp2
     go_loopg [49] c.m.ep.length (fun k i wr=>∃j:Nat,i= .int .i64 j∧j+k=c.m.ep.length∧PP c (acc epF (c.m.ep.take j) (acc zad c.m.im (acc rqT c.m.rq sNone))) wr∧Below c.B w wr∧KeepB c.b w wr)
     case atStart=>exact⟨0,rfl,by omega,HN.out,J.out,I.out⟩
     case round=>
      obtain⟨j,rfl,hj,V,O,U⟩:=hrel
      clear z J I HN
      have z:=zc V
      have J:=zc O
      have I:=zc U
      clear V O U p0 p1 p2 p3 p4 p5 pf
      obtain⟨p0,p1,p2,p3,p4,p5,pf⟩:=zx z.out.2.2.1
      by_cases ab:j<c.m.ep.length
      ·have M:(j:Int)<(c.m.ep.length:Int):=by omega
       obtain⟨x,q⟩:=zgT ab
       have H:=List.mem_of_getElem? q
       have HZ:Hid ((acc epF (c.m.ep.take j) (acc zad c.m.im (acc rqT c.m.rq sNone))++epF x).size≤140737488355328):=by show _≤_;rw[←zcz epF q];exact Nat.le_trans (zdJ epF c.m.ep (j+1) (acc zad c.m.im (acc rqT c.m.rq sNone))) (Nat.le_trans (zl5 c.m) HL.out)
       have HX:=zc q
       obtain⟨N,L⟩: ∃N,N=j+1:=⟨_,rfl⟩
       have ej:(j:Int)+1=(N:Int):=by omega
       have HJ:=zc L
       clear L
       obtain⟨g,hg,A⟩:=OwnR.elem (f:=epL) (m:=4) (fun _=>rfl) z.out.2.1.ep q
       have k0:=A 0 (by omega)
       have k1:=A 1 (by omega)
       have k2:=A 2 (by omega)
       have k3:=A 3 (by omega)
       simp only[epL,Nat.add_zero,List.getElem?_cons_zero,List.getElem?_cons_succ] at k0 k1 k2 k3
       clear A
       have ak:=(SM.out.ep x H).1
       have HG:Hid (Value.slice c.S.ep.a c.m.ep.length c.S.ep.cap=Value.slice (some ⟨g,0,none⟩) c.m.ep.length c.S.ep.cap):=by show _=_;rw[hg]
       clear hg q H p0 p1 p2 p3 p4 p5 pf
       rw[HG.out]
       go_upto_region 13 with fail
       have HW:Hid (Below wr.heap.size wr (wr.alloc (.cells #[.int .i64 x.kind,.string x.name,.string x.loc,.string x.spec] 86))):=(Below.refl _ _).alloc (Nat.le_refl _) _
       refine zac (R:=fun W=>W.heap[wr.heap.size]? =some (.cells #[.int .i64 x.kind,.string x.name,.string x.loc,.string x.spec] 86 (0,0))∧PP c (acc epF (c.m.ep.take j) (acc zad c.m.im (acc rqT c.m.rq sNone))) W∧Below c.B w W∧KeepB c.b w W) ⟨heap_alloc_new wr _,z.out.later HW.out,J.out.trans (HW.out.mono z.out.1.2),I.out.trans (KeepB.of_below HW.out)⟩ ?_
       obtain⟨gx,X⟩: ∃gx,gx=wr.heap.size:=⟨_,rfl⟩
       rw[←X]
       clear k0 k1 k2 k3 HW
       rintro W ⟨xb,V,O,U⟩
       clear X z J I
       have XB:=zc xb
       have z:=zc V
       have J:=zc O
       have I:=zc U
       clear xb V O U
       obtain⟨x0,x1,x2,x3,xf⟩:=zdH XB.out
       cases e1:(x.loc.toList==[42,100,101,102,97,117,108,116]) with
       |false=>
        go_wp2_with fail
        refine (zs5 c _ x W z.out (by have:=HZ.out;rw[zl8 e1] at this;exact this) (by omega)).mono ?_
        rintro e W2 ⟨rfl,aa,Z,Y⟩
        have ad:=zc aa
        have ae:=zc (J.out.trans Z)
        have af:=zc (I.out.trans Y)
        clear aa Z Y x0 x1 x2 x3 xf
        go_wp2
        rw[←HG.out]
        go_roundg (gk-1)
        case rel=>exact⟨N,rfl,by have:=HJ.out;omega,by rw[HJ.out,zcz epF HX.out];exact (by rw[zl8 e1];exact ad.out),ae.out,af.out⟩
        case measure=>omega
       |true=>
        go_wp2
        rw[←HG.out]
        go_roundg (gk-1)
        case rel=>exact⟨N,rfl,by have:=HJ.out;omega,by rw[HJ.out,zcz epF HX.out];exact (by rw[zsB e1,zs9];exact z.out),J.out,I.out⟩
        case measure=>omega
      ·have M: ¬(j:Int)<(c.m.ep.length:Int):=by omega
       obtain rfl:j=c.m.ep.length:=by omega
       have HN:Hid (PP c (acc (zcH c.m.ex) (c.m.st.take 0) (zce c.m)) wr):=by have:=z.out;rw[List.take_length] at this;exact this
       go_wp2
       go_loopg [66] c.m.st.length (fun k i wr=>∃j:Nat,i= .int .i64 j∧j+k=c.m.st.length∧PP c (acc (zcH c.m.ex) (c.m.st.take j) (zce c.m)) wr∧Below c.B w wr∧KeepB c.b w wr)
       case atStart=>exact⟨0,rfl,by omega,HN.out,J.out,I.out⟩
       case round=>
        obtain⟨j,rfl,hj,V,O,U⟩:=hrel
        clear z J I HN
        have z:=zc V
        have J:=zc O
        have I:=zc U
        clear V O U p0 p1 p2 p3 p4 p5 pf
        obtain⟨p0,p1,p2,p3,p4,p5,pf⟩:=zx z.out.2.2.1
        by_cases ab:j<c.m.st.length
        ·have M:(j:Int)<(c.m.st.length:Int):=by omega
         obtain⟨x,q⟩:=zgT ab
         have H:=List.mem_of_getElem? q
         have HZ:Hid ((acc (zcH c.m.ex) (c.m.st.take j) (zce c.m)++(zcH c.m.ex) x).size≤140737488355328):=by show _≤_;rw[←zcz (zcH c.m.ex) q];exact Nat.le_trans (zdJ (zcH c.m.ex) c.m.st (j+1) (zce c.m)) HL.out
         have HX:=zc q
         obtain⟨N,L⟩: ∃N,N=j+1:=⟨_,rfl⟩
         have ej:(j:Int)+1=(N:Int):=by omega
         have HJ:=zc L
         clear L
         obtain⟨ei,ah⟩: ∃n:Nat,x.expr=(n:Int):=⟨x.expr.toNat,by have:=HS.out x H;omega⟩
         have ap:ei<c.m.ex.length:=by have:=HS.out x H;omega
         obtain⟨g,hg,A⟩:=OwnR.elem (f:=smL) (m:=3) (fun _=>rfl) z.out.2.1.st q
         have k0:=A 0 (by omega)
         have k1:=A 1 (by omega)
         have k2:=A 2 (by omega)
         simp only[smL,Nat.add_zero,List.getElem?_cons_zero,List.getElem?_cons_succ,ah] at k0 k1 k2
         clear A
         have HG:Hid (Value.slice c.S.st.a c.m.st.length c.S.st.cap=Value.slice (some ⟨g,0,none⟩) c.m.st.length c.S.st.cap):=by show _=_;rw[hg]
         clear hg q H p0 p1 p2 p3 p4 p5 pf
         rw[HG.out]
         go_upto_region 19 with fail
         have HW:Hid (Below wr.heap.size wr (wr.alloc (.cells #[.int .i64 x.kind,.string x.name,.int .i64 (ei:Int)] 107))):=(Below.refl _ _).alloc (Nat.le_refl _) _
         refine zac (R:=fun W=>W.heap[wr.heap.size]? =some (.cells #[.int .i64 x.kind,.string x.name,.int .i64 (ei:Int)] 107 (0,0))∧PP c (acc (zcH c.m.ex) (c.m.st.take j) (zce c.m)) W∧Below c.B w W∧KeepB c.b w W) ⟨heap_alloc_new wr _,z.out.later HW.out,J.out.trans (HW.out.mono z.out.1.2),I.out.trans (KeepB.of_below HW.out)⟩ ?_
         obtain⟨gx,X⟩: ∃gx,gx=wr.heap.size:=⟨_,rfl⟩
         rw[←X]
         clear k0 k1 k2 HW
         rintro W ⟨xb,V,O,U⟩
         clear X z J I
         have XB:=zc xb
         have z:=zc V
         have J:=zc O
         have I:=zc U
         clear xb V O U
         obtain⟨x0,x1,x2,xf⟩:=zbJ XB.out
         go_wp2_with fail
         refine (zs7 c _ x.kind x.name ei W (OK.out ei ap) z.out (by have:=HZ.out;rw[zcH,ah,Int.toNat_natCast] at this;exact this)).mono ?_
         rintro e W2 ⟨rfl,aa,Z,Y⟩
         have ad:=zc aa
         have ae:=zc (J.out.trans Z)
         have af:=zc (I.out.trans Y)
         clear aa Z Y x0 x1 x2 xf
         go_wp2
         rw[←HG.out]
         go_roundg (gk-1)
         case rel=>exact⟨N,rfl,by have:=HJ.out;omega,by rw[HJ.out,zcz (zcH c.m.ex) HX.out];exact (by rw[zcH,ah,Int.toNat_natCast];exact ad.out),ae.out,af.out⟩
         case measure=>omega
        ·have M: ¬(j:Int)<(c.m.st.length:Int):=by omega
         obtain rfl:j=c.m.st.length:=by omega
         have HN:Hid (PP c (zbj c.m) wr):=by have:=z.out;rw[List.take_length] at this;exact this
         go_wp2
         go_end0
         exact⟨rfl,HN.out,J.out,I.out⟩
theorem zl9 (c:PC) (t:ByteArray) (k U:Int) (H j sg:ByteArray) (l r:Nat) (w:World) (ad:zc3 c l) (ab:zc3 c r) (hr:r<c.m.ex.length) (h:PP c t w) (z:(t++(prX c.m.ex l++sg++zJ (zR (c.m.ex.getD r zi).kind) (prX c.m.ex r))).size≤140737488355328):
  Calls Tryz.prog 220 #[.pointer (some ⟨c.gp,0,none⟩),.agg #[.int .i64 k,.int .i64 U,.string H,.string j,.int .i64 (l:Int),.int .i64 (r:Int)],.string sg] w (PO c (t++(prX c.m.ex l++sg++zJ (zR (c.m.ex.getD r zi).kind) (prX c.m.ex r))) w):=by
 have HP:=zc h
 obtain⟨kk,O⟩: ∃kk,(c.m.ex.getD r zi).kind=kk:=⟨_,rfl⟩
 rw[O] at z ⊢
 have KK:=zc O
 have HL:Hid (t.size+((prX c.m.ex l).size+sg.size+(zJ (zR kk) (prX c.m.ex r)).size)≤140737488355328):=by show _≤_;simp only[ByteArray.size_append] at z;exact z
 obtain⟨T,hT⟩: ∃T,T=prX c.m.ex l++sg++zJ (zR kk) (prX c.m.ex r):=⟨_,rfl⟩
 rw[←hT]
 have HT:=zc hT
 have af:=zc ad
 have ae:=zc ab
 have HR:=zc hr
 clear h z ad ab hr O hT
 go_enter Tryz.func220,Tryz.ntmps220
 go_upto_region 1 with fail
 have HW:Hid (Below w.heap.size w (w.alloc (.cells #[.int .i64 k,.int .i64 U,.string H,.string j,.int .i64 (l:Int),.int .i64 (r:Int)] 109))):=(Below.refl _ _).alloc (Nat.le_refl _) _
 refine zac (R:=fun W=>W.heap[w.heap.size]? =some (.cells #[.int .i64 k,.int .i64 U,.string H,.string j,.int .i64 (l:Int),.int .i64 (r:Int)] 109 (0,0))∧PP c t W∧Below c.B w W∧KeepB c.b w W) ⟨heap_alloc_new w _,HP.out.later HW.out,HW.out.mono HP.out.1.2,KeepB.of_below HW.out⟩ ?_
 obtain⟨gx,Y⟩: ∃gx,gx=w.heap.size:=⟨_,rfl⟩
 have aa:gx≠c.b:=by
  rw[Y]
  obtain⟨am,hc⟩:=zci HP.out.1.1
  have:=(Array.getElem?_eq_some_iff.1 hc).1
  omega
 rw[←Y]
 rintro w1 ⟨hx,I,J,A⟩
 clear Y HW
 have X1:=zc hx
 have V:=zc I
 have aj:=zc J
 have ah:=zc A
 clear hx I J A
 obtain⟨x0,x1,x2,x3,x4,x5,xf⟩:=zx X1.out
 obtain⟨p0,p1,p2,p3,p4,p5,pf⟩:=zx V.out.2.2.1
 have N:=(Array.getElem?_eq_some_iff.1 V.out.2.2.1).1
 have L:=(Array.getElem?_eq_some_iff.1 X1.out).1
 go_wp2_with fail
 refine (zgS c t l false w1 af.out V.out (by have:=HL.out;simp only[zJ,Bool.false_eq_true,↓reduceIte,ByteArray.size_append] at this ⊢;omega)).mono ?_
 rintro e w2 ⟨rfl,I,J,A⟩
 have X:=zc I
 have ak:=zc (aj.out.trans J)
 have ai:=zc (ah.out.trans A)
 have X2:=zc ((A _ _ _ _ X1.out aa (by decide)).trans X1.out)
 clear I J A p0 p1 p2 p3 p4 p5 pf x0 x1 x2 x3 x4 x5 xf N L
 obtain⟨x0,x1,x2,x3,x4,x5,xf⟩:=zx X2.out
 obtain⟨p0,p1,p2,p3,p4,p5,pf⟩:=zx X.out.2.2.1
 have N:=(Array.getElem?_eq_some_iff.1 X.out.2.2.1).1
 have L:=(Array.getElem?_eq_some_iff.1 X2.out).1
 go_wp2_with fail
 refine (zbK c _ [sg] w2 X.out (by have:=HL.out;simp only[zv,zJ,Bool.false_eq_true,↓reduceIte,List.foldl_cons,List.foldl_nil,ByteArray.size_append] at this ⊢;omega) (by simp)).mono ?_
 rintro e Z ⟨rfl,I,J,A⟩
 have M:=zc I
 have ag:=zc (ak.out.trans J)
 have al:=zc (ai.out.trans A)
 have X3:=zc ((A _ _ _ _ X2.out aa (by decide)).trans X2.out)
 clear I J A p0 p1 p2 p3 p4 p5 pf x0 x1 x2 x3 x4 x5 xf N L
 obtain⟨x0,x1,x2,x3,x4,x5,xf⟩:=zx X3.out
 obtain⟨p0,p1,p2,p3,p4,p5,pf⟩:=zx M.out.2.2.1
 have N:=(Array.getElem?_eq_some_iff.1 M.out.2.2.1).1
 have L:=(Array.getElem?_eq_some_iff.1 X3.out).1
 go_wp2_with fail
 have ac:=zc (M.out.later ((Below.refl Z.heap.size Z).drew))
 go_region_with (first|(go_at_call 222;refine (ziu c _ r _ ac.out HR.out).mono ?_;rintro e w' ⟨rfl,rfl⟩;rw[KK.out])|(go_at_call 197;refine (zfO _ _).mono ?_;rintro e w' ⟨rfl,rfl⟩)|(go_at_call 221;refine (zgS c _ r (zR kk) _ ae.out ac.out (by have:=HL.out;simp only[zv,show ∀q,zJ false q=q from fun _=>rfl,List.foldl_cons,List.foldl_nil,ByteArray.size_append] at this ⊢;omega)).mono ?_;rintro e w4 ⟨rfl,I,J,A⟩))
 all_goals (go_wp2;go_end0;exact⟨rfl,(by rw[HT.out];simp only[zv,show ∀q,zJ false q=q from fun _=>rfl,List.foldl_cons,List.foldl_nil,←ByteArray.append_assoc] at I ⊢;exact I),ag.out.trans ((((Below.refl Z.heap.size Z).drew).mono M.out.1.2).trans J),al.out.trans ((KeepB.of_below ((Below.refl Z.heap.size Z).drew)).trans A)⟩)
theorem zsD (c:PC) (t:ByteArray) (i:Nat) (j:Int) (z q:ByteArray) (l r:Int) (w:World) (h:PP c t w) (hi:i<c.m.ex.length) (O:c.m.ex.getD i zi=⟨1,j,z,q,l,r⟩) (hn: -9223372036854775808≤j∧j≤9223372036854775807) (A:(t++(strOfNums (zbR j))).size≤140737488355328):
  Calls Tryz.prog 201 #[.pointer (some ⟨c.gp,0,none⟩),.int .i64 (i:Int)] w (PO c (t++(strOfNums (zbR j))) w):=by
 have M:=zc h
 obtain⟨T,hT⟩: ∃T,T=strOfNums (zbR j):=⟨_,rfl⟩
 rw[←hT] at A ⊢
 have HT:=zc hT
 have HL:=zc A
 clear h A hT
 obtain⟨p0,p1,p2,p3,p4,p5,pf⟩:=zx M.out.2.2.1
 obtain⟨g,hg,U,V,x1,x2,Y,X,x5⟩:=M.out.2.1.expr hi
 rw[O] at V x1 x2 Y X x5
 dsimp only at V x1 x2 Y X x5
 rw[hg] at p4
 have ab:(i:Int)<(c.m.ex.length:Int):=by omega
 clear hg O
 go_enter Tryz.func201,Tryz.ntmps201
 go_upto_region 1 with fail
 have HW:Hid (Below w.heap.size w (w.alloc (.cells #[.int .i64 1,.int .i64 j,.string z,.string q,.int .i64 l,.int .i64 r] 109))):=(Below.refl _ _).alloc (Nat.le_refl _) _
 refine zac (R:=fun W=>W.heap[w.heap.size]? =some (.cells #[.int .i64 1,.int .i64 j,.string z,.string q,.int .i64 l,.int .i64 r] 109 (0,0))∧PP c t W∧Below c.B w W∧KeepB c.b w W) ⟨heap_alloc_new w _,M.out.later HW.out,HW.out.mono M.out.1.2,KeepB.of_below HW.out⟩ ?_
 obtain⟨gx,L⟩: ∃gx,gx=w.heap.size:=⟨_,rfl⟩
 have ai:gx≠c.b:=by
  rw[L]
  obtain⟨aj,hc⟩:=zci M.out.1.1
  have:=(Array.getElem?_eq_some_iff.1 hc).1
  omega
 rw[←L]
 rintro w1 ⟨O,hp,Z,hk⟩
 clear L HW U V x1 x2 Y X x5 p0 p1 p2 p3 p4 p5 pf ab
 have X1:=zc O
 have H:=zc hp
 have ac:=zc Z
 have aa:=zc hk
 clear O hp Z hk
 obtain⟨V,x1,x2,Y,X,x5,xf⟩:=zx X1.out
 obtain⟨p0,p1,p2,p3,p4,p5,pf⟩:=zx H.out.2.2.1
 have U:=(Array.getElem?_eq_some_iff.1 H.out.2.2.1).1
 have ah:=(Array.getElem?_eq_some_iff.1 X1.out).1
 have HN:=zc hn
 go_wp2_with fail
 go_region_with (first|(go_at_call 219;refine (zpn j _ HN.out).mono ?_;rintro e w2 ⟨rfl,N⟩;have I:=zc (((Below.refl w1.heap.size w1).drew).trans N);have J:=zc (H.out.later I.out);have X2:=zc ((I.out.block _ (Array.getElem?_eq_some_iff.1 X1.out).1).trans X1.out);clear N;obtain⟨y0,y1,y2,y3,y4,y5,yf⟩:=zx X2.out;obtain⟨q0,q1,q2,q3,q4,q5,qf⟩:=zx J.out.2.2.1;have af:=(Array.getElem?_eq_some_iff.1 J.out.2.2.1).1;have ag:=(Array.getElem?_eq_some_iff.1 X2.out).1)|(go_at_call 122;refine (zbK c t [strOfNums (zbR j)] _ J.out (by have:=HL.out;rw[HT.out] at this;simp only[zv,List.foldl_cons,List.foldl_nil,ByteArray.size_append] at this ⊢;omega) (by simp)).mono ?_;rintro e w3 ⟨rfl,hp,ae,ad⟩))
 all_goals (have Z:=(I.out.mono H.out.1.2).trans ae;have hk:=(KeepB.of_below (b:=c.b) I.out).trans ad;go_wp2;go_end0;exact⟨rfl,(by rw[HT.out];exact hp),ac.out.trans Z,aa.out.trans hk⟩)
theorem zsE (c:PC) (t:ByteArray) (i:Nat) (A:Int) (j q:ByteArray) (l r:Int) (w:World) (h:PP c t w) (hi:i<c.m.ex.length) (J:c.m.ex.getD i zi=⟨2,A,j,q,l,r⟩) (z:(t++(j)).size≤140737488355328):
  Calls Tryz.prog 201 #[.pointer (some ⟨c.gp,0,none⟩),.int .i64 (i:Int)] w (PO c (t++(j)) w):=by
 have M:=zc h
 obtain⟨T,hT⟩: ∃T,T=j:=⟨_,rfl⟩
 rw[←hT] at z ⊢
 have HT:=zc hT
 have HL:=zc z
 clear h z hT
 obtain⟨p0,p1,p2,p3,p4,p5,pf⟩:=zx M.out.2.2.1
 obtain⟨g,hg,L,N,x1,x2,U,O,x5⟩:=M.out.2.1.expr hi
 rw[J] at N x1 x2 U O x5
 dsimp only at N x1 x2 U O x5
 rw[hg] at p4
 have ab:(i:Int)<(c.m.ex.length:Int):=by omega
 clear hg J
 go_enter Tryz.func201,Tryz.ntmps201
 go_upto_region 1 with fail
 have Z:Hid (Below w.heap.size w (w.alloc (.cells #[.int .i64 2,.int .i64 A,.string j,.string q,.int .i64 l,.int .i64 r] 109))):=(Below.refl _ _).alloc (Nat.le_refl _) _
 refine zac (R:=fun W=>W.heap[w.heap.size]? =some (.cells #[.int .i64 2,.int .i64 A,.string j,.string q,.int .i64 l,.int .i64 r] 109 (0,0))∧PP c t W∧Below c.B w W∧KeepB c.b w W) ⟨heap_alloc_new w _,M.out.later Z.out,Z.out.mono M.out.1.2,KeepB.of_below Z.out⟩ ?_
 obtain⟨gx,I⟩: ∃gx,gx=w.heap.size:=⟨_,rfl⟩
 have ae:gx≠c.b:=by
  rw[I]
  obtain⟨af,hc⟩:=zci M.out.1.1
  have:=(Array.getElem?_eq_some_iff.1 hc).1
  omega
 rw[←I]
 rintro w1 ⟨J,Y,V,X⟩
 clear I Z L N x1 x2 U O x5 p0 p1 p2 p3 p4 p5 pf ab
 have X1:=zc J
 have H:=zc Y
 have ac:=zc V
 have aa:=zc X
 clear J Y V X
 obtain⟨N,x1,x2,U,O,x5,xf⟩:=zx X1.out
 obtain⟨p0,p1,p2,p3,p4,p5,pf⟩:=zx H.out.2.2.1
 have L:=(Array.getElem?_eq_some_iff.1 H.out.2.2.1).1
 have ad:=(Array.getElem?_eq_some_iff.1 X1.out).1
 go_wp2_with fail
 go_region_with (go_at_call 122;refine (zc0 c t [j] w1 H.out (by have:=HL.out;rw[HT.out] at this;simp only[zv,List.foldl_cons,List.foldl_nil,ByteArray.size_append] at this ⊢;omega) (by simp)).mono ?_;rintro e w2 ⟨rfl,Y,V,X⟩)
 all_goals (go_wp2;go_end0;exact⟨rfl,(by rw[HT.out];exact Y),ac.out.trans V,aa.out.trans X⟩)
theorem zsF (c:PC) (t:ByteArray) (i:Nat) (A:Int) (j q:ByteArray) (l r:Int) (w:World) (h:PP c t w) (hi:i<c.m.ex.length) (L:c.m.ex.getD i zi=⟨3,A,j,q,l,r⟩) (z:(t++(j++cParens)).size≤140737488355328):
  Calls Tryz.prog 201 #[.pointer (some ⟨c.gp,0,none⟩),.int .i64 (i:Int)] w (PO c (t++(j++cParens)) w):=by
 have N:=zc h
 obtain⟨T,hT⟩: ∃T,T=j++cParens:=⟨_,rfl⟩
 rw[←hT] at z ⊢
 have HT:=zc hT
 have HL:=zc z
 clear h z hT
 obtain⟨p0,p1,p2,p3,p4,p5,pf⟩:=zx N.out.2.2.1
 obtain⟨g,hg,M,O,x1,x2,V,U,x5⟩:=N.out.2.1.expr hi
 rw[L] at O x1 x2 V U x5
 dsimp only at O x1 x2 V U x5
 rw[hg] at p4
 have ab:(i:Int)<(c.m.ex.length:Int):=by omega
 clear hg L
 go_enter Tryz.func201,Tryz.ntmps201
 go_upto_region 1 with fail
 have Z:Hid (Below w.heap.size w (w.alloc (.cells #[.int .i64 3,.int .i64 A,.string j,.string q,.int .i64 l,.int .i64 r] 109))):=(Below.refl _ _).alloc (Nat.le_refl _) _
 refine zac (R:=fun W=>W.heap[w.heap.size]? =some (.cells #[.int .i64 3,.int .i64 A,.string j,.string q,.int .i64 l,.int .i64 r] 109 (0,0))∧PP c t W∧Below c.B w W∧KeepB c.b w W) ⟨heap_alloc_new w _,N.out.later Z.out,Z.out.mono N.out.1.2,KeepB.of_below Z.out⟩ ?_
 obtain⟨gx,I⟩: ∃gx,gx=w.heap.size:=⟨_,rfl⟩
 have ae:gx≠c.b:=by
  rw[I]
  obtain⟨af,hc⟩:=zci N.out.1.1
  have:=(Array.getElem?_eq_some_iff.1 hc).1
  omega
 rw[←I]
 rintro w1 ⟨L,J,X,Y⟩
 clear I Z M O x1 x2 V U x5 p0 p1 p2 p3 p4 p5 pf ab
 have X1:=zc L
 have H:=zc J
 have ac:=zc X
 have aa:=zc Y
 clear L J X Y
 obtain⟨O,x1,x2,V,U,x5,xf⟩:=zx X1.out
 obtain⟨p0,p1,p2,p3,p4,p5,pf⟩:=zx H.out.2.2.1
 have M:=(Array.getElem?_eq_some_iff.1 H.out.2.2.1).1
 have ad:=(Array.getElem?_eq_some_iff.1 X1.out).1
 go_wp2_with fail
 go_region_with (go_at_call 122;refine (zc0 c t [j,cParens] w1 H.out (by have:=HL.out;rw[HT.out] at this;simp only[zv,List.foldl_cons,List.foldl_nil,ByteArray.size_append] at this ⊢;omega) (by simp)).mono ?_;rintro e w2 ⟨rfl,J,X,Y⟩)
 all_goals (go_wp2;go_end0;exact⟨rfl,(by rw[HT.out];simp only[zv,List.foldl_cons,List.foldl_nil,←ByteArray.append_assoc] at J ⊢;exact J),ac.out.trans X,aa.out.trans Y⟩)
theorem zsG (c:PC) (t:ByteArray) (i:Nat) (A:Int) (q j:ByteArray) (l r:Int) (w:World) (h:PP c t w) (hi:i<c.m.ex.length) (L:c.m.ex.getD i zi=⟨4,A,q,j,l,r⟩) (z:(t++(q++cPoint++j)).size≤140737488355328):
  Calls Tryz.prog 201 #[.pointer (some ⟨c.gp,0,none⟩),.int .i64 (i:Int)] w (PO c (t++(q++cPoint++j)) w):=by
 have N:=zc h
 obtain⟨T,hT⟩: ∃T,T=q++cPoint++j:=⟨_,rfl⟩
 rw[←hT] at z ⊢
 have HT:=zc hT
 have HL:=zc z
 clear h z hT
 obtain⟨p0,p1,p2,p3,p4,p5,pf⟩:=zx N.out.2.2.1
 obtain⟨g,hg,M,O,x1,x2,V,U,x5⟩:=N.out.2.1.expr hi
 rw[L] at O x1 x2 V U x5
 dsimp only at O x1 x2 V U x5
 rw[hg] at p4
 have ab:(i:Int)<(c.m.ex.length:Int):=by omega
 clear hg L
 go_enter Tryz.func201,Tryz.ntmps201
 go_upto_region 1 with fail
 have Z:Hid (Below w.heap.size w (w.alloc (.cells #[.int .i64 4,.int .i64 A,.string q,.string j,.int .i64 l,.int .i64 r] 109))):=(Below.refl _ _).alloc (Nat.le_refl _) _
 refine zac (R:=fun W=>W.heap[w.heap.size]? =some (.cells #[.int .i64 4,.int .i64 A,.string q,.string j,.int .i64 l,.int .i64 r] 109 (0,0))∧PP c t W∧Below c.B w W∧KeepB c.b w W) ⟨heap_alloc_new w _,N.out.later Z.out,Z.out.mono N.out.1.2,KeepB.of_below Z.out⟩ ?_
 obtain⟨gx,I⟩: ∃gx,gx=w.heap.size:=⟨_,rfl⟩
 have ae:gx≠c.b:=by
  rw[I]
  obtain⟨af,hc⟩:=zci N.out.1.1
  have:=(Array.getElem?_eq_some_iff.1 hc).1
  omega
 rw[←I]
 rintro w1 ⟨L,J,X,Y⟩
 clear I Z M O x1 x2 V U x5 p0 p1 p2 p3 p4 p5 pf ab
 have X1:=zc L
 have H:=zc J
 have ac:=zc X
 have aa:=zc Y
 clear L J X Y
 obtain⟨O,x1,x2,V,U,x5,xf⟩:=zx X1.out
 obtain⟨p0,p1,p2,p3,p4,p5,pf⟩:=zx H.out.2.2.1
 have M:=(Array.getElem?_eq_some_iff.1 H.out.2.2.1).1
 have ad:=(Array.getElem?_eq_some_iff.1 X1.out).1
 go_wp2_with fail
 go_region_with (go_at_call 122;refine (zc0 c t [q,cPoint,j] w1 H.out (by have:=HL.out;rw[HT.out] at this;simp only[zv,List.foldl_cons,List.foldl_nil,ByteArray.size_append] at this ⊢;omega) (by simp)).mono ?_;rintro e w2 ⟨rfl,J,X,Y⟩)
 all_goals (go_wp2;go_end0;exact⟨rfl,(by rw[HT.out];simp only[zv,List.foldl_cons,List.foldl_nil,←ByteArray.append_assoc] at J ⊢;exact J),ac.out.trans X,aa.out.trans Y⟩)
theorem zsH (c:PC) (t:ByteArray) (i:Nat) (A:Int) (q j:ByteArray) (l r:Int) (w:World) (h:PP c t w) (hi:i<c.m.ex.length) (L:c.m.ex.getD i zi=⟨5,A,q,j,l,r⟩) (z:(t++(q++cPoint++j++cParens)).size≤140737488355328):
  Calls Tryz.prog 201 #[.pointer (some ⟨c.gp,0,none⟩),.int .i64 (i:Int)] w (PO c (t++(q++cPoint++j++cParens)) w):=by
 have N:=zc h
 obtain⟨T,hT⟩: ∃T,T=q++cPoint++j++cParens:=⟨_,rfl⟩
 rw[←hT] at z ⊢
 have HT:=zc hT
 have HL:=zc z
 clear h z hT
 obtain⟨p0,p1,p2,p3,p4,p5,pf⟩:=zx N.out.2.2.1
 obtain⟨g,hg,M,O,x1,x2,V,U,x5⟩:=N.out.2.1.expr hi
 rw[L] at O x1 x2 V U x5
 dsimp only at O x1 x2 V U x5
 rw[hg] at p4
 have ab:(i:Int)<(c.m.ex.length:Int):=by omega
 clear hg L
 go_enter Tryz.func201,Tryz.ntmps201
 go_upto_region 1 with fail
 have Z:Hid (Below w.heap.size w (w.alloc (.cells #[.int .i64 5,.int .i64 A,.string q,.string j,.int .i64 l,.int .i64 r] 109))):=(Below.refl _ _).alloc (Nat.le_refl _) _
 refine zac (R:=fun W=>W.heap[w.heap.size]? =some (.cells #[.int .i64 5,.int .i64 A,.string q,.string j,.int .i64 l,.int .i64 r] 109 (0,0))∧PP c t W∧Below c.B w W∧KeepB c.b w W) ⟨heap_alloc_new w _,N.out.later Z.out,Z.out.mono N.out.1.2,KeepB.of_below Z.out⟩ ?_
 obtain⟨gx,I⟩: ∃gx,gx=w.heap.size:=⟨_,rfl⟩
 have ae:gx≠c.b:=by
  rw[I]
  obtain⟨af,hc⟩:=zci N.out.1.1
  have:=(Array.getElem?_eq_some_iff.1 hc).1
  omega
 rw[←I]
 rintro w1 ⟨L,J,X,Y⟩
 clear I Z M O x1 x2 V U x5 p0 p1 p2 p3 p4 p5 pf ab
 have X1:=zc L
 have H:=zc J
 have ac:=zc X
 have aa:=zc Y
 clear L J X Y
 obtain⟨O,x1,x2,V,U,x5,xf⟩:=zx X1.out
 obtain⟨p0,p1,p2,p3,p4,p5,pf⟩:=zx H.out.2.2.1
 have M:=(Array.getElem?_eq_some_iff.1 H.out.2.2.1).1
 have ad:=(Array.getElem?_eq_some_iff.1 X1.out).1
 go_wp2_with fail
 go_region_with (go_at_call 122;refine (zc0 c t [q,cPoint,j,cParens] w1 H.out (by have:=HL.out;rw[HT.out] at this;simp only[zv,List.foldl_cons,List.foldl_nil,ByteArray.size_append] at this ⊢;omega) (by simp)).mono ?_;rintro e w2 ⟨rfl,J,X,Y⟩)
 all_goals (go_wp2;go_end0;exact⟨rfl,(by rw[HT.out];simp only[zv,List.foldl_cons,List.foldl_nil,←ByteArray.append_assoc] at J ⊢;exact J),ac.out.trans X,aa.out.trans Y⟩)
theorem zsI (c:PC) (t:ByteArray) (i:Nat) (A:Int) (q j:ByteArray) (l r:Nat) (w:World) (h:PP c t w) (hi:i<c.m.ex.length) (L:c.m.ex.getD i zi=⟨6,A,q,j,(l:Int),(r:Int)⟩) (ae:zc3 c l) (ac:zc3 c r) (hr:r<c.m.ex.length) (z:(t++(prX c.m.ex l++tPlus++zJ (zR (c.m.ex.getD r zi).kind) (prX c.m.ex r))).size≤140737488355328):
  Calls Tryz.prog 201 #[.pointer (some ⟨c.gp,0,none⟩),.int .i64 (i:Int)] w (PO c (t++(prX c.m.ex l++tPlus++zJ (zR (c.m.ex.getD r zi).kind) (prX c.m.ex r))) w):=by
 have N:=zc h
 obtain⟨T,hT⟩: ∃T,T=prX c.m.ex l++tPlus++zJ (zR (c.m.ex.getD r zi).kind) (prX c.m.ex r):=⟨_,rfl⟩
 rw[←hT] at z ⊢
 have HT:=zc hT
 have HL:=zc z
 clear h z hT
 obtain⟨p0,p1,p2,p3,p4,p5,pf⟩:=zx N.out.2.2.1
 obtain⟨g,hg,M,O,x1,x2,V,U,x5⟩:=N.out.2.1.expr hi
 rw[L] at O x1 x2 V U x5
 dsimp only at O x1 x2 V U x5
 rw[hg] at p4
 have ab:(i:Int)<(c.m.ex.length:Int):=by omega
 clear hg L
 go_enter Tryz.func201,Tryz.ntmps201
 go_upto_region 1 with fail
 have Z:Hid (Below w.heap.size w (w.alloc (.cells #[.int .i64 6,.int .i64 A,.string q,.string j,.int .i64 (l:Int),.int .i64 (r:Int)] 109))):=(Below.refl _ _).alloc (Nat.le_refl _) _
 refine zac (R:=fun W=>W.heap[w.heap.size]? =some (.cells #[.int .i64 6,.int .i64 A,.string q,.string j,.int .i64 (l:Int),.int .i64 (r:Int)] 109 (0,0))∧PP c t W∧Below c.B w W∧KeepB c.b w W) ⟨heap_alloc_new w _,N.out.later Z.out,Z.out.mono N.out.1.2,KeepB.of_below Z.out⟩ ?_
 obtain⟨gx,I⟩: ∃gx,gx=w.heap.size:=⟨_,rfl⟩
 have ah:gx≠c.b:=by
  rw[I]
  obtain⟨ai,hc⟩:=zci N.out.1.1
  have:=(Array.getElem?_eq_some_iff.1 hc).1
  omega
 rw[←I]
 rintro w1 ⟨L,J,X,Y⟩
 clear I Z M O x1 x2 V U x5 p0 p1 p2 p3 p4 p5 pf ab
 have X1:=zc L
 have H:=zc J
 have ad:=zc X
 have aa:=zc Y
 clear L J X Y
 obtain⟨O,x1,x2,V,U,x5,xf⟩:=zx X1.out
 obtain⟨p0,p1,p2,p3,p4,p5,pf⟩:=zx H.out.2.2.1
 have M:=(Array.getElem?_eq_some_iff.1 H.out.2.2.1).1
 have ag:=(Array.getElem?_eq_some_iff.1 X1.out).1
 go_wp2_with fail
 refine (zl9 c t 6 A q j tPlus l r w1 ae ac hr H.out (by rw[←HT.out];exact HL.out)).mono ?_
 rw[←HT.out]
 rintro e w2 ⟨rfl,J,X,Y⟩
 have af:=zc J
 clear J
 go_wp2
 go_end0
 exact⟨rfl,af.out,ad.out.trans X,aa.out.trans Y⟩
theorem zsJ (c:PC) (t:ByteArray) (i:Nat) (A:Int) (q j:ByteArray) (l r:Nat) (w:World) (h:PP c t w) (hi:i<c.m.ex.length) (L:c.m.ex.getD i zi=⟨7,A,q,j,(l:Int),(r:Int)⟩) (ae:zc3 c l) (ac:zc3 c r) (hr:r<c.m.ex.length) (z:(t++(prX c.m.ex l++tMinus++zJ (zR (c.m.ex.getD r zi).kind) (prX c.m.ex r))).size≤140737488355328):
  Calls Tryz.prog 201 #[.pointer (some ⟨c.gp,0,none⟩),.int .i64 (i:Int)] w (PO c (t++(prX c.m.ex l++tMinus++zJ (zR (c.m.ex.getD r zi).kind) (prX c.m.ex r))) w):=by
 have N:=zc h
 obtain⟨T,hT⟩: ∃T,T=prX c.m.ex l++tMinus++zJ (zR (c.m.ex.getD r zi).kind) (prX c.m.ex r):=⟨_,rfl⟩
 rw[←hT] at z ⊢
 have HT:=zc hT
 have HL:=zc z
 clear h z hT
 obtain⟨p0,p1,p2,p3,p4,p5,pf⟩:=zx N.out.2.2.1
 obtain⟨g,hg,M,O,x1,x2,V,U,x5⟩:=N.out.2.1.expr hi
 rw[L] at O x1 x2 V U x5
 dsimp only at O x1 x2 V U x5
 rw[hg] at p4
 have ab:(i:Int)<(c.m.ex.length:Int):=by omega
 clear hg L
 go_enter Tryz.func201,Tryz.ntmps201
 go_upto_region 1 with fail
 have Z:Hid (Below w.heap.size w (w.alloc (.cells #[.int .i64 7,.int .i64 A,.string q,.string j,.int .i64 (l:Int),.int .i64 (r:Int)] 109))):=(Below.refl _ _).alloc (Nat.le_refl _) _
 refine zac (R:=fun W=>W.heap[w.heap.size]? =some (.cells #[.int .i64 7,.int .i64 A,.string q,.string j,.int .i64 (l:Int),.int .i64 (r:Int)] 109 (0,0))∧PP c t W∧Below c.B w W∧KeepB c.b w W) ⟨heap_alloc_new w _,N.out.later Z.out,Z.out.mono N.out.1.2,KeepB.of_below Z.out⟩ ?_
 obtain⟨gx,I⟩: ∃gx,gx=w.heap.size:=⟨_,rfl⟩
 have ah:gx≠c.b:=by
  rw[I]
  obtain⟨ai,hc⟩:=zci N.out.1.1
  have:=(Array.getElem?_eq_some_iff.1 hc).1
  omega
 rw[←I]
 rintro w1 ⟨L,J,X,Y⟩
 clear I Z M O x1 x2 V U x5 p0 p1 p2 p3 p4 p5 pf ab
 have X1:=zc L
 have H:=zc J
 have ad:=zc X
 have aa:=zc Y
 clear L J X Y
 obtain⟨O,x1,x2,V,U,x5,xf⟩:=zx X1.out
 obtain⟨p0,p1,p2,p3,p4,p5,pf⟩:=zx H.out.2.2.1
 have M:=(Array.getElem?_eq_some_iff.1 H.out.2.2.1).1
 have ag:=(Array.getElem?_eq_some_iff.1 X1.out).1
 go_wp2_with fail
 refine (zl9 c t 7 A q j tMinus l r w1 ae ac hr H.out (by rw[←HT.out];exact HL.out)).mono ?_
 rw[←HT.out]
 rintro e w2 ⟨rfl,J,X,Y⟩
 have af:=zc J
 clear J
 go_wp2
 go_end0
 exact⟨rfl,af.out,ad.out.trans X,aa.out.trans Y⟩
theorem zsK (c:PC) (t:ByteArray) (i:Nat) (ac:Int) (I j:ByteArray) (l r:Nat) (w:World) (h:PP c t w) (hi:i<c.m.ex.length) (hx:c.m.ex.getD i zi=⟨8,ac,I,j,(l:Int),(r:Int)⟩) (ah:zc3 c l) (ag:zc3 c r) (hl:l<c.m.ex.length) (hr:r<c.m.ex.length) (J:(t++(zJ (zR (c.m.ex.getD l zi).kind) (prX c.m.ex l)++tStar++zJ (zaa (c.m.ex.getD r zi).kind) (prX c.m.ex r))).size≤140737488355328):
  Calls Tryz.prog 201 #[.pointer (some ⟨c.gp,0,none⟩),.int .i64 (i:Int)] w (PO c (t++(zJ (zR (c.m.ex.getD l zi).kind) (prX c.m.ex l)++tStar++zJ (zaa (c.m.ex.getD r zi).kind) (prX c.m.ex r))) w):=by
 have HP:=zc h
 obtain⟨T,hT⟩: ∃T,T=zJ (zR (c.m.ex.getD l zi).kind) (prX c.m.ex l)++tStar++zJ (zaa (c.m.ex.getD r zi).kind) (prX c.m.ex r):=⟨_,rfl⟩
 rw[←hT] at J ⊢
 have HT:=zc hT
 have HL:=zc J
 clear h J hT
 obtain⟨p0,p1,p2,p3,p4,p5,pf⟩:=zx HP.out.2.2.1
 obtain⟨g,hg,A,U,x1,Z,Y,X,x5⟩:=HP.out.2.1.expr hi
 rw[hx] at U x1 Z Y X x5
 dsimp only at U x1 Z Y X x5
 rw[hg] at p4
 have ao:(i:Int)<(c.m.ex.length:Int):=by omega
 clear hg hx
 go_enter Tryz.func201,Tryz.ntmps201
 go_upto_region 1 with fail
 have HW:Hid (Below w.heap.size w (w.alloc (.cells #[.int .i64 8,.int .i64 ac,.string I,.string j,.int .i64 (l:Int),.int .i64 (r:Int)] 109))):=(Below.refl _ _).alloc (Nat.le_refl _) _
 refine zac (R:=fun W=>W.heap[w.heap.size]? =some (.cells #[.int .i64 8,.int .i64 ac,.string I,.string j,.int .i64 (l:Int),.int .i64 (r:Int)] 109 (0,0))∧PP c t W∧Below c.B w W∧KeepB c.b w W) ⟨heap_alloc_new w _,HP.out.later HW.out,HW.out.mono HP.out.1.2,KeepB.of_below HW.out⟩ ?_
 obtain⟨gx,ae⟩: ∃gx,gx=w.heap.size:=⟨_,rfl⟩
 have af:gx≠c.b:=by
  rw[ae]
  obtain⟨au,hc⟩:=zci HP.out.1.1
  have:=(Array.getElem?_eq_some_iff.1 hc).1
  omega
 rw[←ae]
 rintro V ⟨hx,z,H,q⟩
 clear ae HW A U x1 Z Y X x5 p0 p1 p2 p3 p4 p5 pf ao
 have X1:=zc hx
 have O:=zc z
 have ap:=zc H
 have am:=zc q
 clear hx z H q
 obtain⟨U,x1,Z,Y,X,x5,xf⟩:=zx X1.out
 obtain⟨p0,p1,p2,p3,p4,p5,pf⟩:=zx O.out.2.2.1
 have A:=(Array.getElem?_eq_some_iff.1 O.out.2.2.1).1
 have M:=(Array.getElem?_eq_some_iff.1 X1.out).1
 have aj:=zc ah
 have ai:=zc ag
 have HR:=zc hr
 have ak:=zc hl
 obtain⟨kk,ab⟩: ∃kk,(c.m.ex.getD r zi).kind=kk:=⟨_,rfl⟩
 obtain⟨kl,aa⟩: ∃kl,(c.m.ex.getD l zi).kind=kl:=⟨_,rfl⟩
 have HU:Hid (T=zJ (zR kl) (prX c.m.ex l)++tStar++zJ (zaa kk) (prX c.m.ex r)):=by show _=_;rw[←ab,←aa];exact HT.out
 have KK:=zc ab
 have KL:=zc aa
 clear ah ag hr hl ab aa HT
 go_upto_region 17 with fail
 go_cut [] from 82 to 90 (fun wx=>PP c (t++zJ (zR kl) (prX c.m.ex l)) wx∧Below c.B V wx∧KeepB c.b V wx)
 case first=>
  go_wp2_with fail
  have L:=zc (O.out.later ((Below.refl V.heap.size V).drew))
  go_region_with (first|(go_at_call 222;refine (ziu c _ l _ L.out ak.out).mono ?_;rintro e w' ⟨rfl,rfl⟩;rw[KL.out])|(go_at_call 197;refine (zfO _ _).mono ?_;rintro e w' ⟨rfl,rfl⟩)|(go_at_call 221;refine (zgS c _ l (zR kl) _ aj.out L.out (by have:=HL.out;rw[HU.out] at this;simp only[ByteArray.size_append] at this ⊢;omega)).mono ?_;rintro e w2 ⟨rfl,z,H,q⟩))
  all_goals (go_wp2_with fail;go_meet;exact⟨z,(((Below.refl V.heap.size V).drew).mono O.out.1.2).trans H,(KeepB.of_below ((Below.refl V.heap.size V).drew)).trans q⟩)
 case rest=>
 obtain⟨z,H,q⟩:=hcut
 rename_i w2
 have ad:=zc z
 have aq:=zc (ap.out.trans H)
 have an:=zc (am.out.trans q)
 have X2:=zc ((q _ _ _ _ X1.out af (by decide)).trans X1.out)
 clear z H q p0 p1 p2 p3 p4 p5 pf U x1 Z Y X x5 xf A M
 obtain⟨U,x1,Z,Y,X,x5,xf⟩:=zx X2.out
 obtain⟨p0,p1,p2,p3,p4,p5,pf⟩:=zx ad.out.2.2.1
 have A:=(Array.getElem?_eq_some_iff.1 ad.out.2.2.1).1
 have M:=(Array.getElem?_eq_some_iff.1 X2.out).1
 go_wp2_with fail
 refine (zbK c _ [tStar] _ ad.out (by have:=HL.out;rw[HU.out] at this;simp only[zv,List.foldl_cons,List.foldl_nil,ByteArray.size_append] at this ⊢;omega) (by simp)).mono ?_
 rintro e w3 ⟨rfl,z,H,q⟩
 have N:=zc z
 have al:=zc (aq.out.trans H)
 have ar:=zc (an.out.trans q)
 have X3:=zc ((q _ _ _ _ X2.out af (by decide)).trans X2.out)
 clear z H q p0 p1 p2 p3 p4 p5 pf U x1 Z Y X x5 xf A M
 obtain⟨U,x1,Z,Y,X,x5,xf⟩:=zx X3.out
 obtain⟨p0,p1,p2,p3,p4,p5,pf⟩:=zx N.out.2.2.1
 have A:=(Array.getElem?_eq_some_iff.1 N.out.2.2.1).1
 have M:=(Array.getElem?_eq_some_iff.1 X3.out).1
 go_wp2_with fail
 have L:=zc (N.out.later ((Below.refl w3.heap.size w3).drew))
 go_region_with (first|(go_at_call 222;refine (ziu c _ r _ L.out HR.out).mono ?_;rintro e w' ⟨rfl,rfl⟩;rw[KK.out])|(go_at_call 167;refine (zlh _ _).mono ?_;rintro e w' ⟨rfl,rfl⟩)|(go_at_call 221;refine (zgS c _ r (zaa kk) _ ai.out L.out (by have:=HL.out;rw[HU.out] at this;simp only[zv,List.foldl_cons,List.foldl_nil,ByteArray.size_append] at this ⊢;omega)).mono ?_;rintro e w4 ⟨rfl,z,H,q⟩))
 all_goals (go_wp2;go_end0;exact⟨rfl,(by rw[HU.out];simp only[zv,List.foldl_cons,List.foldl_nil,←ByteArray.append_assoc] at z ⊢;exact z),al.out.trans ((((Below.refl w3.heap.size w3).drew).mono N.out.1.2).trans H),ar.out.trans ((KeepB.of_below ((Below.refl w3.heap.size w3).drew)).trans q)⟩)
theorem zsL (c:PC) (t:ByteArray) (i:Nat) (k A:Int) (q j:ByteArray) (l r:Int) (w:World) (h:PP c t w) (hi:i<c.m.ex.length) (L:c.m.ex.getD i zi=⟨k,A,q,j,l,r⟩) (k1:(k==1)=false) (k2:(k==2)=false) (k3:(k==3)=false) (k4:(k==4)=false) (k5:(k==5)=false) (k6:(k==6)=false) (k7:(k==7)=false) (k8:(k==8)=false) (z:(t++(sNone)).size≤140737488355328):
  Calls Tryz.prog 201 #[.pointer (some ⟨c.gp,0,none⟩),.int .i64 (i:Int)] w (PO c (t++(sNone)) w):=by
 have M:=zc h
 obtain⟨T,hT⟩: ∃T,T=sNone:=⟨_,rfl⟩
 rw[←hT] at z ⊢
 have HT:=zc hT
 have HL:=zc z
 clear h z hT
 obtain⟨p0,p1,p2,p3,p4,p5,pf⟩:=zx M.out.2.2.1
 obtain⟨g,hg,J,N,Z,X,U,O,Y⟩:=M.out.2.1.expr hi
 rw[L] at N Z X U O Y
 dsimp only at N Z X U O Y
 rw[hg] at p4
 have ab:(i:Int)<(c.m.ex.length:Int):=by omega
 clear hg L
 go_enter Tryz.func201,Tryz.ntmps201
 go_upto_region 1 with fail
 have V:Hid (Below w.heap.size w (w.alloc (.cells #[.int .i64 k,.int .i64 A,.string q,.string j,.int .i64 l,.int .i64 r] 109))):=(Below.refl _ _).alloc (Nat.le_refl _) _
 refine zac (R:=fun W=>W.heap[w.heap.size]? =some (.cells #[.int .i64 k,.int .i64 A,.string q,.string j,.int .i64 l,.int .i64 r] 109 (0,0))∧PP c t W∧Below c.B w W∧KeepB c.b w W) ⟨heap_alloc_new w _,M.out.later V.out,V.out.mono M.out.1.2,KeepB.of_below V.out⟩ ?_
 obtain⟨gx,I⟩: ∃gx,gx=w.heap.size:=⟨_,rfl⟩
 have ae:gx≠c.b:=by
  rw[I]
  obtain⟨af,hc⟩:=zci M.out.1.1
  have:=(Array.getElem?_eq_some_iff.1 hc).1
  omega
 rw[←I]
 rintro w1 ⟨L,hp,hb,hk⟩
 clear I V J N Z X U O Y p0 p1 p2 p3 p4 p5 pf ab
 have X1:=zc L
 have H:=zc hp
 have ac:=zc hb
 have aa:=zc hk
 clear L hp hb hk
 obtain⟨N,Z,X,U,O,Y,xf⟩:=zx X1.out
 obtain⟨p0,p1,p2,p3,p4,p5,pf⟩:=zx H.out.2.2.1
 have J:=(Array.getElem?_eq_some_iff.1 H.out.2.2.1).1
 have ad:=(Array.getElem?_eq_some_iff.1 X1.out).1
 go_wp2
 go_end0
 exact⟨rfl,(by rw[HT.out,show t++sNone=t from ByteArray.append_empty];exact H.out),ac.out,aa.out⟩
theorem zsM (c:PC) (hn:zaW c.m.ex) (ha:zb3 c.m.ex) (n:Nat): ∀i,i<n→i<c.m.ex.length→zc3 c i:=by
 induction n with
 |zero=>intro i J;omega
 |succ n ih=>
  intro i ab J t w h z
  by_cases aa:i<n
  ·exact ih i aa J t w h z
  ·have N: ∀j,j<i→zc3 c j:=fun j hj=>ih j (by omega) (by omega)
   have M:=hn (c.m.ex.getD i zi) (by rw[zdV J];exact List.getElem_mem J)
   have I:=zfZ ha (i:=i)
   rw[zhm ha] at z ⊢
   obtain⟨x,L⟩: ∃x,c.m.ex.getD i zi=x:=⟨_,rfl⟩
   rw[L] at z M I ⊢
   obtain⟨k,H,A,q,l,r⟩:=x
   simp only at z M I ⊢
   by_cases O:(k==1)=true
   ·rw[if_pos O] at z ⊢
    have e:=eq_of_beq O
    subst e
    exact zsD c t i H A q l r w h J L M z
   rw[if_neg O] at z ⊢
   by_cases k2:(k==2)=true
   ·rw[if_pos k2] at z ⊢
    have e:=eq_of_beq k2
    subst e
    exact zsE c t i H A q l r w h J L z
   rw[if_neg k2] at z ⊢
   by_cases X:(k==3)=true
   ·rw[if_pos X] at z ⊢
    have e:=eq_of_beq X
    subst e
    exact zsF c t i H A q l r w h J L z
   rw[if_neg X] at z ⊢
   by_cases k4:(k==4)=true
   ·rw[if_pos k4] at z ⊢
    have e:=eq_of_beq k4
    subst e
    exact zsG c t i H A q l r w h J L z
   rw[if_neg k4] at z ⊢
   by_cases Y:(k==5)=true
   ·rw[if_pos Y] at z ⊢
    have e:=eq_of_beq Y
    subst e
    exact zsH c t i H A q l r w h J L z
   rw[if_neg Y] at z ⊢
   by_cases Z:(k==6)=true
   ·rw[if_pos Z] at z ⊢
    have e:=eq_of_beq Z
    subst e
    have I:=I (by decide)
    obtain⟨l,rfl⟩: ∃n:Nat,l=(n:Int):=⟨l.toNat,by omega⟩
    obtain⟨r,rfl⟩: ∃n:Nat,r=(n:Int):=⟨r.toNat,by omega⟩
    simp only[Int.toNat_natCast] at z ⊢
    exact zsI c t i H A q l r w h J L (N l (by omega)) (N r (by omega)) (by omega) z
   rw[if_neg Z] at z ⊢
   by_cases V:(k==7)=true
   ·rw[if_pos V] at z ⊢
    have e:=eq_of_beq V
    subst e
    have I:=I (by decide)
    obtain⟨l,rfl⟩: ∃n:Nat,l=(n:Int):=⟨l.toNat,by omega⟩
    obtain⟨r,rfl⟩: ∃n:Nat,r=(n:Int):=⟨r.toNat,by omega⟩
    simp only[Int.toNat_natCast] at z ⊢
    exact zsJ c t i H A q l r w h J L (N l (by omega)) (N r (by omega)) (by omega) z
   rw[if_neg V] at z ⊢
   by_cases U:(k==8)=true
   ·rw[if_pos U] at z ⊢
    have e:=eq_of_beq U
    subst e
    have I:=I (by decide)
    obtain⟨l,rfl⟩: ∃n:Nat,l=(n:Int):=⟨l.toNat,by omega⟩
    obtain⟨r,rfl⟩: ∃n:Nat,r=(n:Int):=⟨r.toNat,by omega⟩
    simp only[Int.toNat_natCast] at z ⊢
    exact zsK c t i H A q l r w h J L (N l (by omega)) (N r (by omega)) (by omega) (by omega) z
   rw[if_neg U] at z ⊢
   exact zsL c t i k H A q l r w h J L (Bool.eq_false_iff.2 O) (Bool.eq_false_iff.2 k2) (Bool.eq_false_iff.2 X) (Bool.eq_false_iff.2 k4) (Bool.eq_false_iff.2 Y) (Bool.eq_false_iff.2 Z) (Bool.eq_false_iff.2 V) (Bool.eq_false_iff.2 U) z
theorem zsN (j:Nat) (S:Sv) (m:Md) (ad:Bool) (w:World) (h:OwnMd w j S m) (hm:Small m) (U:Tree m→(zbj m).size≤140737488355328):
  Calls Tryz.prog 90 #[zp S m,.bool ad] w fun e w'=>PrintOut (zbj m) m e∧Below w.heap.size w w':=by
 have HH:=zc h
 have SM:=zc hm
 have HU:=zc U
 obtain⟨f1,f2,f3,f4,f5⟩:=hm.few
 clear h hm U
 unfold zp
 go_enter Tryz.func90,Tryz.ntmps90
 go_wp2_with fail
 refine (zsm j S m _ (HH.out.alloc _) f5 f4).mono ?_
 rintro e z ⟨⟨b,rfl,M⟩,H⟩
 have HT:=zc M
 have q:Hid (Below w.heap.size w z):=((Below.refl _ _).alloc (Nat.le_refl _) _).trans (H.mono (by rw[zl];omega))
 have J:Hid (z.heap[w.heap.size]? =some (.cells #[.slice S.rq.a m.rq.length S.rq.cap,.slice S.im.a m.im.length S.im.cap,.slice S.ep.a m.ep.length S.ep.cap,.slice S.st.a m.st.length S.st.cap,.slice S.ex.a m.ex.length S.ex.cap] 36 (0,0))):=(H.block _ (by rw[zl];omega)).trans (heap_alloc_new w _)
 have V:=zc (HH.out.later q.out)
 clear M H
 cases b with
 |false=>
  go_wp2
  go_ret
  exact⟨.inr ⟨(fun t=>by have:=HT.out.2 t;cases this),rfl⟩,q.out⟩
 |true=>
  have Z:=zc (HT.out.1 rfl)
  have HZ:=zc (HU.out Z.out)
  go_upto_region 4 with fail
  have A:Hid (Below z.heap.size z (z.alloc (.cells #[.pointer none,.slice none 0 0] 163))):=(Below.refl _ _).alloc (Nat.le_refl _) _
  have hz:=(Array.getElem?_eq_some_iff.1 J.out).1
  refine zac (R:=fun W=>(Lib.IsBuilder 163 5 z.heap.size z.heap.size [] W∧z.heap.size≤W.heap.size)∧OwnMd W j S m∧W.heap[w.heap.size]? =some (.cells #[.slice S.rq.a m.rq.length S.rq.cap,.slice S.im.a m.im.length S.im.cap,.slice S.ep.a m.ep.length S.ep.cap,.slice S.st.a m.st.length S.st.cap,.slice S.ex.a m.ex.length S.ex.cap] 36 (0,0))∧Below w.heap.size w W) ⟨⟨Lib.fresh_isBuilder _ _ z,A.out.size⟩,V.out.later A.out,(A.out.block _ hz).trans J.out,q.out.trans (A.out.mono q.out.size)⟩ ?_
  obtain⟨b,I⟩: ∃b,b=z.heap.size:=⟨_,rfl⟩
  have N:w.heap.size≤b:=by rw[I];exact q.out.size
  rw[←I]
  rintro W ⟨⟨L,aa⟩,ho,hx,M⟩
  clear hz A J V q HH I z
  have BL:=zc L
  have HO:=zc ho
  have HX:=zc hx
  have HB:=zc M
  clear L ho hx M
  obtain⟨c0,c1,c2,c3,c4,cf⟩:=zg HX.out
  go_upto_region 6 with fail
  have A:Hid (Below W.heap.size W (W.alloc (.cells #[.slice S.rq.a m.rq.length S.rq.cap,.slice S.im.a m.im.length S.im.cap,.slice S.ep.a m.ep.length S.ep.cap,.slice S.st.a m.st.length S.st.cap,.slice S.ex.a m.ex.length S.ex.cap,.func (.func 122) #[] #[.pointer (some ⟨b,0,none⟩)]] 171))):=(Below.refl _ _).alloc (Nat.le_refl _) _
  have ag:Hid (PP ⟨b,b,W.heap.size,j,S,m⟩ sNone (W.alloc (.cells #[.slice S.rq.a m.rq.length S.rq.cap,.slice S.im.a m.im.length S.im.cap,.slice S.ep.a m.ep.length S.ep.cap,.slice S.st.a m.st.length S.st.cap,.slice S.ex.a m.ex.length S.ex.cap,.func (.func 122) #[] #[.pointer (some ⟨b,0,none⟩)]] 171))):=by
   refine⟨⟨zlo BL.out A.out,Nat.le_trans aa A.out.size⟩,HO.out.later A.out,heap_alloc_new W _,?_⟩
   obtain⟨ah,hc⟩:=zci BL.out
   have:=(Array.getElem?_eq_some_iff.1 hc).1
   show W.heap.size≠b
   omega
  have ab:=zc (HB.out.trans (A.out.mono HB.out.size))
  go_wp2_with fail
  refine (zsC ⟨b,b,W.heap.size,j,S,m⟩ _ (fun i hi=>zsM _ SM.out.nums Z.out.ahead _ i hi hi) Z.out.stm SM.out ag.out HZ.out).mono ?_
  rintro e w3 ⟨rfl,hp,Y,ae⟩
  have O:=zc hp
  have ac:=zc (ab.out.trans (Y.mono N))
  clear hp Y ae c0 c1 c2 c3 c4 cf
  go_wp2_with fail
  refine (Tryz.Builder_String_any b b (zbj m).data.toList w3 O.out.1.1 O.out.1.2).mono ?_
  rintro e w4 ⟨rfl,X⟩
  have af:=zc (ac.out.trans (X.mono N))
  clear X
  go_wp2
  go_ret
  exact⟨.inl ⟨Z.out,rfl⟩,af.out⟩
theorem ziv {C:Cx} {j:Bool} {q:PS} {x:PS×Ep} (h:zbB C j q= .ok x):q.pos<x.1.pos:=by
 obtain⟨a,I,A⟩:=zf h
 obtain⟨b,J,H⟩:=zf A
 have z:=zfg J
 rw[(zbq I).1] at z
 cases H
 exact z
def zlA (C:Cx) (gt cap base gp:Nat) (t:TypeId) (size:Nat) (f:Ep→List Value) (y:PRL) (S:Sv) (w:World) (e:Ending) (w':World):Prop:=
 match y with
 | .ok a=>∃r S',e= .returned (.slice r.a a.2.length r.cap)∧IM C gt cap base gp S' a.1 w'∧IS gp S w S' w'∧Fr t size w' w.heap.size r a.2.length (a.2.flatMap f) S'∧0<a.2.length∧a.2.length≤4000
 | .error p=>e=Pan p∧Below base w w'
theorem zlB {C:Cx} {I z j A:Nat} {S:Sv} {q:PS} {w:World} (h:IM C I z j A S q w) (t:TypeId) (size:Nat):Fr t size (w.alloc (.cells #[] t)) w.heap.size ⟨some ⟨w.heap.size,0,none⟩,0⟩ 0 [] S:=by
 refine⟨World.ownsRow_lit w #[] 0 (Nat.le_refl _) (by unfold maxLen;omega) (Nat.zero_mul _).symm,fun k g H=>?_⟩
 have J:w.heap.size=k:=by simpa [Rw.blk,Value.ownBlock] using g
 have:=(h.mem.own.has H).2
 omega
theorem zsO (C:Cx) (Y A j J:Nat) (S:Sv) (q:PS) (w:World) (h:IM C Y A j J S q w):
  Calls Tryz.prog 209 #[.pointer (some ⟨J,0,none⟩)] w (zlA C Y A j J 84 3 (fun e=>imL (zbg e)) (za5 C false q []) S w):=by
 obtain⟨i0,hi,ap,ar,av⟩:=info_parts Tryz.infoImp
 go_enter Tryz.func209,Tryz.ntmps209
 go_wp2
 go_loopg [3] (C.ts.length+1) (fun k v wr=>∃(S':Sv) (Z:PS) (r:Rw) (l:List Ep),v= .slice r.a l.length r.cap∧za5 C false q []=za5 C false Z l∧C.ts.length-Z.pos<k∧l.length+(C.ts.length-Z.pos)≤C.ts.length∧IM C Y A j J S' Z wr∧IS J S w S' wr∧Fr 84 3 wr w.heap.size r l.length (l.flatMap (fun e=>imL (zbg e))) S')
 case atStart=>exact⟨S,q,⟨some ⟨w.heap.size,0,none⟩,0⟩,[],rfl,rfl,by omega,by simp,h.alloc _,(IS.refl _ _ _).alloc _,zlB h _ _⟩
 case round=>
  obtain⟨S',Z,r,l,rfl,hy,hk,hl,m',s',f'⟩:=hrel
  have HY:=zc hy
  have HZ:=zc (HY.out.trans (zkU C false Z l))
  have ae:=m'
  have an:=s'
  have au:Hid (Fr 84 3 wr w.heap.size r l.length (l.flatMap (fun e=>imL (zbg e))) S'):=f'
  have ay:=m'.mem.few
  clear hy m' s' f'
  go_wp2_with fail
  refine (zrK C Y A j J S' Z _ ae).mono ?_
  cases aa:zbB C false Z with
  |error p=>
   rintro e w1 ⟨rfl,hb⟩
   have HB:=(h.back an).trans hb
   have HX:Hid (za5 C false q []= .error p):=bdE HZ.out aa
   unfold Pan
   go_wp2
   refine⟨rfl,?_⟩
   rw[HX.out]
   exact⟨rfl,HB⟩
  |ok z=>
   rintro e w1 ⟨rfl,L,m,s⟩
   have I:Hid (Fr 84 3 w1 w.heap.size r l.length (l.flatMap (fun e=>imL (zbg e))) L):=au.out.step ae (by decide) s
   have N:=zc m
   have ah:Hid (IS J S w L w1):=an.trans s
   clear m s
   have aj:=zc (bdO HZ.out aa)
   have aB:=ziv aa
   have aA:=N.out.mem.inv.pos
   unfold imV
   have V:=fun o1=>(I.out.later ((Below.refl w1.heap.size w1).alloc (Nat.le_refl _) o1)).1
   have ak:=fun o1=>(ah.out.alloc o1).size
   go_wp2_with (at_builtin;refine zcw _ rfl _ _ 31 rfl w.heap.size 84 i0 _ 3 48 Tryz.underlying31 hi ap ar av rfl (by decide) (by decide) r l.length _ (by rfl) (V _) w1.heap.size (imL (zbg z.2)) (by rfl) (by exact heap_alloc_new w1 _) rfl (zh3 _) (by omega) (ak _) ?_;intro X w2 hr ac ag;have HR:Hid (OwnR w2 w.heap.size 84 3 X (l.length+1) _):=hr;have O:Hid (IM C Y A j J L z.1 w2):=(N.out.alloc _).aside ac (fun k g=>⟨I.out.2 k g,I.out.ngp N.out (by decide) g,I.out.ngt N.out (by decide) g⟩);have ai:Hid (IS J S w L w2):=(ah.out.alloc _).aside ac (fun k g=>(I.out.1.typed g).1);have al:Hid (Fr 84 3 w2 w.heap.size X (l.length+1) _ L):=(I.out.later ((Below.refl _ _).alloc (Nat.le_refl _) _)).grown (N.out.alloc _) hr ag;clear hr ac ag V ak)
   have el:(l++[z.2]).length=l.length+1:=by simp
   have am:Hid (Fr 84 3 w2 w.heap.size X (l++[z.2]).length ((l++[z.2]).flatMap (fun e=>imL (zbg e))) L):=by
    show Fr ..
    rw[el,List.flatMap_append]
    simpa using al.out
   have M:=zc el
   clear el al HR
   go_wp2_with fail
   cases hc:isT C z.1.pos 4 zbF with
   |true=>
    have az:=za9 hc (by decide)
    have HC:=zc (aj.out.trans (if_pos hc))
    refine (zO C Y A j J L (z.1) 4 zbF _ O.out (by decide)).mono ?_
    rintro e w3 ⟨rfl,H,s⟩
    rw[hc] at H ⊢
    have U:=ai.out.trans s
    have af:=s
    clear s
    have ab:Hid (Fr 84 3 w3 w.heap.size X (l++[z.2]).length ((l++[z.2]).flatMap (fun e=>imL (zbg e))) L):=am.out.step O.out (by decide) af
    clear af
    go_wp2
    go_roundg (gk-1)
    case rel=>exact⟨L,adv z.1,X,l++[z.2],by rw[M.out],HC.out,by rw[zz];omega,by rw[zz,M.out];omega,H,U,ab.out⟩
    case measure=>omega
   |false=>
    have HC:=zc (aj.out.trans (if_neg (by rw[hc];decide)))
    refine (zO C Y A j J L (z.1) 4 zbF _ O.out (by decide)).mono ?_
    rintro e w3 ⟨rfl,H,s⟩
    rw[hc] at H ⊢
    have U:=ai.out.trans s
    have ab:Hid (Fr 84 3 w3 w.heap.size X (l++[z.2]).length ((l++[z.2]).flatMap (fun e=>imL (zbg e))) L):=am.out.step O.out (by decide) s
    clear s
    go_wp2_with fail
    refine (zcy C Y A j J L z.1 125 _ H).mono ?_
    cases ad:zd C 4 zb2 z.1 with
    |error p=>
     rintro e w4 ⟨rfl,hb⟩
     have HB:=(h.back U).trans hb
     have HX:Hid (za5 C false q []= .error p):=bdE HC.out ad
     unfold Pan
     go_wp2
     refine⟨rfl,?_⟩
     rw[HX.out]
     exact⟨rfl,HB⟩
    |ok a4=>
     rintro e w4 ⟨rfl,S4,aq,s⟩
     have ax:Hid (Fr 84 3 w4 w.heap.size X (l++[z.2]).length ((l++[z.2]).flatMap (fun e=>imL (zbg e))) S4):=ab.out.step H (by decide) s
     have ao:=U.trans s
     clear s
     have aw:=zc (bdO HC.out ad)
     go_wp2
     go_ret
     rw[aw.out]
     exact⟨X,S4,by rw[M.out];rfl,aq,ao,ax.out,by show 0<(l++[z.2]).length;rw[M.out];omega,by show (l++[z.2]).length≤4000;rw[M.out];omega⟩
def impFromI (C:Cx) (l:List Ep) (q:PS):PR:=bd (zd C 1 zY q) fun a=>bd (zF C a) fun b=>bd (zd C 4 cSemi b.1) fun c=>zV (fun e=>zal C (zca b.2 e)) l (.ok c)
theorem zgU {α:Type} (f:α→PS→PR) (p:Nat): ∀l:List α,zV f l (.error p)= .error p
 |[]=>rfl
 |_::l=>zgU f p l
theorem ziw {α:Type} (f:α→PS→PR) {l:List α} {j:Nat} {x:α} (h:l[j]? =some x) (q:PS):zV f (l.drop j) (.ok q)=zV f (l.drop (j+1)) (f x q):=by
 obtain⟨z,rfl⟩:=List.getElem?_eq_some_iff.1 h
 rw[List.drop_eq_getElem_cons z]
 rfl
theorem zsP {C:Cx} {x:Im} {q a:PS} (h:zal C x q= .ok a):a.pos=q.pos:=by
 unfold zal at h
 split at h
 ·cases h
 ·cases h
  rfl
theorem zlC {C:Cx} {x:Ep} {q a:PS} (h:zq C x q= .ok a):a.pos=q.pos:=by
 unfold zq at h
 split at h
 ·cases h
 ·split at h
  ·cases h
   rfl
  ·cases h
   rfl
theorem zfP {α:Type} {l:List α} {j:Nat} (h:j<l.length): ∃x,l[j]? =some x:=⟨_,List.getElem?_eq_getElem h⟩
theorem zsQ (C:Cx) (V A z H b0 g:Nat) (r:Rw) (S:Sv) (q:PS) (l:List Ep) (w:World) (h:IM C V A z H S q w) (hC:zbu C) (hl:l.length≤4000) (hf:Fr 84 3 w b0 r l.length (l.flatMap (fun e=>imL (zbg e))) S) (hg:r.a=some ⟨g,0,none⟩):
  Calls Tryz.prog 208 #[.pointer (some ⟨H,0,none⟩),.slice (some ⟨g,0,none⟩) l.length r.cap] w (zW C V A z H (impFromI C l q) id (fun _=>.tuple #[]) S w):=by
 have HF:=zc hf
 have HG:=zc hg
 have HY:=zc (impFromI.eq_1 C l q)
 clear hf hg
 go_enter Tryz.func208,Tryz.ntmps208
 go_wp2_with fail
 refine (ze7 C V A z H S q zY _ h).mono ?_
 cases ab:zd C 1 zY q with
 |error p=>
  rintro e w1 ⟨rfl,M⟩
  have Z:Below z w w1:=(h.back (IS.refl _ _ _)).trans M
  have HX:Hid (impFromI C l q= .error p):=bdE HY.out ab
  unfold Pan
  go_wp2
  refine⟨rfl,?_⟩
  rw[HX.out]
  exact⟨rfl,Z⟩
 |ok a1=>
  rintro e w1 ⟨rfl,S1,am,N⟩
  have ao:Hid (Fr 84 3 w1 b0 r l.length (l.flatMap (fun e=>imL (zbg e))) S1):=HF.out.step h (by decide) N
  have ai:=zc (bdO HY.out ab)
  go_wp2_with fail
  refine (zgq C V A z H S1 a1 _ am hC).mono ?_
  cases al:zF C a1 with
  |error p=>
   rintro e w2 ⟨rfl,M⟩
   have Z:=(h.back N).trans M
   have HX:Hid (impFromI C l q= .error p):=bdE ai.out al
   unfold Pan
   go_wp2
   refine⟨rfl,?_⟩
   rw[HX.out]
   exact⟨rfl,Z⟩
  |ok a2=>
   rintro e w2 ⟨rfl,S2,aj,s⟩
   have az:Hid (Fr 84 3 w2 b0 r l.length (l.flatMap (fun e=>imL (zbg e))) S2):=ao.out.step am (by decide) s
   have ae:=N.trans s
   clear s
   have ak:=zc (bdO ai.out al)
   go_wp2_with fail
   refine (zcy C V A z H S2 a2.1 59 _ aj).mono ?_
   cases U:zd C 4 cSemi (a2.1) with
   |error p=>
    rintro e w3 ⟨rfl,M⟩
    have Z:=(h.back ae).trans M
    have HX:Hid (impFromI C l q= .error p):=bdE ak.out U
    unfold Pan
    go_wp2
    refine⟨rfl,?_⟩
    rw[HX.out]
    exact⟨rfl,Z⟩
   |ok a3=>
    rintro e w3 ⟨rfl,S3,ay,s⟩
    have aA:Hid (Fr 84 3 w3 b0 r l.length (l.flatMap (fun e=>imL (zbg e))) S3):=az.out.step aj (by decide) s
    have au:=ae.trans s
    clear s
    have ar:=zc (bdO ak.out U)
    have af:0<a3.pos:=by rw[(zbL U).1];exact Nat.succ_pos _
    generalize aB:a2.2=sp at*
    clear aB
    go_wp2
    go_loopg [15] l.length (fun k i wr=>∃(j:Nat) (X:Sv) (L:PS),i= .int .i64 j∧j+k=l.length∧impFromI C l q=zV (fun e=>zal C (zca sp e)) (l.drop j) (.ok L)∧0<L.pos∧IM C V A z H X L wr∧IS H S w X wr∧Fr 84 3 wr b0 r l.length (l.flatMap (fun e=>imL (zbg e))) X)
    case atStart=>exact⟨0,S3,a3,rfl,by omega,ar.out,af,ay,au,aA.out⟩
    case round=>
     obtain⟨j,X,L,rfl,hj,hy,ac,m',s',f'⟩:=hrel
     have ag:=zc hy
     have I:=m'
     have Y:=s'
     have aa:Hid (Fr 84 3 wr b0 r l.length (l.flatMap (fun e=>imL (zbg e))) X):=f'
     clear hy m' s' f'
     by_cases ap:j<l.length
     ·have ah:(j:Int)<(l.length:Int):=by omega
      obtain⟨x,hx⟩:=zfP ap
      obtain⟨g',ad,J⟩:=OwnR.elem (f:=fun e=>imL (zbg e)) (m:=3) (fun _=>rfl) aa.out.1 hx
      have eg:g'=g:=by have:=ad.symm.trans HG.out;simpa using this
      subst eg
      have k0:=J 0 (by omega)
      have k1:=J 1 (by omega)
      have k2:=J 2 (by omega)
      simp only[imL,zbg,Nat.add_zero,List.getElem?_cons_zero,List.getElem?_cons_succ] at k0 k1 k2
      have HZ:=zc (ag.out.trans (ziw (fun e=>zal C (zca sp e)) hx L))
      clear J ad hx
      obtain⟨j1,O⟩: ∃j1,j1=j+1:=⟨_,rfl⟩
      have ej:(j:Int)+1=(j1:Int):=by omega
      rw[←O] at HZ
      have aC:=(Array.getElem?_eq_some_iff.1 (aa.out.1.typed (by rw[Rw.blk,HG.out];rfl)).2.2.choose_spec).1
      have aD:=I.lt
      have HJ:=zc O
      clear O
      go_wp2_with fail
      refine (znp C V A z H X L (zca sp x) _ (I.alloc _) ac).mono ?_
      cases hn:zal C (zca sp x) L with
      |error p=>
       rintro e w5 ⟨rfl,M⟩
       have Z:Below z w w5:=(h.back (Y.alloc _)).trans M
       have HX:Hid (impFromI C l q= .error p):=by show _=_;rw[HZ.out,hn];exact zgU _ _ _
       unfold Pan
       go_wp2
       refine⟨rfl,?_⟩
       rw[HX.out]
       exact⟨rfl,Z⟩
      |ok a5=>
       rintro e w5 ⟨rfl,S5,an,s⟩
       have av:IS H S w S5 w5:=(Y.alloc _).trans s
       have aw:Hid (Fr 84 3 w5 b0 r l.length (l.flatMap (fun e=>imL (zbg e))) S5):=(aa.out.later ((Below.refl _ _).alloc (Nat.le_refl _) _)).step (I.alloc _) (by decide) s
       have aq:Hid (impFromI C l q=zV (fun e=>zal C (zca sp e)) (l.drop j1) (.ok a5)):=by show _=_;rw[HZ.out,hn]
       have ax:Hid (0<a5.pos):=by show 0<a5.pos;rw[zsP hn];exact ac
       clear s
       go_wp2
       go_roundg (gk-1)
       case rel=>exact⟨j1,S5,a5,rfl,by have:=HJ.out;omega,aq.out,ax.out,an,av,aw.out⟩
       case measure=>omega
     ·have ah: ¬(j:Int)<(l.length:Int):=by omega
      have HZ:Hid (impFromI C l q= .ok L):=by show _=_;rw[ag.out,List.drop_eq_nil_of_le (by omega)];rfl
      go_wp2
      go_end0
      rw[HZ.out]
      exact⟨rfl,X,I,Y⟩
theorem zix (C:Cx) (H z j A b0:Nat) (r:Rw) (S:Sv) (q:PS) (l:List Ep) (w:World) (h:IM C H z j A S q w) (L:zbu C) (M:l.length≤4000) (N:l.length≠0) (I:Fr 84 3 w b0 r l.length (l.flatMap (fun e=>imL (zbg e))) S):
  Calls Tryz.prog 208 #[.pointer (some ⟨A,0,none⟩),.slice r.a l.length r.cap] w (zW C H z j A (impFromI C l q) id (fun _=>.tuple #[]) S w):=by
 rcases I.1.nil_or with ⟨_,_,e⟩|⟨g,J⟩
 ·exact absurd e N
 ·rw[J]
  exact zsQ C H z j A b0 g r S q l w h L M I J
theorem zlD {C:Cx} {I z j A:Nat} {S:Sv} {q:PS} {w:World} (h:IM C I z j A S q w) (t:TypeId) (xs:List Value):Fr t xs.length (w.alloc (.cells xs.toArray t)) w.heap.size ⟨some ⟨w.heap.size,0,none⟩,1⟩ 1 xs S:=by
 refine⟨?_,fun k g H=>?_⟩
 ·have:=World.ownsRow_lit (e:=t) (size:=xs.length) w xs.toArray 1 (Nat.le_refl _) (by unfold maxLen;omega) (by simp)
  simpa [OwnR] using this
 ·have J:w.heap.size=k:=by simpa [Rw.blk,Value.ownBlock] using g
  have:=(h.mem.own.has H).2
  omega
def zaQ (C:Cx) (q:PS):PR:=
 if (ze C q.pos).kind==3 then bd (zF C q) fun a=>zd C 4 cSemi a.1
 else if isT C q.pos 4 zM then bd (za5 C false (adv q) []) fun a=>impFromI C a.2 a.1
 else if isT C q.pos 4 zy then bd (zd C 1 sAs (adv q)) fun a=>bd (zo C false a) fun b=>impFromI C [⟨0,b.2,zy,sNone⟩] b.1
 else bd (zo C false q) fun b=>impFromI C [⟨0,b.2,sDefault,sNone⟩] b.1
theorem zsR (C:Cx) (N z j H:Nat) (S:Sv) (q:PS) (w:World) (h:IM C N z j H S q w) (hC:zbu C) (hk:((ze C q.pos).kind==3)=true):
  Calls Tryz.prog 191 #[.pointer (some ⟨H,0,none⟩)] w (zW C N z j H (zaQ C q) id (fun _=>.tuple #[]) S w):=by
 have ab:=zdh
 have HY:Hid (zaQ C q=bd (zF C q) fun a=>zd C 4 cSemi a.1):=if_pos hk
 go_enter Tryz.func191,Tryz.ntmps191
 go_wp2_with fail
 refine (zb6 C N z j H S q _ h).mono ?_
 rintro e w1 ⟨rfl,A⟩
 unfold tkV
 have aa:=h.later A
 have J:IS H S w S w1:=IS.below A
 clear A
 go_wp2_with fail
 refine (zgq C N z j H S q _ aa hC).mono ?_
 cases O:zF C q with
 |error p=>
  rintro e w2 ⟨rfl,A⟩
  have V:=(h.back J).trans A
  have HX:Hid (zaQ C q= .error p):=bdE HY.out O
  unfold Pan
  go_wp2
  refine⟨rfl,?_⟩
  rw[HX.out]
  exact⟨rfl,V⟩
 |ok a2=>
  rintro e w2 ⟨rfl,S2,U,s⟩
  have L:=J.trans s
  clear s
  have I:=zc (bdO HY.out O)
  go_wp2_with fail
  refine (zcy C N z j H S2 a2.1 59 _ U).mono ?_
  cases M:zd C 4 cSemi a2.1 with
  |error p=>
   rintro e w3 ⟨rfl,A⟩
   have V:=(h.back L).trans A
   have HX:Hid (zaQ C q= .error p):=I.out.trans M
   unfold Pan
   go_wp2
   refine⟨rfl,?_⟩
   rw[HX.out]
   exact⟨rfl,V⟩
  |ok a3=>
   rintro e w3 ⟨rfl,S3,X,s⟩
   have Z:=L.trans s
   clear s
   have Y:=zc (I.out.trans M)
   go_wp2
   go_end0
   rw[Y.out]
   exact⟨rfl,S3,X,Z⟩
theorem zsS (C:Cx) (I z j A:Nat) (S:Sv) (q:PS) (w:World) (h:IM C I z j A S q w) (hC:zbu C) (hk:((ze C q.pos).kind==3)=false) (h1:isT C q.pos 4 zM=true):
  Calls Tryz.prog 191 #[.pointer (some ⟨A,0,none⟩)] w (zW C I z j A (zaQ C q) id (fun _=>.tuple #[]) S w):=by
 have ae:=zdh
 have HY:Hid (zaQ C q=bd (za5 C false (adv q) []) fun a=>impFromI C a.2 a.1):=by show _=_;rw[zaQ,hk,h1];rfl
 go_enter Tryz.func191,Tryz.ntmps191
 go_wp2_with fail
 refine (zb6 C I z j A S q _ h).mono ?_
 rintro e w1 ⟨rfl,H⟩
 unfold tkV
 have ad:=h.later H
 have Z:IS A S w S w1:=IS.below H
 clear H
 go_wp2_with fail
 refine (zO C I z j A S q 4 zM _ ad (by decide)).mono ?_
 rintro e w2 ⟨rfl,L,s⟩
 rw[h1] at L ⊢
 have M:=Z.trans s
 clear s
 go_wp2_with fail
 refine (zsO C I z j A S (adv q) _ L).mono ?_
 cases N:za5 C false (adv q) [] with
 |error p=>
  rintro e w3 ⟨rfl,H⟩
  have HB:=(h.back M).trans H
  have HX:Hid (zaQ C q= .error p):=bdE HY.out N
  unfold Pan
  go_wp2
  refine⟨rfl,?_⟩
  rw[HX.out]
  exact⟨rfl,HB⟩
 |ok V=>
  rintro e w3 ⟨r,S3,rfl,aa,s,f,l0,l1⟩
  have U:=M.trans s
  have ab:=zc f
  clear s f
  have O:=zc (bdO HY.out N)
  go_wp2_with fail
  refine (zix C I z j A _ r S3 V.1 V.2 _ aa hC l1 (by omega) ab.out).mono ?_
  cases J:impFromI C V.2 V.1 with
  |error p=>
   rintro e w4 ⟨rfl,H⟩
   have HB:=(h.back U).trans H
   have HX:Hid (zaQ C q= .error p):=O.out.trans J
   unfold Pan
   go_wp2
   refine⟨rfl,?_⟩
   rw[HX.out]
   exact⟨rfl,HB⟩
  |ok a4=>
   rintro e w4 ⟨rfl,S4,Y,s⟩
   have X:=U.trans s
   clear s
   have ac:=zc (O.out.trans J)
   go_wp2
   go_end0
   rw[ac.out]
   exact⟨rfl,S4,Y,X⟩
theorem zsT (C:Cx) (I z j A:Nat) (S:Sv) (q:PS) (w:World) (h:IM C I z j A S q w) (hC:zbu C) (hk:((ze C q.pos).kind==3)=false) (h1:isT C q.pos 4 zM=false) (h2:isT C q.pos 4 zy=true):
  Calls Tryz.prog 191 #[.pointer (some ⟨A,0,none⟩)] w (zW C I z j A (zaQ C q) id (fun _=>.tuple #[]) S w):=by
 have ak:=zdh
 have HY:Hid (zaQ C q=bd (zd C 1 sAs (adv q)) fun a=>bd (zo C false a) fun b=>impFromI C [⟨0,b.2,zy,sNone⟩] b.1):=by show _=_;rw[zaQ,hk,h1,h2];rfl
 go_enter Tryz.func191,Tryz.ntmps191
 go_wp2_with fail
 refine (zb6 C I z j A S q _ h).mono ?_
 rintro e w1 ⟨rfl,H⟩
 unfold tkV
 have ai:=h.later H
 have ae:IS A S w S w1:=IS.below H
 clear H
 go_wp2_with fail
 refine (zO C I z j A S q 4 zM _ ai (by decide)).mono ?_
 rintro e w2 ⟨rfl,N,s⟩
 rw[h1] at N ⊢
 have af:=ae.trans s
 clear s
 go_wp2_with fail
 refine (zO C I z j A S q 4 zy _ N (by decide)).mono ?_
 rintro e w3 ⟨rfl,Z,s⟩
 rw[h2] at Z ⊢
 have aa:=af.trans s
 clear s
 go_wp2_with fail
 refine (ze7 C I z j A S (adv q) sAs _ Z).mono ?_
 cases J:zd C 1 sAs (adv q) with
 |error p=>
  rintro e w4 ⟨rfl,H⟩
  have V:=(h.back aa).trans H
  have HX:Hid (zaQ C q= .error p):=bdE HY.out J
  unfold Pan
  go_wp2
  refine⟨rfl,?_⟩
  rw[HX.out]
  exact⟨rfl,V⟩
 |ok a4=>
  rintro e w4 ⟨rfl,S4,ad,s⟩
  have L:=aa.trans s
  clear s
  have ab:=zc (bdO HY.out J)
  go_wp2_with fail
  refine (zd2 C I z j A S4 a4 _ ad).mono ?_
  cases M:zo C false a4 with
  |error p=>
   rintro e w5 ⟨rfl,H⟩
   have V:=(h.back L).trans H
   have HX:Hid (zaQ C q= .error p):=bdE ab.out M
   unfold Pan
   go_wp2
   refine⟨rfl,?_⟩
   rw[HX.out]
   exact⟨rfl,V⟩
  |ok Y=>
   rintro e w5 ⟨rfl,S5,O,s⟩
   have ac:=L.trans s
   clear s
   have U:=zc (bdO ab.out M)
   go_wp2_with fail
   refine (zix C I z j A _ ⟨some ⟨w5.heap.size,0,none⟩,1⟩ S5 Y.1 [⟨0,Y.2,zy,sNone⟩] _ (O.alloc _) hC (by simp) (by simp) (zlD O 84 (imL (zbg ⟨0,Y.2,zy,sNone⟩)))).mono ?_
   cases X:impFromI C [⟨0,Y.2,zy,sNone⟩] Y.1 with
   |error p=>
    rintro e w6 ⟨rfl,H⟩
    have V:Below j w w6:=(h.back (ac.alloc _)).trans H
    have HX:Hid (zaQ C q= .error p):=U.out.trans X
    unfold Pan
    go_wp2
    refine⟨rfl,?_⟩
    rw[HX.out]
    exact⟨rfl,V⟩
   |ok a6=>
    rintro e w6 ⟨rfl,S6,ag,s⟩
    have ah:IS A S w S6 w6:=(ac.alloc _).trans s
    clear s
    have aj:=zc (U.out.trans X)
    go_wp2
    go_end0
    rw[aj.out]
    exact⟨rfl,S6,ag,ah⟩
theorem zsU (C:Cx) (I z j A:Nat) (S:Sv) (q:PS) (w:World) (h:IM C I z j A S q w) (hC:zbu C) (hk:((ze C q.pos).kind==3)=false) (h1:isT C q.pos 4 zM=false) (h2:isT C q.pos 4 zy=false):
  Calls Tryz.prog 191 #[.pointer (some ⟨A,0,none⟩)] w (zW C I z j A (zaQ C q) id (fun _=>.tuple #[]) S w):=by
 have af:=zdh
 have HY:Hid (zaQ C q=bd (zo C false q) fun b=>impFromI C [⟨0,b.2,sDefault,sNone⟩] b.1):=by show _=_;rw[zaQ,hk,h1,h2];rfl
 go_enter Tryz.func191,Tryz.ntmps191
 go_wp2_with fail
 refine (zb6 C I z j A S q _ h).mono ?_
 rintro e w1 ⟨rfl,H⟩
 unfold tkV
 have ae:=h.later H
 have aa:IS A S w S w1:=IS.below H
 clear H
 go_wp2_with fail
 refine (zO C I z j A S q 4 zM _ ae (by decide)).mono ?_
 rintro e w2 ⟨rfl,N,s⟩
 rw[h1] at N ⊢
 have ab:=aa.trans s
 clear s
 go_wp2_with fail
 refine (zO C I z j A S q 4 zy _ N (by decide)).mono ?_
 rintro e w3 ⟨rfl,V,s⟩
 rw[h2] at V ⊢
 have X:=ab.trans s
 clear s
 go_wp2_with fail
 refine (zd2 C I z j A S q _ V).mono ?_
 cases J:zo C false q with
 |error p=>
  rintro e w4 ⟨rfl,H⟩
  have HB:=(h.back X).trans H
  have HX:Hid (zaQ C q= .error p):=bdE HY.out J
  unfold Pan
  go_wp2
  refine⟨rfl,?_⟩
  rw[HX.out]
  exact⟨rfl,HB⟩
 |ok U=>
  rintro e w4 ⟨rfl,S4,O,s⟩
  have L:=X.trans s
  clear s
  have Y:=zc (bdO HY.out J)
  go_wp2_with fail
  refine (zix C I z j A _ ⟨some ⟨w4.heap.size,0,none⟩,1⟩ S4 U.1 [⟨0,U.2,sDefault,sNone⟩] _ (O.alloc _) hC (by simp) (by simp) (zlD O 84 (imL (zbg ⟨0,U.2,sDefault,sNone⟩)))).mono ?_
  cases M:impFromI C [⟨0,U.2,sDefault,sNone⟩] U.1 with
  |error p=>
   rintro e w5 ⟨rfl,H⟩
   have HB:Below j w w5:=(h.back (L.alloc _)).trans H
   have HX:Hid (zaQ C q= .error p):=Y.out.trans M
   unfold Pan
   go_wp2
   refine⟨rfl,?_⟩
   rw[HX.out]
   exact⟨rfl,HB⟩
  |ok a5=>
   rintro e w5 ⟨rfl,S5,Z,s⟩
   have ad:IS A S w S5 w5:=(L.alloc _).trans s
   clear s
   have ac:=zc (Y.out.trans M)
   go_wp2
   go_end0
   rw[ac.out]
   exact⟨rfl,S5,Z,ad⟩
theorem zsV (C:Cx) (H z j A:Nat) (S:Sv) (q:PS) (w:World) (h:IM C H z j A S q w) (J:zbu C):
  Calls Tryz.prog 191 #[.pointer (some ⟨A,0,none⟩)] w (zW C H z j A (zaQ C q) id (fun _=>.tuple #[]) S w):=by
 cases I:((ze C q.pos).kind==3) with
 |true=>exact zsR C H z j A S q w h J I
 |false=>
  cases L:isT C q.pos 4 zM with
  |true=>exact zsS C H z j A S q w h J I L
  |false=>
   cases M:isT C q.pos 4 zy with
   |true=>exact zsT C H z j A S q w h J I L M
   |false=>exact zsU C H z j A S q w h J I L M
end Go.Proofs.YtjdddblpfbmpaaaGreat
