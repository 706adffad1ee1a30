/-
  What impl's imp answers: the walk.
  What impl's exp answers: the walk.
  What impl's kind answers,and side,if expr answers so: the walks.
  What impl's stmt answers,if expr answers so: the walk.
  What impl's program of the printer answers,if expr answers so: the walk.
  What impl's sum answers,if expr answers so,and what expr answers,kind by kind: the walks.
  What impl's expr answers,whole. No walk is zu.
  What impl.Print answers: the walk.
  What importList of impl's parser answers: the walk.
  What importFrom of impl's parser answers: the walk.
  What importItem of impl's parser answers: the walks.
-/
import Derived.Deep.CutBlock
import Derived.Deep.RegionWith
import Derived.Test.YthfeoomfiafldaaGreatCdImplBuilderToImplPrintB
namespace Go.Proofs.YthfeoomfiafldaaGreat
set_option maxRecDepth 100000
set_option maxHeartbeats 12800000
open Go.RowKit Go.PlainAid Go.Sort
theorem zcz (c:PC) (t:ByteArray) (j:List ByteArray) (w:World) (h:PP c t w) (o:(zw t j).size≤140737488355328) (D:j.length≤4294967296):
  Calls Tryz.prog 23 #[.slice (some ⟨w.heap.size,0,none⟩) j.length j.length,.pointer (some ⟨c.b,0,none⟩)] (w.alloc (.cells (j.map Value.string).toArray 9)).drew (PO c (zw t j) w):=by
 have z:Below w.heap.size w (w.alloc (.cells (j.map Value.string).toArray 9)).drew:=((Below.refl _ _).alloc (Nat.le_refl _) _).drew
 refine (zl6 c t j w.heap.size _ (h.later z) (heap_alloc_new w _) o D).mono ?_
 rintro e K ⟨I,H,J,E⟩
 exact⟨I,H,(z.mono h.1.2).trans J,(KeepB.of_below z).trans E⟩
def zc0 (x:Im):ByteArray:=
 if x.first.toList==[42] then ({data:=#[105,109,112,111,114,116,32]}:ByteArray)++({data:=#[42,32,97,115,32]}:ByteArray)++x.loc
 else if x.first.toList==[100,101,102,97,117,108,116] then ({data:=#[105,109,112,111,114,116,32]}:ByteArray)++x.loc
 else ({data:=#[105,109,112,111,114,116,32]}:ByteArray)++zcb x.first x.loc
theorem zso {x:Im} (e:(x.first.toList==[42])=true):zc0 x=({data:=#[105,109,112,111,114,116,32]}:ByteArray)++({data:=#[42,32,97,115,32]}:ByteArray)++x.loc:=by rw[zc0,e];rfl
theorem zsp {x:Im} (e:(x.first.toList==[42])=false) (j:(x.first.toList==[100,101,102,97,117,108,116])=true):zc0 x=({data:=#[105,109,112,111,114,116,32]}:ByteArray)++x.loc:=by rw[zc0,e,j];rfl
theorem zsq {x:Im} (e:(x.first.toList==[42])=false) (j:(x.first.toList==[100,101,102,97,117,108,116])=false):zc0 x=({data:=#[105,109,112,111,114,116,32]}:ByteArray)++zcb x.first x.loc:=by rw[zc0,e,j];rfl
theorem zcj (a b:Array UInt8):(⟨a++b⟩:ByteArray)=⟨a⟩++⟨b⟩:=by
 apply ByteArray.ext
 simp
theorem zfp (x:Im):zaO x=zc0 x++({data:=#[32,102,114,111,109,32]}:ByteArray)++zaL x.spec++({data:=#[59]}:ByteArray)++({data:=#[10]}:ByteArray):=by
 have o:({data:=#[59,10]}:ByteArray)={data:=#[59]}++{data:=#[10]}:=zcj #[59] #[10]
 have D:({data:=#[105,109,112,111,114,116,32,42,32,97,115,32]}:ByteArray)={data:=#[105,109,112,111,114,116,32]}++{data:=#[42,32,97,115,32]}:=zcj #[105,109,112,111,114,116,32] #[42,32,97,115,32]
 have j:({data:=#[105,109,112,111,114,116,32,123,32]}:ByteArray)={data:=#[105,109,112,111,114,116,32]}++{data:=#[123,32]}:=zcj #[105,109,112,111,114,116,32] #[123,32]
 have z:({data:=#[32,125,32,102,114,111,109,32]}:ByteArray)={data:=#[32,125]}++{data:=#[32,102,114,111,109,32]}:=zcj #[32,125] #[32,102,114,111,109,32]
 unfold zaO zc0 zcb
 rw[o,D,j,z]
 split
 ·simp only[ByteArray.append_assoc]
 ·split<;>simp only[ByteArray.append_assoc]
theorem zsr (x:Im):(({data:=#[105,109,112,111,114,116,32]}:ByteArray)).size≤(zaO x).size:=by
 rw[zfp,zc0]
 split
 ·simp only[ByteArray.size_append];omega
 ·split<;>(simp only[ByteArray.size_append];omega)
theorem zss (c:PC) (t:ByteArray) (x:Im) (w:World) (h:PP c t w) (E:(t++zaO x).size≤140737488355328) (h1:x.spec.size≤1099511627776):
  Calls Tryz.prog 63 #[.pointer (some ⟨c.gp,0,none⟩),imV x] w (PO c (t++zaO x) w):=by
 have HP:=zc h
 have M:=zc E
 clear h E
 have HZ:Hid (t.size+(zaO x).size≤140737488355328∧(({data:=#[105,109,112,111,114,116,32]}:ByteArray)).size≤(zaO x).size):=⟨by have:=M.out;rw[ByteArray.size_append] at this;exact this,zsr x⟩
 unfold imV
 go_enter Tryz.func63,Tryz.ntmps63
 go_upto_region 1 with fail
 have HW:Hid (Below w.heap.size w (w.alloc (.cells #[.string x.spec,.string x.first,.string x.loc] 75))):=(Below.refl _ _).alloc (Nat.le_refl _) _
 refine zaA (R:=fun W=>W.heap[w.heap.size]? =some (.cells #[.string x.spec,.string x.first,.string x.loc] 75 (0,0))∧PP c t W∧Below c.B w W∧KeepB c.b w W) ⟨heap_alloc_new w _,HP.out.later HW.out,HW.out.mono HP.out.1.2,KeepB.of_below HW.out⟩ ?_
 obtain⟨gx,L⟩: ∃gx,gx=w.heap.size:=⟨_,rfl⟩
 have O:gx≠c.b:=by
  rw[L]
  obtain⟨ah,hc⟩:=zci HP.out.1.1
  have:=(Array.getElem?_eq_some_iff.1 hc).1
  omega
 rw[←L]
 rintro W ⟨hx,hp,hb,hk⟩
 clear L HW
 have X:=zc hx
 have J:=zc hp
 have N:=zc hb
 have U:=zc hk
 clear hx hp hb hk
 obtain⟨x0,x1,x2,xf⟩:=zdm X.out
 obtain⟨p0,p1,p2,p3,p4,p5,pf⟩:=zC J.out.2.2.1
 go_wp2_with fail
 refine (zbP c t [{data:=#[105,109,112,111,114,116,32]}] W J.out (by have:=HZ.out;simp only[zw,List.foldl_cons,List.foldl_nil,ByteArray.size_append] at this ⊢;omega) (by simp)).mono ?_
 rintro e w1 ⟨rfl,aa,Z,I⟩
 have D:=zc aa
 have ac:=zc (N.out.trans Z)
 have ad:=zc (U.out.trans I)
 have X1:=zc ((I _ _ _ _ X.out O (by decide)).trans X.out)
 clear aa Z I p0 p1 p2 p3 p4 p5 pf x0 x1 x2 xf J N U X
 obtain⟨x0,x1,x2,xf⟩:=zdm X1.out
 obtain⟨p0,p1,p2,p3,p4,p5,pf⟩:=zC D.out.2.2.1
 have V:=(Array.getElem?_eq_some_iff.1 D.out.2.2.1).1
 have Y:=(Array.getElem?_eq_some_iff.1 X1.out).1
 have E:=M.out
 go_upto_block 0 with fail
 go_cut [] from 12 to 37 (fun wx=>PP c (t++zc0 x) wx∧Below c.B w1 wx∧KeepB c.b w1 wx)
 case first=>
  cases e1:(x.first.toList==[42]) with
  |true=>
   have H:Hid (zc0 x=({data:=#[105,109,112,111,114,116,32]}:ByteArray)++({data:=#[42,32,97,115,32]}:ByteArray)++x.loc):=zso e1
   go_wp2_with fail
   go_region_with (go_at_call 23;refine (zcz c _ [{data:=#[42,32,97,115,32]},x.loc] w1 D.out (by have:=M.out;rw[zfp,H.out] at this;simp only[zw,List.foldl_cons,List.foldl_nil,ByteArray.size_append] at this ⊢;omega) (by simp)).mono ?_;rintro e w2 ⟨rfl,j,z,o⟩)
   all_goals (go_wp2_with fail;go_meet;exact⟨by rw[H.out];simp only[zw,List.foldl_cons,List.foldl_nil,←ByteArray.append_assoc] at j ⊢;exact j,z,o⟩)
  |false=>
   cases e2:(x.first.toList==[100,101,102,97,117,108,116]) with
   |true=>
    have H:Hid (zc0 x=({data:=#[105,109,112,111,114,116,32]}:ByteArray)++x.loc):=zsp e1 e2
    go_wp2_with fail
    go_region_with (go_at_call 23;refine (zcz c _ [x.loc] w1 D.out (by have:=M.out;rw[zfp,H.out] at this;simp only[zw,List.foldl_cons,List.foldl_nil,ByteArray.size_append] at this ⊢;omega) (by simp)).mono ?_;rintro e w2 ⟨rfl,j,z,o⟩)
    all_goals (go_wp2_with fail;go_meet;exact⟨by rw[H.out];simp only[zw,List.foldl_cons,List.foldl_nil,←ByteArray.append_assoc] at j ⊢;exact j,z,o⟩)
   |false=>
    have H:Hid (zc0 x=({data:=#[105,109,112,111,114,116,32]}:ByteArray)++zcb x.first x.loc):=zsq e1 e2
    go_wp2_with fail
    refine (ziO c _ x.first x.loc w1 D.out (by have:=M.out;rw[zfp,H.out] at this;simp only[zw,List.foldl_cons,List.foldl_nil,ByteArray.size_append] at this ⊢;omega)).mono ?_
    rintro e w2 ⟨rfl,j,z,o⟩
    go_wp2_with fail
    go_meet
    exact⟨by rw[H.out];simp only[zw,List.foldl_cons,List.foldl_nil,←ByteArray.append_assoc] at j ⊢;exact j,z,o⟩
 case rest=>
 obtain⟨j,z,o⟩:=hcut
 rename_i w2
 have K:=zc j
 have ab:=zc (ac.out.trans z)
 have ag:=zc (ad.out.trans o)
 have X2:=zc ((o _ _ _ _ X1.out O (by decide)).trans X1.out)
 clear j z o p0 p1 p2 p3 p4 p5 pf x0 x1 x2 xf V Y
 obtain⟨p0,p1,p2,p3,p4,p5,pf⟩:=zC K.out.2.2.1
 obtain⟨x0,x1,x2,xf⟩:=zdm X2.out
 have V:=(Array.getElem?_eq_some_iff.1 K.out.2.2.1).1
 have Y:=(Array.getElem?_eq_some_iff.1 X2.out).1
 go_wp2_with fail
 go_region_with (first|(go_at_call 62;refine (zhh x.spec _ h1).mono ?_;rintro e w' ⟨rfl,rfl⟩)|(go_at_call 23;refine (zcz c _ [{data:=#[32,102,114,111,109,32]},zaL x.spec,{data:=#[59]},{data:=#[10]}] _ K.out (by have:=M.out;rw[zfp] at this;simp only[zw,List.foldl_cons,List.foldl_nil,ByteArray.size_append] at this ⊢;omega) (by simp)).mono ?_;rintro e w3 ⟨rfl,Q,af,ae⟩))
 all_goals (go_wp2;go_end0;exact⟨rfl,(by rw[zfp];simp only[zw,List.foldl_cons,List.foldl_nil,←ByteArray.append_assoc] at Q ⊢;exact Q),ab.out.trans af,ag.out.trans ae⟩)
def zc1 (x:Ep):ByteArray:=
 if x.kind==3 then ({data:=#[101,120,112,111,114,116,32]}:ByteArray)++({data:=#[42,32,102,114,111,109,32]}:ByteArray)++zaL x.spec
 else if x.kind==2 then ({data:=#[101,120,112,111,114,116,32]}:ByteArray)++zcb x.loc x.name++({data:=#[32,102,114,111,109,32]}:ByteArray)++zaL x.spec
 else ({data:=#[101,120,112,111,114,116,32]}:ByteArray)++zcb x.loc x.name
theorem zst {x:Ep} (e:(x.kind==3)=true):zc1 x=({data:=#[101,120,112,111,114,116,32]}:ByteArray)++({data:=#[42,32,102,114,111,109,32]}:ByteArray)++zaL x.spec:=by rw[zc1,e];rfl
theorem zsu {x:Ep} (e:(x.kind==3)=false) (j:(x.kind==2)=true):zc1 x=({data:=#[101,120,112,111,114,116,32]}:ByteArray)++zcb x.loc x.name++({data:=#[32,102,114,111,109,32]}:ByteArray)++zaL x.spec:=by rw[zc1,e,j];rfl
theorem zsv {x:Ep} (e:(x.kind==3)=false) (j:(x.kind==2)=false):zc1 x=({data:=#[101,120,112,111,114,116,32]}:ByteArray)++zcb x.loc x.name:=by rw[zc1,e,j];rfl
theorem ze7 (x:Ep):zc7 x=zc1 x++({data:=#[59]}:ByteArray)++({data:=#[10]}:ByteArray):=by
 have D:({data:=#[59,10]}:ByteArray)={data:=#[59]}++{data:=#[10]}:=zcj #[59] #[10]
 have E:({data:=#[101,120,112,111,114,116,32,42,32,102,114,111,109,32]}:ByteArray)={data:=#[101,120,112,111,114,116,32]}++{data:=#[42,32,102,114,111,109,32]}:=zcj #[101,120,112,111,114,116,32] #[42,32,102,114,111,109,32]
 have z:({data:=#[101,120,112,111,114,116,32,123,32]}:ByteArray)={data:=#[101,120,112,111,114,116,32]}++{data:=#[123,32]}:=zcj #[101,120,112,111,114,116,32] #[123,32]
 have o:({data:=#[32,125,32,102,114,111,109,32]}:ByteArray)={data:=#[32,125]}++{data:=#[32,102,114,111,109,32]}:=zcj #[32,125] #[32,102,114,111,109,32]
 have j:({data:=#[32,125,59,10]}:ByteArray)={data:=#[32,125]}++{data:=#[59,10]}:=zcj #[32,125] #[59,10]
 unfold zc7 zc1 zcb
 rw[j,D,E,z,o]
 split
 ·simp only[ByteArray.append_assoc]
 ·split<;>simp only[ByteArray.append_assoc]
theorem zsw (x:Ep):(({data:=#[101,120,112,111,114,116,32]}:ByteArray)).size≤(zc7 x).size:=by
 rw[ze7,zc1]
 split
 ·simp only[ByteArray.size_append];omega
 ·split<;>(simp only[ByteArray.size_append];omega)
theorem zsx (c:PC) (t:ByteArray) (x:Ep) (w:World) (h:PP c t w) (J:(t++zc7 x).size≤140737488355328) (h1:x.spec.size≤1099511627776):
  Calls Tryz.prog 64 #[.pointer (some ⟨c.gp,0,none⟩),epV x] w (PO c (t++zc7 x) w):=by
 have HP:=zc h
 have HL:=zc J
 clear h J
 have HZ:Hid (t.size+(zc7 x).size≤140737488355328∧(({data:=#[101,120,112,111,114,116,32]}:ByteArray)).size≤(zc7 x).size):=⟨by have:=HL.out;rw[ByteArray.size_append] at this;exact this,zsw x⟩
 unfold epV
 go_enter Tryz.func64,Tryz.ntmps64
 go_upto_region 1 with fail
 have HW:Hid (Below w.heap.size w (w.alloc (.cells #[.int .i64 x.kind,.string x.name,.string x.loc,.string x.spec] 77))):=(Below.refl _ _).alloc (Nat.le_refl _) _
 refine zaA (R:=fun W=>W.heap[w.heap.size]? =some (.cells #[.int .i64 x.kind,.string x.name,.string x.loc,.string x.spec] 77 (0,0))∧PP c t W∧Below c.B w W∧KeepB c.b w W) ⟨heap_alloc_new w _,HP.out.later HW.out,HW.out.mono HP.out.1.2,KeepB.of_below HW.out⟩ ?_
 obtain⟨gx,ad⟩: ∃gx,gx=w.heap.size:=⟨_,rfl⟩
 have ag:gx≠c.b:=by
  rw[ad]
  obtain⟨ap,hc⟩:=zci HP.out.1.1
  have:=(Array.getElem?_eq_some_iff.1 hc).1
  omega
 rw[←ad]
 rintro W ⟨hx,hp,hb,hk⟩
 clear ad HW
 have X:=zc hx
 have Z:=zc hp
 have af:=zc hb
 have ah:=zc hk
 clear hx hp hb hk
 obtain⟨x0,x1,x2,x3,xf⟩:=zek X.out
 obtain⟨V,N,U,O,p4,Q,Y⟩:=zC Z.out.2.2.1
 go_wp2_with fail
 refine (zbP c t [{data:=#[101,120,112,111,114,116,32]}] W Z.out (by have:=HZ.out;simp only[zw,List.foldl_cons,List.foldl_nil,ByteArray.size_append] at this ⊢;omega) (by simp)).mono ?_
 rintro e w1 ⟨rfl,ak,aj,M⟩
 have I:=zc ak
 have am:=zc (af.out.trans aj)
 have an:=zc (ah.out.trans M)
 have X1:=zc ((M _ _ _ _ X.out ag (by decide)).trans X.out)
 clear ak aj M V N U O p4 Q Y x0 x1 x2 x3 xf Z af ah X
 obtain⟨x0,x1,x2,x3,xf⟩:=zek X1.out
 obtain⟨V,N,U,O,p4,Q,Y⟩:=zC I.out.2.2.1
 have aa:=(Array.getElem?_eq_some_iff.1 I.out.2.2.1).1
 have ac:=(Array.getElem?_eq_some_iff.1 X1.out).1
 have J:=HL.out
 go_upto_block 0 with fail
 go_cut [] from 12 to 45 (fun wx=>PP c (t++zc1 x) wx∧Below c.B w1 wx∧KeepB c.b w1 wx)
 case first=>
  cases e1:(x.kind==3) with
  |true=>
   have L:Hid (zc1 x=({data:=#[101,120,112,111,114,116,32]}:ByteArray)++({data:=#[42,32,102,114,111,109,32]}:ByteArray)++zaL x.spec):=zst e1
   go_wp2_with fail
   go_region_with (first|(go_at_call 62;refine (zhh x.spec _ h1).mono ?_;rintro e w' ⟨rfl,rfl⟩)|(go_at_call 23;refine (zcz c _ [{data:=#[42,32,102,114,111,109,32]},zaL x.spec] w1 I.out (by have:=HL.out;rw[ze7,L.out] at this;simp only[zw,List.foldl_cons,List.foldl_nil,ByteArray.size_append] at this ⊢;omega) (by simp)).mono ?_;rintro e w2 ⟨rfl,j,z,D⟩))
   all_goals (go_wp2_with fail;go_meet;exact⟨by rw[L.out];simp only[zw,List.foldl_cons,List.foldl_nil,←ByteArray.append_assoc] at j ⊢;exact j,z,D⟩)
  |false=>
   cases e2:(x.kind==2) with
   |true=>
    have L:Hid (zc1 x=({data:=#[101,120,112,111,114,116,32]}:ByteArray)++zcb x.loc x.name++({data:=#[32,102,114,111,109,32]}:ByteArray)++zaL x.spec):=zsu e1 e2
    go_wp2_with fail
    refine (ziO c _ x.loc x.name w1 I.out (by have:=HL.out;rw[ze7,L.out] at this;simp only[zw,List.foldl_cons,List.foldl_nil,ByteArray.size_append] at this ⊢;omega)).mono ?_
    rintro e w3 ⟨rfl,o,K,E⟩
    have H:=zc o
    have X3:=zc ((E _ _ _ _ X1.out ag (by decide)).trans X1.out)
    have ab:=zc K
    have ae:=zc E
    clear o K E V N U O p4 Q Y x0 x1 x2 x3 xf aa ac
    obtain⟨V,N,U,O,p4,Q,Y⟩:=zC H.out.2.2.1
    obtain⟨x0,x1,x2,x3,xf⟩:=zek X3.out
    have aa:=(Array.getElem?_eq_some_iff.1 H.out.2.2.1).1
    have ac:=(Array.getElem?_eq_some_iff.1 X3.out).1
    go_wp2_with fail
    go_region_with (first|(go_at_call 62;refine (zhh x.spec _ h1).mono ?_;rintro e w' ⟨rfl,rfl⟩)|(go_at_call 23;refine (zcz c _ [{data:=#[32,102,114,111,109,32]},zaL x.spec] w3 H.out (by have:=HL.out;rw[ze7,L.out] at this;simp only[zw,List.foldl_cons,List.foldl_nil,ByteArray.size_append] at this ⊢;omega) (by simp)).mono ?_;rintro e w2 ⟨rfl,j,z,D⟩))
    all_goals (go_wp2_with fail;go_meet;exact⟨by rw[L.out];simp only[zw,List.foldl_cons,List.foldl_nil,←ByteArray.append_assoc] at j ⊢;exact j,ab.out.trans z,ae.out.trans D⟩)
   |false=>
    have L:Hid (zc1 x=({data:=#[101,120,112,111,114,116,32]}:ByteArray)++zcb x.loc x.name):=zsv e1 e2
    go_wp2_with fail
    refine (ziO c _ x.loc x.name w1 I.out (by have:=HL.out;rw[ze7,L.out] at this;simp only[zw,List.foldl_cons,List.foldl_nil,ByteArray.size_append] at this ⊢;omega)).mono ?_
    rintro e w2 ⟨rfl,j,z,D⟩
    go_wp2_with fail
    go_meet
    exact⟨by rw[L.out];simp only[zw,List.foldl_cons,List.foldl_nil,←ByteArray.append_assoc] at j ⊢;exact j,z,D⟩
 case rest=>
 obtain⟨j,z,D⟩:=hcut
 rename_i w2
 have ai:=zc j
 have al:=zc (am.out.trans z)
 have ao:=zc (an.out.trans D)
 clear j z D V N U O p4 Q Y x0 x1 x2 x3 xf aa ac
 obtain⟨V,N,U,O,p4,Q,Y⟩:=zC ai.out.2.2.1
 go_wp2_with fail
 refine (zbP c _ [{data:=#[59]},{data:=#[10]}] _ ai.out (by have:=HL.out;rw[ze7] at this;simp only[zw,List.foldl_cons,List.foldl_nil,ByteArray.size_append] at this ⊢;omega) (by simp)).mono ?_
 rintro e w3 ⟨rfl,o,K,E⟩
 have H:=zc o
 have ab:=zc (al.out.trans K)
 have ae:=zc (ao.out.trans E)
 clear o K E V N U O p4 Q Y
 go_wp2
 go_end0
 exact⟨rfl,(by have o:=H.out;rw[ze7];simp only[zw,List.foldl_cons,List.foldl_nil,←ByteArray.append_assoc] at o ⊢;exact o),ab.out,ae.out⟩
theorem ziP (c:PC) (t:ByteArray) (i:Nat) (w:World) (h:PP c t w) (E:i<c.m.ex.length):
  Calls Tryz.prog 132 #[.pointer (some ⟨c.gp,0,none⟩),.int .i64 (i:Int)] w fun e I=>e= .returned (.int .i64 (c.m.ex.getD i zn).kind)∧I=w:=by
 obtain⟨U,L,O,M,K,N,V⟩:=zC h.2.2.1
 obtain⟨g,o,J,D,X,Z,x3,Q,Y⟩:=h.2.1.expr E
 rw[o] at K
 have H:(i:Int)<(c.m.ex.length:Int):=by omega
 obtain⟨z,j⟩: ∃z,(c.m.ex.getD i zn).kind=z:=⟨_,rfl⟩
 rw[j] at D
 rw[j]
 clear h o j
 go_enter Tryz.func132,Tryz.ntmps132
 go_wp2
 go_ret
 exact⟨rfl,rfl⟩
def zc2 (c:PC) (i:Nat):Prop:=∀(t:ByteArray) (w:World),PP c t w→(t++prX c.m.ex i).size≤140737488355328→Calls Tryz.prog 109 #[.pointer (some ⟨c.gp,0,none⟩),.int .i64 (i:Int)] w (PO c (t++prX c.m.ex i) w)
theorem zhi (c:PC) (t:ByteArray) (i:Nat) (o:Bool) (w:World) (ok:zc2 c i) (h:PP c t w) (j:(t++zai o (prX c.m.ex i)).size≤140737488355328):
  Calls Tryz.prog 131 #[.pointer (some ⟨c.gp,0,none⟩),.int .i64 (i:Int),.bool o] w (PO c (t++zai o (prX c.m.ex i)) w):=by
 have OK:=zc ok
 have HP:=zc h
 clear ok h
 obtain⟨p0,X,p2,Y,p4,Z,pf⟩:=zC HP.out.2.2.1
 cases o with
 |false=>
  have N:Hid ((t++prX c.m.ex i).size≤140737488355328):=j
  clear j
  go_enter Tryz.func131,Tryz.ntmps131
  go_wp2_with fail
  refine (OK.out t w HP.out N.out).mono ?_
  rintro e w1 ⟨rfl,H,E,z⟩
  have J:=zc H
  have I:=zc E
  have K:=zc z
  clear H E z p0 X p2 Y p4 Z pf
  go_wp2
  refine bodyPost_ret (results_none rfl _ _ _) rfl ?_
  exact⟨rfl,J.out,I.out,K.out⟩
 |true=>
  have N:Hid ((t++(cOpen++prX c.m.ex i++zU)).size≤140737488355328):=j
  clear j
  go_enter Tryz.func131,Tryz.ntmps131
  go_wp2_with fail
  refine (zbP c t [cOpen] w HP.out (by have:=N.out;simp only[zw,List.foldl_cons,List.foldl_nil,ByteArray.size_append] at this ⊢;omega) (by simp)).mono ?_
  rintro e w1 ⟨rfl,H,E,z⟩
  have J:=zc H
  have I:=zc E
  have K:=zc z
  clear H E z p0 X p2 Y p4 Z pf
  go_wp2_with fail
  refine (OK.out _ w1 J.out (by have:=N.out;simp only[zw,List.foldl_cons,List.foldl_nil,ByteArray.size_append] at this ⊢;omega)).mono ?_
  rintro e w2 ⟨rfl,V,M,U⟩
  have L:=zc V
  have aa:=zc (I.out.trans M)
  have ae:=zc (K.out.trans U)
  clear V M U
  obtain⟨p0,X,p2,Y,p4,Z,pf⟩:=zC L.out.2.2.1
  go_wp2_with fail
  refine (zbP c _ [zU] w2 L.out (by have:=N.out;simp only[zw,List.foldl_cons,List.foldl_nil,ByteArray.size_append] at this ⊢;omega) (by simp)).mono ?_
  rintro e w3 ⟨rfl,D,Q,O⟩
  have ab:=zc D
  have ac:=zc (aa.out.trans Q)
  have ad:=zc (ae.out.trans O)
  clear D Q O p0 X p2 Y p4 Z pf
  go_wp2
  go_end0
  exact⟨rfl,(by have D:=ab.out;unfold zai;rw[if_pos rfl];simp only[zw,List.foldl_cons,List.foldl_nil,←ByteArray.append_assoc] at D ⊢;exact D),ac.out,ad.out⟩
def zbc (k:Int) (n:ByteArray):ByteArray:=
 if n.toList==[42,100,101,102,97,117,108,116] then ({data:=#[101,120,112,111,114,116,32]}:ByteArray)++({data:=#[100,101,102,97,117,108,116]}:ByteArray)++({data:=#[32]}:ByteArray)
 else if k==1 then ({data:=#[108,101,116,32]}:ByteArray)++n++({data:=#[32,61,32]}:ByteArray)
 else if k==2 then ({data:=#[102,117,110,99,116,105,111,110,32]}:ByteArray)++n++({data:=#[40,41,32,123,32,114,101,116,117,114,110,32]}:ByteArray)
 else if k==3 then n++({data:=#[32,61,32]}:ByteArray)
 else if k==4 then ({data:=#[112,114,105,110,116,40]}:ByteArray)
 else if k==5 then ({data:=#[116,104,114,111,119,32]}:ByteArray)
 else ({data:=#[102,97,105,108,32]}:ByteArray)
def zaV (k:Int) (n:ByteArray):ByteArray:=
 if n.toList==[42,100,101,102,97,117,108,116] then ({data:=#[59]}:ByteArray) else if k==2 then ({data:=#[59,32,125]}:ByteArray) else if k==4 then ({data:=#[41,59]}:ByteArray) else ({data:=#[59]}:ByteArray)
theorem zl7 {k:Int} {n:ByteArray} (e:(n.toList==[42,100,101,102,97,117,108,116])=true):zbc k n=({data:=#[101,120,112,111,114,116,32]}:ByteArray)++({data:=#[100,101,102,97,117,108,116]}:ByteArray)++({data:=#[32]}:ByteArray):=by rw[zbc,e];rfl
theorem zl8 {k:Int} {n:ByteArray} (e:(n.toList==[42,100,101,102,97,117,108,116])=true):zaV k n=({data:=#[59]}:ByteArray):=by rw[zaV,e];rfl
theorem zl9 {k:Int} {n:ByteArray} (e:(n.toList==[42,100,101,102,97,117,108,116])=false) (j:(k==1)=true):zbc k n=({data:=#[108,101,116,32]}:ByteArray)++n++({data:=#[32,61,32]}:ByteArray):=by rw[zbc,e,j];rfl
theorem zlA {k:Int} {n:ByteArray} (e:(n.toList==[42,100,101,102,97,117,108,116])=false) (j:(k==1)=true):zaV k n=({data:=#[59]}:ByteArray):=by have q:=eq_of_beq j;subst q;rw[zaV,e];rfl
theorem zlB {k:Int} {n:ByteArray} (e:(n.toList==[42,100,101,102,97,117,108,116])=false) (j:(k==1)=false) (o:(k==2)=true):zbc k n=({data:=#[102,117,110,99,116,105,111,110,32]}:ByteArray)++n++({data:=#[40,41,32,123,32,114,101,116,117,114,110,32]}:ByteArray):=by rw[zbc,e,j,o];rfl
theorem zlC {k:Int} {n:ByteArray} (e:(n.toList==[42,100,101,102,97,117,108,116])=false) (j:(k==2)=true):zaV k n=({data:=#[59,32,125]}:ByteArray):=by rw[zaV,e,j];rfl
theorem zlD {k:Int} {n:ByteArray} (e:(n.toList==[42,100,101,102,97,117,108,116])=false) (o:(k==1)=false) (j:(k==2)=false) (z:(k==3)=true):zbc k n=n++({data:=#[32,61,32]}:ByteArray):=by rw[zbc,e,o,j,z];rfl
theorem zlE {k:Int} {n:ByteArray} (e:(n.toList==[42,100,101,102,97,117,108,116])=false) (j:(k==3)=true):zaV k n=({data:=#[59]}:ByteArray):=by have q:=eq_of_beq j;subst q;rw[zaV,e];rfl
theorem zlF {k:Int} {n:ByteArray} (e:(n.toList==[42,100,101,102,97,117,108,116])=false) (z:(k==1)=false) (j:(k==2)=false) (D:(k==3)=false) (o:(k==4)=true):zbc k n=({data:=#[112,114,105,110,116,40]}:ByteArray):=by rw[zbc,e,z,j,D,o];rfl
theorem zlG {k:Int} {n:ByteArray} (e:(n.toList==[42,100,101,102,97,117,108,116])=false) (o:(k==2)=false) (j:(k==4)=true):zaV k n=({data:=#[41,59]}:ByteArray):=by rw[zaV,e,o,j];rfl
theorem zlH {k:Int} {n:ByteArray} (e:(n.toList==[42,100,101,102,97,117,108,116])=false) (o:(k==1)=false) (z:(k==2)=false) (j:(k==3)=false) (E:(k==4)=false) (D:(k==5)=true):zbc k n=({data:=#[116,104,114,111,119,32]}:ByteArray):=by rw[zbc,e,o,z,j,E,D];rfl
theorem zlI {k:Int} {n:ByteArray} (e:(n.toList==[42,100,101,102,97,117,108,116])=false) (o:(k==2)=false) (j:(k==4)=false):zaV k n=({data:=#[59]}:ByteArray):=by rw[zaV,e,o,j];rfl
theorem zlJ {k:Int} {n:ByteArray} (e:(n.toList==[42,100,101,102,97,117,108,116])=false) (o:(k==1)=false) (z:(k==2)=false) (j:(k==3)=false) (E:(k==4)=false) (D:(k==5)=false):zbc k n=({data:=#[102,97,105,108,32]}:ByteArray):=by rw[zbc,e,o,z,j,E,D];rfl
theorem zlK {k:Int} {n:ByteArray} (e:(n.toList==[42,100,101,102,97,117,108,116])=false) (o:(k==2)=false) (j:(k==4)=false):zaV k n=({data:=#[59]}:ByteArray):=by rw[zaV,e,o,j];rfl
theorem zlL (k:Int) (n e:ByteArray):zcZ k n e=zbc k n++e++zaV k n++({data:=#[10]}:ByteArray):=by
 have L:({data:=#[59,10]}:ByteArray)=({data:=#[59]}:ByteArray)++({data:=#[10]}:ByteArray):=zcj #[59] #[10]
 have J:({data:=#[59,32,125,10]}:ByteArray)=({data:=#[59,32,125]}:ByteArray)++({data:=#[10]}:ByteArray):=zcj #[59,32,125] #[10]
 have K:({data:=#[41,59,10]}:ByteArray)=({data:=#[41,59]}:ByteArray)++({data:=#[10]}:ByteArray):=zcj #[41,59] #[10]
 have I:({data:=#[101,120,112,111,114,116,32,100,101,102,97,117,108,116,32]}:ByteArray)=({data:=#[101,120,112,111,114,116,32,100,101,102,97,117,108,116]}:ByteArray)++({data:=#[32]}:ByteArray):=zcj #[101,120,112,111,114,116,32,100,101,102,97,117,108,116] #[32]
 have H:({data:=#[101,120,112,111,114,116,32,100,101,102,97,117,108,116]}:ByteArray)=({data:=#[101,120,112,111,114,116,32]}:ByteArray)++({data:=#[100,101,102,97,117,108,116]}:ByteArray):=zcj #[101,120,112,111,114,116,32] #[100,101,102,97,117,108,116]
 unfold zcZ zd4
 rw[L,J,K,I,H]
 cases h:(n.toList==[42,100,101,102,97,117,108,116]) with
 |true=>rw[zl7 h,zl8 h];simp only[↓reduceIte,ByteArray.append_assoc]
 |false=>
  cases o:(k==1) with
  |true=>rw[zl9 h o,zlA h o];simp only[↓reduceIte,Bool.false_eq_true,ByteArray.append_assoc]
  |false=>
   cases j:(k==2) with
   |true=>rw[zlB h o j,zlC h j];simp only[↓reduceIte,Bool.false_eq_true,ByteArray.append_assoc]
   |false=>
    cases D:(k==3) with
    |true=>rw[zlD h o j D,zlE h D];simp only[↓reduceIte,Bool.false_eq_true,ByteArray.append_assoc]
    |false=>
     cases z:(k==4) with
     |true=>rw[zlF h o j D z,zlG h j z];simp only[↓reduceIte,Bool.false_eq_true,ByteArray.append_assoc]
     |false=>
      cases E:(k==5) with
      |true=>rw[zlH h o j D z E,zlI h j z];simp only[↓reduceIte,Bool.false_eq_true,ByteArray.append_assoc]
      |false=>
       rw[zlJ h o j D z E,zlK h j z];simp only[↓reduceIte,Bool.false_eq_true,ByteArray.append_assoc]
theorem zsy (k:Int) (n e:ByteArray):(zcZ k n e).size=(zbc k n).size+e.size+(zaV k n).size+1:=by
 rw[zlL,ByteArray.size_append,ByteArray.size_append,ByteArray.size_append]
 rfl
theorem zsz (c:PC) (t:ByteArray) (k:Int) (n:ByteArray) (i:Nat) (w:World) (ok:zc2 c i) (h:PP c t w) (M:(t++zcZ k n (prX c.m.ex i)).size≤140737488355328):
  Calls Tryz.prog 65 #[.pointer (some ⟨c.gp,0,none⟩),.agg #[.int .i64 k,.string n,.int .i64 (i:Int)]] w (PO c (t++zcZ k n (prX c.m.ex i)) w):=by
 have HP:=zc h
 have OK:=zc ok
 have Q:Hid (t.size+((zbc k n).size+(prX c.m.ex i).size+(zaV k n).size+1)≤140737488355328):=by show _≤_;rw[ByteArray.size_append,zsy] at M;exact M
 clear h M ok
 go_enter Tryz.func65,Tryz.ntmps65
 go_upto_region 1 with fail
 have HW:Hid (Below w.heap.size w (w.alloc (.cells #[.int .i64 k,.string n,.int .i64 (i:Int)] 79))):=(Below.refl _ _).alloc (Nat.le_refl _) _
 refine zaA (R:=fun W=>W.heap[w.heap.size]? =some (.cells #[.int .i64 k,.string n,.int .i64 (i:Int)] 79 (0,0))∧PP c t W∧Below c.B w W∧KeepB c.b w W) ⟨heap_alloc_new w _,HP.out.later HW.out,HW.out.mono HP.out.1.2,KeepB.of_below HW.out⟩ ?_
 obtain⟨gx,X⟩: ∃gx,gx=w.heap.size:=⟨_,rfl⟩
 have ai:gx≠c.b:=by
  rw[X]
  obtain⟨au,hc⟩:=zci HP.out.1.1
  have:=(Array.getElem?_eq_some_iff.1 hc).1
  omega
 rw[←X]
 rintro N ⟨hx,hp,hb,hk⟩
 clear X HW
 have X1:=zc hx
 have H:=zc hp
 have ar:=zc hb
 have aj:=zc hk
 clear hx hp hb hk
 obtain⟨x0,x1,x2,xf⟩:=zdm X1.out
 obtain⟨p0,p1,p2,p3,p4,p5,pf⟩:=zC H.out.2.2.1
 have al:=(Array.getElem?_eq_some_iff.1 H.out.2.2.1).1
 have ao:=(Array.getElem?_eq_some_iff.1 X1.out).1
 go_upto_block 0 with fail
 go_cut [4] from 5 to 76 (fun s4 wx=>s4= .string (zaV k n)∧PP c (t++zbc k n) wx∧Below c.B N wx∧KeepB c.b N wx)
 case first=>
  cases I:(n.toList==[42,100,101,102,97,117,108,116]) with
  |true=>
   have E:Hid (zbc k n=({data:=#[101,120,112,111,114,116,32]}:ByteArray)++({data:=#[100,101,102,97,117,108,116]}:ByteArray)++({data:=#[32]}:ByteArray)):=zl7 I
   have J:Hid (zaV k n=({data:=#[59]}:ByteArray)):=zl8 I
   have K:Hid ((zw t [{data:=#[101,120,112,111,114,116,32]},{data:=#[100,101,102,97,117,108,116]},{data:=#[32]}]).size≤140737488355328):=by show _≤_;have:=Q.out;rw[E.out] at this;simp only[zw,List.foldl_cons,List.foldl_nil,ByteArray.size_append] at this ⊢;omega
   go_wp2_with fail
   refine (zbP c t [{data:=#[101,120,112,111,114,116,32]},{data:=#[100,101,102,97,117,108,116]},{data:=#[32]}] N H.out K.out (by simp)).mono ?_
   rintro e U ⟨rfl,j,D,o⟩
   go_wp2_with fail
   go_meet
   exact⟨by rw[J.out],by rw[E.out];simp only[zw,List.foldl_cons,List.foldl_nil,←ByteArray.append_assoc] at j ⊢;exact j,D,o⟩
  |false=>
   cases V:(k==1) with
   |true=>
    have E:Hid (zbc k n=({data:=#[108,101,116,32]}:ByteArray)++n++({data:=#[32,61,32]}:ByteArray)):=zl9 I V
    have J:Hid (zaV k n=({data:=#[59]}:ByteArray)):=zlA I V
    have K:Hid ((zw t [{data:=#[108,101,116,32]},n,{data:=#[32,61,32]}]).size≤140737488355328):=by show _≤_;have:=Q.out;rw[E.out] at this;simp only[zw,List.foldl_cons,List.foldl_nil,ByteArray.size_append] at this ⊢;omega
    go_wp2_with fail
    go_region_with (go_at_call 23;refine (zcz c t [{data:=#[108,101,116,32]},n,{data:=#[32,61,32]}] N H.out K.out (by simp)).mono ?_;rintro e U ⟨rfl,j,D,o⟩)
    all_goals (go_wp2_with fail;go_meet;exact⟨by rw[J.out],by rw[E.out];simp only[zw,List.foldl_cons,List.foldl_nil,←ByteArray.append_assoc] at j ⊢;exact j,D,o⟩)
   |false=>
    cases O:(k==2) with
    |true=>
     have E:Hid (zbc k n=({data:=#[102,117,110,99,116,105,111,110,32]}:ByteArray)++n++({data:=#[40,41,32,123,32,114,101,116,117,114,110,32]}:ByteArray)):=zlB I V O
     have J:Hid (zaV k n=({data:=#[59,32,125]}:ByteArray)):=zlC I O
     have K:Hid ((zw t [{data:=#[102,117,110,99,116,105,111,110,32]},n,{data:=#[40,41,32,123,32,114,101,116,117,114,110,32]}]).size≤140737488355328):=by show _≤_;have:=Q.out;rw[E.out] at this;simp only[zw,List.foldl_cons,List.foldl_nil,ByteArray.size_append] at this ⊢;omega
     go_wp2_with fail
     go_region_with (go_at_call 23;refine (zcz c t [{data:=#[102,117,110,99,116,105,111,110,32]},n,{data:=#[40,41,32,123,32,114,101,116,117,114,110,32]}] N H.out K.out (by simp)).mono ?_;rintro e U ⟨rfl,j,D,o⟩)
     all_goals (go_wp2_with fail;go_meet;exact⟨by rw[J.out],by rw[E.out];simp only[zw,List.foldl_cons,List.foldl_nil,←ByteArray.append_assoc] at j ⊢;exact j,D,o⟩)
    |false=>
     cases h3:(k==3) with
     |true=>
      have E:Hid (zbc k n=n++({data:=#[32,61,32]}:ByteArray)):=zlD I V O h3
      have J:Hid (zaV k n=({data:=#[59]}:ByteArray)):=zlE I h3
      have K:Hid ((zw t [n,{data:=#[32,61,32]}]).size≤140737488355328):=by show _≤_;have:=Q.out;rw[E.out] at this;simp only[zw,List.foldl_cons,List.foldl_nil,ByteArray.size_append] at this ⊢;omega
      go_wp2_with fail
      go_region_with (go_at_call 23;refine (zcz c t [n,{data:=#[32,61,32]}] N H.out K.out (by simp)).mono ?_;rintro e U ⟨rfl,j,D,o⟩)
      all_goals (go_wp2_with fail;go_meet;exact⟨by rw[J.out],by rw[E.out];simp only[zw,List.foldl_cons,List.foldl_nil,←ByteArray.append_assoc] at j ⊢;exact j,D,o⟩)
     |false=>
      cases Y:(k==4) with
      |true=>
       have E:Hid (zbc k n=({data:=#[112,114,105,110,116,40]}:ByteArray)):=zlF I V O h3 Y
       have J:Hid (zaV k n=({data:=#[41,59]}:ByteArray)):=zlG I O Y
       have K:Hid ((zw t [{data:=#[112,114,105,110,116,40]}]).size≤140737488355328):=by show _≤_;have:=Q.out;rw[E.out] at this;simp only[zw,List.foldl_cons,List.foldl_nil,ByteArray.size_append] at this ⊢;omega
       go_wp2_with fail
       refine (zbP c t [{data:=#[112,114,105,110,116,40]}] N H.out K.out (by simp)).mono ?_
       rintro e U ⟨rfl,j,D,o⟩
       go_wp2_with fail
       go_meet
       exact⟨by rw[J.out],by rw[E.out];exact j,D,o⟩
      |false=>
       cases h5:(k==5) with
       |true=>
        have E:Hid (zbc k n=({data:=#[116,104,114,111,119,32]}:ByteArray)):=zlH I V O h3 Y h5
        have J:Hid (zaV k n=({data:=#[59]}:ByteArray)):=zlI I O Y
        have K:Hid ((zw t [{data:=#[116,104,114,111,119,32]}]).size≤140737488355328):=by show _≤_;have:=Q.out;rw[E.out] at this;simp only[zw,List.foldl_cons,List.foldl_nil,ByteArray.size_append] at this ⊢;omega
        go_wp2_with fail
        refine (zbP c t [{data:=#[116,104,114,111,119,32]}] N H.out K.out (by simp)).mono ?_
        rintro e U ⟨rfl,j,D,o⟩
        go_wp2_with fail
        go_meet
        exact⟨by rw[J.out],by rw[E.out];exact j,D,o⟩
       |false=>
        have E:Hid (zbc k n=({data:=#[102,97,105,108,32]}:ByteArray)):=zlJ I V O h3 Y h5
        have J:Hid (zaV k n=({data:=#[59]}:ByteArray)):=zlK I O Y
        have K:Hid ((zw t [{data:=#[102,97,105,108,32]}]).size≤140737488355328):=by show _≤_;have:=Q.out;rw[E.out] at this;simp only[zw,List.foldl_cons,List.foldl_nil,ByteArray.size_append] at this ⊢;omega
        go_wp2_with fail
        refine (zbP c t [{data:=#[102,97,105,108,32]}] N H.out K.out (by simp)).mono ?_
        rintro e U ⟨rfl,j,D,o⟩
        go_wp2_with fail
        go_meet
        exact⟨by rw[J.out],by rw[E.out];exact j,D,o⟩
 case rest=>
 rename_i s4 U
 obtain⟨rfl,j,D,o⟩:=hcut
 have ak:=zc j
 have af:=zc (ar.out.trans D)
 have aq:=zc (aj.out.trans o)
 have X2:=zc ((o _ _ _ _ X1.out ai (by decide)).trans X1.out)
 clear j D o p0 p1 p2 p3 p4 p5 pf x0 x1 x2 xf al ao
 obtain⟨x0,x1,x2,xf⟩:=zdm X2.out
 go_wp2_with fail
 refine (OK.out _ _ ak.out (by have:=Q.out;simp only[ByteArray.size_append] at this ⊢;omega)).mono ?_
 rintro e w3 ⟨rfl,L,ae,ad⟩
 have ab:=zc L
 have am:=zc (af.out.trans ae)
 have ap:=zc (aq.out.trans ad)
 clear L ae ad x0 x1 x2 xf
 obtain⟨p0,p1,p2,p3,p4,p5,pf⟩:=zC ab.out.2.2.1
 go_wp2_with fail
 refine (zbP c _ [zaV k n,{data:=#[10]}] _ ab.out (by have:=Q.out;have z:(({data:=#[10]}:ByteArray)).size=1:=rfl;simp only[zw,List.foldl_cons,List.foldl_nil,ByteArray.size_append,z] at this ⊢;omega) (by simp)).mono ?_
 rintro e w4 ⟨rfl,ac,aa,Z⟩
 have ah:=zc ac
 have an:=zc (am.out.trans aa)
 have ag:=zc (ap.out.trans Z)
 clear ac aa Z p0 p1 p2 p3 p4 p5 pf
 go_wp2
 go_end0
 exact⟨rfl,(by have L:=ah.out;rw[zlL];simp only[zw,List.foldl_cons,List.foldl_nil,←ByteArray.append_assoc] at L ⊢;exact L),an.out,ag.out⟩
theorem zhj {α:Type} {l:List α} {j:Nat} (h:j<l.length): ∃x,l[j]? =some x:=⟨_,List.getElem?_eq_getElem h⟩
theorem zs0 (l:List ByteArray):l.map Value.string=l.flatMap (fun x=>[Value.string x]):=by
 induction l with
 |nil=>rfl
 |cons x l j=>rw[List.map_cons,List.flatMap_cons,j];rfl
theorem zs1 (t:ByteArray):t++sNone=t:=by
 cases t with
 |mk d=>
  show ByteArray.append _ _=_
  simp[ByteArray.append]
theorem zlM (m:Md):(acc epF m.ep (acc zaO m.im (acc rqT m.rq sNone))).size≤(zbZ m).size:=zgM _ _ _
theorem zlN (m:Md):(acc zaO m.im (acc rqT m.rq sNone)).size≤(zbZ m).size:=Nat.le_trans (zgM _ _ _) (zlM m)
theorem zs2 (m:Md):(acc rqT m.rq sNone).size≤(zbZ m).size:=Nat.le_trans (zgM _ _ _) (zlN m)
theorem zlO (s:ByteArray):rqT s=({data:=#[105,109,112,111,114,116,32]}:ByteArray)++zaL s++({data:=#[59]}:ByteArray)++({data:=#[10]}:ByteArray):=by
 have j:({data:=#[59,10]}:ByteArray)={data:=#[59]}++{data:=#[10]}:=zcj #[59] #[10]
 rw[rqT,j]
 simp only[ByteArray.append_assoc]
theorem zlP {x:Ep} (h:(x.loc.toList==[42,100,101,102,97,117,108,116])=false):epF x=zc7 x:=by rw[epF,h];rfl
theorem zs3 {x:Ep} (h:(x.loc.toList==[42,100,101,102,97,117,108,116])=true):epF x=sNone:=by rw[epF,h];rfl
theorem zs4 (c:PC) (w:World) (ok: ∀i,i<c.m.ex.length→zc2 c i) (hs: ∀s∈c.m.st,0≤s.expr∧s.expr<(c.m.ex.length:Int)) (hm:Small c.m) (h:PP c sNone w) (ae:(zbZ c.m).size≤140737488355328):
  Calls Tryz.prog 25 #[.pointer (some ⟨c.gp,0,none⟩)] w (PO c (zbZ c.m) w):=by
 have ah:=zc h
 have SM:=zc hm
 have OK:=zc ok
 have HS:=zc hs
 have HL:=zc ae
 obtain⟨f1,f2,f3,f4,f5⟩:=hm.few
 clear h hm ok hs ae
 obtain⟨p0,p1,p2,p3,p4,p5,Z⟩:=zC ah.out.2.2.1
 go_enter Tryz.func25,Tryz.ntmps25
 go_wp2
 go_loopg [16] c.m.rq.length (fun k i wr=>∃j:Nat,i= .int .i64 j∧j+k=c.m.rq.length∧PP c (acc rqT (c.m.rq.take j) sNone) wr∧Below c.B w wr∧KeepB c.b w wr)
 case atStart=>exact⟨0,rfl,by omega,ah.out,Below.refl _ _,fun _ _ _ _ _ _ _=>rfl⟩
 case round=>
  obtain⟨j,rfl,hj,O,M,L⟩:=hrel
  have z:=zc O
  have I:=zc M
  have H:=zc L
  clear O M L p0 p1 p2 p3 p4 p5 Z
  obtain⟨p0,p1,p2,p3,p4,p5,Z⟩:=zC z.out.2.2.1
  by_cases Y:j<c.m.rq.length
  ·have J:(j:Int)<(c.m.rq.length:Int):=by omega
   obtain⟨x,o⟩:=zhj Y
   have E:=List.mem_of_getElem? o
   have HZ:Hid ((acc rqT (c.m.rq.take j) sNone++rqT x).size≤140737488355328):=by show _≤_;rw[←zd5 rqT o];exact Nat.le_trans (zgN rqT c.m.rq (j+1) sNone) (Nat.le_trans (zs2 c.m) HL.out)
   have HX:=zc o
   obtain⟨N,K⟩: ∃N,N=j+1:=⟨_,rfl⟩
   have ej:(j:Int)+1=(N:Int):=by omega
   have HJ:=zc K
   clear K
   obtain⟨g,hg,k0⟩: ∃g,c.S.rq.a=some ⟨g,0,none⟩∧wr.cell? ⟨g,j,none⟩=some (.string x):=by
    obtain⟨g,hg,hc⟩:=OwnR.elem (f:=fun x=>[Value.string x]) (m:=1) (fun _=>rfl) (show OwnR wr c.base 9 1 c.S.rq c.m.rq.length (c.m.rq.flatMap fun x=>[Value.string x]) by rw[←zs0];exact z.out.2.1.rq) o
    have k0:=hc 0 (by omega)
    simp only[Nat.mul_one,Nat.add_zero,List.getElem?_cons_zero] at k0
    exact⟨g,hg,k0⟩
   have ai:=SM.out.rq x E
   have HG:Hid (Value.slice c.S.rq.a c.m.rq.length c.S.rq.cap=Value.slice (some ⟨g,0,none⟩) c.m.rq.length c.S.rq.cap):=by show _=_;rw[hg]
   clear hg o E p0 p1 p2 p3 p4 p5 Z
   rw[HG.out]
   obtain⟨p0,p1,p2,p3,p4,p5,Z⟩:=zC z.out.2.2.1
   have an:=(Array.getElem?_eq_some_iff.1 z.out.2.2.1).1
   go_wp2_with fail
   go_region_with (first|(go_at_call 62;refine (zhh x _ (by omega)).mono ?_;rintro e w' ⟨rfl,rfl⟩)|(go_at_call 23;refine (zcz c _ [{data:=#[105,109,112,111,114,116,32]},zaL x,{data:=#[59]},{data:=#[10]}] wr z.out (by have:=HZ.out;rw[zlO] at this;simp only[zw,List.foldl_cons,List.foldl_nil,ByteArray.size_append] at this ⊢;omega) (by simp)).mono ?_;rintro e w3 ⟨rfl,aa,aj,ag⟩))
   all_goals
    have ak:=zc aa
    have al:=zc (I.out.trans aj)
    have am:=zc (H.out.trans ag)
    clear aa aj ag p0 p1 p2 p3 p4 p5 Z an k0
    go_wp2
    rw[←HG.out]
    go_roundg (gk-1)
    case rel=>exact⟨N,rfl,by have:=HJ.out;omega,by rw[HJ.out,zd5 rqT HX.out];exact (by have aa:=ak.out;rw[zlO];simp only[zw,List.foldl_cons,List.foldl_nil,←ByteArray.append_assoc] at aa ⊢;exact aa),al.out,am.out⟩
    case measure=>omega
  ·have J: ¬(j:Int)<(c.m.rq.length:Int):=by omega
   obtain rfl:j=c.m.rq.length:=by omega
   have HN:Hid (PP c (acc zaO (c.m.im.take 0) (acc rqT c.m.rq sNone)) wr):=by have:=z.out;rw[List.take_length] at this;exact this
   go_wp2
   go_loopg [35] c.m.im.length (fun k i wr=>∃j:Nat,i= .int .i64 j∧j+k=c.m.im.length∧PP c (acc zaO (c.m.im.take j) (acc rqT c.m.rq sNone)) wr∧Below c.B w wr∧KeepB c.b w wr)
   case atStart=>exact⟨0,rfl,by omega,HN.out,I.out,H.out⟩
   case round=>
    obtain⟨j,rfl,hj,O,M,L⟩:=hrel
    clear z I H HN
    have z:=zc O
    have I:=zc M
    have H:=zc L
    clear O M L p0 p1 p2 p3 p4 p5 Z
    obtain⟨p0,p1,p2,p3,p4,p5,Z⟩:=zC z.out.2.2.1
    by_cases Y:j<c.m.im.length
    ·have J:(j:Int)<(c.m.im.length:Int):=by omega
     obtain⟨x,o⟩:=zhj Y
     have E:=List.mem_of_getElem? o
     have HZ:Hid ((acc zaO (c.m.im.take j) (acc rqT c.m.rq sNone)++zaO x).size≤140737488355328):=by show _≤_;rw[←zd5 zaO o];exact Nat.le_trans (zgN zaO c.m.im (j+1) (acc rqT c.m.rq sNone)) (Nat.le_trans (zlN c.m) HL.out)
     have HX:=zc o
     obtain⟨N,K⟩: ∃N,N=j+1:=⟨_,rfl⟩
     have ej:(j:Int)+1=(N:Int):=by omega
     have HJ:=zc K
     clear K
     obtain⟨g,hg,D⟩:=OwnR.elem (f:=imL) (m:=3) (fun _=>rfl) z.out.2.1.im o
     have k0:=D 0 (by omega)
     have k1:=D 1 (by omega)
     have k2:=D 2 (by omega)
     simp only[imL,Nat.add_zero,List.getElem?_cons_zero,List.getElem?_cons_succ] at k0 k1 k2
     clear D
     have ai:=(SM.out.im x E).1
     have HG:Hid (Value.slice c.S.im.a c.m.im.length c.S.im.cap=Value.slice (some ⟨g,0,none⟩) c.m.im.length c.S.im.cap):=by show _=_;rw[hg]
     clear hg o E p0 p1 p2 p3 p4 p5 Z
     rw[HG.out]
     go_upto_region 8 with fail
     have HW:Hid (Below wr.heap.size wr (wr.alloc (.cells #[.string x.spec,.string x.first,.string x.loc] 75))):=(Below.refl _ _).alloc (Nat.le_refl _) _
     refine zaA (R:=fun W=>W.heap[wr.heap.size]? =some (.cells #[.string x.spec,.string x.first,.string x.loc] 75 (0,0))∧PP c (acc zaO (c.m.im.take j) (acc rqT c.m.rq sNone)) W∧Below c.B w W∧KeepB c.b w W) ⟨heap_alloc_new wr _,z.out.later HW.out,I.out.trans (HW.out.mono z.out.1.2),H.out.trans (KeepB.of_below HW.out)⟩ ?_
     obtain⟨gx,X⟩: ∃gx,gx=wr.heap.size:=⟨_,rfl⟩
     rw[←X]
     clear k0 k1 k2 HW
     rintro W ⟨xb,O,M,L⟩
     clear X z I H
     have XB:=zc xb
     have z:=zc O
     have I:=zc M
     have H:=zc L
     clear xb O M L
     obtain⟨x0,x1,x2,xf⟩:=zdm XB.out
     go_wp2_with fail
     refine (zss c _ x W z.out HZ.out (by omega)).mono ?_
     rintro e W2 ⟨rfl,U,V,Q⟩
     have ab:=zc U
     have ac:=zc (I.out.trans V)
     have ad:=zc (H.out.trans Q)
     clear U V Q x0 x1 x2 xf
     go_wp2
     rw[←HG.out]
     go_roundg (gk-1)
     case rel=>exact⟨N,rfl,by have:=HJ.out;omega,by rw[HJ.out,zd5 zaO HX.out];exact ab.out,ac.out,ad.out⟩
     case measure=>omega
    ·have J: ¬(j:Int)<(c.m.im.length:Int):=by omega
     obtain rfl:j=c.m.im.length:=by omega
     have HN:Hid (PP c (acc epF (c.m.ep.take 0) (acc zaO c.m.im (acc rqT c.m.rq sNone))) wr):=by have:=z.out;rw[List.take_length] at this;exact this
     go_wp2
     go_loopg [49] c.m.ep.length (fun k i wr=>∃j:Nat,i= .int .i64 j∧j+k=c.m.ep.length∧PP c (acc epF (c.m.ep.take j) (acc zaO c.m.im (acc rqT c.m.rq sNone))) wr∧Below c.B w wr∧KeepB c.b w wr)
     case atStart=>exact⟨0,rfl,by omega,HN.out,I.out,H.out⟩
     case round=>
      obtain⟨j,rfl,hj,O,M,L⟩:=hrel
      clear z I H HN
      have z:=zc O
      have I:=zc M
      have H:=zc L
      clear O M L p0 p1 p2 p3 p4 p5 Z
      obtain⟨p0,p1,p2,p3,p4,p5,Z⟩:=zC z.out.2.2.1
      by_cases Y:j<c.m.ep.length
      ·have J:(j:Int)<(c.m.ep.length:Int):=by omega
       obtain⟨x,o⟩:=zhj Y
       have E:=List.mem_of_getElem? o
       have HZ:Hid ((acc epF (c.m.ep.take j) (acc zaO c.m.im (acc rqT c.m.rq sNone))++epF x).size≤140737488355328):=by show _≤_;rw[←zd5 epF o];exact Nat.le_trans (zgN epF c.m.ep (j+1) (acc zaO c.m.im (acc rqT c.m.rq sNone))) (Nat.le_trans (zlM c.m) HL.out)
       have HX:=zc o
       obtain⟨N,K⟩: ∃N,N=j+1:=⟨_,rfl⟩
       have ej:(j:Int)+1=(N:Int):=by omega
       have HJ:=zc K
       clear K
       obtain⟨g,hg,D⟩:=OwnR.elem (f:=epL) (m:=4) (fun _=>rfl) z.out.2.1.ep o
       have k0:=D 0 (by omega)
       have k1:=D 1 (by omega)
       have k2:=D 2 (by omega)
       have k3:=D 3 (by omega)
       simp only[epL,Nat.add_zero,List.getElem?_cons_zero,List.getElem?_cons_succ] at k0 k1 k2 k3
       clear D
       have ai:=(SM.out.ep x E).1
       have HG:Hid (Value.slice c.S.ep.a c.m.ep.length c.S.ep.cap=Value.slice (some ⟨g,0,none⟩) c.m.ep.length c.S.ep.cap):=by show _=_;rw[hg]
       clear hg o E p0 p1 p2 p3 p4 p5 Z
       rw[HG.out]
       go_upto_region 13 with fail
       have HW:Hid (Below wr.heap.size wr (wr.alloc (.cells #[.int .i64 x.kind,.string x.name,.string x.loc,.string x.spec] 77))):=(Below.refl _ _).alloc (Nat.le_refl _) _
       refine zaA (R:=fun W=>W.heap[wr.heap.size]? =some (.cells #[.int .i64 x.kind,.string x.name,.string x.loc,.string x.spec] 77 (0,0))∧PP c (acc epF (c.m.ep.take j) (acc zaO c.m.im (acc rqT c.m.rq sNone))) W∧Below c.B w W∧KeepB c.b w W) ⟨heap_alloc_new wr _,z.out.later HW.out,I.out.trans (HW.out.mono z.out.1.2),H.out.trans (KeepB.of_below HW.out)⟩ ?_
       obtain⟨gx,X⟩: ∃gx,gx=wr.heap.size:=⟨_,rfl⟩
       rw[←X]
       clear k0 k1 k2 k3 HW
       rintro W ⟨xb,O,M,L⟩
       clear X z I H
       have XB:=zc xb
       have z:=zc O
       have I:=zc M
       have H:=zc L
       clear xb O M L
       obtain⟨x0,x1,x2,x3,xf⟩:=zek XB.out
       cases e1:(x.loc.toList==[42,100,101,102,97,117,108,116]) with
       |false=>
        go_wp2_with fail
        refine (zsx c _ x W z.out (by have:=HZ.out;rw[zlP e1] at this;exact this) (by omega)).mono ?_
        rintro e W2 ⟨rfl,U,V,Q⟩
        have ab:=zc U
        have ac:=zc (I.out.trans V)
        have ad:=zc (H.out.trans Q)
        clear U V Q x0 x1 x2 x3 xf
        go_wp2
        rw[←HG.out]
        go_roundg (gk-1)
        case rel=>exact⟨N,rfl,by have:=HJ.out;omega,by rw[HJ.out,zd5 epF HX.out];exact (by rw[zlP e1];exact ab.out),ac.out,ad.out⟩
        case measure=>omega
       |true=>
        go_wp2
        rw[←HG.out]
        go_roundg (gk-1)
        case rel=>exact⟨N,rfl,by have:=HJ.out;omega,by rw[HJ.out,zd5 epF HX.out];exact (by rw[zs3 e1,zs1];exact z.out),I.out,H.out⟩
        case measure=>omega
      ·have J: ¬(j:Int)<(c.m.ep.length:Int):=by omega
       obtain rfl:j=c.m.ep.length:=by omega
       have HN:Hid (PP c (acc (zc8 c.m.ex) (c.m.st.take 0) (zda c.m)) wr):=by have:=z.out;rw[List.take_length] at this;exact this
       go_wp2
       go_loopg [66] c.m.st.length (fun k i wr=>∃j:Nat,i= .int .i64 j∧j+k=c.m.st.length∧PP c (acc (zc8 c.m.ex) (c.m.st.take j) (zda c.m)) wr∧Below c.B w wr∧KeepB c.b w wr)
       case atStart=>exact⟨0,rfl,by omega,HN.out,I.out,H.out⟩
       case round=>
        obtain⟨j,rfl,hj,O,M,L⟩:=hrel
        clear z I H HN
        have z:=zc O
        have I:=zc M
        have H:=zc L
        clear O M L p0 p1 p2 p3 p4 p5 Z
        obtain⟨p0,p1,p2,p3,p4,p5,Z⟩:=zC z.out.2.2.1
        by_cases Y:j<c.m.st.length
        ·have J:(j:Int)<(c.m.st.length:Int):=by omega
         obtain⟨x,o⟩:=zhj Y
         have E:=List.mem_of_getElem? o
         have HZ:Hid ((acc (zc8 c.m.ex) (c.m.st.take j) (zda c.m)++(zc8 c.m.ex) x).size≤140737488355328):=by show _≤_;rw[←zd5 (zc8 c.m.ex) o];exact Nat.le_trans (zgN (zc8 c.m.ex) c.m.st (j+1) (zda c.m)) HL.out
         have HX:=zc o
         obtain⟨N,K⟩: ∃N,N=j+1:=⟨_,rfl⟩
         have ej:(j:Int)+1=(N:Int):=by omega
         have HJ:=zc K
         clear K
         obtain⟨ei,af⟩: ∃n:Nat,x.expr=(n:Int):=⟨x.expr.toNat,by have:=HS.out x E;omega⟩
         have ao:ei<c.m.ex.length:=by have:=HS.out x E;omega
         obtain⟨g,hg,D⟩:=OwnR.elem (f:=smL) (m:=3) (fun _=>rfl) z.out.2.1.st o
         have k0:=D 0 (by omega)
         have k1:=D 1 (by omega)
         have k2:=D 2 (by omega)
         simp only[smL,Nat.add_zero,List.getElem?_cons_zero,List.getElem?_cons_succ,af] at k0 k1 k2
         clear D
         have HG:Hid (Value.slice c.S.st.a c.m.st.length c.S.st.cap=Value.slice (some ⟨g,0,none⟩) c.m.st.length c.S.st.cap):=by show _=_;rw[hg]
         clear hg o E p0 p1 p2 p3 p4 p5 Z
         rw[HG.out]
         go_upto_region 19 with fail
         have HW:Hid (Below wr.heap.size wr (wr.alloc (.cells #[.int .i64 x.kind,.string x.name,.int .i64 (ei:Int)] 79))):=(Below.refl _ _).alloc (Nat.le_refl _) _
         refine zaA (R:=fun W=>W.heap[wr.heap.size]? =some (.cells #[.int .i64 x.kind,.string x.name,.int .i64 (ei:Int)] 79 (0,0))∧PP c (acc (zc8 c.m.ex) (c.m.st.take j) (zda c.m)) W∧Below c.B w W∧KeepB c.b w W) ⟨heap_alloc_new wr _,z.out.later HW.out,I.out.trans (HW.out.mono z.out.1.2),H.out.trans (KeepB.of_below HW.out)⟩ ?_
         obtain⟨gx,X⟩: ∃gx,gx=wr.heap.size:=⟨_,rfl⟩
         rw[←X]
         clear k0 k1 k2 HW
         rintro W ⟨xb,O,M,L⟩
         clear X z I H
         have XB:=zc xb
         have z:=zc O
         have I:=zc M
         have H:=zc L
         clear xb O M L
         obtain⟨x0,x1,x2,xf⟩:=zdm XB.out
         go_wp2_with fail
         refine (zsz c _ x.kind x.name ei W (OK.out ei ao) z.out (by have:=HZ.out;rw[zc8,af,Int.toNat_natCast] at this;exact this)).mono ?_
         rintro e W2 ⟨rfl,U,V,Q⟩
         have ab:=zc U
         have ac:=zc (I.out.trans V)
         have ad:=zc (H.out.trans Q)
         clear U V Q x0 x1 x2 xf
         go_wp2
         rw[←HG.out]
         go_roundg (gk-1)
         case rel=>exact⟨N,rfl,by have:=HJ.out;omega,by rw[HJ.out,zd5 (zc8 c.m.ex) HX.out];exact (by rw[zc8,af,Int.toNat_natCast];exact ab.out),ac.out,ad.out⟩
         case measure=>omega
        ·have J: ¬(j:Int)<(c.m.st.length:Int):=by omega
         obtain rfl:j=c.m.st.length:=by omega
         have HN:Hid (PP c (zbZ c.m) wr):=by have:=z.out;rw[List.take_length] at this;exact this
         go_wp2
         go_end0
         exact⟨rfl,HN.out,I.out,H.out⟩
theorem zlQ (c:PC) (t:ByteArray) (k M:Int) (D j U:ByteArray) (l r:Nat) (w:World) (ab:zc2 c l) (Y:zc2 c r) (hr:r<c.m.ex.length) (h:PP c t w) (o:(t++(prX c.m.ex l++U++zai (zA (c.m.ex.getD r zn).kind) (prX c.m.ex r))).size≤140737488355328):
  Calls Tryz.prog 130 #[.pointer (some ⟨c.gp,0,none⟩),.agg #[.int .i64 k,.int .i64 M,.string D,.string j,.int .i64 (l:Int),.int .i64 (r:Int)],.string U] w (PO c (t++(prX c.m.ex l++U++zai (zA (c.m.ex.getD r zn).kind) (prX c.m.ex r))) w):=by
 have HP:=zc h
 obtain⟨Z,O⟩: ∃Z,(c.m.ex.getD r zn).kind=Z:=⟨_,rfl⟩
 rw[O] at o ⊢
 have KK:=zc O
 have HL:Hid (t.size+((prX c.m.ex l).size+U.size+(zai (zA Z) (prX c.m.ex r)).size)≤140737488355328):=by show _≤_;simp only[ByteArray.size_append] at o;exact o
 obtain⟨T,hT⟩: ∃T,T=prX c.m.ex l++U++zai (zA Z) (prX c.m.ex r):=⟨_,rfl⟩
 rw[←hT]
 have HT:=zc hT
 have ae:=zc ab
 have ai:=zc Y
 have HR:=zc hr
 clear h o ab Y hr O hT
 go_enter Tryz.func130,Tryz.ntmps130
 go_upto_region 1 with fail
 have HW:Hid (Below w.heap.size w (w.alloc (.cells #[.int .i64 k,.int .i64 M,.string D,.string j,.int .i64 (l:Int),.int .i64 (r:Int)] 81))):=(Below.refl _ _).alloc (Nat.le_refl _) _
 refine zaA (R:=fun W=>W.heap[w.heap.size]? =some (.cells #[.int .i64 k,.int .i64 M,.string D,.string j,.int .i64 (l:Int),.int .i64 (r:Int)] 81 (0,0))∧PP c t W∧Below c.B w W∧KeepB c.b w W) ⟨heap_alloc_new w _,HP.out.later HW.out,HW.out.mono HP.out.1.2,KeepB.of_below HW.out⟩ ?_
 obtain⟨gx,Q⟩: ∃gx,gx=w.heap.size:=⟨_,rfl⟩
 have X:gx≠c.b:=by
  rw[Q]
  obtain⟨ak,hc⟩:=zci HP.out.1.1
  have:=(Array.getElem?_eq_some_iff.1 hc).1
  omega
 rw[←Q]
 rintro w1 ⟨hx,E,H,z⟩
 clear Q HW
 have X1:=zc hx
 have L:=zc E
 have aj:=zc H
 have ad:=zc z
 clear hx E H z
 obtain⟨x0,x1,x2,x3,x4,x5,xf⟩:=zC X1.out
 obtain⟨p0,p1,p2,p3,p4,p5,pf⟩:=zC L.out.2.2.1
 have J:=(Array.getElem?_eq_some_iff.1 L.out.2.2.1).1
 have K:=(Array.getElem?_eq_some_iff.1 X1.out).1
 go_wp2_with fail
 refine (zhi c t l false w1 ae.out L.out (by have:=HL.out;simp only[zai,Bool.false_eq_true,↓reduceIte,ByteArray.size_append] at this ⊢;omega)).mono ?_
 rintro e w2 ⟨rfl,E,H,z⟩
 have N:=zc E
 have ac:=zc (aj.out.trans H)
 have ah:=zc (ad.out.trans z)
 have X2:=zc ((z _ _ _ _ X1.out X (by decide)).trans X1.out)
 clear E H z p0 p1 p2 p3 p4 p5 pf x0 x1 x2 x3 x4 x5 xf J K
 obtain⟨x0,x1,x2,x3,x4,x5,xf⟩:=zC X2.out
 obtain⟨p0,p1,p2,p3,p4,p5,pf⟩:=zC N.out.2.2.1
 have J:=(Array.getElem?_eq_some_iff.1 N.out.2.2.1).1
 have K:=(Array.getElem?_eq_some_iff.1 X2.out).1
 go_wp2_with fail
 refine (zbP c _ [U] w2 N.out (by have:=HL.out;simp only[zw,zai,Bool.false_eq_true,↓reduceIte,List.foldl_cons,List.foldl_nil,ByteArray.size_append] at this ⊢;omega) (by simp)).mono ?_
 rintro e V ⟨rfl,E,H,z⟩
 have I:=zc E
 have af:=zc (ac.out.trans H)
 have ag:=zc (ah.out.trans z)
 have X3:=zc ((z _ _ _ _ X2.out X (by decide)).trans X2.out)
 clear E H z p0 p1 p2 p3 p4 p5 pf x0 x1 x2 x3 x4 x5 xf J K
 obtain⟨x0,x1,x2,x3,x4,x5,xf⟩:=zC X3.out
 obtain⟨p0,p1,p2,p3,p4,p5,pf⟩:=zC I.out.2.2.1
 have J:=(Array.getElem?_eq_some_iff.1 I.out.2.2.1).1
 have K:=(Array.getElem?_eq_some_iff.1 X3.out).1
 go_wp2_with fail
 have aa:=zc (I.out.later ((Below.refl V.heap.size V).drew))
 go_region_with (first|(go_at_call 132;refine (ziP c _ r _ aa.out HR.out).mono ?_;rintro e w' ⟨rfl,rfl⟩;rw[KK.out])|(go_at_call 105;refine (zgc _ _).mono ?_;rintro e w' ⟨rfl,rfl⟩)|(go_at_call 131;refine (zhi c _ r (zA Z) _ ai.out aa.out (by have:=HL.out;simp only[zw,show ∀q,zai false q=q from fun _=>rfl,List.foldl_cons,List.foldl_nil,ByteArray.size_append] at this ⊢;omega)).mono ?_;rintro e w4 ⟨rfl,E,H,z⟩))
 all_goals (go_wp2;go_end0;exact⟨rfl,(by rw[HT.out];simp only[zw,show ∀q,zai false q=q from fun _=>rfl,List.foldl_cons,List.foldl_nil,←ByteArray.append_assoc] at E ⊢;exact E),af.out.trans ((((Below.refl V.heap.size V).drew).mono I.out.1.2).trans H),ag.out.trans ((KeepB.of_below ((Below.refl V.heap.size V).drew)).trans z)⟩)
theorem zs5 (c:PC) (t:ByteArray) (i:Nat) (j:Int) (z o:ByteArray) (l r:Int) (w:World) (h:PP c t w) (hi:i<c.m.ex.length) (K:c.m.ex.getD i zn=⟨1,j,z,o,l,r⟩) (hn: -9223372036854775808≤j∧j≤9223372036854775807) (D:(t++(strOfNums (zaN j))).size≤140737488355328):
  Calls Tryz.prog 109 #[.pointer (some ⟨c.gp,0,none⟩),.int .i64 (i:Int)] w (PO c (t++(strOfNums (zaN j))) w):=by
 have N:=zc h
 obtain⟨T,hT⟩: ∃T,T=strOfNums (zaN j):=⟨_,rfl⟩
 rw[←hT] at D ⊢
 have HT:=zc hT
 have HL:=zc D
 clear h D hT
 obtain⟨p0,p1,p2,p3,p4,p5,pf⟩:=zC N.out.2.2.1
 obtain⟨g,hg,L,O,X,x2,U,V,x5⟩:=N.out.2.1.expr hi
 rw[K] at O X x2 U V x5
 dsimp only at O X x2 U V x5
 rw[hg] at p4
 have aa:(i:Int)<(c.m.ex.length:Int):=by omega
 clear hg K
 go_enter Tryz.func109,Tryz.ntmps109
 go_upto_region 1 with fail
 have HW:Hid (Below w.heap.size w (w.alloc (.cells #[.int .i64 1,.int .i64 j,.string z,.string o,.int .i64 l,.int .i64 r] 81))):=(Below.refl _ _).alloc (Nat.le_refl _) _
 refine zaA (R:=fun W=>W.heap[w.heap.size]? =some (.cells #[.int .i64 1,.int .i64 j,.string z,.string o,.int .i64 l,.int .i64 r] 81 (0,0))∧PP c t W∧Below c.B w W∧KeepB c.b w W) ⟨heap_alloc_new w _,N.out.later HW.out,HW.out.mono N.out.1.2,KeepB.of_below HW.out⟩ ?_
 obtain⟨gx,J⟩: ∃gx,gx=w.heap.size:=⟨_,rfl⟩
 have ai:gx≠c.b:=by
  rw[J]
  obtain⟨ah,hc⟩:=zci N.out.1.1
  have:=(Array.getElem?_eq_some_iff.1 hc).1
  omega
 rw[←J]
 rintro w1 ⟨K,hp,Z,Y⟩
 clear J HW L O X x2 U V x5 p0 p1 p2 p3 p4 p5 pf aa
 have Q:=zc K
 have H:=zc hp
 have ae:=zc Z
 have ab:=zc Y
 clear K hp Z Y
 obtain⟨O,X,x2,U,V,x5,xf⟩:=zC Q.out
 obtain⟨p0,p1,p2,p3,p4,p5,pf⟩:=zC H.out.2.2.1
 have L:=(Array.getElem?_eq_some_iff.1 H.out.2.2.1).1
 have aj:=(Array.getElem?_eq_some_iff.1 Q.out).1
 have HN:=zc hn
 go_wp2_with fail
 go_region_with (first|(go_at_call 129;refine (znz j _ HN.out).mono ?_;rintro e w2 ⟨rfl,M⟩;have E:=zc (((Below.refl w1.heap.size w1).drew).trans M);have I:=zc (H.out.later E.out);have X2:=zc ((E.out.block _ (Array.getElem?_eq_some_iff.1 Q.out).1).trans Q.out);clear M;obtain⟨y0,y1,y2,y3,y4,y5,yf⟩:=zC X2.out;obtain⟨q0,q1,q2,q3,q4,q5,qf⟩:=zC I.out.2.2.1;have af:=(Array.getElem?_eq_some_iff.1 I.out.2.2.1).1;have ag:=(Array.getElem?_eq_some_iff.1 X2.out).1)|(go_at_call 23;refine (zbP c t [strOfNums (zaN j)] _ I.out (by have:=HL.out;rw[HT.out] at this;simp only[zw,List.foldl_cons,List.foldl_nil,ByteArray.size_append] at this ⊢;omega) (by simp)).mono ?_;rintro e w3 ⟨rfl,hp,ad,ac⟩))
 all_goals (have Z:=(E.out.mono H.out.1.2).trans ad;have Y:=(KeepB.of_below (b:=c.b) E.out).trans ac;go_wp2;go_end0;exact⟨rfl,(by rw[HT.out];exact hp),ae.out.trans Z,ab.out.trans Y⟩)
theorem zs6 (c:PC) (t:ByteArray) (i:Nat) (E:Int) (j o:ByteArray) (l r:Int) (w:World) (h:PP c t w) (hi:i<c.m.ex.length) (I:c.m.ex.getD i zn=⟨2,E,j,o,l,r⟩) (z:(t++(j)).size≤140737488355328):
  Calls Tryz.prog 109 #[.pointer (some ⟨c.gp,0,none⟩),.int .i64 (i:Int)] w (PO c (t++(j)) w):=by
 have K:=zc h
 obtain⟨T,hT⟩: ∃T,T=j:=⟨_,rfl⟩
 rw[←hT] at z ⊢
 have HT:=zc hT
 have HL:=zc z
 clear h z hT
 obtain⟨p0,p1,p2,p3,p4,p5,pf⟩:=zC K.out.2.2.1
 obtain⟨g,hg,J,L,N,X,Y,M,V⟩:=K.out.2.1.expr hi
 rw[I] at L N X Y M V
 dsimp only at L N X Y M V
 rw[hg] at p4
 have ab:(i:Int)<(c.m.ex.length:Int):=by omega
 clear hg I
 go_enter Tryz.func109,Tryz.ntmps109
 go_upto_region 1 with fail
 have Z:Hid (Below w.heap.size w (w.alloc (.cells #[.int .i64 2,.int .i64 E,.string j,.string o,.int .i64 l,.int .i64 r] 81))):=(Below.refl _ _).alloc (Nat.le_refl _) _
 refine zaA (R:=fun W=>W.heap[w.heap.size]? =some (.cells #[.int .i64 2,.int .i64 E,.string j,.string o,.int .i64 l,.int .i64 r] 81 (0,0))∧PP c t W∧Below c.B w W∧KeepB c.b w W) ⟨heap_alloc_new w _,K.out.later Z.out,Z.out.mono K.out.1.2,KeepB.of_below Z.out⟩ ?_
 obtain⟨gx,H⟩: ∃gx,gx=w.heap.size:=⟨_,rfl⟩
 have ae:gx≠c.b:=by
  rw[H]
  obtain⟨ad,hc⟩:=zci K.out.1.1
  have:=(Array.getElem?_eq_some_iff.1 hc).1
  omega
 rw[←H]
 rintro w1 ⟨I,U,O,Q⟩
 clear H Z J L N X Y M V p0 p1 p2 p3 p4 p5 pf ab
 have X1:=zc I
 have D:=zc U
 have aa:=zc O
 have ac:=zc Q
 clear I U O Q
 obtain⟨L,N,X,Y,M,V,xf⟩:=zC X1.out
 obtain⟨p0,p1,p2,p3,p4,p5,pf⟩:=zC D.out.2.2.1
 have J:=(Array.getElem?_eq_some_iff.1 D.out.2.2.1).1
 have af:=(Array.getElem?_eq_some_iff.1 X1.out).1
 go_wp2_with fail
 go_region_with (go_at_call 23;refine (zcz c t [j] w1 D.out (by have:=HL.out;rw[HT.out] at this;simp only[zw,List.foldl_cons,List.foldl_nil,ByteArray.size_append] at this ⊢;omega) (by simp)).mono ?_;rintro e w2 ⟨rfl,U,O,Q⟩)
 all_goals (go_wp2;go_end0;exact⟨rfl,(by rw[HT.out];exact U),aa.out.trans O,ac.out.trans Q⟩)
theorem zs7 (c:PC) (t:ByteArray) (i:Nat) (E:Int) (j o:ByteArray) (l r:Int) (w:World) (h:PP c t w) (hi:i<c.m.ex.length) (I:c.m.ex.getD i zn=⟨3,E,j,o,l,r⟩) (z:(t++(j++cParens)).size≤140737488355328):
  Calls Tryz.prog 109 #[.pointer (some ⟨c.gp,0,none⟩),.int .i64 (i:Int)] w (PO c (t++(j++cParens)) w):=by
 have L:=zc h
 obtain⟨T,hT⟩: ∃T,T=j++cParens:=⟨_,rfl⟩
 rw[←hT] at z ⊢
 have HT:=zc hT
 have HL:=zc z
 clear h z hT
 obtain⟨p0,p1,p2,p3,p4,p5,pf⟩:=zC L.out.2.2.1
 obtain⟨g,hg,J,M,O,X,Y,N,V⟩:=L.out.2.1.expr hi
 rw[I] at M O X Y N V
 dsimp only at M O X Y N V
 rw[hg] at p4
 have ab:(i:Int)<(c.m.ex.length:Int):=by omega
 clear hg I
 go_enter Tryz.func109,Tryz.ntmps109
 go_upto_region 1 with fail
 have Z:Hid (Below w.heap.size w (w.alloc (.cells #[.int .i64 3,.int .i64 E,.string j,.string o,.int .i64 l,.int .i64 r] 81))):=(Below.refl _ _).alloc (Nat.le_refl _) _
 refine zaA (R:=fun W=>W.heap[w.heap.size]? =some (.cells #[.int .i64 3,.int .i64 E,.string j,.string o,.int .i64 l,.int .i64 r] 81 (0,0))∧PP c t W∧Below c.B w W∧KeepB c.b w W) ⟨heap_alloc_new w _,L.out.later Z.out,Z.out.mono L.out.1.2,KeepB.of_below Z.out⟩ ?_
 obtain⟨gx,H⟩: ∃gx,gx=w.heap.size:=⟨_,rfl⟩
 have ae:gx≠c.b:=by
  rw[H]
  obtain⟨ad,hc⟩:=zci L.out.1.1
  have:=(Array.getElem?_eq_some_iff.1 hc).1
  omega
 rw[←H]
 rintro w1 ⟨I,K,Q,U⟩
 clear H Z J M O X Y N V p0 p1 p2 p3 p4 p5 pf ab
 have X1:=zc I
 have D:=zc K
 have aa:=zc Q
 have ac:=zc U
 clear I K Q U
 obtain⟨M,O,X,Y,N,V,xf⟩:=zC X1.out
 obtain⟨p0,p1,p2,p3,p4,p5,pf⟩:=zC D.out.2.2.1
 have J:=(Array.getElem?_eq_some_iff.1 D.out.2.2.1).1
 have af:=(Array.getElem?_eq_some_iff.1 X1.out).1
 go_wp2_with fail
 go_region_with (go_at_call 23;refine (zcz c t [j,cParens] w1 D.out (by have:=HL.out;rw[HT.out] at this;simp only[zw,List.foldl_cons,List.foldl_nil,ByteArray.size_append] at this ⊢;omega) (by simp)).mono ?_;rintro e w2 ⟨rfl,K,Q,U⟩)
 all_goals (go_wp2;go_end0;exact⟨rfl,(by rw[HT.out];simp only[zw,List.foldl_cons,List.foldl_nil,←ByteArray.append_assoc] at K ⊢;exact K),aa.out.trans Q,ac.out.trans U⟩)
theorem zs8 (c:PC) (t:ByteArray) (i:Nat) (E:Int) (o j:ByteArray) (l r:Int) (w:World) (h:PP c t w) (hi:i<c.m.ex.length) (I:c.m.ex.getD i zn=⟨4,E,o,j,l,r⟩) (z:(t++(o++cPoint++j)).size≤140737488355328):
  Calls Tryz.prog 109 #[.pointer (some ⟨c.gp,0,none⟩),.int .i64 (i:Int)] w (PO c (t++(o++cPoint++j)) w):=by
 have L:=zc h
 obtain⟨T,hT⟩: ∃T,T=o++cPoint++j:=⟨_,rfl⟩
 rw[←hT] at z ⊢
 have HT:=zc hT
 have HL:=zc z
 clear h z hT
 obtain⟨p0,p1,p2,p3,p4,p5,pf⟩:=zC L.out.2.2.1
 obtain⟨g,hg,J,M,O,X,Y,N,V⟩:=L.out.2.1.expr hi
 rw[I] at M O X Y N V
 dsimp only at M O X Y N V
 rw[hg] at p4
 have ab:(i:Int)<(c.m.ex.length:Int):=by omega
 clear hg I
 go_enter Tryz.func109,Tryz.ntmps109
 go_upto_region 1 with fail
 have Z:Hid (Below w.heap.size w (w.alloc (.cells #[.int .i64 4,.int .i64 E,.string o,.string j,.int .i64 l,.int .i64 r] 81))):=(Below.refl _ _).alloc (Nat.le_refl _) _
 refine zaA (R:=fun W=>W.heap[w.heap.size]? =some (.cells #[.int .i64 4,.int .i64 E,.string o,.string j,.int .i64 l,.int .i64 r] 81 (0,0))∧PP c t W∧Below c.B w W∧KeepB c.b w W) ⟨heap_alloc_new w _,L.out.later Z.out,Z.out.mono L.out.1.2,KeepB.of_below Z.out⟩ ?_
 obtain⟨gx,H⟩: ∃gx,gx=w.heap.size:=⟨_,rfl⟩
 have ae:gx≠c.b:=by
  rw[H]
  obtain⟨ad,hc⟩:=zci L.out.1.1
  have:=(Array.getElem?_eq_some_iff.1 hc).1
  omega
 rw[←H]
 rintro w1 ⟨I,K,Q,U⟩
 clear H Z J M O X Y N V p0 p1 p2 p3 p4 p5 pf ab
 have X1:=zc I
 have D:=zc K
 have aa:=zc Q
 have ac:=zc U
 clear I K Q U
 obtain⟨M,O,X,Y,N,V,xf⟩:=zC X1.out
 obtain⟨p0,p1,p2,p3,p4,p5,pf⟩:=zC D.out.2.2.1
 have J:=(Array.getElem?_eq_some_iff.1 D.out.2.2.1).1
 have af:=(Array.getElem?_eq_some_iff.1 X1.out).1
 go_wp2_with fail
 go_region_with (go_at_call 23;refine (zcz c t [o,cPoint,j] w1 D.out (by have:=HL.out;rw[HT.out] at this;simp only[zw,List.foldl_cons,List.foldl_nil,ByteArray.size_append] at this ⊢;omega) (by simp)).mono ?_;rintro e w2 ⟨rfl,K,Q,U⟩)
 all_goals (go_wp2;go_end0;exact⟨rfl,(by rw[HT.out];simp only[zw,List.foldl_cons,List.foldl_nil,←ByteArray.append_assoc] at K ⊢;exact K),aa.out.trans Q,ac.out.trans U⟩)
theorem zs9 (c:PC) (t:ByteArray) (i:Nat) (E:Int) (o j:ByteArray) (l r:Int) (w:World) (h:PP c t w) (hi:i<c.m.ex.length) (I:c.m.ex.getD i zn=⟨5,E,o,j,l,r⟩) (z:(t++(o++cPoint++j++cParens)).size≤140737488355328):
  Calls Tryz.prog 109 #[.pointer (some ⟨c.gp,0,none⟩),.int .i64 (i:Int)] w (PO c (t++(o++cPoint++j++cParens)) w):=by
 have L:=zc h
 obtain⟨T,hT⟩: ∃T,T=o++cPoint++j++cParens:=⟨_,rfl⟩
 rw[←hT] at z ⊢
 have HT:=zc hT
 have HL:=zc z
 clear h z hT
 obtain⟨p0,p1,p2,p3,p4,p5,pf⟩:=zC L.out.2.2.1
 obtain⟨g,hg,J,M,O,X,Y,N,V⟩:=L.out.2.1.expr hi
 rw[I] at M O X Y N V
 dsimp only at M O X Y N V
 rw[hg] at p4
 have ab:(i:Int)<(c.m.ex.length:Int):=by omega
 clear hg I
 go_enter Tryz.func109,Tryz.ntmps109
 go_upto_region 1 with fail
 have Z:Hid (Below w.heap.size w (w.alloc (.cells #[.int .i64 5,.int .i64 E,.string o,.string j,.int .i64 l,.int .i64 r] 81))):=(Below.refl _ _).alloc (Nat.le_refl _) _
 refine zaA (R:=fun W=>W.heap[w.heap.size]? =some (.cells #[.int .i64 5,.int .i64 E,.string o,.string j,.int .i64 l,.int .i64 r] 81 (0,0))∧PP c t W∧Below c.B w W∧KeepB c.b w W) ⟨heap_alloc_new w _,L.out.later Z.out,Z.out.mono L.out.1.2,KeepB.of_below Z.out⟩ ?_
 obtain⟨gx,H⟩: ∃gx,gx=w.heap.size:=⟨_,rfl⟩
 have ae:gx≠c.b:=by
  rw[H]
  obtain⟨ad,hc⟩:=zci L.out.1.1
  have:=(Array.getElem?_eq_some_iff.1 hc).1
  omega
 rw[←H]
 rintro w1 ⟨I,K,Q,U⟩
 clear H Z J M O X Y N V p0 p1 p2 p3 p4 p5 pf ab
 have X1:=zc I
 have D:=zc K
 have aa:=zc Q
 have ac:=zc U
 clear I K Q U
 obtain⟨M,O,X,Y,N,V,xf⟩:=zC X1.out
 obtain⟨p0,p1,p2,p3,p4,p5,pf⟩:=zC D.out.2.2.1
 have J:=(Array.getElem?_eq_some_iff.1 D.out.2.2.1).1
 have af:=(Array.getElem?_eq_some_iff.1 X1.out).1
 go_wp2_with fail
 go_region_with (go_at_call 23;refine (zcz c t [o,cPoint,j,cParens] w1 D.out (by have:=HL.out;rw[HT.out] at this;simp only[zw,List.foldl_cons,List.foldl_nil,ByteArray.size_append] at this ⊢;omega) (by simp)).mono ?_;rintro e w2 ⟨rfl,K,Q,U⟩)
 all_goals (go_wp2;go_end0;exact⟨rfl,(by rw[HT.out];simp only[zw,List.foldl_cons,List.foldl_nil,←ByteArray.append_assoc] at K ⊢;exact K),aa.out.trans Q,ac.out.trans U⟩)
theorem zsA (c:PC) (t:ByteArray) (i:Nat) (D:Int) (o j:ByteArray) (l r:Nat) (w:World) (h:PP c t w) (hi:i<c.m.ex.length) (I:c.m.ex.getD i zn=⟨6,D,o,j,(l:Int),(r:Int)⟩) (af:zc2 c l) (ad:zc2 c r) (hr:r<c.m.ex.length) (z:(t++(prX c.m.ex l++tPlus++zai (zA (c.m.ex.getD r zn).kind) (prX c.m.ex r))).size≤140737488355328):
  Calls Tryz.prog 109 #[.pointer (some ⟨c.gp,0,none⟩),.int .i64 (i:Int)] w (PO c (t++(prX c.m.ex l++tPlus++zai (zA (c.m.ex.getD r zn).kind) (prX c.m.ex r))) w):=by
 have L:=zc h
 obtain⟨T,hT⟩: ∃T,T=prX c.m.ex l++tPlus++zai (zA (c.m.ex.getD r zn).kind) (prX c.m.ex r):=⟨_,rfl⟩
 rw[←hT] at z ⊢
 have HT:=zc hT
 have HL:=zc z
 clear h z hT
 obtain⟨p0,p1,p2,p3,p4,p5,pf⟩:=zC L.out.2.2.1
 obtain⟨g,hg,J,M,O,X,Y,N,V⟩:=L.out.2.1.expr hi
 rw[I] at M O X Y N V
 dsimp only at M O X Y N V
 rw[hg] at p4
 have ab:(i:Int)<(c.m.ex.length:Int):=by omega
 clear hg I
 go_enter Tryz.func109,Tryz.ntmps109
 go_upto_region 1 with fail
 have Z:Hid (Below w.heap.size w (w.alloc (.cells #[.int .i64 6,.int .i64 D,.string o,.string j,.int .i64 (l:Int),.int .i64 (r:Int)] 81))):=(Below.refl _ _).alloc (Nat.le_refl _) _
 refine zaA (R:=fun W=>W.heap[w.heap.size]? =some (.cells #[.int .i64 6,.int .i64 D,.string o,.string j,.int .i64 (l:Int),.int .i64 (r:Int)] 81 (0,0))∧PP c t W∧Below c.B w W∧KeepB c.b w W) ⟨heap_alloc_new w _,L.out.later Z.out,Z.out.mono L.out.1.2,KeepB.of_below Z.out⟩ ?_
 obtain⟨gx,H⟩: ∃gx,gx=w.heap.size:=⟨_,rfl⟩
 have ah:gx≠c.b:=by
  rw[H]
  obtain⟨ag,hc⟩:=zci L.out.1.1
  have:=(Array.getElem?_eq_some_iff.1 hc).1
  omega
 rw[←H]
 rintro w1 ⟨I,K,Q,U⟩
 clear H Z J M O X Y N V p0 p1 p2 p3 p4 p5 pf ab
 have X1:=zc I
 have E:=zc K
 have aa:=zc Q
 have ac:=zc U
 clear I K Q U
 obtain⟨M,O,X,Y,N,V,xf⟩:=zC X1.out
 obtain⟨p0,p1,p2,p3,p4,p5,pf⟩:=zC E.out.2.2.1
 have J:=(Array.getElem?_eq_some_iff.1 E.out.2.2.1).1
 have ai:=(Array.getElem?_eq_some_iff.1 X1.out).1
 go_wp2_with fail
 refine (zlQ c t 6 D o j tPlus l r w1 af ad hr E.out (by rw[←HT.out];exact HL.out)).mono ?_
 rw[←HT.out]
 rintro e w2 ⟨rfl,K,Q,U⟩
 have ae:=zc K
 clear K
 go_wp2
 go_end0
 exact⟨rfl,ae.out,aa.out.trans Q,ac.out.trans U⟩
theorem zsB (c:PC) (t:ByteArray) (i:Nat) (D:Int) (o j:ByteArray) (l r:Nat) (w:World) (h:PP c t w) (hi:i<c.m.ex.length) (I:c.m.ex.getD i zn=⟨7,D,o,j,(l:Int),(r:Int)⟩) (af:zc2 c l) (ad:zc2 c r) (hr:r<c.m.ex.length) (z:(t++(prX c.m.ex l++tMinus++zai (zA (c.m.ex.getD r zn).kind) (prX c.m.ex r))).size≤140737488355328):
  Calls Tryz.prog 109 #[.pointer (some ⟨c.gp,0,none⟩),.int .i64 (i:Int)] w (PO c (t++(prX c.m.ex l++tMinus++zai (zA (c.m.ex.getD r zn).kind) (prX c.m.ex r))) w):=by
 have L:=zc h
 obtain⟨T,hT⟩: ∃T,T=prX c.m.ex l++tMinus++zai (zA (c.m.ex.getD r zn).kind) (prX c.m.ex r):=⟨_,rfl⟩
 rw[←hT] at z ⊢
 have HT:=zc hT
 have HL:=zc z
 clear h z hT
 obtain⟨p0,p1,p2,p3,p4,p5,pf⟩:=zC L.out.2.2.1
 obtain⟨g,hg,J,M,O,X,Y,N,V⟩:=L.out.2.1.expr hi
 rw[I] at M O X Y N V
 dsimp only at M O X Y N V
 rw[hg] at p4
 have ab:(i:Int)<(c.m.ex.length:Int):=by omega
 clear hg I
 go_enter Tryz.func109,Tryz.ntmps109
 go_upto_region 1 with fail
 have Z:Hid (Below w.heap.size w (w.alloc (.cells #[.int .i64 7,.int .i64 D,.string o,.string j,.int .i64 (l:Int),.int .i64 (r:Int)] 81))):=(Below.refl _ _).alloc (Nat.le_refl _) _
 refine zaA (R:=fun W=>W.heap[w.heap.size]? =some (.cells #[.int .i64 7,.int .i64 D,.string o,.string j,.int .i64 (l:Int),.int .i64 (r:Int)] 81 (0,0))∧PP c t W∧Below c.B w W∧KeepB c.b w W) ⟨heap_alloc_new w _,L.out.later Z.out,Z.out.mono L.out.1.2,KeepB.of_below Z.out⟩ ?_
 obtain⟨gx,H⟩: ∃gx,gx=w.heap.size:=⟨_,rfl⟩
 have ah:gx≠c.b:=by
  rw[H]
  obtain⟨ag,hc⟩:=zci L.out.1.1
  have:=(Array.getElem?_eq_some_iff.1 hc).1
  omega
 rw[←H]
 rintro w1 ⟨I,K,Q,U⟩
 clear H Z J M O X Y N V p0 p1 p2 p3 p4 p5 pf ab
 have X1:=zc I
 have E:=zc K
 have aa:=zc Q
 have ac:=zc U
 clear I K Q U
 obtain⟨M,O,X,Y,N,V,xf⟩:=zC X1.out
 obtain⟨p0,p1,p2,p3,p4,p5,pf⟩:=zC E.out.2.2.1
 have J:=(Array.getElem?_eq_some_iff.1 E.out.2.2.1).1
 have ai:=(Array.getElem?_eq_some_iff.1 X1.out).1
 go_wp2_with fail
 refine (zlQ c t 7 D o j tMinus l r w1 af ad hr E.out (by rw[←HT.out];exact HL.out)).mono ?_
 rw[←HT.out]
 rintro e w2 ⟨rfl,K,Q,U⟩
 have ae:=zc K
 clear K
 go_wp2
 go_end0
 exact⟨rfl,ae.out,aa.out.trans Q,ac.out.trans U⟩
theorem zsC (c:PC) (t:ByteArray) (i:Nat) (Z:Int) (H j:ByteArray) (l r:Nat) (w:World) (h:PP c t w) (hi:i<c.m.ex.length) (hx:c.m.ex.getD i zn=⟨8,Z,H,j,(l:Int),(r:Int)⟩) (ag:zc2 c l) (af:zc2 c r) (hl:l<c.m.ex.length) (hr:r<c.m.ex.length) (I:(t++(zai (zA (c.m.ex.getD l zn).kind) (prX c.m.ex l)++tStar++zai (zO (c.m.ex.getD r zn).kind) (prX c.m.ex r))).size≤140737488355328):
  Calls Tryz.prog 109 #[.pointer (some ⟨c.gp,0,none⟩),.int .i64 (i:Int)] w (PO c (t++(zai (zA (c.m.ex.getD l zn).kind) (prX c.m.ex l)++tStar++zai (zO (c.m.ex.getD r zn).kind) (prX c.m.ex r))) w):=by
 have HP:=zc h
 obtain⟨T,hT⟩: ∃T,T=zai (zA (c.m.ex.getD l zn).kind) (prX c.m.ex l)++tStar++zai (zO (c.m.ex.getD r zn).kind) (prX c.m.ex r):=⟨_,rfl⟩
 rw[←hT] at I ⊢
 have HT:=zc hT
 have HL:=zc I
 clear h I hT
 obtain⟨p0,p1,p2,p3,p4,p5,pf⟩:=zC HP.out.2.2.1
 obtain⟨g,hg,z,N,V,Y,O,Q,X⟩:=HP.out.2.1.expr hi
 rw[hx] at N V Y O Q X
 dsimp only at N V Y O Q X
 rw[hg] at p4
 have ai:(i:Int)<(c.m.ex.length:Int):=by omega
 clear hg hx
 go_enter Tryz.func109,Tryz.ntmps109
 go_upto_region 1 with fail
 have HW:Hid (Below w.heap.size w (w.alloc (.cells #[.int .i64 8,.int .i64 Z,.string H,.string j,.int .i64 (l:Int),.int .i64 (r:Int)] 81))):=(Below.refl _ _).alloc (Nat.le_refl _) _
 refine zaA (R:=fun W=>W.heap[w.heap.size]? =some (.cells #[.int .i64 8,.int .i64 Z,.string H,.string j,.int .i64 (l:Int),.int .i64 (r:Int)] 81 (0,0))∧PP c t W∧Below c.B w W∧KeepB c.b w W) ⟨heap_alloc_new w _,HP.out.later HW.out,HW.out.mono HP.out.1.2,KeepB.of_below HW.out⟩ ?_
 obtain⟨gx,ac⟩: ∃gx,gx=w.heap.size:=⟨_,rfl⟩
 have ae:gx≠c.b:=by
  rw[ac]
  obtain⟨ar,hc⟩:=zci HP.out.1.1
  have:=(Array.getElem?_eq_some_iff.1 hc).1
  omega
 rw[←ac]
 rintro U ⟨hx,D,E,o⟩
 clear ac HW z N V Y O Q X p0 p1 p2 p3 p4 p5 pf ai
 have X1:=zc hx
 have L:=zc D
 have aq:=zc E
 have aj:=zc o
 clear hx D E o
 obtain⟨N,V,Y,O,Q,X,xf⟩:=zC X1.out
 obtain⟨p0,p1,p2,p3,p4,p5,pf⟩:=zC L.out.2.2.1
 have z:=(Array.getElem?_eq_some_iff.1 L.out.2.2.1).1
 have M:=(Array.getElem?_eq_some_iff.1 X1.out).1
 have al:=zc ag
 have ap:=zc af
 have HR:=zc hr
 have ak:=zc hl
 obtain⟨kk,ab⟩: ∃kk,(c.m.ex.getD r zn).kind=kk:=⟨_,rfl⟩
 obtain⟨kl,ad⟩: ∃kl,(c.m.ex.getD l zn).kind=kl:=⟨_,rfl⟩
 have HU:Hid (T=zai (zA kl) (prX c.m.ex l)++tStar++zai (zO kk) (prX c.m.ex r)):=by show _=_;rw[←ab,←ad];exact HT.out
 have KK:=zc ab
 have KL:=zc ad
 clear ag af hr hl ab ad HT
 go_upto_region 17 with fail
 go_cut [] from 82 to 90 (fun wx=>PP c (t++zai (zA kl) (prX c.m.ex l)) wx∧Below c.B U wx∧KeepB c.b U wx)
 case first=>
  go_wp2_with fail
  have J:=zc (L.out.later ((Below.refl U.heap.size U).drew))
  go_region_with (first|(go_at_call 132;refine (ziP c _ l _ J.out ak.out).mono ?_;rintro e w' ⟨rfl,rfl⟩;rw[KL.out])|(go_at_call 105;refine (zgc _ _).mono ?_;rintro e w' ⟨rfl,rfl⟩)|(go_at_call 131;refine (zhi c _ l (zA kl) _ al.out J.out (by have:=HL.out;rw[HU.out] at this;simp only[ByteArray.size_append] at this ⊢;omega)).mono ?_;rintro e w2 ⟨rfl,D,E,o⟩))
  all_goals (go_wp2_with fail;go_meet;exact⟨D,(((Below.refl U.heap.size U).drew).mono L.out.1.2).trans E,(KeepB.of_below ((Below.refl U.heap.size U).drew)).trans o⟩)
 case rest=>
 obtain⟨D,E,o⟩:=hcut
 rename_i w2
 have aa:=zc D
 have ah:=zc (aq.out.trans E)
 have ao:=zc (aj.out.trans o)
 have X2:=zc ((o _ _ _ _ X1.out ae (by decide)).trans X1.out)
 clear D E o p0 p1 p2 p3 p4 p5 pf N V Y O Q X xf z M
 obtain⟨N,V,Y,O,Q,X,xf⟩:=zC X2.out
 obtain⟨p0,p1,p2,p3,p4,p5,pf⟩:=zC aa.out.2.2.1
 have z:=(Array.getElem?_eq_some_iff.1 aa.out.2.2.1).1
 have M:=(Array.getElem?_eq_some_iff.1 X2.out).1
 go_wp2_with fail
 refine (zbP c _ [tStar] _ aa.out (by have:=HL.out;rw[HU.out] at this;simp only[zw,List.foldl_cons,List.foldl_nil,ByteArray.size_append] at this ⊢;omega) (by simp)).mono ?_
 rintro e w3 ⟨rfl,D,E,o⟩
 have K:=zc D
 have am:=zc (ah.out.trans E)
 have an:=zc (ao.out.trans o)
 have X3:=zc ((o _ _ _ _ X2.out ae (by decide)).trans X2.out)
 clear D E o p0 p1 p2 p3 p4 p5 pf N V Y O Q X xf z M
 obtain⟨N,V,Y,O,Q,X,xf⟩:=zC X3.out
 obtain⟨p0,p1,p2,p3,p4,p5,pf⟩:=zC K.out.2.2.1
 have z:=(Array.getElem?_eq_some_iff.1 K.out.2.2.1).1
 have M:=(Array.getElem?_eq_some_iff.1 X3.out).1
 go_wp2_with fail
 have J:=zc (K.out.later ((Below.refl w3.heap.size w3).drew))
 go_region_with (first|(go_at_call 132;refine (ziP c _ r _ J.out HR.out).mono ?_;rintro e w' ⟨rfl,rfl⟩;rw[KK.out])|(go_at_call 58;refine (zlz _ _).mono ?_;rintro e w' ⟨rfl,rfl⟩)|(go_at_call 131;refine (zhi c _ r (zO kk) _ ap.out J.out (by have:=HL.out;rw[HU.out] at this;simp only[zw,List.foldl_cons,List.foldl_nil,ByteArray.size_append] at this ⊢;omega)).mono ?_;rintro e w4 ⟨rfl,D,E,o⟩))
 all_goals (go_wp2;go_end0;exact⟨rfl,(by rw[HU.out];simp only[zw,List.foldl_cons,List.foldl_nil,←ByteArray.append_assoc] at D ⊢;exact D),am.out.trans ((((Below.refl w3.heap.size w3).drew).mono K.out.1.2).trans E),an.out.trans ((KeepB.of_below ((Below.refl w3.heap.size w3).drew)).trans o)⟩)
theorem zsD (c:PC) (t:ByteArray) (i:Nat) (k E:Int) (o j:ByteArray) (l r:Int) (w:World) (h:PP c t w) (hi:i<c.m.ex.length) (I:c.m.ex.getD i zn=⟨k,E,o,j,l,r⟩) (k1:(k==1)=false) (k2:(k==2)=false) (k3:(k==3)=false) (k4:(k==4)=false) (k5:(k==5)=false) (k6:(k==6)=false) (k7:(k==7)=false) (k8:(k==8)=false) (z:(t++(sNone)).size≤140737488355328):
  Calls Tryz.prog 109 #[.pointer (some ⟨c.gp,0,none⟩),.int .i64 (i:Int)] w (PO c (t++(sNone)) w):=by
 have K:=zc h
 obtain⟨T,hT⟩: ∃T,T=sNone:=⟨_,rfl⟩
 rw[←hT] at z ⊢
 have HT:=zc hT
 have HL:=zc z
 clear h z hT
 obtain⟨p0,p1,p2,p3,p4,p5,pf⟩:=zC K.out.2.2.1
 obtain⟨g,hg,J,L,N,Q,U,M,O⟩:=K.out.2.1.expr hi
 rw[I] at L N Q U M O
 dsimp only at L N Q U M O
 rw[hg] at p4
 have Y:(i:Int)<(c.m.ex.length:Int):=by omega
 clear hg I
 go_enter Tryz.func109,Tryz.ntmps109
 go_upto_region 1 with fail
 have V:Hid (Below w.heap.size w (w.alloc (.cells #[.int .i64 k,.int .i64 E,.string o,.string j,.int .i64 l,.int .i64 r] 81))):=(Below.refl _ _).alloc (Nat.le_refl _) _
 refine zaA (R:=fun W=>W.heap[w.heap.size]? =some (.cells #[.int .i64 k,.int .i64 E,.string o,.string j,.int .i64 l,.int .i64 r] 81 (0,0))∧PP c t W∧Below c.B w W∧KeepB c.b w W) ⟨heap_alloc_new w _,K.out.later V.out,V.out.mono K.out.1.2,KeepB.of_below V.out⟩ ?_
 obtain⟨gx,H⟩: ∃gx,gx=w.heap.size:=⟨_,rfl⟩
 have ab:gx≠c.b:=by
  rw[H]
  obtain⟨aa,hc⟩:=zci K.out.1.1
  have:=(Array.getElem?_eq_some_iff.1 hc).1
  omega
 rw[←H]
 rintro w1 ⟨I,hp,hb,hk⟩
 clear H V J L N Q U M O p0 p1 p2 p3 p4 p5 pf Y
 have X1:=zc I
 have D:=zc hp
 have X:=zc hb
 have Z:=zc hk
 clear I hp hb hk
 obtain⟨L,N,Q,U,M,O,xf⟩:=zC X1.out
 obtain⟨p0,p1,p2,p3,p4,p5,pf⟩:=zC D.out.2.2.1
 have J:=(Array.getElem?_eq_some_iff.1 D.out.2.2.1).1
 have ac:=(Array.getElem?_eq_some_iff.1 X1.out).1
 go_wp2
 go_end0
 exact⟨rfl,(by rw[HT.out,show t++sNone=t from ByteArray.append_empty];exact D.out),X.out,Z.out⟩
theorem zsE (c:PC) (hn:zeL c.m.ex) (ha:zdx c.m.ex) (n:Nat): ∀i,i<n→i<c.m.ex.length→zc2 c i:=by
 induction n with
 |zero=>intro i I;omega
 |succ n ih=>
  intro i aa I t w h z
  by_cases Z:i<n
  ·exact ih i Z I t w h z
  ·have L: ∀j,j<i→zc2 c j:=fun j hj=>ih j (by omega) (by omega)
   have K:=hn (c.m.ex.getD i zn) (by rw[zf5 I];exact List.getElem_mem I)
   have H:=zhA ha (i:=i)
   rw[zj4 ha] at z ⊢
   obtain⟨x,J⟩: ∃x,c.m.ex.getD i zn=x:=⟨_,rfl⟩
   rw[J] at z K H ⊢
   obtain⟨k,E,D,o,l,r⟩:=x
   simp only at z K H ⊢
   by_cases M:(k==1)=true
   ·rw[if_pos M] at z ⊢
    have e:=eq_of_beq M
    subst e
    exact zs5 c t i E D o l r w h I J K z
   rw[if_neg M] at z ⊢
   by_cases Y:(k==2)=true
   ·rw[if_pos Y] at z ⊢
    have e:=eq_of_beq Y
    subst e
    exact zs6 c t i E D o l r w h I J z
   rw[if_neg Y] at z ⊢
   by_cases X:(k==3)=true
   ·rw[if_pos X] at z ⊢
    have e:=eq_of_beq X
    subst e
    exact zs7 c t i E D o l r w h I J z
   rw[if_neg X] at z ⊢
   by_cases V:(k==4)=true
   ·rw[if_pos V] at z ⊢
    have e:=eq_of_beq V
    subst e
    exact zs8 c t i E D o l r w h I J z
   rw[if_neg V] at z ⊢
   by_cases Q:(k==5)=true
   ·rw[if_pos Q] at z ⊢
    have e:=eq_of_beq Q
    subst e
    exact zs9 c t i E D o l r w h I J z
   rw[if_neg Q] at z ⊢
   by_cases O:(k==6)=true
   ·rw[if_pos O] at z ⊢
    have e:=eq_of_beq O
    subst e
    have H:=H (by decide)
    obtain⟨l,rfl⟩: ∃n:Nat,l=(n:Int):=⟨l.toNat,by omega⟩
    obtain⟨r,rfl⟩: ∃n:Nat,r=(n:Int):=⟨r.toNat,by omega⟩
    simp only[Int.toNat_natCast] at z ⊢
    exact zsA c t i E D o l r w h I J (L l (by omega)) (L r (by omega)) (by omega) z
   rw[if_neg O] at z ⊢
   by_cases N:(k==7)=true
   ·rw[if_pos N] at z ⊢
    have e:=eq_of_beq N
    subst e
    have H:=H (by decide)
    obtain⟨l,rfl⟩: ∃n:Nat,l=(n:Int):=⟨l.toNat,by omega⟩
    obtain⟨r,rfl⟩: ∃n:Nat,r=(n:Int):=⟨r.toNat,by omega⟩
    simp only[Int.toNat_natCast] at z ⊢
    exact zsB c t i E D o l r w h I J (L l (by omega)) (L r (by omega)) (by omega) z
   rw[if_neg N] at z ⊢
   by_cases U:(k==8)=true
   ·rw[if_pos U] at z ⊢
    have e:=eq_of_beq U
    subst e
    have H:=H (by decide)
    obtain⟨l,rfl⟩: ∃n:Nat,l=(n:Int):=⟨l.toNat,by omega⟩
    obtain⟨r,rfl⟩: ∃n:Nat,r=(n:Int):=⟨r.toNat,by omega⟩
    simp only[Int.toNat_natCast] at z ⊢
    exact zsC c t i E D o l r w h I J (L l (by omega)) (L r (by omega)) (by omega) (by omega) z
   rw[if_neg U] at z ⊢
   exact zsD c t i k E D o l r w h I J (Bool.eq_false_iff.2 M) (Bool.eq_false_iff.2 Y) (Bool.eq_false_iff.2 X) (Bool.eq_false_iff.2 V) (Bool.eq_false_iff.2 Q) (Bool.eq_false_iff.2 O) (Bool.eq_false_iff.2 N) (Bool.eq_false_iff.2 U) z
theorem zlR (j:Nat) (S:Sv) (m:Md) (scr:Bool) (w:World) (h:OwnMd w j S m) (Y:Small m) (J:Tree m→(zbZ m).size≤140737488355328):
  Calls Tryz.prog 8 #[zbM S m,.bool scr] w fun e w'=>PrintOut (zbZ m) m e∧Below w.heap.size w w':=by
 have X:=zc h
 have SM:=zc Y
 have HU:=zc J
 obtain⟨f1,f2,f3,f4,f5⟩:=Y.few
 clear h Y J
 unfold zbM
 go_enter Tryz.func8,Tryz.ntmps8
 go_wp2_with fail
 refine (zse j S m _ (X.out.alloc _) f5 f4).mono ?_
 rintro e z ⟨⟨b,rfl,O⟩,E⟩
 have HT:=zc O
 have o:Hid (Below w.heap.size w z):=((Below.refl _ _).alloc (Nat.le_refl _) _).trans (E.mono (by rw[zW];omega))
 have H:Hid (z.heap[w.heap.size]? =some (.cells #[.slice S.rq.a m.rq.length S.rq.cap,.slice S.im.a m.im.length S.im.cap,.slice S.ep.a m.ep.length S.ep.cap,.slice S.st.a m.st.length S.st.cap,.slice S.ex.a m.ex.length S.ex.cap] 32 (0,0))):=(E.block _ (by rw[zW];omega)).trans (heap_alloc_new w _)
 have N:=zc (X.out.later o.out)
 clear O E
 cases b with
 |false=>
  go_wp2
  go_ret
  exact⟨.inr ⟨(fun t=>by have:=HT.out.2 t;cases this),rfl⟩,o.out⟩
 |true=>
  have V:=zc (HT.out.1 rfl)
  have HZ:=zc (HU.out V.out)
  go_upto_region 4 with fail
  have D:Hid (Below z.heap.size z (z.alloc (.cells #[.pointer none,.slice none 0 0] 60))):=(Below.refl _ _).alloc (Nat.le_refl _) _
  have hz:=(Array.getElem?_eq_some_iff.1 H.out).1
  refine zaA (R:=fun W=>(Lib.IsBuilder 60 5 z.heap.size z.heap.size [] W∧z.heap.size≤W.heap.size)∧OwnMd W j S m∧W.heap[w.heap.size]? =some (.cells #[.slice S.rq.a m.rq.length S.rq.cap,.slice S.im.a m.im.length S.im.cap,.slice S.ep.a m.ep.length S.ep.cap,.slice S.st.a m.st.length S.st.cap,.slice S.ex.a m.ex.length S.ex.cap] 32 (0,0))∧Below w.heap.size w W) ⟨⟨Lib.fresh_isBuilder _ _ z,D.out.size⟩,N.out.later D.out,(D.out.block _ hz).trans H.out,o.out.trans (D.out.mono o.out.size)⟩ ?_
  obtain⟨b,I⟩: ∃b,b=z.heap.size:=⟨_,rfl⟩
  have K:w.heap.size≤b:=by rw[I];exact o.out.size
  rw[←I]
  rintro W ⟨⟨U,ac⟩,ho,hx,O⟩
  clear hz D H N o X I z
  have BL:=zc U
  have HO:=zc ho
  have HX:=zc hx
  have HB:=zc O
  clear U ho hx O
  obtain⟨c0,c1,c2,c3,c4,cf⟩:=zaa HX.out
  go_upto_region 6 with fail
  have D:Hid (Below W.heap.size W (W.alloc (.cells #[.slice S.rq.a m.rq.length S.rq.cap,.slice S.im.a m.im.length S.im.cap,.slice S.ep.a m.ep.length S.ep.cap,.slice S.st.a m.st.length S.st.cap,.slice S.ex.a m.ex.length S.ex.cap,.func (.func 23) #[] #[.pointer (some ⟨b,0,none⟩)]] 68))):=(Below.refl _ _).alloc (Nat.le_refl _) _
  have Z:Hid (PP ⟨b,b,W.heap.size,j,S,m⟩ sNone (W.alloc (.cells #[.slice S.rq.a m.rq.length S.rq.cap,.slice S.im.a m.im.length S.im.cap,.slice S.ep.a m.ep.length S.ep.cap,.slice S.st.a m.st.length S.st.cap,.slice S.ex.a m.ex.length S.ex.cap,.func (.func 23) #[] #[.pointer (some ⟨b,0,none⟩)]] 68))):=by
   refine⟨⟨zl5 BL.out D.out,Nat.le_trans ac D.out.size⟩,HO.out.later D.out,heap_alloc_new W _,?_⟩
   obtain⟨af,hc⟩:=zci BL.out
   have:=(Array.getElem?_eq_some_iff.1 hc).1
   show W.heap.size≠b
   omega
  have ae:=zc (HB.out.trans (D.out.mono HB.out.size))
  go_wp2_with fail
  refine (zs4 ⟨b,b,W.heap.size,j,S,m⟩ _ (fun i hi=>zsE _ SM.out.nums V.out.ahead _ i hi hi) V.out.stm SM.out Z.out HZ.out).mono ?_
  rintro e w3 ⟨rfl,hp,Q,ad⟩
  have M:=zc hp
  have aa:=zc (ae.out.trans (Q.mono K))
  clear hp Q ad c0 c1 c2 c3 c4 cf
  go_wp2_with fail
  refine (Tryz.Builder_String_any b b (zbZ m).data.toList w3 M.out.1.1 M.out.1.2).mono ?_
  rintro e w4 ⟨rfl,L⟩
  have ab:=zc (aa.out.trans (L.mono K))
  clear L
  go_wp2
  go_ret
  exact⟨.inl ⟨V.out,rfl⟩,ab.out⟩
theorem ziQ {C:Cx} {j:Bool} {q:PS} {x:PS×Ep} (h:zbG C j q= .ok x):q.pos<x.1.pos:=by
 obtain⟨a,H,E⟩:=ze h
 obtain⟨b,D,z⟩:=ze E
 have o:=zf6 D
 rw[(zaX H).1] at o
 cases z
 exact o
def zlS (C:Cx) (gt cap base gp:Nat) (t:TypeId) (size:Nat) (f:Ep→List Value) (y:PRL) (S:Sv) (w:World) (e:Ending) (w':World):Prop:=
 match y with
 | .ok a=>∃r S',e= .returned (.slice r.a a.2.length r.cap)∧IM C gt cap base gp S' a.1 w'∧IS gp S w S' w'∧Fr t size w' w.heap.size r a.2.length (a.2.flatMap f) S'∧0<a.2.length∧a.2.length≤4000
 | .error p=>e=Pan p∧Below base w w'
theorem zlT {C:Cx} {E o j z:Nat} {S:Sv} {q:PS} {w:World} (h:IM C E o j z S q w) (t:TypeId) (size:Nat):Fr t size (w.alloc (.cells #[] t)) w.heap.size ⟨some ⟨w.heap.size,0,none⟩,0⟩ 0 [] S:=by
 refine⟨World.ownsRow_lit w #[] 0 (Nat.le_refl _) (by unfold maxLen;omega) (Nat.zero_mul _).symm,fun k g D=>?_⟩
 have H:w.heap.size=k:=by simpa [Rw.blk,Value.ownBlock] using g
 have:=(h.mem.own.has D).2
 omega
theorem zsF (C:Cx) (L z j D:Nat) (S:Sv) (q:PS) (w:World) (h:IM C L z j D S q w):
  Calls Tryz.prog 116 #[.pointer (some ⟨D,0,none⟩)] w (zlS C L z j D 75 3 (fun e=>imL (zbl e)) (zay C false q []) S w):=by
 obtain⟨i0,hi,an,am,ar⟩:=info_parts Tryz.infoImp
 have HH:=zc h
 clear h
 go_enter Tryz.func116,Tryz.ntmps116
 go_wp2
 go_loopg [3] (C.ts.length+1) (fun k v wr=>∃(Q:Sv) (M:PS) (r:Rw) (l:List Ep),v= .slice r.a l.length r.cap∧zay C false q []=zay C false M l∧C.ts.length-M.pos<k∧l.length+(C.ts.length-M.pos)≤C.ts.length∧IM C L z j D Q M wr∧IS D S w Q wr∧Fr 75 3 wr w.heap.size r l.length (l.flatMap (fun e=>imL (zbl e))) Q)
 case atStart=>exact⟨S,q,⟨some ⟨w.heap.size,0,none⟩,0⟩,[],rfl,rfl,by omega,by simp,HH.out.alloc _,(IS.refl _ _ _).alloc _,zlT HH.out _ _⟩
 case round=>
  obtain⟨Q,M,r,l,rfl,hy,hk,hl,m',s',f'⟩:=hrel
  have HY:=zc hy
  have HZ:=zc (HY.out.trans (zlv C false M l))
  have ah:Hid (IM C L z j D Q M wr):=m'
  have af:Hid (IS D S w Q wr):=s'
  have av:Hid (Fr 75 3 wr w.heap.size r l.length (l.flatMap (fun e=>imL (zbl e))) Q):=f'
  have aw:=m'.mem.few
  clear hy m' s' f'
  go_wp2_with fail
  refine (zrS C L z j D Q M _ ah.out).mono ?_
  cases Y:zbG C false M with
  |error p=>
   rintro e V ⟨rfl,hb⟩
   have HB:Hid (Below j w V):=(HH.out.back af.out).trans hb
   have HX:Hid (zay C false q []= .error p):=bdE HZ.out Y
   unfold Pan
   go_wp2
   refine⟨rfl,?_⟩
   rw[HX.out]
   exact⟨rfl,HB.out⟩
  |ok o=>
   rintro e V ⟨rfl,E,m,s⟩
   have H:Hid (Fr 75 3 V w.heap.size r l.length (l.flatMap (fun e=>imL (zbl e))) E):=av.out.step ah.out (by decide) s
   have I:=zc m
   have ab:Hid (IS D S w E V):=af.out.trans s
   clear m s
   have ad:=zc (bdO HZ.out Y)
   have az:=ziQ Y
   have ay:=I.out.mem.inv.pos
   unfold imV
   have X:=fun o1=>(H.out.later ((Below.refl V.heap.size V).alloc (Nat.le_refl _) o1)).1
   have ac:=fun o1=>(ab.out.alloc o1).size
   go_wp2_with (at_builtin;refine zcC _ rfl _ _ 27 rfl w.heap.size 75 i0 _ 3 48 Tryz.underlying27 hi an am ar rfl (by decide) (by decide) r l.length _ (by rfl) (X _) V.heap.size (imL (zbl o.2)) (by rfl) (by exact heap_alloc_new V _) rfl (zjQ _) (by omega) (ac _) ?_;intro U w2 hr Z ae;have HR:Hid (OwnR w2 w.heap.size 75 3 U (l.length+1) _):=hr;have N:Hid (IM C L z j D E o.1 w2):=(I.out.alloc _).aside Z (fun k g=>⟨H.out.2 k g,H.out.ngp I.out (by decide) g,H.out.ngt I.out (by decide) g⟩);have al:Hid (IS D S w E w2):=(ab.out.alloc _).aside Z (fun k g=>(H.out.1.typed g).1);have ag:Hid (Fr 75 3 w2 w.heap.size U (l.length+1) _ E):=(H.out.later ((Below.refl _ _).alloc (Nat.le_refl _) _)).grown (I.out.alloc _) hr ae;clear hr Z ae X ac)
   have el:(l++[o.2]).length=l.length+1:=by simp
   have ai:Hid (Fr 75 3 w2 w.heap.size U (l++[o.2]).length ((l++[o.2]).flatMap (fun e=>imL (zbl e))) E):=by
    show Fr ..
    rw[el,List.flatMap_append]
    simpa using ag.out
   have J:=zc el
   clear el ag HR
   go_wp2_with fail
   cases hc:isT C o.1.pos 4 zbv with
   |true=>
    have ax:=za1 hc (by decide)
    have HC:=zc (ad.out.trans (if_pos hc))
    refine (zP C L z j D E (o.1) 4 zbv _ N.out (by decide)).mono ?_
    rintro e w3 ⟨rfl,m,s⟩
    rw[hc] at m ⊢
    have O:=zc m
    have K:Hid (IS D S w E w3):=al.out.trans s
    have aj:=s
    clear m s
    have aa:Hid (Fr 75 3 w3 w.heap.size U (l++[o.2]).length ((l++[o.2]).flatMap (fun e=>imL (zbl e))) E):=ai.out.step N.out (by decide) aj
    clear aj
    go_wp2
    go_roundg (gk-1)
    case rel=>exact⟨E,adv o.1,U,l++[o.2],by rw[J.out],HC.out,by rw[zz];omega,by rw[zz,J.out];omega,O.out,K.out,aa.out⟩
    case measure=>omega
   |false=>
    have HC:=zc (ad.out.trans (if_neg (by rw[hc];decide)))
    refine (zP C L z j D E (o.1) 4 zbv _ N.out (by decide)).mono ?_
    rintro e w3 ⟨rfl,m,s⟩
    rw[hc] at m ⊢
    have O:=zc m
    have K:Hid (IS D S w E w3):=al.out.trans s
    have aa:Hid (Fr 75 3 w3 w.heap.size U (l++[o.2]).length ((l++[o.2]).flatMap (fun e=>imL (zbl e))) E):=ai.out.step N.out (by decide) s
    clear m s
    go_wp2_with fail
    refine (zcw C L z j D E o.1 125 _ O.out).mono ?_
    cases ak:zd C 4 zaJ o.1 with
    |error p=>
     rintro e w4 ⟨rfl,hb⟩
     have HB:Hid (Below j w w4):=(HH.out.back K.out).trans hb
     have HX:Hid (zay C false q []= .error p):=bdE HC.out ak
     unfold Pan
     go_wp2
     refine⟨rfl,?_⟩
     rw[HX.out]
     exact⟨rfl,HB.out⟩
    |ok a4=>
     rintro e w4 ⟨rfl,S4,m,s⟩
     have ap:Hid (Fr 75 3 w4 w.heap.size U (l++[o.2]).length ((l++[o.2]).flatMap (fun e=>imL (zbl e))) S4):=aa.out.step O.out (by decide) s
     have ao:=zc m
     have au:Hid (IS D S w S4 w4):=K.out.trans s
     clear m s
     have aq:=zc (bdO HC.out ak)
     go_wp2
     go_ret
     rw[aq.out]
     exact⟨U,S4,by rw[J.out];rfl,ao.out,au.out,ap.out,by show 0<(l++[o.2]).length;rw[J.out];omega,by show (l++[o.2]).length≤4000;rw[J.out];omega⟩
def impFromI (C:Cx) (l:List Ep) (q:PS):PR:=bd (zd C 1 zH q) fun a=>bd (zy C a) fun b=>bd (zd C 4 cSemi b.1) fun c=>zK (fun e=>zX C (zbW b.2 e)) l (.ok c)
theorem zhk {α:Type} (f:α→PS→PR) (p:Nat): ∀l:List α,zK f l (.error p)= .error p
 |[]=>rfl
 |_::l=>zhk f p l
theorem ziR {α:Type} (f:α→PS→PR) {l:List α} {j:Nat} {x:α} (h:l[j]? =some x) (q:PS):zK f (l.drop j) (.ok q)=zK f (l.drop (j+1)) (f x q):=by
 obtain⟨o,rfl⟩:=List.getElem?_eq_some_iff.1 h
 rw[List.drop_eq_getElem_cons o]
 rfl
theorem zsG {C:Cx} {x:Im} {q a:PS} (h:zX C x q= .ok a):a.pos=q.pos:=by
 unfold zX at h
 split at h
 ·cases h
 ·cases h
  rfl
theorem zlU {C:Cx} {x:Ep} {q a:PS} (h:zm C x q= .ok a):a.pos=q.pos:=by
 unfold zm at h
 split at h
 ·cases h
 ·split at h
  ·cases h
   rfl
  ·cases h
   rfl
theorem zgd {α:Type} {l:List α} {j:Nat} (h:j<l.length): ∃x,l[j]? =some x:=⟨_,List.getElem?_eq_getElem h⟩
theorem zsH (C:Cx) (K z o D b0 g:Nat) (r:Rw) (S:Sv) (q:PS) (l:List Ep) (w:World) (h:IM C K z o D S q w) (hC:zb0 C) (hl:l.length≤4000) (hf:Fr 75 3 w b0 r l.length (l.flatMap (fun e=>imL (zbl e))) S) (hg:r.a=some ⟨g,0,none⟩):
  Calls Tryz.prog 115 #[.pointer (some ⟨D,0,none⟩),.slice (some ⟨g,0,none⟩) l.length r.cap] w (zT C K z o D (impFromI C l q) id (fun _=>.tuple #[]) S w):=by
 have X:=zc h
 have HF:=zc hf
 have HG:=zc hg
 have HY:=zc (impFromI.eq_1 C l q)
 clear h hf hg
 go_enter Tryz.func115,Tryz.ntmps115
 go_wp2_with fail
 refine (zeU C K z o D S q zH _ X.out).mono ?_
 cases af:zd C 1 zH q with
 |error p=>
  rintro e w1 ⟨rfl,M⟩
  have V:Hid (Below o w w1):=(X.out.back (IS.refl _ _ _)).trans M
  have U:Hid (impFromI C l q= .error p):=bdE HY.out af
  unfold Pan
  go_wp2
  refine⟨rfl,?_⟩
  rw[U.out]
  exact⟨rfl,V.out⟩
 |ok a1=>
  rintro e w1 ⟨rfl,S1,m,s⟩
  have al:Hid (Fr 75 3 w1 b0 r l.length (l.flatMap (fun e=>imL (zbl e))) S1):=HF.out.step X.out (by decide) s
  have Z:=zc m
  have ac:=zc s
  clear m s
  have ag:=zc (bdO HY.out af)
  go_wp2_with fail
  refine (zgA C K z o D S1 a1 _ Z.out hC).mono ?_
  cases ae:zy C a1 with
  |error p=>
   rintro e w2 ⟨rfl,M⟩
   have V:Hid (Below o w w2):=(X.out.back ac.out).trans M
   have U:Hid (impFromI C l q= .error p):=bdE ag.out ae
   unfold Pan
   go_wp2
   refine⟨rfl,?_⟩
   rw[U.out]
   exact⟨rfl,V.out⟩
  |ok a2=>
   rintro e w2 ⟨rfl,S2,m,s⟩
   have an:Hid (Fr 75 3 w2 b0 r l.length (l.flatMap (fun e=>imL (zbl e))) S2):=al.out.step Z.out (by decide) s
   have ah:=zc m
   have ak:Hid (IS D S w S2 w2):=ac.out.trans s
   clear m s
   have Y:=zc (bdO ag.out ae)
   go_wp2_with fail
   refine (zcw C K z o D S2 a2.1 59 _ ah.out).mono ?_
   cases O:zd C 4 cSemi (a2.1) with
   |error p=>
    rintro e w3 ⟨rfl,M⟩
    have V:Hid (Below o w w3):=(X.out.back ak.out).trans M
    have U:Hid (impFromI C l q= .error p):=bdE Y.out O
    unfold Pan
    go_wp2
    refine⟨rfl,?_⟩
    rw[U.out]
    exact⟨rfl,V.out⟩
   |ok a3=>
    rintro e w3 ⟨rfl,S3,m,s⟩
    have ap:Hid (Fr 75 3 w3 b0 r l.length (l.flatMap (fun e=>imL (zbl e))) S3):=an.out.step ah.out (by decide) s
    have az:=zc m
    have aq:Hid (IS D S w S3 w3):=ak.out.trans s
    clear m s
    have ar:=zc (bdO Y.out O)
    have aj:0<a3.pos:=by rw[(zbh O).1];exact Nat.succ_pos _
    generalize aw:a2.2=sp at*
    clear aw
    go_wp2
    go_loopg [15] l.length (fun k i wr=>∃(j:Nat) (H:Sv) (I:PS),i= .int .i64 j∧j+k=l.length∧impFromI C l q=zK (fun e=>zX C (zbW sp e)) (l.drop j) (.ok I)∧0<I.pos∧IM C K z o D H I wr∧IS D S w H wr∧Fr 75 3 wr b0 r l.length (l.flatMap (fun e=>imL (zbl e))) H)
    case atStart=>exact⟨0,S3,a3,rfl,by omega,ar.out,aj,az.out,aq.out,ap.out⟩
    case round=>
     obtain⟨j,H,I,rfl,hj,hy,ai,m',s',f'⟩:=hrel
     have ad:=zc hy
     have J:Hid (IM C K z o D H I wr):=m'
     have L:Hid (IS D S w H wr):=s'
     have N:Hid (Fr 75 3 wr b0 r l.length (l.flatMap (fun e=>imL (zbl e))) H):=f'
     clear hy m' s' f'
     by_cases av:j<l.length
     ·have aa:(j:Int)<(l.length:Int):=by omega
      obtain⟨x,hx⟩:=zgd av
      obtain⟨g',ab,E⟩:=OwnR.elem (f:=fun e=>imL (zbl e)) (m:=3) (fun _=>rfl) N.out.1 hx
      have eg:g'=g:=by have:=ab.symm.trans HG.out;simpa using this
      subst eg
      have k0:=E 0 (by omega)
      have k1:=E 1 (by omega)
      have k2:=E 2 (by omega)
      simp only[imL,zbl,Nat.add_zero,List.getElem?_cons_zero,List.getElem?_cons_succ] at k0 k1 k2
      have HZ:=zc (ad.out.trans (ziR (fun e=>zX C (zbW sp e)) hx I))
      clear E ab hx
      obtain⟨j1,Q⟩: ∃j1,j1=j+1:=⟨_,rfl⟩
      have ej:(j:Int)+1=(j1:Int):=by omega
      rw[←Q] at HZ
      have aA:=(Array.getElem?_eq_some_iff.1 (N.out.1.typed (by rw[Rw.blk,HG.out];rfl)).2.2.choose_spec).1
      have aB:=J.out.lt
      have HJ:=zc Q
      clear Q
      go_wp2_with fail
      refine (zow C K z o D H I (zbW sp x) _ (J.out.alloc _) ai).mono ?_
      cases hn:zX C (zbW sp x) I with
      |error p=>
       rintro e w5 ⟨rfl,M⟩
       have V:Hid (Below o w w5):=(X.out.back (L.out.alloc _)).trans M
       have U:Hid (impFromI C l q= .error p):=by show _=_;rw[HZ.out,hn];exact zhk _ _ _
       unfold Pan
       go_wp2
       refine⟨rfl,?_⟩
       rw[U.out]
       exact⟨rfl,V.out⟩
      |ok a5=>
       rintro e w5 ⟨rfl,S5,m,s⟩
       have am:=zc m
       have ay:Hid (IS D S w S5 w5):=(L.out.alloc _).trans s
       have ao:Hid (Fr 75 3 w5 b0 r l.length (l.flatMap (fun e=>imL (zbl e))) S5):=(N.out.later ((Below.refl _ _).alloc (Nat.le_refl _) _)).step (J.out.alloc _) (by decide) s
       have au:Hid (impFromI C l q=zK (fun e=>zX C (zbW sp e)) (l.drop j1) (.ok a5)):=by show _=_;rw[HZ.out,hn]
       have ax:Hid (0<a5.pos):=by show 0<a5.pos;rw[zsG hn];exact ai
       clear m s
       go_wp2
       go_roundg (gk-1)
       case rel=>exact⟨j1,S5,a5,rfl,by have:=HJ.out;omega,au.out,ax.out,am.out,ay.out,ao.out⟩
       case measure=>omega
     ·have aa: ¬(j:Int)<(l.length:Int):=by omega
      have HZ:Hid (impFromI C l q= .ok I):=by show _=_;rw[ad.out,List.drop_eq_nil_of_le (by omega)];rfl
      go_wp2
      go_end0
      rw[HZ.out]
      exact⟨rfl,H,J.out,L.out⟩
theorem ziS (C:Cx) (D o j z b0:Nat) (r:Rw) (S:Sv) (q:PS) (l:List Ep) (w:World) (h:IM C D o j z S q w) (I:zb0 C) (J:l.length≤4000) (K:l.length≠0) (E:Fr 75 3 w b0 r l.length (l.flatMap (fun e=>imL (zbl e))) S):
  Calls Tryz.prog 115 #[.pointer (some ⟨z,0,none⟩),.slice r.a l.length r.cap] w (zT C D o j z (impFromI C l q) id (fun _=>.tuple #[]) S w):=by
 rcases E.1.nil_or with ⟨_,_,e⟩|⟨g,H⟩
 ·exact absurd e K
 ·rw[H]
  exact zsH C D o j z b0 g r S q l w h I J E H
theorem zlV {C:Cx} {E o j z:Nat} {S:Sv} {q:PS} {w:World} (h:IM C E o j z S q w) (t:TypeId) (xs:List Value):Fr t xs.length (w.alloc (.cells xs.toArray t)) w.heap.size ⟨some ⟨w.heap.size,0,none⟩,1⟩ 1 xs S:=by
 refine⟨?_,fun k g D=>?_⟩
 ·have:=World.ownsRow_lit (e:=t) (size:=xs.length) w xs.toArray 1 (Nat.le_refl _) (by unfold maxLen;omega) (by simp)
  simpa [OwnR] using this
 ·have H:w.heap.size=k:=by simpa [Rw.blk,Value.ownBlock] using g
  have:=(h.mem.own.has D).2
  omega
def zaW (C:Cx) (q:PS):PR:=
 if (zf C q.pos).kind==3 then bd (zy C q) fun a=>zd C 4 cSemi a.1
 else if isT C q.pos 4 zF then bd (zay C false (adv q) []) fun a=>impFromI C a.2 a.1
 else if isT C q.pos 4 zp then bd (zd C 1 sAs (adv q)) fun a=>bd (zk C false a) fun b=>impFromI C [⟨0,b.2,zp,sNone⟩] b.1
 else bd (zk C false q) fun b=>impFromI C [⟨0,b.2,sDefault,sNone⟩] b.1
theorem zsI (C:Cx) (E o j z:Nat) (S:Sv) (q:PS) (w:World) (h:IM C E o j z S q w) (hC:zb0 C) (hk:((zf C q.pos).kind==3)=true):
  Calls Tryz.prog 90 #[.pointer (some ⟨z,0,none⟩)] w (zT C E o j z (zaW C q) id (fun _=>.tuple #[]) S w):=by
 have M:=zc h
 have aa:=zcV
 have HY:Hid (zaW C q=bd (zy C q) fun a=>zd C 4 cSemi a.1):=if_pos hk
 clear h
 go_enter Tryz.func90,Tryz.ntmps90
 go_wp2_with fail
 refine (zbD C E o j z S q _ M.out).mono ?_
 rintro e w1 ⟨rfl,D⟩
 unfold tkV
 have U:Hid (IM C E o j z S q w1):=M.out.later D
 have H:Hid (IS z S w S w1):=IS.below D
 clear D
 go_wp2_with fail
 refine (zgA C E o j z S q _ U.out hC).mono ?_
 cases K:zy C q with
 |error p=>
  rintro e Q ⟨rfl,D⟩
  have Y:Hid (Below j w Q):=(M.out.back H.out).trans D
  have X:Hid (zaW C q= .error p):=bdE HY.out K
  unfold Pan
  go_wp2
  refine⟨rfl,?_⟩
  rw[X.out]
  exact⟨rfl,Y.out⟩
 |ok a2=>
  rintro e Q ⟨rfl,S2,m,s⟩
  have V:=zc m
  have L:Hid (IS z S w S2 Q):=H.out.trans s
  clear m s
  have I:=zc (bdO HY.out K)
  go_wp2_with fail
  refine (zcw C E o j z S2 a2.1 59 _ V.out).mono ?_
  cases J:zd C 4 cSemi a2.1 with
  |error p=>
   rintro e w3 ⟨rfl,D⟩
   have Y:Hid (Below j w w3):=(M.out.back L.out).trans D
   have X:Hid (zaW C q= .error p):=I.out.trans J
   unfold Pan
   go_wp2
   refine⟨rfl,?_⟩
   rw[X.out]
   exact⟨rfl,Y.out⟩
  |ok a3=>
   rintro e w3 ⟨rfl,S3,m,s⟩
   have Z:=zc m
   have N:Hid (IS z S w S3 w3):=L.out.trans s
   clear m s
   have O:=zc (I.out.trans J)
   go_wp2
   go_end0
   rw[O.out]
   exact⟨rfl,S3,Z.out,N.out⟩
theorem zsJ (C:Cx) (D o j z:Nat) (S:Sv) (q:PS) (w:World) (h:IM C D o j z S q w) (hC:zb0 C) (hk:((zf C q.pos).kind==3)=false) (h1:isT C q.pos 4 zF=true):
  Calls Tryz.prog 90 #[.pointer (some ⟨z,0,none⟩)] w (zT C D o j z (zaW C q) id (fun _=>.tuple #[]) S w):=by
 have M:=zc h
 have ad:=zcV
 have HY:Hid (zaW C q=bd (zay C false (adv q) []) fun a=>impFromI C a.2 a.1):=by show _=_;rw[zaW,hk,h1];rfl
 clear h
 go_enter Tryz.func90,Tryz.ntmps90
 go_wp2_with fail
 refine (zbD C D o j z S q _ M.out).mono ?_
 rintro e w1 ⟨rfl,E⟩
 unfold tkV
 have V:Hid (IM C D o j z S q w1):=M.out.later E
 have O:Hid (IS z S w S w1):=IS.below E
 clear E
 go_wp2_with fail
 refine (zP C D o j z S q 4 zF _ V.out (by decide)).mono ?_
 rintro e w2 ⟨rfl,m,s⟩
 rw[h1] at m ⊢
 have X:=zc m
 have L:Hid (IS z S w S w2):=O.out.trans s
 clear m s
 go_wp2_with fail
 refine (zsF C D o j z S (adv q) _ X.out).mono ?_
 cases J:zay C false (adv q) [] with
 |error p=>
  rintro e w3 ⟨rfl,E⟩
  have HB:Hid (Below j w w3):=(M.out.back L.out).trans E
  have Z:Hid (zaW C q= .error p):=bdE HY.out J
  unfold Pan
  go_wp2
  refine⟨rfl,?_⟩
  rw[Z.out]
  exact⟨rfl,HB.out⟩
 |ok N=>
  rintro e w3 ⟨r,S3,rfl,m,s,f,l0,l1⟩
  have ab:=zc m
  have H:Hid (IS z S w S3 w3):=L.out.trans s
  have Y:=zc f
  clear m s f
  have I:=zc (bdO HY.out J)
  go_wp2_with fail
  refine (ziS C D o j z _ r S3 N.1 N.2 _ ab.out hC l1 (by omega) Y.out).mono ?_
  cases K:impFromI C N.2 N.1 with
  |error p=>
   rintro e Q ⟨rfl,E⟩
   have HB:Hid (Below j w Q):=(M.out.back H.out).trans E
   have Z:Hid (zaW C q= .error p):=I.out.trans K
   unfold Pan
   go_wp2
   refine⟨rfl,?_⟩
   rw[Z.out]
   exact⟨rfl,HB.out⟩
  |ok a4=>
   rintro e Q ⟨rfl,S4,m,s⟩
   have U:=zc m
   have ac:Hid (IS z S w S4 Q):=H.out.trans s
   clear m s
   have aa:=zc (I.out.trans K)
   go_wp2
   go_end0
   rw[aa.out]
   exact⟨rfl,S4,U.out,ac.out⟩
theorem zsK (C:Cx) (D o j z:Nat) (S:Sv) (q:PS) (w:World) (h:IM C D o j z S q w) (hC:zb0 C) (hk:((zf C q.pos).kind==3)=false) (h1:isT C q.pos 4 zF=false) (h2:isT C q.pos 4 zp=true):
  Calls Tryz.prog 90 #[.pointer (some ⟨z,0,none⟩)] w (zT C D o j z (zaW C q) id (fun _=>.tuple #[]) S w):=by
 have H:=zc h
 have aj:=zcV
 have HY:Hid (zaW C q=bd (zd C 1 sAs (adv q)) fun a=>bd (zk C false a) fun b=>impFromI C [⟨0,b.2,zp,sNone⟩] b.1):=by show _=_;rw[zaW,hk,h1,h2];rfl
 clear h
 go_enter Tryz.func90,Tryz.ntmps90
 go_wp2_with fail
 refine (zbD C D o j z S q _ H.out).mono ?_
 rintro e w1 ⟨rfl,E⟩
 unfold tkV
 have ad:Hid (IM C D o j z S q w1):=H.out.later E
 have aa:Hid (IS z S w S w1):=IS.below E
 clear E
 go_wp2_with fail
 refine (zP C D o j z S q 4 zF _ ad.out (by decide)).mono ?_
 rintro e w2 ⟨rfl,m,s⟩
 rw[h1] at m ⊢
 have ae:=zc m
 have ai:Hid (IS z S w S w2):=aa.out.trans s
 clear m s
 go_wp2_with fail
 refine (zP C D o j z S q 4 zp _ ae.out (by decide)).mono ?_
 rintro e w3 ⟨rfl,m,s⟩
 rw[h2] at m ⊢
 have ah:=zc m
 have I:Hid (IS z S w S w3):=ai.out.trans s
 clear m s
 go_wp2_with fail
 refine (zeU C D o j z S (adv q) sAs _ ah.out).mono ?_
 cases V:zd C 1 sAs (adv q) with
 |error p=>
  rintro e w4 ⟨rfl,E⟩
  have U:Hid (Below j w w4):=(H.out.back I.out).trans E
  have N:Hid (zaW C q= .error p):=bdE HY.out V
  unfold Pan
  go_wp2
  refine⟨rfl,?_⟩
  rw[N.out]
  exact⟨rfl,U.out⟩
 |ok a4=>
  rintro e w4 ⟨rfl,S4,m,s⟩
  have ac:=zc m
  have Y:Hid (IS z S w S4 w4):=I.out.trans s
  clear m s
  have O:=zc (bdO HY.out V)
  go_wp2_with fail
  refine (zd1 C D o j z S4 a4 _ ac.out).mono ?_
  cases L:zk C false a4 with
  |error p=>
   rintro e Z ⟨rfl,E⟩
   have U:Hid (Below j w Z):=(H.out.back Y.out).trans E
   have N:Hid (zaW C q= .error p):=bdE O.out L
   unfold Pan
   go_wp2
   refine⟨rfl,?_⟩
   rw[N.out]
   exact⟨rfl,U.out⟩
  |ok Q=>
   rintro e Z ⟨rfl,S5,m,s⟩
   have K:=zc m
   have M:Hid (IS z S w S5 Z):=Y.out.trans s
   clear m s
   have J:=zc (bdO O.out L)
   go_wp2_with fail
   refine (ziS C D o j z _ ⟨some ⟨Z.heap.size,0,none⟩,1⟩ S5 Q.1 [⟨0,Q.2,zp,sNone⟩] _ (K.out.alloc _) hC (by simp) (by simp) (zlV K.out 75 (imL (zbl ⟨0,Q.2,zp,sNone⟩)))).mono ?_
   cases X:impFromI C [⟨0,Q.2,zp,sNone⟩] Q.1 with
   |error p=>
    rintro e w6 ⟨rfl,E⟩
    have U:Hid (Below j w w6):=(H.out.back (M.out.alloc _)).trans E
    have N:Hid (zaW C q= .error p):=J.out.trans X
    unfold Pan
    go_wp2
    refine⟨rfl,?_⟩
    rw[N.out]
    exact⟨rfl,U.out⟩
   |ok a6=>
    rintro e w6 ⟨rfl,S6,m,s⟩
    have af:=zc m
    have ab:Hid (IS z S w S6 w6):=(M.out.alloc _).trans s
    clear m s
    have ag:=zc (J.out.trans X)
    go_wp2
    go_end0
    rw[ag.out]
    exact⟨rfl,S6,af.out,ab.out⟩
theorem zsL (C:Cx) (D o j z:Nat) (S:Sv) (q:PS) (w:World) (h:IM C D o j z S q w) (hC:zb0 C) (hk:((zf C q.pos).kind==3)=false) (h1:isT C q.pos 4 zF=false) (h2:isT C q.pos 4 zp=false):
  Calls Tryz.prog 90 #[.pointer (some ⟨z,0,none⟩)] w (zT C D o j z (zaW C q) id (fun _=>.tuple #[]) S w):=by
 have O:=zc h
 have ad:=zcV
 have HY:Hid (zaW C q=bd (zk C false q) fun b=>impFromI C [⟨0,b.2,sDefault,sNone⟩] b.1):=by show _=_;rw[zaW,hk,h1,h2];rfl
 clear h
 go_enter Tryz.func90,Tryz.ntmps90
 go_wp2_with fail
 refine (zbD C D o j z S q _ O.out).mono ?_
 rintro e w1 ⟨rfl,E⟩
 unfold tkV
 have Y:Hid (IM C D o j z S q w1):=O.out.later E
 have U:Hid (IS z S w S w1):=IS.below E
 clear E
 go_wp2_with fail
 refine (zP C D o j z S q 4 zF _ Y.out (by decide)).mono ?_
 rintro e w2 ⟨rfl,m,s⟩
 rw[h1] at m ⊢
 have Z:=zc m
 have ac:Hid (IS z S w S w2):=U.out.trans s
 clear m s
 go_wp2_with fail
 refine (zP C D o j z S q 4 zp _ Z.out (by decide)).mono ?_
 rintro e w3 ⟨rfl,m,s⟩
 rw[h2] at m ⊢
 have ab:=zc m
 have H:Hid (IS z S w S w3):=ac.out.trans s
 clear m s
 go_wp2_with fail
 refine (zd1 C D o j z S q _ ab.out).mono ?_
 cases M:zk C false q with
 |error p=>
  rintro e Q ⟨rfl,E⟩
  have HB:Hid (Below j w Q):=(O.out.back H.out).trans E
  have HX:Hid (zaW C q= .error p):=bdE HY.out M
  unfold Pan
  go_wp2
  refine⟨rfl,?_⟩
  rw[HX.out]
  exact⟨rfl,HB.out⟩
 |ok K=>
  rintro e Q ⟨rfl,S4,m,s⟩
  have J:=zc m
  have N:Hid (IS z S w S4 Q):=H.out.trans s
  clear m s
  have L:=zc (bdO HY.out M)
  go_wp2_with fail
  refine (ziS C D o j z _ ⟨some ⟨Q.heap.size,0,none⟩,1⟩ S4 K.1 [⟨0,K.2,sDefault,sNone⟩] _ (J.out.alloc _) hC (by simp) (by simp) (zlV J.out 75 (imL (zbl ⟨0,K.2,sDefault,sNone⟩)))).mono ?_
  cases I:impFromI C [⟨0,K.2,sDefault,sNone⟩] K.1 with
  |error p=>
   rintro e w5 ⟨rfl,E⟩
   have HB:Hid (Below j w w5):=(O.out.back (N.out.alloc _)).trans E
   have HX:Hid (zaW C q= .error p):=L.out.trans I
   unfold Pan
   go_wp2
   refine⟨rfl,?_⟩
   rw[HX.out]
   exact⟨rfl,HB.out⟩
  |ok a5=>
   rintro e w5 ⟨rfl,S5,m,s⟩
   have X:=zc m
   have aa:Hid (IS z S w S5 w5):=(N.out.alloc _).trans s
   clear m s
   have V:=zc (L.out.trans I)
   go_wp2
   go_end0
   rw[V.out]
   exact⟨rfl,S5,X.out,aa.out⟩
theorem zsM (C:Cx) (D o j z:Nat) (S:Sv) (q:PS) (w:World) (h:IM C D o j z S q w) (E:zb0 C):
  Calls Tryz.prog 90 #[.pointer (some ⟨z,0,none⟩)] w (zT C D o j z (zaW C q) id (fun _=>.tuple #[]) S w):=by
 cases H:((zf C q.pos).kind==3) with
 |true=>exact zsI C D o j z S q w h E H
 |false=>
  cases I:isT C q.pos 4 zF with
  |true=>exact zsJ C D o j z S q w h E H I
  |false=>
   cases J:isT C q.pos 4 zp with
   |true=>exact zsK C D o j z S q w h E H I J
   |false=>exact zsL C D o j z S q w h E H I J
end Go.Proofs.YthfeoomfiafldaaGreat
