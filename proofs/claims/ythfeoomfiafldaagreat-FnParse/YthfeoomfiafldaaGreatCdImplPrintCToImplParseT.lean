/-
  What impl's imp answers: the walk.
  What impl's exp answers: the walk.
  What impl's kind answers,and side,if expr answers so: the walks.
  What impl's stmt answers,if expr answers so: the walk.
  What impl's program of the printer answers,if expr answers so: the walk.
  What impl's sum answers,if expr answers so,and what expr answers,kind by kind: the walks.
  What impl's expr answers,whole. No walk is zu.
  What impl.Print answers: the walk.
  What importList of impl's parser answers: the walk.
  What importFrom of impl's parser answers: the walk.
  What importItem of impl's parser answers: the walks.
-/
import Derived.Deep.CutBlock
import Derived.Deep.RegionWith
import Derived.Test.YthfeoomfiafldaaGreatCdImplBuilderToImplPrintB
namespace Go.Proofs.YthfeoomfiafldaaGreat
set_option maxRecDepth 100000
set_option maxHeartbeats 12800000
open Go.RowKit Go.PlainAid Go.Sort
theorem zcz (c:PC) (t:ByteArray) (j:List ByteArray) (w:World) (h:PP c t w) (o:(zw t j).size≤140737488355328) (D:j.length≤4294967296):
  Calls Tryz.prog 23 #[.slice (some ⟨w.heap.size,0,none⟩) j.length j.length,.pointer (some ⟨c.b,0,none⟩)] (w.alloc (.cells (j.map Value.string).toArray 9)).drew (PO c (zw t j) w):=by
 have z:Below w.heap.size w (w.alloc (.cells (j.map Value.string).toArray 9)).drew:=((Below.refl _ _).alloc (Nat.le_refl _) _).drew
 refine (zl6 c t j w.heap.size _ (h.later z) (heap_alloc_new w _) o D).mono ?_
 rintro e K ⟨H,J,I,E⟩
 exact⟨H,J,(z.mono h.1.2).trans I,(KeepB.of_below z).trans E⟩
def zc0 (x:Im):ByteArray:=
 if x.first.toList==[42] then ({data:=#[105,109,112,111,114,116,32]}:ByteArray)++({data:=#[42,32,97,115,32]}:ByteArray)++x.loc
 else if x.first.toList==[100,101,102,97,117,108,116] then ({data:=#[105,109,112,111,114,116,32]}:ByteArray)++x.loc
 else ({data:=#[105,109,112,111,114,116,32]}:ByteArray)++zcb x.first x.loc
theorem zso {x:Im} (e:(x.first.toList==[42])=true):zc0 x=({data:=#[105,109,112,111,114,116,32]}:ByteArray)++({data:=#[42,32,97,115,32]}:ByteArray)++x.loc:=by rw[zc0,e];rfl
theorem zsp {x:Im} (e:(x.first.toList==[42])=false) (j:(x.first.toList==[100,101,102,97,117,108,116])=true):zc0 x=({data:=#[105,109,112,111,114,116,32]}:ByteArray)++x.loc:=by rw[zc0,e,j];rfl
theorem zsq {x:Im} (e:(x.first.toList==[42])=false) (j:(x.first.toList==[100,101,102,97,117,108,116])=false):zc0 x=({data:=#[105,109,112,111,114,116,32]}:ByteArray)++zcb x.first x.loc:=by rw[zc0,e,j];rfl
theorem zcj (a b:Array UInt8):(⟨a++b⟩:ByteArray)=⟨a⟩++⟨b⟩:=by
 apply ByteArray.ext
 simp
theorem zfp (x:Im):zaO x=zc0 x++({data:=#[32,102,114,111,109,32]}:ByteArray)++zaL x.spec++({data:=#[59]}:ByteArray)++({data:=#[10]}:ByteArray):=by
 have z:({data:=#[59,10]}:ByteArray)={data:=#[59]}++{data:=#[10]}:=zcj #[59] #[10]
 have D:({data:=#[105,109,112,111,114,116,32,42,32,97,115,32]}:ByteArray)={data:=#[105,109,112,111,114,116,32]}++{data:=#[42,32,97,115,32]}:=zcj #[105,109,112,111,114,116,32] #[42,32,97,115,32]
 have o:({data:=#[105,109,112,111,114,116,32,123,32]}:ByteArray)={data:=#[105,109,112,111,114,116,32]}++{data:=#[123,32]}:=zcj #[105,109,112,111,114,116,32] #[123,32]
 have j:({data:=#[32,125,32,102,114,111,109,32]}:ByteArray)={data:=#[32,125]}++{data:=#[32,102,114,111,109,32]}:=zcj #[32,125] #[32,102,114,111,109,32]
 unfold zaO zc0 zcb
 rw[z,D,o,j]
 split
 ·simp only[ByteArray.append_assoc]
 ·split<;>simp only[ByteArray.append_assoc]
theorem zsr (x:Im):(({data:=#[105,109,112,111,114,116,32]}:ByteArray)).size≤(zaO x).size:=by
 rw[zfp,zc0]
 split
 ·simp only[ByteArray.size_append];omega
 ·split<;>(simp only[ByteArray.size_append];omega)
theorem zss (c:PC) (t:ByteArray) (x:Im) (w:World) (h:PP c t w) (E:(t++zaO x).size≤140737488355328) (h1:x.spec.size≤1099511627776):
  Calls Tryz.prog 63 #[.pointer (some ⟨c.gp,0,none⟩),imV x] w (PO c (t++zaO x) w):=by
 have HP:=zc h
 have M:=zc E
 clear h E
 have HZ:Hid (t.size+(zaO x).size≤140737488355328∧(({data:=#[105,109,112,111,114,116,32]}:ByteArray)).size≤(zaO x).size):=⟨by have:=M.out;rw[ByteArray.size_append] at this;exact this,zsr x⟩
 unfold imV
 go_enter Tryz.func63,Tryz.ntmps63
 go_upto_region 1 with fail
 have HW:Hid (Below w.heap.size w (w.alloc (.cells #[.string x.spec,.string x.first,.string x.loc] 75))):=(Below.refl _ _).alloc (Nat.le_refl _) _
 refine zaA (R:=fun W=>W.heap[w.heap.size]? =some (.cells #[.string x.spec,.string x.first,.string x.loc] 75 (0,0))∧PP c t W∧Below c.B w W∧KeepB c.b w W) ⟨heap_alloc_new w _,HP.out.later HW.out,HW.out.mono HP.out.1.2,KeepB.of_below HW.out⟩ ?_
 obtain⟨gx,L⟩: ∃gx,gx=w.heap.size:=⟨_,rfl⟩
 have ab:gx≠c.b:=by
  rw[L]
  obtain⟨ai,hc⟩:=zci HP.out.1.1
  have:=(Array.getElem?_eq_some_iff.1 hc).1
  omega
 rw[←L]
 rintro W ⟨hx,hp,hb,hk⟩
 clear L HW
 have X:=zc hx
 have I:=zc hp
 have Z:=zc hb
 have U:=zc hk
 clear hx hp hb hk
 obtain⟨x0,x1,x2,xf⟩:=zdm X.out
 obtain⟨p0,p1,p2,p3,p4,p5,pf⟩:=zC I.out.2.2.1
 go_wp2_with fail
 refine (zbP c t [{data:=#[105,109,112,111,114,116,32]}] W I.out (by have:=HZ.out;simp only[zw,List.foldl_cons,List.foldl_nil,ByteArray.size_append] at this ⊢;omega) (by simp)).mono ?_
 rintro e Y ⟨rfl,Q,aa,J⟩
 have D:=zc Q
 have ag:=zc (Z.out.trans aa)
 have ad:=zc (U.out.trans J)
 have X1:=zc ((J _ _ _ _ X.out ab (by decide)).trans X.out)
 clear Q aa J p0 p1 p2 p3 p4 p5 pf x0 x1 x2 xf I Z U X
 obtain⟨x0,x1,x2,xf⟩:=zdm X1.out
 obtain⟨p0,p1,p2,p3,p4,p5,pf⟩:=zC D.out.2.2.1
 have N:=(Array.getElem?_eq_some_iff.1 D.out.2.2.1).1
 have V:=(Array.getElem?_eq_some_iff.1 X1.out).1
 have E:=M.out
 go_upto_block 0 with fail
 go_cut [] from 12 to 37 (fun wx=>PP c (t++zc0 x) wx∧Below c.B Y wx∧KeepB c.b Y wx)
 case first=>
  cases e1:(x.first.toList==[42]) with
  |true=>
   have H:Hid (zc0 x=({data:=#[105,109,112,111,114,116,32]}:ByteArray)++({data:=#[42,32,97,115,32]}:ByteArray)++x.loc):=zso e1
   go_wp2_with fail
   go_region_with (go_at_call 23;refine (zcz c _ [{data:=#[42,32,97,115,32]},x.loc] Y D.out (by have:=M.out;rw[zfp,H.out] at this;simp only[zw,List.foldl_cons,List.foldl_nil,ByteArray.size_append] at this ⊢;omega) (by simp)).mono ?_;rintro e w2 ⟨rfl,j,z,o⟩)
   all_goals (go_wp2_with fail;go_meet;exact⟨by rw[H.out];simp only[zw,List.foldl_cons,List.foldl_nil,←ByteArray.append_assoc] at j ⊢;exact j,z,o⟩)
  |false=>
   cases e2:(x.first.toList==[100,101,102,97,117,108,116]) with
   |true=>
    have H:Hid (zc0 x=({data:=#[105,109,112,111,114,116,32]}:ByteArray)++x.loc):=zsp e1 e2
    go_wp2_with fail
    go_region_with (go_at_call 23;refine (zcz c _ [x.loc] Y D.out (by have:=M.out;rw[zfp,H.out] at this;simp only[zw,List.foldl_cons,List.foldl_nil,ByteArray.size_append] at this ⊢;omega) (by simp)).mono ?_;rintro e w2 ⟨rfl,j,z,o⟩)
    all_goals (go_wp2_with fail;go_meet;exact⟨by rw[H.out];simp only[zw,List.foldl_cons,List.foldl_nil,←ByteArray.append_assoc] at j ⊢;exact j,z,o⟩)
   |false=>
    have H:Hid (zc0 x=({data:=#[105,109,112,111,114,116,32]}:ByteArray)++zcb x.first x.loc):=zsq e1 e2
    go_wp2_with fail
    refine (ziO c _ x.first x.loc Y D.out (by have:=M.out;rw[zfp,H.out] at this;simp only[zw,List.foldl_cons,List.foldl_nil,ByteArray.size_append] at this ⊢;omega)).mono ?_
    rintro e w2 ⟨rfl,j,z,o⟩
    go_wp2_with fail
    go_meet
    exact⟨by rw[H.out];simp only[zw,List.foldl_cons,List.foldl_nil,←ByteArray.append_assoc] at j ⊢;exact j,z,o⟩
 case rest=>
 obtain⟨j,z,o⟩:=hcut
 rename_i w2
 have K:=zc j
 have ae:=zc (ag.out.trans z)
 have af:=zc (ad.out.trans o)
 have X2:=zc ((o _ _ _ _ X1.out ab (by decide)).trans X1.out)
 clear j z o p0 p1 p2 p3 p4 p5 pf x0 x1 x2 xf N V
 obtain⟨p0,p1,p2,p3,p4,p5,pf⟩:=zC K.out.2.2.1
 obtain⟨x0,x1,x2,xf⟩:=zdm X2.out
 have N:=(Array.getElem?_eq_some_iff.1 K.out.2.2.1).1
 have V:=(Array.getElem?_eq_some_iff.1 X2.out).1
 go_wp2_with fail
 go_region_with (first|(go_at_call 62;refine (zhh x.spec _ h1).mono ?_;rintro e w' ⟨rfl,rfl⟩)|(go_at_call 23;refine (zcz c _ [{data:=#[32,102,114,111,109,32]},zaL x.spec,{data:=#[59]},{data:=#[10]}] _ K.out (by have:=M.out;rw[zfp] at this;simp only[zw,List.foldl_cons,List.foldl_nil,ByteArray.size_append] at this ⊢;omega) (by simp)).mono ?_;rintro e w3 ⟨rfl,O,ah,ac⟩))
 all_goals (go_wp2;go_end0;exact⟨rfl,(by rw[zfp];simp only[zw,List.foldl_cons,List.foldl_nil,←ByteArray.append_assoc] at O ⊢;exact O),ae.out.trans ah,af.out.trans ac⟩)
def zc1 (x:Ep):ByteArray:=
 if x.kind==3 then ({data:=#[101,120,112,111,114,116,32]}:ByteArray)++({data:=#[42,32,102,114,111,109,32]}:ByteArray)++zaL x.spec
 else if x.kind==2 then ({data:=#[101,120,112,111,114,116,32]}:ByteArray)++zcb x.loc x.name++({data:=#[32,102,114,111,109,32]}:ByteArray)++zaL x.spec
 else ({data:=#[101,120,112,111,114,116,32]}:ByteArray)++zcb x.loc x.name
theorem zst {x:Ep} (e:(x.kind==3)=true):zc1 x=({data:=#[101,120,112,111,114,116,32]}:ByteArray)++({data:=#[42,32,102,114,111,109,32]}:ByteArray)++zaL x.spec:=by rw[zc1,e];rfl
theorem zsu {x:Ep} (e:(x.kind==3)=false) (j:(x.kind==2)=true):zc1 x=({data:=#[101,120,112,111,114,116,32]}:ByteArray)++zcb x.loc x.name++({data:=#[32,102,114,111,109,32]}:ByteArray)++zaL x.spec:=by rw[zc1,e,j];rfl
theorem zsv {x:Ep} (e:(x.kind==3)=false) (j:(x.kind==2)=false):zc1 x=({data:=#[101,120,112,111,114,116,32]}:ByteArray)++zcb x.loc x.name:=by rw[zc1,e,j];rfl
theorem ze7 (x:Ep):zc7 x=zc1 x++({data:=#[59]}:ByteArray)++({data:=#[10]}:ByteArray):=by
 have o:({data:=#[59,10]}:ByteArray)={data:=#[59]}++{data:=#[10]}:=zcj #[59] #[10]
 have E:({data:=#[101,120,112,111,114,116,32,42,32,102,114,111,109,32]}:ByteArray)={data:=#[101,120,112,111,114,116,32]}++{data:=#[42,32,102,114,111,109,32]}:=zcj #[101,120,112,111,114,116,32] #[42,32,102,114,111,109,32]
 have j:({data:=#[101,120,112,111,114,116,32,123,32]}:ByteArray)={data:=#[101,120,112,111,114,116,32]}++{data:=#[123,32]}:=zcj #[101,120,112,111,114,116,32] #[123,32]
 have z:({data:=#[32,125,32,102,114,111,109,32]}:ByteArray)={data:=#[32,125]}++{data:=#[32,102,114,111,109,32]}:=zcj #[32,125] #[32,102,114,111,109,32]
 have D:({data:=#[32,125,59,10]}:ByteArray)={data:=#[32,125]}++{data:=#[59,10]}:=zcj #[32,125] #[59,10]
 unfold zc7 zc1 zcb
 rw[D,o,E,j,z]
 split
 ·simp only[ByteArray.append_assoc]
 ·split<;>simp only[ByteArray.append_assoc]
theorem zsw (x:Ep):(({data:=#[101,120,112,111,114,116,32]}:ByteArray)).size≤(zc7 x).size:=by
 rw[ze7,zc1]
 split
 ·simp only[ByteArray.size_append];omega
 ·split<;>(simp only[ByteArray.size_append];omega)
theorem zsx (c:PC) (t:ByteArray) (x:Ep) (w:World) (h:PP c t w) (J:(t++zc7 x).size≤140737488355328) (h1:x.spec.size≤1099511627776):
  Calls Tryz.prog 64 #[.pointer (some ⟨c.gp,0,none⟩),epV x] w (PO c (t++zc7 x) w):=by
 have HP:=zc h
 have HL:=zc J
 clear h J
 have HZ:Hid (t.size+(zc7 x).size≤140737488355328∧(({data:=#[101,120,112,111,114,116,32]}:ByteArray)).size≤(zc7 x).size):=⟨by have:=HL.out;rw[ByteArray.size_append] at this;exact this,zsw x⟩
 unfold epV
 go_enter Tryz.func64,Tryz.ntmps64
 go_upto_region 1 with fail
 have HW:Hid (Below w.heap.size w (w.alloc (.cells #[.int .i64 x.kind,.string x.name,.string x.loc,.string x.spec] 77))):=(Below.refl _ _).alloc (Nat.le_refl _) _
 refine zaA (R:=fun W=>W.heap[w.heap.size]? =some (.cells #[.int .i64 x.kind,.string x.name,.string x.loc,.string x.spec] 77 (0,0))∧PP c t W∧Below c.B w W∧KeepB c.b w W) ⟨heap_alloc_new w _,HP.out.later HW.out,HW.out.mono HP.out.1.2,KeepB.of_below HW.out⟩ ?_
 obtain⟨gx,ab⟩: ∃gx,gx=w.heap.size:=⟨_,rfl⟩
 have ah:gx≠c.b:=by
  rw[ab]
  obtain⟨am,hc⟩:=zci HP.out.1.1
  have:=(Array.getElem?_eq_some_iff.1 hc).1
  omega
 rw[←ab]
 rintro W ⟨hx,hp,hb,hk⟩
 clear ab HW
 have X:=zc hx
 have Q:=zc hp
 have ae:=zc hb
 have ad:=zc hk
 clear hx hp hb hk
 obtain⟨x0,x1,x2,x3,xf⟩:=zek X.out
 obtain⟨p0,p1,O,U,p4,Y,pf⟩:=zC Q.out.2.2.1
 go_wp2_with fail
 refine (zbP c t [{data:=#[101,120,112,111,114,116,32]}] W Q.out (by have:=HZ.out;simp only[zw,List.foldl_cons,List.foldl_nil,ByteArray.size_append] at this ⊢;omega) (by simp)).mono ?_
 rintro e w1 ⟨rfl,ac,af,aa⟩
 have H:=zc ac
 have al:=zc (ae.out.trans af)
 have ai:=zc (ad.out.trans aa)
 have X1:=zc ((aa _ _ _ _ X.out ah (by decide)).trans X.out)
 clear ac af aa p0 p1 O U p4 Y pf x0 x1 x2 x3 xf Q ae ad X
 obtain⟨x0,x1,x2,x3,xf⟩:=zek X1.out
 obtain⟨p0,p1,O,U,p4,Y,pf⟩:=zC H.out.2.2.1
 have N:=(Array.getElem?_eq_some_iff.1 H.out.2.2.1).1
 have Z:=(Array.getElem?_eq_some_iff.1 X1.out).1
 have J:=HL.out
 go_upto_block 0 with fail
 go_cut [] from 12 to 45 (fun wx=>PP c (t++zc1 x) wx∧Below c.B w1 wx∧KeepB c.b w1 wx)
 case first=>
  cases e1:(x.kind==3) with
  |true=>
   have L:Hid (zc1 x=({data:=#[101,120,112,111,114,116,32]}:ByteArray)++({data:=#[42,32,102,114,111,109,32]}:ByteArray)++zaL x.spec):=zst e1
   go_wp2_with fail
   go_region_with (first|(go_at_call 62;refine (zhh x.spec _ h1).mono ?_;rintro e w' ⟨rfl,rfl⟩)|(go_at_call 23;refine (zcz c _ [{data:=#[42,32,102,114,111,109,32]},zaL x.spec] w1 H.out (by have:=HL.out;rw[ze7,L.out] at this;simp only[zw,List.foldl_cons,List.foldl_nil,ByteArray.size_append] at this ⊢;omega) (by simp)).mono ?_;rintro e w2 ⟨rfl,j,D,o⟩))
   all_goals (go_wp2_with fail;go_meet;exact⟨by rw[L.out];simp only[zw,List.foldl_cons,List.foldl_nil,←ByteArray.append_assoc] at j ⊢;exact j,D,o⟩)
  |false=>
   cases e2:(x.kind==2) with
   |true=>
    have L:Hid (zc1 x=({data:=#[101,120,112,111,114,116,32]}:ByteArray)++zcb x.loc x.name++({data:=#[32,102,114,111,109,32]}:ByteArray)++zaL x.spec):=zsu e1 e2
    go_wp2_with fail
    refine (ziO c _ x.loc x.name w1 H.out (by have:=HL.out;rw[ze7,L.out] at this;simp only[zw,List.foldl_cons,List.foldl_nil,ByteArray.size_append] at this ⊢;omega)).mono ?_
    rintro e w3 ⟨rfl,z,K,E⟩
    have I:=zc z
    have X3:=zc ((E _ _ _ _ X1.out ah (by decide)).trans X1.out)
    have V:=zc K
    have M:=zc E
    clear z K E p0 p1 O U p4 Y pf x0 x1 x2 x3 xf N Z
    obtain⟨p0,p1,O,U,p4,Y,pf⟩:=zC I.out.2.2.1
    obtain⟨x0,x1,x2,x3,xf⟩:=zek X3.out
    have N:=(Array.getElem?_eq_some_iff.1 I.out.2.2.1).1
    have Z:=(Array.getElem?_eq_some_iff.1 X3.out).1
    go_wp2_with fail
    go_region_with (first|(go_at_call 62;refine (zhh x.spec _ h1).mono ?_;rintro e w' ⟨rfl,rfl⟩)|(go_at_call 23;refine (zcz c _ [{data:=#[32,102,114,111,109,32]},zaL x.spec] w3 I.out (by have:=HL.out;rw[ze7,L.out] at this;simp only[zw,List.foldl_cons,List.foldl_nil,ByteArray.size_append] at this ⊢;omega) (by simp)).mono ?_;rintro e w2 ⟨rfl,j,D,o⟩))
    all_goals (go_wp2_with fail;go_meet;exact⟨by rw[L.out];simp only[zw,List.foldl_cons,List.foldl_nil,←ByteArray.append_assoc] at j ⊢;exact j,V.out.trans D,M.out.trans o⟩)
   |false=>
    have L:Hid (zc1 x=({data:=#[101,120,112,111,114,116,32]}:ByteArray)++zcb x.loc x.name):=zsv e1 e2
    go_wp2_with fail
    refine (ziO c _ x.loc x.name w1 H.out (by have:=HL.out;rw[ze7,L.out] at this;simp only[zw,List.foldl_cons,List.foldl_nil,ByteArray.size_append] at this ⊢;omega)).mono ?_
    rintro e w2 ⟨rfl,j,D,o⟩
    go_wp2_with fail
    go_meet
    exact⟨by rw[L.out];simp only[zw,List.foldl_cons,List.foldl_nil,←ByteArray.append_assoc] at j ⊢;exact j,D,o⟩
 case rest=>
 obtain⟨j,D,o⟩:=hcut
 rename_i w2
 have ag:=zc j
 have aj:=zc (al.out.trans D)
 have ak:=zc (ai.out.trans o)
 clear j D o p0 p1 O U p4 Y pf x0 x1 x2 x3 xf N Z
 obtain⟨p0,p1,O,U,p4,Y,pf⟩:=zC ag.out.2.2.1
 go_wp2_with fail
 refine (zbP c _ [{data:=#[59]},{data:=#[10]}] _ ag.out (by have:=HL.out;rw[ze7] at this;simp only[zw,List.foldl_cons,List.foldl_nil,ByteArray.size_append] at this ⊢;omega) (by simp)).mono ?_
 rintro e w3 ⟨rfl,z,K,E⟩
 have I:=zc z
 have V:=zc (aj.out.trans K)
 have M:=zc (ak.out.trans E)
 clear z K E p0 p1 O U p4 Y pf
 go_wp2
 go_end0
 exact⟨rfl,(by have z:=I.out;rw[ze7];simp only[zw,List.foldl_cons,List.foldl_nil,←ByteArray.append_assoc] at z ⊢;exact z),V.out,M.out⟩
theorem ziP (c:PC) (t:ByteArray) (i:Nat) (w:World) (h:PP c t w) (H:i<c.m.ex.length):
  Calls Tryz.prog 132 #[.pointer (some ⟨c.gp,0,none⟩),.int .i64 (i:Int)] w fun e J=>e= .returned (.int .i64 (c.m.ex.getD i zn).kind)∧J=w:=by
 obtain⟨Z,U,L,M,I,N,Q⟩:=zC h.2.2.1
 obtain⟨g,z,E,K,O,Y,x3,X,V⟩:=h.2.1.expr H
 rw[z] at I
 have D:(i:Int)<(c.m.ex.length:Int):=by omega
 obtain⟨o,j⟩: ∃o,(c.m.ex.getD i zn).kind=o:=⟨_,rfl⟩
 rw[j] at K
 rw[j]
 clear h z j
 go_enter Tryz.func132,Tryz.ntmps132
 go_wp2
 go_ret
 exact⟨rfl,rfl⟩
def zc2 (c:PC) (i:Nat):Prop:=∀(t:ByteArray) (w:World),PP c t w→(t++prX c.m.ex i).size≤140737488355328→Calls Tryz.prog 109 #[.pointer (some ⟨c.gp,0,none⟩),.int .i64 (i:Int)] w (PO c (t++prX c.m.ex i) w)
theorem zhi (c:PC) (t:ByteArray) (i:Nat) (o:Bool) (w:World) (ok:zc2 c i) (h:PP c t w) (j:(t++zai o (prX c.m.ex i)).size≤140737488355328):
  Calls Tryz.prog 131 #[.pointer (some ⟨c.gp,0,none⟩),.int .i64 (i:Int),.bool o] w (PO c (t++zai o (prX c.m.ex i)) w):=by
 have OK:=zc ok
 have HP:=zc h
 clear ok h
 obtain⟨p0,p1,X,Y,p4,Z,pf⟩:=zC HP.out.2.2.1
 cases o with
 |false=>
  have U:Hid ((t++prX c.m.ex i).size≤140737488355328):=j
  clear j
  go_enter Tryz.func131,Tryz.ntmps131
  go_wp2_with fail
  refine (OK.out t w HP.out U.out).mono ?_
  rintro e w1 ⟨rfl,D,E,H⟩
  have J:=zc D
  have K:=zc E
  have I:=zc H
  clear D E H p0 p1 X Y p4 Z pf
  go_wp2
  refine bodyPost_ret (results_none rfl _ _ _) rfl ?_
  exact⟨rfl,J.out,K.out,I.out⟩
 |true=>
  have U:Hid ((t++(cOpen++prX c.m.ex i++zU)).size≤140737488355328):=j
  clear j
  go_enter Tryz.func131,Tryz.ntmps131
  go_wp2_with fail
  refine (zbP c t [cOpen] w HP.out (by have:=U.out;simp only[zw,List.foldl_cons,List.foldl_nil,ByteArray.size_append] at this ⊢;omega) (by simp)).mono ?_
  rintro e w1 ⟨rfl,D,E,H⟩
  have J:=zc D
  have K:=zc E
  have I:=zc H
  clear D E H p0 p1 X Y p4 Z pf
  go_wp2_with fail
  refine (OK.out _ w1 J.out (by have:=U.out;simp only[zw,List.foldl_cons,List.foldl_nil,ByteArray.size_append] at this ⊢;omega)).mono ?_
  rintro e w2 ⟨rfl,N,O,M⟩
  have Q:=zc N
  have ac:=zc (K.out.trans O)
  have ad:=zc (I.out.trans M)
  clear N O M
  obtain⟨p0,p1,X,Y,p4,Z,pf⟩:=zC Q.out.2.2.1
  go_wp2_with fail
  refine (zbP c _ [zU] w2 Q.out (by have:=U.out;simp only[zw,List.foldl_cons,List.foldl_nil,ByteArray.size_append] at this ⊢;omega) (by simp)).mono ?_
  rintro e w3 ⟨rfl,z,V,L⟩
  have ae:=zc z
  have ab:=zc (ac.out.trans V)
  have aa:=zc (ad.out.trans L)
  clear z V L p0 p1 X Y p4 Z pf
  go_wp2
  go_end0
  exact⟨rfl,(by have z:=ae.out;unfold zai;rw[if_pos rfl];simp only[zw,List.foldl_cons,List.foldl_nil,←ByteArray.append_assoc] at z ⊢;exact z),ab.out,aa.out⟩
def zbc (k:Int) (n:ByteArray):ByteArray:=
 if n.toList==[42,100,101,102,97,117,108,116] then ({data:=#[101,120,112,111,114,116,32]}:ByteArray)++({data:=#[100,101,102,97,117,108,116]}:ByteArray)++({data:=#[32]}:ByteArray)
 else if k==1 then ({data:=#[108,101,116,32]}:ByteArray)++n++({data:=#[32,61,32]}:ByteArray)
 else if k==2 then ({data:=#[102,117,110,99,116,105,111,110,32]}:ByteArray)++n++({data:=#[40,41,32,123,32,114,101,116,117,114,110,32]}:ByteArray)
 else if k==3 then n++({data:=#[32,61,32]}:ByteArray)
 else if k==4 then ({data:=#[112,114,105,110,116,40]}:ByteArray)
 else if k==5 then ({data:=#[116,104,114,111,119,32]}:ByteArray)
 else ({data:=#[102,97,105,108,32]}:ByteArray)
def zaV (k:Int) (n:ByteArray):ByteArray:=
 if n.toList==[42,100,101,102,97,117,108,116] then ({data:=#[59]}:ByteArray) else if k==2 then ({data:=#[59,32,125]}:ByteArray) else if k==4 then ({data:=#[41,59]}:ByteArray) else ({data:=#[59]}:ByteArray)
theorem zl7 {k:Int} {n:ByteArray} (e:(n.toList==[42,100,101,102,97,117,108,116])=true):zbc k n=({data:=#[101,120,112,111,114,116,32]}:ByteArray)++({data:=#[100,101,102,97,117,108,116]}:ByteArray)++({data:=#[32]}:ByteArray):=by rw[zbc,e];rfl
theorem zl8 {k:Int} {n:ByteArray} (e:(n.toList==[42,100,101,102,97,117,108,116])=true):zaV k n=({data:=#[59]}:ByteArray):=by rw[zaV,e];rfl
theorem zl9 {k:Int} {n:ByteArray} (e:(n.toList==[42,100,101,102,97,117,108,116])=false) (j:(k==1)=true):zbc k n=({data:=#[108,101,116,32]}:ByteArray)++n++({data:=#[32,61,32]}:ByteArray):=by rw[zbc,e,j];rfl
theorem zlA {k:Int} {n:ByteArray} (e:(n.toList==[42,100,101,102,97,117,108,116])=false) (j:(k==1)=true):zaV k n=({data:=#[59]}:ByteArray):=by have q:=eq_of_beq j;subst q;rw[zaV,e];rfl
theorem zlB {k:Int} {n:ByteArray} (e:(n.toList==[42,100,101,102,97,117,108,116])=false) (j:(k==1)=false) (o:(k==2)=true):zbc k n=({data:=#[102,117,110,99,116,105,111,110,32]}:ByteArray)++n++({data:=#[40,41,32,123,32,114,101,116,117,114,110,32]}:ByteArray):=by rw[zbc,e,j,o];rfl
theorem zlC {k:Int} {n:ByteArray} (e:(n.toList==[42,100,101,102,97,117,108,116])=false) (j:(k==2)=true):zaV k n=({data:=#[59,32,125]}:ByteArray):=by rw[zaV,e,j];rfl
theorem zlD {k:Int} {n:ByteArray} (e:(n.toList==[42,100,101,102,97,117,108,116])=false) (o:(k==1)=false) (z:(k==2)=false) (j:(k==3)=true):zbc k n=n++({data:=#[32,61,32]}:ByteArray):=by rw[zbc,e,o,z,j];rfl
theorem zlE {k:Int} {n:ByteArray} (e:(n.toList==[42,100,101,102,97,117,108,116])=false) (j:(k==3)=true):zaV k n=({data:=#[59]}:ByteArray):=by have q:=eq_of_beq j;subst q;rw[zaV,e];rfl
theorem zlF {k:Int} {n:ByteArray} (e:(n.toList==[42,100,101,102,97,117,108,116])=false) (o:(k==1)=false) (z:(k==2)=false) (j:(k==3)=false) (D:(k==4)=true):zbc k n=({data:=#[112,114,105,110,116,40]}:ByteArray):=by rw[zbc,e,o,z,j,D];rfl
theorem zlG {k:Int} {n:ByteArray} (e:(n.toList==[42,100,101,102,97,117,108,116])=false) (o:(k==2)=false) (j:(k==4)=true):zaV k n=({data:=#[41,59]}:ByteArray):=by rw[zaV,e,o,j];rfl
theorem zlH {k:Int} {n:ByteArray} (e:(n.toList==[42,100,101,102,97,117,108,116])=false) (j:(k==1)=false) (o:(k==2)=false) (z:(k==3)=false) (E:(k==4)=false) (D:(k==5)=true):zbc k n=({data:=#[116,104,114,111,119,32]}:ByteArray):=by rw[zbc,e,j,o,z,E,D];rfl
theorem zlI {k:Int} {n:ByteArray} (e:(n.toList==[42,100,101,102,97,117,108,116])=false) (o:(k==2)=false) (j:(k==4)=false):zaV k n=({data:=#[59]}:ByteArray):=by rw[zaV,e,o,j];rfl
theorem zlJ {k:Int} {n:ByteArray} (e:(n.toList==[42,100,101,102,97,117,108,116])=false) (j:(k==1)=false) (o:(k==2)=false) (z:(k==3)=false) (E:(k==4)=false) (D:(k==5)=false):zbc k n=({data:=#[102,97,105,108,32]}:ByteArray):=by rw[zbc,e,j,o,z,E,D];rfl
theorem zlK {k:Int} {n:ByteArray} (e:(n.toList==[42,100,101,102,97,117,108,116])=false) (o:(k==2)=false) (j:(k==4)=false):zaV k n=({data:=#[59]}:ByteArray):=by rw[zaV,e,o,j];rfl
theorem zlL (k:Int) (n e:ByteArray):zcZ k n e=zbc k n++e++zaV k n++({data:=#[10]}:ByteArray):=by
 have I:({data:=#[59,10]}:ByteArray)=({data:=#[59]}:ByteArray)++({data:=#[10]}:ByteArray):=zcj #[59] #[10]
 have L:({data:=#[59,32,125,10]}:ByteArray)=({data:=#[59,32,125]}:ByteArray)++({data:=#[10]}:ByteArray):=zcj #[59,32,125] #[10]
 have H:({data:=#[41,59,10]}:ByteArray)=({data:=#[41,59]}:ByteArray)++({data:=#[10]}:ByteArray):=zcj #[41,59] #[10]
 have J:({data:=#[101,120,112,111,114,116,32,100,101,102,97,117,108,116,32]}:ByteArray)=({data:=#[101,120,112,111,114,116,32,100,101,102,97,117,108,116]}:ByteArray)++({data:=#[32]}:ByteArray):=zcj #[101,120,112,111,114,116,32,100,101,102,97,117,108,116] #[32]
 have K:({data:=#[101,120,112,111,114,116,32,100,101,102,97,117,108,116]}:ByteArray)=({data:=#[101,120,112,111,114,116,32]}:ByteArray)++({data:=#[100,101,102,97,117,108,116]}:ByteArray):=zcj #[101,120,112,111,114,116,32] #[100,101,102,97,117,108,116]
 unfold zcZ zd4
 rw[I,L,H,J,K]
 cases h:(n.toList==[42,100,101,102,97,117,108,116]) with
 |true=>rw[zl7 h,zl8 h];simp only[↓reduceIte,ByteArray.append_assoc]
 |false=>
  cases o:(k==1) with
  |true=>rw[zl9 h o,zlA h o];simp only[↓reduceIte,Bool.false_eq_true,ByteArray.append_assoc]
  |false=>
   cases j:(k==2) with
   |true=>rw[zlB h o j,zlC h j];simp only[↓reduceIte,Bool.false_eq_true,ByteArray.append_assoc]
   |false=>
    cases D:(k==3) with
    |true=>rw[zlD h o j D,zlE h D];simp only[↓reduceIte,Bool.false_eq_true,ByteArray.append_assoc]
    |false=>
     cases z:(k==4) with
     |true=>rw[zlF h o j D z,zlG h j z];simp only[↓reduceIte,Bool.false_eq_true,ByteArray.append_assoc]
     |false=>
      cases E:(k==5) with
      |true=>rw[zlH h o j D z E,zlI h j z];simp only[↓reduceIte,Bool.false_eq_true,ByteArray.append_assoc]
      |false=>
       rw[zlJ h o j D z E,zlK h j z];simp only[↓reduceIte,Bool.false_eq_true,ByteArray.append_assoc]
theorem zsy (k:Int) (n e:ByteArray):(zcZ k n e).size=(zbc k n).size+e.size+(zaV k n).size+1:=by
 rw[zlL,ByteArray.size_append,ByteArray.size_append,ByteArray.size_append]
 rfl
theorem zsz (c:PC) (t:ByteArray) (k:Int) (n:ByteArray) (i:Nat) (w:World) (ok:zc2 c i) (h:PP c t w) (M:(t++zcZ k n (prX c.m.ex i)).size≤140737488355328):
  Calls Tryz.prog 65 #[.pointer (some ⟨c.gp,0,none⟩),.agg #[.int .i64 k,.string n,.int .i64 (i:Int)]] w (PO c (t++zcZ k n (prX c.m.ex i)) w):=by
 have HP:=zc h
 have OK:=zc ok
 have Q:Hid (t.size+((zbc k n).size+(prX c.m.ex i).size+(zaV k n).size+1)≤140737488355328):=by show _≤_;rw[ByteArray.size_append,zsy] at M;exact M
 clear h M ok
 go_enter Tryz.func65,Tryz.ntmps65
 go_upto_region 1 with fail
 have HW:Hid (Below w.heap.size w (w.alloc (.cells #[.int .i64 k,.string n,.int .i64 (i:Int)] 79))):=(Below.refl _ _).alloc (Nat.le_refl _) _
 refine zaA (R:=fun W=>W.heap[w.heap.size]? =some (.cells #[.int .i64 k,.string n,.int .i64 (i:Int)] 79 (0,0))∧PP c t W∧Below c.B w W∧KeepB c.b w W) ⟨heap_alloc_new w _,HP.out.later HW.out,HW.out.mono HP.out.1.2,KeepB.of_below HW.out⟩ ?_
 obtain⟨gx,X⟩: ∃gx,gx=w.heap.size:=⟨_,rfl⟩
 have ar:gx≠c.b:=by
  rw[X]
  obtain⟨au,hc⟩:=zci HP.out.1.1
  have:=(Array.getElem?_eq_some_iff.1 hc).1
  omega
 rw[←X]
 rintro O ⟨hx,hp,hb,hk⟩
 clear X HW
 have X1:=zc hx
 have H:=zc hp
 have ap:=zc hb
 have ai:=zc hk
 clear hx hp hb hk
 obtain⟨x0,x1,x2,xf⟩:=zdm X1.out
 obtain⟨p0,p1,p2,p3,p4,p5,pf⟩:=zC H.out.2.2.1
 have ah:=(Array.getElem?_eq_some_iff.1 H.out.2.2.1).1
 have am:=(Array.getElem?_eq_some_iff.1 X1.out).1
 go_upto_block 0 with fail
 go_cut [4] from 5 to 76 (fun s4 wx=>s4= .string (zaV k n)∧PP c (t++zbc k n) wx∧Below c.B O wx∧KeepB c.b O wx)
 case first=>
  cases I:(n.toList==[42,100,101,102,97,117,108,116]) with
  |true=>
   have E:Hid (zbc k n=({data:=#[101,120,112,111,114,116,32]}:ByteArray)++({data:=#[100,101,102,97,117,108,116]}:ByteArray)++({data:=#[32]}:ByteArray)):=zl7 I
   have K:Hid (zaV k n=({data:=#[59]}:ByteArray)):=zl8 I
   have J:Hid ((zw t [{data:=#[101,120,112,111,114,116,32]},{data:=#[100,101,102,97,117,108,116]},{data:=#[32]}]).size≤140737488355328):=by show _≤_;have:=Q.out;rw[E.out] at this;simp only[zw,List.foldl_cons,List.foldl_nil,ByteArray.size_append] at this ⊢;omega
   go_wp2_with fail
   refine (zbP c t [{data:=#[101,120,112,111,114,116,32]},{data:=#[100,101,102,97,117,108,116]},{data:=#[32]}] O H.out J.out (by simp)).mono ?_
   rintro e V ⟨rfl,j,D,o⟩
   go_wp2_with fail
   go_meet
   exact⟨by rw[K.out],by rw[E.out];simp only[zw,List.foldl_cons,List.foldl_nil,←ByteArray.append_assoc] at j ⊢;exact j,D,o⟩
  |false=>
   cases U:(k==1) with
   |true=>
    have E:Hid (zbc k n=({data:=#[108,101,116,32]}:ByteArray)++n++({data:=#[32,61,32]}:ByteArray)):=zl9 I U
    have K:Hid (zaV k n=({data:=#[59]}:ByteArray)):=zlA I U
    have J:Hid ((zw t [{data:=#[108,101,116,32]},n,{data:=#[32,61,32]}]).size≤140737488355328):=by show _≤_;have:=Q.out;rw[E.out] at this;simp only[zw,List.foldl_cons,List.foldl_nil,ByteArray.size_append] at this ⊢;omega
    go_wp2_with fail
    go_region_with (go_at_call 23;refine (zcz c t [{data:=#[108,101,116,32]},n,{data:=#[32,61,32]}] O H.out J.out (by simp)).mono ?_;rintro e V ⟨rfl,j,D,o⟩)
    all_goals (go_wp2_with fail;go_meet;exact⟨by rw[K.out],by rw[E.out];simp only[zw,List.foldl_cons,List.foldl_nil,←ByteArray.append_assoc] at j ⊢;exact j,D,o⟩)
   |false=>
    cases N:(k==2) with
    |true=>
     have E:Hid (zbc k n=({data:=#[102,117,110,99,116,105,111,110,32]}:ByteArray)++n++({data:=#[40,41,32,123,32,114,101,116,117,114,110,32]}:ByteArray)):=zlB I U N
     have K:Hid (zaV k n=({data:=#[59,32,125]}:ByteArray)):=zlC I N
     have J:Hid ((zw t [{data:=#[102,117,110,99,116,105,111,110,32]},n,{data:=#[40,41,32,123,32,114,101,116,117,114,110,32]}]).size≤140737488355328):=by show _≤_;have:=Q.out;rw[E.out] at this;simp only[zw,List.foldl_cons,List.foldl_nil,ByteArray.size_append] at this ⊢;omega
     go_wp2_with fail
     go_region_with (go_at_call 23;refine (zcz c t [{data:=#[102,117,110,99,116,105,111,110,32]},n,{data:=#[40,41,32,123,32,114,101,116,117,114,110,32]}] O H.out J.out (by simp)).mono ?_;rintro e V ⟨rfl,j,D,o⟩)
     all_goals (go_wp2_with fail;go_meet;exact⟨by rw[K.out],by rw[E.out];simp only[zw,List.foldl_cons,List.foldl_nil,←ByteArray.append_assoc] at j ⊢;exact j,D,o⟩)
    |false=>
     cases h3:(k==3) with
     |true=>
      have E:Hid (zbc k n=n++({data:=#[32,61,32]}:ByteArray)):=zlD I U N h3
      have K:Hid (zaV k n=({data:=#[59]}:ByteArray)):=zlE I h3
      have J:Hid ((zw t [n,{data:=#[32,61,32]}]).size≤140737488355328):=by show _≤_;have:=Q.out;rw[E.out] at this;simp only[zw,List.foldl_cons,List.foldl_nil,ByteArray.size_append] at this ⊢;omega
      go_wp2_with fail
      go_region_with (go_at_call 23;refine (zcz c t [n,{data:=#[32,61,32]}] O H.out J.out (by simp)).mono ?_;rintro e V ⟨rfl,j,D,o⟩)
      all_goals (go_wp2_with fail;go_meet;exact⟨by rw[K.out],by rw[E.out];simp only[zw,List.foldl_cons,List.foldl_nil,←ByteArray.append_assoc] at j ⊢;exact j,D,o⟩)
     |false=>
      cases Y:(k==4) with
      |true=>
       have E:Hid (zbc k n=({data:=#[112,114,105,110,116,40]}:ByteArray)):=zlF I U N h3 Y
       have K:Hid (zaV k n=({data:=#[41,59]}:ByteArray)):=zlG I N Y
       have J:Hid ((zw t [{data:=#[112,114,105,110,116,40]}]).size≤140737488355328):=by show _≤_;have:=Q.out;rw[E.out] at this;simp only[zw,List.foldl_cons,List.foldl_nil,ByteArray.size_append] at this ⊢;omega
       go_wp2_with fail
       refine (zbP c t [{data:=#[112,114,105,110,116,40]}] O H.out J.out (by simp)).mono ?_
       rintro e V ⟨rfl,j,D,o⟩
       go_wp2_with fail
       go_meet
       exact⟨by rw[K.out],by rw[E.out];exact j,D,o⟩
      |false=>
       cases h5:(k==5) with
       |true=>
        have E:Hid (zbc k n=({data:=#[116,104,114,111,119,32]}:ByteArray)):=zlH I U N h3 Y h5
        have K:Hid (zaV k n=({data:=#[59]}:ByteArray)):=zlI I N Y
        have J:Hid ((zw t [{data:=#[116,104,114,111,119,32]}]).size≤140737488355328):=by show _≤_;have:=Q.out;rw[E.out] at this;simp only[zw,List.foldl_cons,List.foldl_nil,ByteArray.size_append] at this ⊢;omega
        go_wp2_with fail
        refine (zbP c t [{data:=#[116,104,114,111,119,32]}] O H.out J.out (by simp)).mono ?_
        rintro e V ⟨rfl,j,D,o⟩
        go_wp2_with fail
        go_meet
        exact⟨by rw[K.out],by rw[E.out];exact j,D,o⟩
       |false=>
        have E:Hid (zbc k n=({data:=#[102,97,105,108,32]}:ByteArray)):=zlJ I U N h3 Y h5
        have K:Hid (zaV k n=({data:=#[59]}:ByteArray)):=zlK I N Y
        have J:Hid ((zw t [{data:=#[102,97,105,108,32]}]).size≤140737488355328):=by show _≤_;have:=Q.out;rw[E.out] at this;simp only[zw,List.foldl_cons,List.foldl_nil,ByteArray.size_append] at this ⊢;omega
        go_wp2_with fail
        refine (zbP c t [{data:=#[102,97,105,108,32]}] O H.out J.out (by simp)).mono ?_
        rintro e V ⟨rfl,j,D,o⟩
        go_wp2_with fail
        go_meet
        exact⟨by rw[K.out],by rw[E.out];exact j,D,o⟩
 case rest=>
 rename_i s4 V
 obtain⟨rfl,j,D,o⟩:=hcut
 have aq:=zc j
 have ak:=zc (ap.out.trans D)
 have al:=zc (ai.out.trans o)
 have X2:=zc ((o _ _ _ _ X1.out ar (by decide)).trans X1.out)
 clear j D o p0 p1 p2 p3 p4 p5 pf x0 x1 x2 xf ah am
 obtain⟨x0,x1,x2,xf⟩:=zdm X2.out
 go_wp2_with fail
 refine (OK.out _ _ aq.out (by have:=Q.out;simp only[ByteArray.size_append] at this ⊢;omega)).mono ?_
 rintro e w3 ⟨rfl,L,ad,aa⟩
 have ab:=zc L
 have aj:=zc (ak.out.trans ad)
 have ag:=zc (al.out.trans aa)
 clear L ad aa x0 x1 x2 xf
 obtain⟨p0,p1,p2,p3,p4,p5,pf⟩:=zC ab.out.2.2.1
 go_wp2_with fail
 refine (zbP c _ [zaV k n,{data:=#[10]}] _ ab.out (by have:=Q.out;have z:(({data:=#[10]}:ByteArray)).size=1:=rfl;simp only[zw,List.foldl_cons,List.foldl_nil,ByteArray.size_append,z] at this ⊢;omega) (by simp)).mono ?_
 rintro e w4 ⟨rfl,Z,ac,ae⟩
 have an:=zc Z
 have ao:=zc (aj.out.trans ac)
 have af:=zc (ag.out.trans ae)
 clear Z ac ae p0 p1 p2 p3 p4 p5 pf
 go_wp2
 go_end0
 exact⟨rfl,(by have L:=an.out;rw[zlL];simp only[zw,List.foldl_cons,List.foldl_nil,←ByteArray.append_assoc] at L ⊢;exact L),ao.out,af.out⟩
theorem zhj {α:Type} {l:List α} {j:Nat} (h:j<l.length): ∃x,l[j]? =some x:=⟨_,List.getElem?_eq_getElem h⟩
theorem zs0 (l:List ByteArray):l.map Value.string=l.flatMap (fun x=>[Value.string x]):=by
 induction l with
 |nil=>rfl
 |cons x l j=>rw[List.map_cons,List.flatMap_cons,j];rfl
theorem zs1 (t:ByteArray):t++sNone=t:=by
 cases t with
 |mk d=>
  show ByteArray.append _ _=_
  simp[ByteArray.append]
theorem zlM (m:Md):(acc epF m.ep (acc zaO m.im (acc rqT m.rq sNone))).size≤(zbZ m).size:=zgM _ _ _
theorem zlN (m:Md):(acc zaO m.im (acc rqT m.rq sNone)).size≤(zbZ m).size:=Nat.le_trans (zgM _ _ _) (zlM m)
theorem zs2 (m:Md):(acc rqT m.rq sNone).size≤(zbZ m).size:=Nat.le_trans (zgM _ _ _) (zlN m)
theorem zlO (s:ByteArray):rqT s=({data:=#[105,109,112,111,114,116,32]}:ByteArray)++zaL s++({data:=#[59]}:ByteArray)++({data:=#[10]}:ByteArray):=by
 have j:({data:=#[59,10]}:ByteArray)={data:=#[59]}++{data:=#[10]}:=zcj #[59] #[10]
 rw[rqT,j]
 simp only[ByteArray.append_assoc]
theorem zlP {x:Ep} (h:(x.loc.toList==[42,100,101,102,97,117,108,116])=false):epF x=zc7 x:=by rw[epF,h];rfl
theorem zs3 {x:Ep} (h:(x.loc.toList==[42,100,101,102,97,117,108,116])=true):epF x=sNone:=by rw[epF,h];rfl
theorem zs4 (c:PC) (w:World) (ok: ∀i,i<c.m.ex.length→zc2 c i) (hs: ∀s∈c.m.st,0≤s.expr∧s.expr<(c.m.ex.length:Int)) (hm:Small c.m) (h:PP c sNone w) (ae:(zbZ c.m).size≤140737488355328):
  Calls Tryz.prog 25 #[.pointer (some ⟨c.gp,0,none⟩)] w (PO c (zbZ c.m) w):=by
 have ah:=zc h
 have SM:=zc hm
 have OK:=zc ok
 have HS:=zc hs
 have HL:=zc ae
 obtain⟨f1,f2,f3,f4,f5⟩:=hm.few
 clear h hm ok hs ae
 obtain⟨p0,p1,p2,p3,p4,p5,pf⟩:=zC ah.out.2.2.1
 go_enter Tryz.func25,Tryz.ntmps25
 go_wp2
 go_loopg [16] c.m.rq.length (fun k i wr=>∃j:Nat,i= .int .i64 j∧j+k=c.m.rq.length∧PP c (acc rqT (c.m.rq.take j) sNone) wr∧Below c.B w wr∧KeepB c.b w wr)
 case atStart=>exact⟨0,rfl,by omega,ah.out,Below.refl _ _,fun _ _ _ _ _ _ _=>rfl⟩
 case round=>
  obtain⟨j,rfl,hj,N,L,O⟩:=hrel
  have z:=zc N
  have I:=zc L
  have H:=zc O
  clear N L O p0 p1 p2 p3 p4 p5 pf
  obtain⟨p0,p1,p2,p3,p4,p5,pf⟩:=zC z.out.2.2.1
  by_cases Y:j<c.m.rq.length
  ·have J:(j:Int)<(c.m.rq.length:Int):=by omega
   obtain⟨x,o⟩:=zhj Y
   have E:=List.mem_of_getElem? o
   have HZ:Hid ((acc rqT (c.m.rq.take j) sNone++rqT x).size≤140737488355328):=by show _≤_;rw[←zd5 rqT o];exact Nat.le_trans (zgN rqT c.m.rq (j+1) sNone) (Nat.le_trans (zs2 c.m) HL.out)
   have HX:=zc o
   obtain⟨M,K⟩: ∃M,M=j+1:=⟨_,rfl⟩
   have ej:(j:Int)+1=(M:Int):=by omega
   have HJ:=zc K
   clear K
   obtain⟨g,hg,k0⟩: ∃g,c.S.rq.a=some ⟨g,0,none⟩∧wr.cell? ⟨g,j,none⟩=some (.string x):=by
    obtain⟨g,hg,hc⟩:=OwnR.elem (f:=fun x=>[Value.string x]) (m:=1) (fun _=>rfl) (show OwnR wr c.base 9 1 c.S.rq c.m.rq.length (c.m.rq.flatMap fun x=>[Value.string x]) by rw[←zs0];exact z.out.2.1.rq) o
    have k0:=hc 0 (by omega)
    simp only[Nat.mul_one,Nat.add_zero,List.getElem?_cons_zero] at k0
    exact⟨g,hg,k0⟩
   have ag:=SM.out.rq x E
   have HG:Hid (Value.slice c.S.rq.a c.m.rq.length c.S.rq.cap=Value.slice (some ⟨g,0,none⟩) c.m.rq.length c.S.rq.cap):=by show _=_;rw[hg]
   clear hg o E p0 p1 p2 p3 p4 p5 pf
   rw[HG.out]
   obtain⟨p0,p1,p2,p3,p4,p5,pf⟩:=zC z.out.2.2.1
   have ak:=(Array.getElem?_eq_some_iff.1 z.out.2.2.1).1
   go_wp2_with fail
   go_region_with (first|(go_at_call 62;refine (zhh x _ (by omega)).mono ?_;rintro e w' ⟨rfl,rfl⟩)|(go_at_call 23;refine (zcz c _ [{data:=#[105,109,112,111,114,116,32]},zaL x,{data:=#[59]},{data:=#[10]}] wr z.out (by have:=HZ.out;rw[zlO] at this;simp only[zw,List.foldl_cons,List.foldl_nil,ByteArray.size_append] at this ⊢;omega) (by simp)).mono ?_;rintro e w3 ⟨rfl,ac,aj,ai⟩))
   all_goals
    have ao:=zc ac
    have an:=zc (I.out.trans aj)
    have am:=zc (H.out.trans ai)
    clear ac aj ai p0 p1 p2 p3 p4 p5 pf ak k0
    go_wp2
    rw[←HG.out]
    go_roundg (gk-1)
    case rel=>exact⟨M,rfl,by have:=HJ.out;omega,by rw[HJ.out,zd5 rqT HX.out];exact (by have ac:=ao.out;rw[zlO];simp only[zw,List.foldl_cons,List.foldl_nil,←ByteArray.append_assoc] at ac ⊢;exact ac),an.out,am.out⟩
    case measure=>omega
  ·have J: ¬(j:Int)<(c.m.rq.length:Int):=by omega
   obtain rfl:j=c.m.rq.length:=by omega
   have HN:Hid (PP c (acc zaO (c.m.im.take 0) (acc rqT c.m.rq sNone)) wr):=by have:=z.out;rw[List.take_length] at this;exact this
   go_wp2
   go_loopg [35] c.m.im.length (fun k i wr=>∃j:Nat,i= .int .i64 j∧j+k=c.m.im.length∧PP c (acc zaO (c.m.im.take j) (acc rqT c.m.rq sNone)) wr∧Below c.B w wr∧KeepB c.b w wr)
   case atStart=>exact⟨0,rfl,by omega,HN.out,I.out,H.out⟩
   case round=>
    obtain⟨j,rfl,hj,N,L,O⟩:=hrel
    clear z I H HN
    have z:=zc N
    have I:=zc L
    have H:=zc O
    clear N L O p0 p1 p2 p3 p4 p5 pf
    obtain⟨p0,p1,p2,p3,p4,p5,pf⟩:=zC z.out.2.2.1
    by_cases Y:j<c.m.im.length
    ·have J:(j:Int)<(c.m.im.length:Int):=by omega
     obtain⟨x,o⟩:=zhj Y
     have E:=List.mem_of_getElem? o
     have HZ:Hid ((acc zaO (c.m.im.take j) (acc rqT c.m.rq sNone)++zaO x).size≤140737488355328):=by show _≤_;rw[←zd5 zaO o];exact Nat.le_trans (zgN zaO c.m.im (j+1) (acc rqT c.m.rq sNone)) (Nat.le_trans (zlN c.m) HL.out)
     have HX:=zc o
     obtain⟨M,K⟩: ∃M,M=j+1:=⟨_,rfl⟩
     have ej:(j:Int)+1=(M:Int):=by omega
     have HJ:=zc K
     clear K
     obtain⟨g,hg,D⟩:=OwnR.elem (f:=imL) (m:=3) (fun _=>rfl) z.out.2.1.im o
     have k0:=D 0 (by omega)
     have k1:=D 1 (by omega)
     have k2:=D 2 (by omega)
     simp only[imL,Nat.add_zero,List.getElem?_cons_zero,List.getElem?_cons_succ] at k0 k1 k2
     clear D
     have ag:=(SM.out.im x E).1
     have HG:Hid (Value.slice c.S.im.a c.m.im.length c.S.im.cap=Value.slice (some ⟨g,0,none⟩) c.m.im.length c.S.im.cap):=by show _=_;rw[hg]
     clear hg o E p0 p1 p2 p3 p4 p5 pf
     rw[HG.out]
     go_upto_region 8 with fail
     have Z:Hid (Below wr.heap.size wr (wr.alloc (.cells #[.string x.spec,.string x.first,.string x.loc] 75))):=(Below.refl _ _).alloc (Nat.le_refl _) _
     refine zaA (R:=fun W=>W.heap[wr.heap.size]? =some (.cells #[.string x.spec,.string x.first,.string x.loc] 75 (0,0))∧PP c (acc zaO (c.m.im.take j) (acc rqT c.m.rq sNone)) W∧Below c.B w W∧KeepB c.b w W) ⟨heap_alloc_new wr _,z.out.later Z.out,I.out.trans (Z.out.mono z.out.1.2),H.out.trans (KeepB.of_below Z.out)⟩ ?_
     obtain⟨gx,X⟩: ∃gx,gx=wr.heap.size:=⟨_,rfl⟩
     rw[←X]
     clear k0 k1 k2 Z
     rintro W ⟨xb,N,L,O⟩
     clear X z I H
     have XB:=zc xb
     have z:=zc N
     have I:=zc L
     have H:=zc O
     clear xb N L O
     obtain⟨x0,x1,x2,xf⟩:=zdm XB.out
     go_wp2_with fail
     refine (zss c _ x W z.out HZ.out (by omega)).mono ?_
     rintro e W2 ⟨rfl,V,U,Q⟩
     have ad:=zc V
     have ab:=zc (I.out.trans U)
     have aa:=zc (H.out.trans Q)
     clear V U Q x0 x1 x2 xf
     go_wp2
     rw[←HG.out]
     go_roundg (gk-1)
     case rel=>exact⟨M,rfl,by have:=HJ.out;omega,by rw[HJ.out,zd5 zaO HX.out];exact ad.out,ab.out,aa.out⟩
     case measure=>omega
    ·have J: ¬(j:Int)<(c.m.im.length:Int):=by omega
     obtain rfl:j=c.m.im.length:=by omega
     have HN:Hid (PP c (acc epF (c.m.ep.take 0) (acc zaO c.m.im (acc rqT c.m.rq sNone))) wr):=by have:=z.out;rw[List.take_length] at this;exact this
     go_wp2
     go_loopg [49] c.m.ep.length (fun k i wr=>∃j:Nat,i= .int .i64 j∧j+k=c.m.ep.length∧PP c (acc epF (c.m.ep.take j) (acc zaO c.m.im (acc rqT c.m.rq sNone))) wr∧Below c.B w wr∧KeepB c.b w wr)
     case atStart=>exact⟨0,rfl,by omega,HN.out,I.out,H.out⟩
     case round=>
      obtain⟨j,rfl,hj,N,L,O⟩:=hrel
      clear z I H HN
      have z:=zc N
      have I:=zc L
      have H:=zc O
      clear N L O p0 p1 p2 p3 p4 p5 pf
      obtain⟨p0,p1,p2,p3,p4,p5,pf⟩:=zC z.out.2.2.1
      by_cases Y:j<c.m.ep.length
      ·have J:(j:Int)<(c.m.ep.length:Int):=by omega
       obtain⟨x,o⟩:=zhj Y
       have E:=List.mem_of_getElem? o
       have HZ:Hid ((acc epF (c.m.ep.take j) (acc zaO c.m.im (acc rqT c.m.rq sNone))++epF x).size≤140737488355328):=by show _≤_;rw[←zd5 epF o];exact Nat.le_trans (zgN epF c.m.ep (j+1) (acc zaO c.m.im (acc rqT c.m.rq sNone))) (Nat.le_trans (zlM c.m) HL.out)
       have HX:=zc o
       obtain⟨M,K⟩: ∃M,M=j+1:=⟨_,rfl⟩
       have ej:(j:Int)+1=(M:Int):=by omega
       have HJ:=zc K
       clear K
       obtain⟨g,hg,D⟩:=OwnR.elem (f:=epL) (m:=4) (fun _=>rfl) z.out.2.1.ep o
       have k0:=D 0 (by omega)
       have k1:=D 1 (by omega)
       have k2:=D 2 (by omega)
       have k3:=D 3 (by omega)
       simp only[epL,Nat.add_zero,List.getElem?_cons_zero,List.getElem?_cons_succ] at k0 k1 k2 k3
       clear D
       have ag:=(SM.out.ep x E).1
       have HG:Hid (Value.slice c.S.ep.a c.m.ep.length c.S.ep.cap=Value.slice (some ⟨g,0,none⟩) c.m.ep.length c.S.ep.cap):=by show _=_;rw[hg]
       clear hg o E p0 p1 p2 p3 p4 p5 pf
       rw[HG.out]
       go_upto_region 13 with fail
       have Z:Hid (Below wr.heap.size wr (wr.alloc (.cells #[.int .i64 x.kind,.string x.name,.string x.loc,.string x.spec] 77))):=(Below.refl _ _).alloc (Nat.le_refl _) _
       refine zaA (R:=fun W=>W.heap[wr.heap.size]? =some (.cells #[.int .i64 x.kind,.string x.name,.string x.loc,.string x.spec] 77 (0,0))∧PP c (acc epF (c.m.ep.take j) (acc zaO c.m.im (acc rqT c.m.rq sNone))) W∧Below c.B w W∧KeepB c.b w W) ⟨heap_alloc_new wr _,z.out.later Z.out,I.out.trans (Z.out.mono z.out.1.2),H.out.trans (KeepB.of_below Z.out)⟩ ?_
       obtain⟨gx,X⟩: ∃gx,gx=wr.heap.size:=⟨_,rfl⟩
       rw[←X]
       clear k0 k1 k2 k3 Z
       rintro W ⟨xb,N,L,O⟩
       clear X z I H
       have XB:=zc xb
       have z:=zc N
       have I:=zc L
       have H:=zc O
       clear xb N L O
       obtain⟨x0,x1,x2,x3,xf⟩:=zek XB.out
       cases e1:(x.loc.toList==[42,100,101,102,97,117,108,116]) with
       |false=>
        go_wp2_with fail
        refine (zsx c _ x W z.out (by have:=HZ.out;rw[zlP e1] at this;exact this) (by omega)).mono ?_
        rintro e W2 ⟨rfl,V,U,Q⟩
        have ad:=zc V
        have ab:=zc (I.out.trans U)
        have aa:=zc (H.out.trans Q)
        clear V U Q x0 x1 x2 x3 xf
        go_wp2
        rw[←HG.out]
        go_roundg (gk-1)
        case rel=>exact⟨M,rfl,by have:=HJ.out;omega,by rw[HJ.out,zd5 epF HX.out];exact (by rw[zlP e1];exact ad.out),ab.out,aa.out⟩
        case measure=>omega
       |true=>
        go_wp2
        rw[←HG.out]
        go_roundg (gk-1)
        case rel=>exact⟨M,rfl,by have:=HJ.out;omega,by rw[HJ.out,zd5 epF HX.out];exact (by rw[zs3 e1,zs1];exact z.out),I.out,H.out⟩
        case measure=>omega
      ·have J: ¬(j:Int)<(c.m.ep.length:Int):=by omega
       obtain rfl:j=c.m.ep.length:=by omega
       have HN:Hid (PP c (acc (zc8 c.m.ex) (c.m.st.take 0) (zda c.m)) wr):=by have:=z.out;rw[List.take_length] at this;exact this
       go_wp2
       go_loopg [66] c.m.st.length (fun k i wr=>∃j:Nat,i= .int .i64 j∧j+k=c.m.st.length∧PP c (acc (zc8 c.m.ex) (c.m.st.take j) (zda c.m)) wr∧Below c.B w wr∧KeepB c.b w wr)
       case atStart=>exact⟨0,rfl,by omega,HN.out,I.out,H.out⟩
       case round=>
        obtain⟨j,rfl,hj,N,L,O⟩:=hrel
        clear z I H HN
        have z:=zc N
        have I:=zc L
        have H:=zc O
        clear N L O p0 p1 p2 p3 p4 p5 pf
        obtain⟨p0,p1,p2,p3,p4,p5,pf⟩:=zC z.out.2.2.1
        by_cases Y:j<c.m.st.length
        ·have J:(j:Int)<(c.m.st.length:Int):=by omega
         obtain⟨x,o⟩:=zhj Y
         have E:=List.mem_of_getElem? o
         have HZ:Hid ((acc (zc8 c.m.ex) (c.m.st.take j) (zda c.m)++(zc8 c.m.ex) x).size≤140737488355328):=by show _≤_;rw[←zd5 (zc8 c.m.ex) o];exact Nat.le_trans (zgN (zc8 c.m.ex) c.m.st (j+1) (zda c.m)) HL.out
         have HX:=zc o
         obtain⟨M,K⟩: ∃M,M=j+1:=⟨_,rfl⟩
         have ej:(j:Int)+1=(M:Int):=by omega
         have HJ:=zc K
         clear K
         obtain⟨ei,af⟩: ∃n:Nat,x.expr=(n:Int):=⟨x.expr.toNat,by have:=HS.out x E;omega⟩
         have al:ei<c.m.ex.length:=by have:=HS.out x E;omega
         obtain⟨g,hg,D⟩:=OwnR.elem (f:=smL) (m:=3) (fun _=>rfl) z.out.2.1.st o
         have k0:=D 0 (by omega)
         have k1:=D 1 (by omega)
         have k2:=D 2 (by omega)
         simp only[smL,Nat.add_zero,List.getElem?_cons_zero,List.getElem?_cons_succ,af] at k0 k1 k2
         clear D
         have HG:Hid (Value.slice c.S.st.a c.m.st.length c.S.st.cap=Value.slice (some ⟨g,0,none⟩) c.m.st.length c.S.st.cap):=by show _=_;rw[hg]
         clear hg o E p0 p1 p2 p3 p4 p5 pf
         rw[HG.out]
         go_upto_region 19 with fail
         have Z:Hid (Below wr.heap.size wr (wr.alloc (.cells #[.int .i64 x.kind,.string x.name,.int .i64 (ei:Int)] 79))):=(Below.refl _ _).alloc (Nat.le_refl _) _
         refine zaA (R:=fun W=>W.heap[wr.heap.size]? =some (.cells #[.int .i64 x.kind,.string x.name,.int .i64 (ei:Int)] 79 (0,0))∧PP c (acc (zc8 c.m.ex) (c.m.st.take j) (zda c.m)) W∧Below c.B w W∧KeepB c.b w W) ⟨heap_alloc_new wr _,z.out.later Z.out,I.out.trans (Z.out.mono z.out.1.2),H.out.trans (KeepB.of_below Z.out)⟩ ?_
         obtain⟨gx,X⟩: ∃gx,gx=wr.heap.size:=⟨_,rfl⟩
         rw[←X]
         clear k0 k1 k2 Z
         rintro W ⟨xb,N,L,O⟩
         clear X z I H
         have XB:=zc xb
         have z:=zc N
         have I:=zc L
         have H:=zc O
         clear xb N L O
         obtain⟨x0,x1,x2,xf⟩:=zdm XB.out
         go_wp2_with fail
         refine (zsz c _ x.kind x.name ei W (OK.out ei al) z.out (by have:=HZ.out;rw[zc8,af,Int.toNat_natCast] at this;exact this)).mono ?_
         rintro e W2 ⟨rfl,V,U,Q⟩
         have ad:=zc V
         have ab:=zc (I.out.trans U)
         have aa:=zc (H.out.trans Q)
         clear V U Q x0 x1 x2 xf
         go_wp2
         rw[←HG.out]
         go_roundg (gk-1)
         case rel=>exact⟨M,rfl,by have:=HJ.out;omega,by rw[HJ.out,zd5 (zc8 c.m.ex) HX.out];exact (by rw[zc8,af,Int.toNat_natCast];exact ad.out),ab.out,aa.out⟩
         case measure=>omega
        ·have J: ¬(j:Int)<(c.m.st.length:Int):=by omega
         obtain rfl:j=c.m.st.length:=by omega
         have HN:Hid (PP c (zbZ c.m) wr):=by have:=z.out;rw[List.take_length] at this;exact this
         go_wp2
         go_end0
         exact⟨rfl,HN.out,I.out,H.out⟩
theorem zlQ (c:PC) (t:ByteArray) (k M:Int) (E j V:ByteArray) (l r:Nat) (w:World) (aa:zc2 c l) (Y:zc2 c r) (hr:r<c.m.ex.length) (h:PP c t w) (o:(t++(prX c.m.ex l++V++zai (zA (c.m.ex.getD r zn).kind) (prX c.m.ex r))).size≤140737488355328):
  Calls Tryz.prog 130 #[.pointer (some ⟨c.gp,0,none⟩),.agg #[.int .i64 k,.int .i64 M,.string E,.string j,.int .i64 (l:Int),.int .i64 (r:Int)],.string V] w (PO c (t++(prX c.m.ex l++V++zai (zA (c.m.ex.getD r zn).kind) (prX c.m.ex r))) w):=by
 have HP:=zc h
 obtain⟨X,N⟩: ∃X,(c.m.ex.getD r zn).kind=X:=⟨_,rfl⟩
 rw[N] at o ⊢
 have KK:=zc N
 have HL:Hid (t.size+((prX c.m.ex l).size+V.size+(zai (zA X) (prX c.m.ex r)).size)≤140737488355328):=by show _≤_;simp only[ByteArray.size_append] at o;exact o
 obtain⟨T,hT⟩: ∃T,T=prX c.m.ex l++V++zai (zA X) (prX c.m.ex r):=⟨_,rfl⟩
 rw[←hT]
 have HT:=zc hT
 have ai:=zc aa
 have ad:=zc Y
 have HR:=zc hr
 clear h o aa Y hr N hT
 go_enter Tryz.func130,Tryz.ntmps130
 go_upto_region 1 with fail
 have HW:Hid (Below w.heap.size w (w.alloc (.cells #[.int .i64 k,.int .i64 M,.string E,.string j,.int .i64 (l:Int),.int .i64 (r:Int)] 81))):=(Below.refl _ _).alloc (Nat.le_refl _) _
 refine zaA (R:=fun W=>W.heap[w.heap.size]? =some (.cells #[.int .i64 k,.int .i64 M,.string E,.string j,.int .i64 (l:Int),.int .i64 (r:Int)] 81 (0,0))∧PP c t W∧Below c.B w W∧KeepB c.b w W) ⟨heap_alloc_new w _,HP.out.later HW.out,HW.out.mono HP.out.1.2,KeepB.of_below HW.out⟩ ?_
 obtain⟨gx,Q⟩: ∃gx,gx=w.heap.size:=⟨_,rfl⟩
 have ab:gx≠c.b:=by
  rw[Q]
  obtain⟨ak,hc⟩:=zci HP.out.1.1
  have:=(Array.getElem?_eq_some_iff.1 hc).1
  omega
 rw[←Q]
 rintro w1 ⟨hx,D,H,z⟩
 clear Q HW
 have X1:=zc hx
 have L:=zc D
 have aj:=zc H
 have ae:=zc z
 clear hx D H z
 obtain⟨x0,x1,x2,x3,x4,x5,xf⟩:=zC X1.out
 obtain⟨p0,p1,p2,p3,p4,p5,pf⟩:=zC L.out.2.2.1
 have I:=(Array.getElem?_eq_some_iff.1 L.out.2.2.1).1
 have J:=(Array.getElem?_eq_some_iff.1 X1.out).1
 go_wp2_with fail
 refine (zhi c t l false w1 ai.out L.out (by have:=HL.out;simp only[zai,Bool.false_eq_true,↓reduceIte,ByteArray.size_append] at this ⊢;omega)).mono ?_
 rintro e w2 ⟨rfl,D,H,z⟩
 have O:=zc D
 have ag:=zc (aj.out.trans H)
 have ah:=zc (ae.out.trans z)
 have X2:=zc ((z _ _ _ _ X1.out ab (by decide)).trans X1.out)
 clear D H z p0 p1 p2 p3 p4 p5 pf x0 x1 x2 x3 x4 x5 xf I J
 obtain⟨x0,x1,x2,x3,x4,x5,xf⟩:=zC X2.out
 obtain⟨p0,p1,p2,p3,p4,p5,pf⟩:=zC O.out.2.2.1
 have I:=(Array.getElem?_eq_some_iff.1 O.out.2.2.1).1
 have J:=(Array.getElem?_eq_some_iff.1 X2.out).1
 go_wp2_with fail
 refine (zbP c _ [V] w2 O.out (by have:=HL.out;simp only[zw,zai,Bool.false_eq_true,↓reduceIte,List.foldl_cons,List.foldl_nil,ByteArray.size_append] at this ⊢;omega) (by simp)).mono ?_
 rintro e U ⟨rfl,D,H,z⟩
 have K:=zc D
 have af:=zc (ag.out.trans H)
 have ac:=zc (ah.out.trans z)
 have X3:=zc ((z _ _ _ _ X2.out ab (by decide)).trans X2.out)
 clear D H z p0 p1 p2 p3 p4 p5 pf x0 x1 x2 x3 x4 x5 xf I J
 obtain⟨x0,x1,x2,x3,x4,x5,xf⟩:=zC X3.out
 obtain⟨p0,p1,p2,p3,p4,p5,pf⟩:=zC K.out.2.2.1
 have I:=(Array.getElem?_eq_some_iff.1 K.out.2.2.1).1
 have J:=(Array.getElem?_eq_some_iff.1 X3.out).1
 go_wp2_with fail
 have Z:=zc (K.out.later ((Below.refl U.heap.size U).drew))
 go_region_with (first|(go_at_call 132;refine (ziP c _ r _ Z.out HR.out).mono ?_;rintro e w' ⟨rfl,rfl⟩;rw[KK.out])|(go_at_call 105;refine (zgc _ _).mono ?_;rintro e w' ⟨rfl,rfl⟩)|(go_at_call 131;refine (zhi c _ r (zA X) _ ad.out Z.out (by have:=HL.out;simp only[zw,show ∀q,zai false q=q from fun _=>rfl,List.foldl_cons,List.foldl_nil,ByteArray.size_append] at this ⊢;omega)).mono ?_;rintro e w4 ⟨rfl,D,H,z⟩))
 all_goals (go_wp2;go_end0;exact⟨rfl,(by rw[HT.out];simp only[zw,show ∀q,zai false q=q from fun _=>rfl,List.foldl_cons,List.foldl_nil,←ByteArray.append_assoc] at D ⊢;exact D),af.out.trans ((((Below.refl U.heap.size U).drew).mono K.out.1.2).trans H),ac.out.trans ((KeepB.of_below ((Below.refl U.heap.size U).drew)).trans z)⟩)
theorem zs5 (c:PC) (t:ByteArray) (i:Nat) (j:Int) (z o:ByteArray) (l r:Int) (w:World) (h:PP c t w) (hi:i<c.m.ex.length) (L:c.m.ex.getD i zn=⟨1,j,z,o,l,r⟩) (hn: -9223372036854775808≤j∧j≤9223372036854775807) (D:(t++(strOfNums (zaN j))).size≤140737488355328):
  Calls Tryz.prog 109 #[.pointer (some ⟨c.gp,0,none⟩),.int .i64 (i:Int)] w (PO c (t++(strOfNums (zaN j))) w):=by
 have M:=zc h
 obtain⟨T,hT⟩: ∃T,T=strOfNums (zaN j):=⟨_,rfl⟩
 rw[←hT] at D ⊢
 have HT:=zc hT
 have HL:=zc D
 clear h D hT
 obtain⟨p0,p1,p2,p3,p4,p5,pf⟩:=zC M.out.2.2.1
 obtain⟨g,hg,K,x0,Y,x2,x3,x4,Z⟩:=M.out.2.1.expr hi
 rw[L] at x0 Y x2 x3 x4 Z
 dsimp only at x0 Y x2 x3 x4 Z
 rw[hg] at p4
 have aa:(i:Int)<(c.m.ex.length:Int):=by omega
 clear hg L
 go_enter Tryz.func109,Tryz.ntmps109
 go_upto_region 1 with fail
 have O:Hid (Below w.heap.size w (w.alloc (.cells #[.int .i64 1,.int .i64 j,.string z,.string o,.int .i64 l,.int .i64 r] 81))):=(Below.refl _ _).alloc (Nat.le_refl _) _
 refine zaA (R:=fun W=>W.heap[w.heap.size]? =some (.cells #[.int .i64 1,.int .i64 j,.string z,.string o,.int .i64 l,.int .i64 r] 81 (0,0))∧PP c t W∧Below c.B w W∧KeepB c.b w W) ⟨heap_alloc_new w _,M.out.later O.out,O.out.mono M.out.1.2,KeepB.of_below O.out⟩ ?_
 obtain⟨gx,J⟩: ∃gx,gx=w.heap.size:=⟨_,rfl⟩
 have aj:gx≠c.b:=by
  rw[J]
  obtain⟨ah,hc⟩:=zci M.out.1.1
  have:=(Array.getElem?_eq_some_iff.1 hc).1
  omega
 rw[←J]
 rintro w1 ⟨L,Q,X,V⟩
 clear J O K x0 Y x2 x3 x4 Z p0 p1 p2 p3 p4 p5 pf aa
 have U:=zc L
 have H:=zc Q
 have ad:=zc X
 have ac:=zc V
 clear L Q X V
 obtain⟨x0,Y,x2,x3,x4,Z,xf⟩:=zC U.out
 obtain⟨p0,p1,p2,p3,p4,p5,pf⟩:=zC H.out.2.2.1
 have K:=(Array.getElem?_eq_some_iff.1 H.out.2.2.1).1
 have ai:=(Array.getElem?_eq_some_iff.1 U.out).1
 have HN:=zc hn
 go_wp2_with fail
 go_region_with (first|(go_at_call 129;refine (znz j _ HN.out).mono ?_;rintro e w2 ⟨rfl,N⟩;have E:=zc (((Below.refl w1.heap.size w1).drew).trans N);have I:=zc (H.out.later E.out);have X2:=zc ((E.out.block _ (Array.getElem?_eq_some_iff.1 U.out).1).trans U.out);clear N;obtain⟨y0,y1,y2,y3,y4,y5,yf⟩:=zC X2.out;obtain⟨q0,q1,q2,q3,q4,q5,qf⟩:=zC I.out.2.2.1;have af:=(Array.getElem?_eq_some_iff.1 I.out.2.2.1).1;have ag:=(Array.getElem?_eq_some_iff.1 X2.out).1)|(go_at_call 23;refine (zbP c t [strOfNums (zaN j)] _ I.out (by have:=HL.out;rw[HT.out] at this;simp only[zw,List.foldl_cons,List.foldl_nil,ByteArray.size_append] at this ⊢;omega) (by simp)).mono ?_;rintro e w3 ⟨rfl,Q,ae,ab⟩))
 all_goals (have X:=(E.out.mono H.out.1.2).trans ae;have V:=(KeepB.of_below (b:=c.b) E.out).trans ab;go_wp2;go_end0;exact⟨rfl,(by rw[HT.out];exact Q),ad.out.trans X,ac.out.trans V⟩)
theorem zs6 (c:PC) (t:ByteArray) (i:Nat) (E:Int) (j o:ByteArray) (l r:Int) (w:World) (h:PP c t w) (hi:i<c.m.ex.length) (J:c.m.ex.getD i zn=⟨2,E,j,o,l,r⟩) (z:(t++(j)).size≤140737488355328):
  Calls Tryz.prog 109 #[.pointer (some ⟨c.gp,0,none⟩),.int .i64 (i:Int)] w (PO c (t++(j)) w):=by
 have K:=zc h
 obtain⟨T,hT⟩: ∃T,T=j:=⟨_,rfl⟩
 rw[←hT] at z ⊢
 have HT:=zc hT
 have HL:=zc z
 clear h z hT
 obtain⟨p0,p1,p2,p3,p4,p5,pf⟩:=zC K.out.2.2.1
 obtain⟨g,hg,I,V,Q,Y,Z,X,U⟩:=K.out.2.1.expr hi
 rw[J] at V Q Y Z X U
 dsimp only at V Q Y Z X U
 rw[hg] at p4
 have aa:(i:Int)<(c.m.ex.length:Int):=by omega
 clear hg J
 go_enter Tryz.func109,Tryz.ntmps109
 go_upto_region 1 with fail
 have L:Hid (Below w.heap.size w (w.alloc (.cells #[.int .i64 2,.int .i64 E,.string j,.string o,.int .i64 l,.int .i64 r] 81))):=(Below.refl _ _).alloc (Nat.le_refl _) _
 refine zaA (R:=fun W=>W.heap[w.heap.size]? =some (.cells #[.int .i64 2,.int .i64 E,.string j,.string o,.int .i64 l,.int .i64 r] 81 (0,0))∧PP c t W∧Below c.B w W∧KeepB c.b w W) ⟨heap_alloc_new w _,K.out.later L.out,L.out.mono K.out.1.2,KeepB.of_below L.out⟩ ?_
 obtain⟨gx,H⟩: ∃gx,gx=w.heap.size:=⟨_,rfl⟩
 have af:gx≠c.b:=by
  rw[H]
  obtain⟨ad,hc⟩:=zci K.out.1.1
  have:=(Array.getElem?_eq_some_iff.1 hc).1
  omega
 rw[←H]
 rintro w1 ⟨J,M,O,N⟩
 clear H L I V Q Y Z X U p0 p1 p2 p3 p4 p5 pf aa
 have X1:=zc J
 have D:=zc M
 have ac:=zc O
 have ab:=zc N
 clear J M O N
 obtain⟨V,Q,Y,Z,X,U,xf⟩:=zC X1.out
 obtain⟨p0,p1,p2,p3,p4,p5,pf⟩:=zC D.out.2.2.1
 have I:=(Array.getElem?_eq_some_iff.1 D.out.2.2.1).1
 have ae:=(Array.getElem?_eq_some_iff.1 X1.out).1
 go_wp2_with fail
 go_region_with (go_at_call 23;refine (zcz c t [j] w1 D.out (by have:=HL.out;rw[HT.out] at this;simp only[zw,List.foldl_cons,List.foldl_nil,ByteArray.size_append] at this ⊢;omega) (by simp)).mono ?_;rintro e w2 ⟨rfl,M,O,N⟩)
 all_goals (go_wp2;go_end0;exact⟨rfl,(by rw[HT.out];exact M),ac.out.trans O,ab.out.trans N⟩)
theorem zs7 (c:PC) (t:ByteArray) (i:Nat) (E:Int) (j o:ByteArray) (l r:Int) (w:World) (h:PP c t w) (hi:i<c.m.ex.length) (J:c.m.ex.getD i zn=⟨3,E,j,o,l,r⟩) (z:(t++(j++cParens)).size≤140737488355328):
  Calls Tryz.prog 109 #[.pointer (some ⟨c.gp,0,none⟩),.int .i64 (i:Int)] w (PO c (t++(j++cParens)) w):=by
 have L:=zc h
 obtain⟨T,hT⟩: ∃T,T=j++cParens:=⟨_,rfl⟩
 rw[←hT] at z ⊢
 have HT:=zc hT
 have HL:=zc z
 clear h z hT
 obtain⟨p0,p1,p2,p3,p4,p5,pf⟩:=zC L.out.2.2.1
 obtain⟨g,hg,I,V,Q,Y,Z,X,U⟩:=L.out.2.1.expr hi
 rw[J] at V Q Y Z X U
 dsimp only at V Q Y Z X U
 rw[hg] at p4
 have aa:(i:Int)<(c.m.ex.length:Int):=by omega
 clear hg J
 go_enter Tryz.func109,Tryz.ntmps109
 go_upto_region 1 with fail
 have M:Hid (Below w.heap.size w (w.alloc (.cells #[.int .i64 3,.int .i64 E,.string j,.string o,.int .i64 l,.int .i64 r] 81))):=(Below.refl _ _).alloc (Nat.le_refl _) _
 refine zaA (R:=fun W=>W.heap[w.heap.size]? =some (.cells #[.int .i64 3,.int .i64 E,.string j,.string o,.int .i64 l,.int .i64 r] 81 (0,0))∧PP c t W∧Below c.B w W∧KeepB c.b w W) ⟨heap_alloc_new w _,L.out.later M.out,M.out.mono L.out.1.2,KeepB.of_below M.out⟩ ?_
 obtain⟨gx,H⟩: ∃gx,gx=w.heap.size:=⟨_,rfl⟩
 have af:gx≠c.b:=by
  rw[H]
  obtain⟨ad,hc⟩:=zci L.out.1.1
  have:=(Array.getElem?_eq_some_iff.1 hc).1
  omega
 rw[←H]
 rintro w1 ⟨J,K,O,N⟩
 clear H M I V Q Y Z X U p0 p1 p2 p3 p4 p5 pf aa
 have X1:=zc J
 have D:=zc K
 have ac:=zc O
 have ab:=zc N
 clear J K O N
 obtain⟨V,Q,Y,Z,X,U,xf⟩:=zC X1.out
 obtain⟨p0,p1,p2,p3,p4,p5,pf⟩:=zC D.out.2.2.1
 have I:=(Array.getElem?_eq_some_iff.1 D.out.2.2.1).1
 have ae:=(Array.getElem?_eq_some_iff.1 X1.out).1
 go_wp2_with fail
 go_region_with (go_at_call 23;refine (zcz c t [j,cParens] w1 D.out (by have:=HL.out;rw[HT.out] at this;simp only[zw,List.foldl_cons,List.foldl_nil,ByteArray.size_append] at this ⊢;omega) (by simp)).mono ?_;rintro e w2 ⟨rfl,K,O,N⟩)
 all_goals (go_wp2;go_end0;exact⟨rfl,(by rw[HT.out];simp only[zw,List.foldl_cons,List.foldl_nil,←ByteArray.append_assoc] at K ⊢;exact K),ac.out.trans O,ab.out.trans N⟩)
theorem zs8 (c:PC) (t:ByteArray) (i:Nat) (E:Int) (o j:ByteArray) (l r:Int) (w:World) (h:PP c t w) (hi:i<c.m.ex.length) (J:c.m.ex.getD i zn=⟨4,E,o,j,l,r⟩) (z:(t++(o++cPoint++j)).size≤140737488355328):
  Calls Tryz.prog 109 #[.pointer (some ⟨c.gp,0,none⟩),.int .i64 (i:Int)] w (PO c (t++(o++cPoint++j)) w):=by
 have L:=zc h
 obtain⟨T,hT⟩: ∃T,T=o++cPoint++j:=⟨_,rfl⟩
 rw[←hT] at z ⊢
 have HT:=zc hT
 have HL:=zc z
 clear h z hT
 obtain⟨p0,p1,p2,p3,p4,p5,pf⟩:=zC L.out.2.2.1
 obtain⟨g,hg,I,V,Q,Y,Z,X,U⟩:=L.out.2.1.expr hi
 rw[J] at V Q Y Z X U
 dsimp only at V Q Y Z X U
 rw[hg] at p4
 have aa:(i:Int)<(c.m.ex.length:Int):=by omega
 clear hg J
 go_enter Tryz.func109,Tryz.ntmps109
 go_upto_region 1 with fail
 have M:Hid (Below w.heap.size w (w.alloc (.cells #[.int .i64 4,.int .i64 E,.string o,.string j,.int .i64 l,.int .i64 r] 81))):=(Below.refl _ _).alloc (Nat.le_refl _) _
 refine zaA (R:=fun W=>W.heap[w.heap.size]? =some (.cells #[.int .i64 4,.int .i64 E,.string o,.string j,.int .i64 l,.int .i64 r] 81 (0,0))∧PP c t W∧Below c.B w W∧KeepB c.b w W) ⟨heap_alloc_new w _,L.out.later M.out,M.out.mono L.out.1.2,KeepB.of_below M.out⟩ ?_
 obtain⟨gx,H⟩: ∃gx,gx=w.heap.size:=⟨_,rfl⟩
 have af:gx≠c.b:=by
  rw[H]
  obtain⟨ad,hc⟩:=zci L.out.1.1
  have:=(Array.getElem?_eq_some_iff.1 hc).1
  omega
 rw[←H]
 rintro w1 ⟨J,K,O,N⟩
 clear H M I V Q Y Z X U p0 p1 p2 p3 p4 p5 pf aa
 have X1:=zc J
 have D:=zc K
 have ac:=zc O
 have ab:=zc N
 clear J K O N
 obtain⟨V,Q,Y,Z,X,U,xf⟩:=zC X1.out
 obtain⟨p0,p1,p2,p3,p4,p5,pf⟩:=zC D.out.2.2.1
 have I:=(Array.getElem?_eq_some_iff.1 D.out.2.2.1).1
 have ae:=(Array.getElem?_eq_some_iff.1 X1.out).1
 go_wp2_with fail
 go_region_with (go_at_call 23;refine (zcz c t [o,cPoint,j] w1 D.out (by have:=HL.out;rw[HT.out] at this;simp only[zw,List.foldl_cons,List.foldl_nil,ByteArray.size_append] at this ⊢;omega) (by simp)).mono ?_;rintro e w2 ⟨rfl,K,O,N⟩)
 all_goals (go_wp2;go_end0;exact⟨rfl,(by rw[HT.out];simp only[zw,List.foldl_cons,List.foldl_nil,←ByteArray.append_assoc] at K ⊢;exact K),ac.out.trans O,ab.out.trans N⟩)
theorem zs9 (c:PC) (t:ByteArray) (i:Nat) (E:Int) (o j:ByteArray) (l r:Int) (w:World) (h:PP c t w) (hi:i<c.m.ex.length) (J:c.m.ex.getD i zn=⟨5,E,o,j,l,r⟩) (z:(t++(o++cPoint++j++cParens)).size≤140737488355328):
  Calls Tryz.prog 109 #[.pointer (some ⟨c.gp,0,none⟩),.int .i64 (i:Int)] w (PO c (t++(o++cPoint++j++cParens)) w):=by
 have L:=zc h
 obtain⟨T,hT⟩: ∃T,T=o++cPoint++j++cParens:=⟨_,rfl⟩
 rw[←hT] at z ⊢
 have HT:=zc hT
 have HL:=zc z
 clear h z hT
 obtain⟨p0,p1,p2,p3,p4,p5,pf⟩:=zC L.out.2.2.1
 obtain⟨g,hg,I,V,Q,Y,Z,X,U⟩:=L.out.2.1.expr hi
 rw[J] at V Q Y Z X U
 dsimp only at V Q Y Z X U
 rw[hg] at p4
 have aa:(i:Int)<(c.m.ex.length:Int):=by omega
 clear hg J
 go_enter Tryz.func109,Tryz.ntmps109
 go_upto_region 1 with fail
 have M:Hid (Below w.heap.size w (w.alloc (.cells #[.int .i64 5,.int .i64 E,.string o,.string j,.int .i64 l,.int .i64 r] 81))):=(Below.refl _ _).alloc (Nat.le_refl _) _
 refine zaA (R:=fun W=>W.heap[w.heap.size]? =some (.cells #[.int .i64 5,.int .i64 E,.string o,.string j,.int .i64 l,.int .i64 r] 81 (0,0))∧PP c t W∧Below c.B w W∧KeepB c.b w W) ⟨heap_alloc_new w _,L.out.later M.out,M.out.mono L.out.1.2,KeepB.of_below M.out⟩ ?_
 obtain⟨gx,H⟩: ∃gx,gx=w.heap.size:=⟨_,rfl⟩
 have af:gx≠c.b:=by
  rw[H]
  obtain⟨ad,hc⟩:=zci L.out.1.1
  have:=(Array.getElem?_eq_some_iff.1 hc).1
  omega
 rw[←H]
 rintro w1 ⟨J,K,O,N⟩
 clear H M I V Q Y Z X U p0 p1 p2 p3 p4 p5 pf aa
 have X1:=zc J
 have D:=zc K
 have ac:=zc O
 have ab:=zc N
 clear J K O N
 obtain⟨V,Q,Y,Z,X,U,xf⟩:=zC X1.out
 obtain⟨p0,p1,p2,p3,p4,p5,pf⟩:=zC D.out.2.2.1
 have I:=(Array.getElem?_eq_some_iff.1 D.out.2.2.1).1
 have ae:=(Array.getElem?_eq_some_iff.1 X1.out).1
 go_wp2_with fail
 go_region_with (go_at_call 23;refine (zcz c t [o,cPoint,j,cParens] w1 D.out (by have:=HL.out;rw[HT.out] at this;simp only[zw,List.foldl_cons,List.foldl_nil,ByteArray.size_append] at this ⊢;omega) (by simp)).mono ?_;rintro e w2 ⟨rfl,K,O,N⟩)
 all_goals (go_wp2;go_end0;exact⟨rfl,(by rw[HT.out];simp only[zw,List.foldl_cons,List.foldl_nil,←ByteArray.append_assoc] at K ⊢;exact K),ac.out.trans O,ab.out.trans N⟩)
theorem zsA (c:PC) (t:ByteArray) (i:Nat) (D:Int) (o j:ByteArray) (l r:Nat) (w:World) (h:PP c t w) (hi:i<c.m.ex.length) (J:c.m.ex.getD i zn=⟨6,D,o,j,(l:Int),(r:Int)⟩) (ad:zc2 c l) (ab:zc2 c r) (hr:r<c.m.ex.length) (z:(t++(prX c.m.ex l++tPlus++zai (zA (c.m.ex.getD r zn).kind) (prX c.m.ex r))).size≤140737488355328):
  Calls Tryz.prog 109 #[.pointer (some ⟨c.gp,0,none⟩),.int .i64 (i:Int)] w (PO c (t++(prX c.m.ex l++tPlus++zai (zA (c.m.ex.getD r zn).kind) (prX c.m.ex r))) w):=by
 have L:=zc h
 obtain⟨T,hT⟩: ∃T,T=prX c.m.ex l++tPlus++zai (zA (c.m.ex.getD r zn).kind) (prX c.m.ex r):=⟨_,rfl⟩
 rw[←hT] at z ⊢
 have HT:=zc hT
 have HL:=zc z
 clear h z hT
 obtain⟨p0,p1,p2,p3,p4,p5,pf⟩:=zC L.out.2.2.1
 obtain⟨g,hg,I,V,Q,Y,Z,X,U⟩:=L.out.2.1.expr hi
 rw[J] at V Q Y Z X U
 dsimp only at V Q Y Z X U
 rw[hg] at p4
 have aa:(i:Int)<(c.m.ex.length:Int):=by omega
 clear hg J
 go_enter Tryz.func109,Tryz.ntmps109
 go_upto_region 1 with fail
 have M:Hid (Below w.heap.size w (w.alloc (.cells #[.int .i64 6,.int .i64 D,.string o,.string j,.int .i64 (l:Int),.int .i64 (r:Int)] 81))):=(Below.refl _ _).alloc (Nat.le_refl _) _
 refine zaA (R:=fun W=>W.heap[w.heap.size]? =some (.cells #[.int .i64 6,.int .i64 D,.string o,.string j,.int .i64 (l:Int),.int .i64 (r:Int)] 81 (0,0))∧PP c t W∧Below c.B w W∧KeepB c.b w W) ⟨heap_alloc_new w _,L.out.later M.out,M.out.mono L.out.1.2,KeepB.of_below M.out⟩ ?_
 obtain⟨gx,H⟩: ∃gx,gx=w.heap.size:=⟨_,rfl⟩
 have ai:gx≠c.b:=by
  rw[H]
  obtain⟨ag,hc⟩:=zci L.out.1.1
  have:=(Array.getElem?_eq_some_iff.1 hc).1
  omega
 rw[←H]
 rintro w1 ⟨J,K,O,N⟩
 clear H M I V Q Y Z X U p0 p1 p2 p3 p4 p5 pf aa
 have X1:=zc J
 have E:=zc K
 have ae:=zc O
 have ac:=zc N
 clear J K O N
 obtain⟨V,Q,Y,Z,X,U,xf⟩:=zC X1.out
 obtain⟨p0,p1,p2,p3,p4,p5,pf⟩:=zC E.out.2.2.1
 have I:=(Array.getElem?_eq_some_iff.1 E.out.2.2.1).1
 have ah:=(Array.getElem?_eq_some_iff.1 X1.out).1
 go_wp2_with fail
 refine (zlQ c t 6 D o j tPlus l r w1 ad ab hr E.out (by rw[←HT.out];exact HL.out)).mono ?_
 rw[←HT.out]
 rintro e w2 ⟨rfl,K,O,N⟩
 have af:=zc K
 clear K
 go_wp2
 go_end0
 exact⟨rfl,af.out,ae.out.trans O,ac.out.trans N⟩
theorem zsB (c:PC) (t:ByteArray) (i:Nat) (D:Int) (o j:ByteArray) (l r:Nat) (w:World) (h:PP c t w) (hi:i<c.m.ex.length) (J:c.m.ex.getD i zn=⟨7,D,o,j,(l:Int),(r:Int)⟩) (ad:zc2 c l) (ab:zc2 c r) (hr:r<c.m.ex.length) (z:(t++(prX c.m.ex l++tMinus++zai (zA (c.m.ex.getD r zn).kind) (prX c.m.ex r))).size≤140737488355328):
  Calls Tryz.prog 109 #[.pointer (some ⟨c.gp,0,none⟩),.int .i64 (i:Int)] w (PO c (t++(prX c.m.ex l++tMinus++zai (zA (c.m.ex.getD r zn).kind) (prX c.m.ex r))) w):=by
 have L:=zc h
 obtain⟨T,hT⟩: ∃T,T=prX c.m.ex l++tMinus++zai (zA (c.m.ex.getD r zn).kind) (prX c.m.ex r):=⟨_,rfl⟩
 rw[←hT] at z ⊢
 have HT:=zc hT
 have HL:=zc z
 clear h z hT
 obtain⟨p0,p1,p2,p3,p4,p5,pf⟩:=zC L.out.2.2.1
 obtain⟨g,hg,I,V,Q,Y,Z,X,U⟩:=L.out.2.1.expr hi
 rw[J] at V Q Y Z X U
 dsimp only at V Q Y Z X U
 rw[hg] at p4
 have aa:(i:Int)<(c.m.ex.length:Int):=by omega
 clear hg J
 go_enter Tryz.func109,Tryz.ntmps109
 go_upto_region 1 with fail
 have M:Hid (Below w.heap.size w (w.alloc (.cells #[.int .i64 7,.int .i64 D,.string o,.string j,.int .i64 (l:Int),.int .i64 (r:Int)] 81))):=(Below.refl _ _).alloc (Nat.le_refl _) _
 refine zaA (R:=fun W=>W.heap[w.heap.size]? =some (.cells #[.int .i64 7,.int .i64 D,.string o,.string j,.int .i64 (l:Int),.int .i64 (r:Int)] 81 (0,0))∧PP c t W∧Below c.B w W∧KeepB c.b w W) ⟨heap_alloc_new w _,L.out.later M.out,M.out.mono L.out.1.2,KeepB.of_below M.out⟩ ?_
 obtain⟨gx,H⟩: ∃gx,gx=w.heap.size:=⟨_,rfl⟩
 have ai:gx≠c.b:=by
  rw[H]
  obtain⟨ag,hc⟩:=zci L.out.1.1
  have:=(Array.getElem?_eq_some_iff.1 hc).1
  omega
 rw[←H]
 rintro w1 ⟨J,K,O,N⟩
 clear H M I V Q Y Z X U p0 p1 p2 p3 p4 p5 pf aa
 have X1:=zc J
 have E:=zc K
 have ae:=zc O
 have ac:=zc N
 clear J K O N
 obtain⟨V,Q,Y,Z,X,U,xf⟩:=zC X1.out
 obtain⟨p0,p1,p2,p3,p4,p5,pf⟩:=zC E.out.2.2.1
 have I:=(Array.getElem?_eq_some_iff.1 E.out.2.2.1).1
 have ah:=(Array.getElem?_eq_some_iff.1 X1.out).1
 go_wp2_with fail
 refine (zlQ c t 7 D o j tMinus l r w1 ad ab hr E.out (by rw[←HT.out];exact HL.out)).mono ?_
 rw[←HT.out]
 rintro e w2 ⟨rfl,K,O,N⟩
 have af:=zc K
 clear K
 go_wp2
 go_end0
 exact⟨rfl,af.out,ae.out.trans O,ac.out.trans N⟩
theorem zsC (c:PC) (t:ByteArray) (i:Nat) (aa:Int) (I j:ByteArray) (l r:Nat) (w:World) (h:PP c t w) (hi:i<c.m.ex.length) (hx:c.m.ex.getD i zn=⟨8,aa,I,j,(l:Int),(r:Int)⟩) (af:zc2 c l) (ae:zc2 c r) (hl:l<c.m.ex.length) (hr:r<c.m.ex.length) (J:(t++(zai (zA (c.m.ex.getD l zn).kind) (prX c.m.ex l)++tStar++zai (zO (c.m.ex.getD r zn).kind) (prX c.m.ex r))).size≤140737488355328):
  Calls Tryz.prog 109 #[.pointer (some ⟨c.gp,0,none⟩),.int .i64 (i:Int)] w (PO c (t++(zai (zA (c.m.ex.getD l zn).kind) (prX c.m.ex l)++tStar++zai (zO (c.m.ex.getD r zn).kind) (prX c.m.ex r))) w):=by
 have HP:=zc h
 obtain⟨T,hT⟩: ∃T,T=zai (zA (c.m.ex.getD l zn).kind) (prX c.m.ex l)++tStar++zai (zO (c.m.ex.getD r zn).kind) (prX c.m.ex r):=⟨_,rfl⟩
 rw[←hT] at J ⊢
 have HT:=zc hT
 have HL:=zc J
 clear h J hT
 obtain⟨p0,p1,p2,p3,p4,p5,pf⟩:=zC HP.out.2.2.1
 obtain⟨g,hg,z,U,O,X,Y,V,Q⟩:=HP.out.2.1.expr hi
 rw[hx] at U O X Y V Q
 dsimp only at U O X Y V Q
 rw[hg] at p4
 have ai:(i:Int)<(c.m.ex.length:Int):=by omega
 clear hg hx
 go_enter Tryz.func109,Tryz.ntmps109
 go_upto_region 1 with fail
 have HW:Hid (Below w.heap.size w (w.alloc (.cells #[.int .i64 8,.int .i64 aa,.string I,.string j,.int .i64 (l:Int),.int .i64 (r:Int)] 81))):=(Below.refl _ _).alloc (Nat.le_refl _) _
 refine zaA (R:=fun W=>W.heap[w.heap.size]? =some (.cells #[.int .i64 8,.int .i64 aa,.string I,.string j,.int .i64 (l:Int),.int .i64 (r:Int)] 81 (0,0))∧PP c t W∧Below c.B w W∧KeepB c.b w W) ⟨heap_alloc_new w _,HP.out.later HW.out,HW.out.mono HP.out.1.2,KeepB.of_below HW.out⟩ ?_
 obtain⟨gx,ad⟩: ∃gx,gx=w.heap.size:=⟨_,rfl⟩
 have ag:gx≠c.b:=by
  rw[ad]
  obtain⟨ar,hc⟩:=zci HP.out.1.1
  have:=(Array.getElem?_eq_some_iff.1 hc).1
  omega
 rw[←ad]
 rintro N ⟨hx,D,E,o⟩
 clear ad HW z U O X Y V Q p0 p1 p2 p3 p4 p5 pf ai
 have X1:=zc hx
 have K:=zc D
 have aq:=zc E
 have al:=zc o
 clear hx D E o
 obtain⟨U,O,X,Y,V,Q,xf⟩:=zC X1.out
 obtain⟨p0,p1,p2,p3,p4,p5,pf⟩:=zC K.out.2.2.1
 have z:=(Array.getElem?_eq_some_iff.1 K.out.2.2.1).1
 have L:=(Array.getElem?_eq_some_iff.1 X1.out).1
 have ap:=zc af
 have aj:=zc ae
 have HR:=zc hr
 have ah:=zc hl
 obtain⟨kk,ab⟩: ∃kk,(c.m.ex.getD r zn).kind=kk:=⟨_,rfl⟩
 obtain⟨kl,Z⟩: ∃kl,(c.m.ex.getD l zn).kind=kl:=⟨_,rfl⟩
 have HU:Hid (T=zai (zA kl) (prX c.m.ex l)++tStar++zai (zO kk) (prX c.m.ex r)):=by show _=_;rw[←ab,←Z];exact HT.out
 have KK:=zc ab
 have KL:=zc Z
 clear af ae hr hl ab Z HT
 go_upto_region 17 with fail
 go_cut [] from 82 to 90 (fun wx=>PP c (t++zai (zA kl) (prX c.m.ex l)) wx∧Below c.B N wx∧KeepB c.b N wx)
 case first=>
  go_wp2_with fail
  have H:=zc (K.out.later ((Below.refl N.heap.size N).drew))
  go_region_with (first|(go_at_call 132;refine (ziP c _ l _ H.out ah.out).mono ?_;rintro e w' ⟨rfl,rfl⟩;rw[KL.out])|(go_at_call 105;refine (zgc _ _).mono ?_;rintro e w' ⟨rfl,rfl⟩)|(go_at_call 131;refine (zhi c _ l (zA kl) _ ap.out H.out (by have:=HL.out;rw[HU.out] at this;simp only[ByteArray.size_append] at this ⊢;omega)).mono ?_;rintro e w2 ⟨rfl,D,E,o⟩))
  all_goals (go_wp2_with fail;go_meet;exact⟨D,(((Below.refl N.heap.size N).drew).mono K.out.1.2).trans E,(KeepB.of_below ((Below.refl N.heap.size N).drew)).trans o⟩)
 case rest=>
 obtain⟨D,E,o⟩:=hcut
 rename_i w2
 have ac:=zc D
 have an:=zc (aq.out.trans E)
 have ao:=zc (al.out.trans o)
 have X2:=zc ((o _ _ _ _ X1.out ag (by decide)).trans X1.out)
 clear D E o p0 p1 p2 p3 p4 p5 pf U O X Y V Q xf z L
 obtain⟨U,O,X,Y,V,Q,xf⟩:=zC X2.out
 obtain⟨p0,p1,p2,p3,p4,p5,pf⟩:=zC ac.out.2.2.1
 have z:=(Array.getElem?_eq_some_iff.1 ac.out.2.2.1).1
 have L:=(Array.getElem?_eq_some_iff.1 X2.out).1
 go_wp2_with fail
 refine (zbP c _ [tStar] _ ac.out (by have:=HL.out;rw[HU.out] at this;simp only[zw,List.foldl_cons,List.foldl_nil,ByteArray.size_append] at this ⊢;omega) (by simp)).mono ?_
 rintro e w3 ⟨rfl,D,E,o⟩
 have M:=zc D
 have am:=zc (an.out.trans E)
 have ak:=zc (ao.out.trans o)
 have X3:=zc ((o _ _ _ _ X2.out ag (by decide)).trans X2.out)
 clear D E o p0 p1 p2 p3 p4 p5 pf U O X Y V Q xf z L
 obtain⟨U,O,X,Y,V,Q,xf⟩:=zC X3.out
 obtain⟨p0,p1,p2,p3,p4,p5,pf⟩:=zC M.out.2.2.1
 have z:=(Array.getElem?_eq_some_iff.1 M.out.2.2.1).1
 have L:=(Array.getElem?_eq_some_iff.1 X3.out).1
 go_wp2_with fail
 have H:=zc (M.out.later ((Below.refl w3.heap.size w3).drew))
 go_region_with (first|(go_at_call 132;refine (ziP c _ r _ H.out HR.out).mono ?_;rintro e w' ⟨rfl,rfl⟩;rw[KK.out])|(go_at_call 58;refine (zlz _ _).mono ?_;rintro e w' ⟨rfl,rfl⟩)|(go_at_call 131;refine (zhi c _ r (zO kk) _ aj.out H.out (by have:=HL.out;rw[HU.out] at this;simp only[zw,List.foldl_cons,List.foldl_nil,ByteArray.size_append] at this ⊢;omega)).mono ?_;rintro e w4 ⟨rfl,D,E,o⟩))
 all_goals (go_wp2;go_end0;exact⟨rfl,(by rw[HU.out];simp only[zw,List.foldl_cons,List.foldl_nil,←ByteArray.append_assoc] at D ⊢;exact D),am.out.trans ((((Below.refl w3.heap.size w3).drew).mono M.out.1.2).trans E),ak.out.trans ((KeepB.of_below ((Below.refl w3.heap.size w3).drew)).trans o)⟩)
theorem zsD (c:PC) (t:ByteArray) (i:Nat) (k E:Int) (o j:ByteArray) (l r:Int) (w:World) (h:PP c t w) (hi:i<c.m.ex.length) (J:c.m.ex.getD i zn=⟨k,E,o,j,l,r⟩) (k1:(k==1)=false) (k2:(k==2)=false) (k3:(k==3)=false) (k4:(k==4)=false) (k5:(k==5)=false) (k6:(k==6)=false) (k7:(k==7)=false) (k8:(k==8)=false) (z:(t++(sNone)).size≤140737488355328):
  Calls Tryz.prog 109 #[.pointer (some ⟨c.gp,0,none⟩),.int .i64 (i:Int)] w (PO c (t++(sNone)) w):=by
 have K:=zc h
 obtain⟨T,Z⟩: ∃T,T=sNone:=⟨_,rfl⟩
 rw[←Z] at z ⊢
 have HT:=zc Z
 have HL:=zc z
 clear h z Z
 obtain⟨p0,p1,p2,p3,p4,p5,pf⟩:=zC K.out.2.2.1
 obtain⟨g,hg,I,O,M,U,V,Q,N⟩:=K.out.2.1.expr hi
 rw[J] at O M U V Q N
 dsimp only at O M U V Q N
 rw[hg] at p4
 have X:(i:Int)<(c.m.ex.length:Int):=by omega
 clear hg J
 go_enter Tryz.func109,Tryz.ntmps109
 go_upto_region 1 with fail
 have L:Hid (Below w.heap.size w (w.alloc (.cells #[.int .i64 k,.int .i64 E,.string o,.string j,.int .i64 l,.int .i64 r] 81))):=(Below.refl _ _).alloc (Nat.le_refl _) _
 refine zaA (R:=fun W=>W.heap[w.heap.size]? =some (.cells #[.int .i64 k,.int .i64 E,.string o,.string j,.int .i64 l,.int .i64 r] 81 (0,0))∧PP c t W∧Below c.B w W∧KeepB c.b w W) ⟨heap_alloc_new w _,K.out.later L.out,L.out.mono K.out.1.2,KeepB.of_below L.out⟩ ?_
 obtain⟨gx,H⟩: ∃gx,gx=w.heap.size:=⟨_,rfl⟩
 have ad:gx≠c.b:=by
  rw[H]
  obtain⟨ab,hc⟩:=zci K.out.1.1
  have:=(Array.getElem?_eq_some_iff.1 hc).1
  omega
 rw[←H]
 rintro w1 ⟨J,hp,hb,hk⟩
 clear H L I O M U V Q N p0 p1 p2 p3 p4 p5 pf X
 have X1:=zc J
 have D:=zc hp
 have aa:=zc hb
 have Y:=zc hk
 clear J hp hb hk
 obtain⟨O,M,U,V,Q,N,xf⟩:=zC X1.out
 obtain⟨p0,p1,p2,p3,p4,p5,pf⟩:=zC D.out.2.2.1
 have I:=(Array.getElem?_eq_some_iff.1 D.out.2.2.1).1
 have ac:=(Array.getElem?_eq_some_iff.1 X1.out).1
 go_wp2
 go_end0
 exact⟨rfl,(by rw[HT.out,show t++sNone=t from ByteArray.append_empty];exact D.out),aa.out,Y.out⟩
theorem zsE (c:PC) (hn:zeL c.m.ex) (ha:zdx c.m.ex) (n:Nat): ∀i,i<n→i<c.m.ex.length→zc2 c i:=by
 induction n with
 |zero=>intro i I;omega
 |succ n ih=>
  intro i aa I t w h z
  by_cases Z:i<n
  ·exact ih i Z I t w h z
  ·have L: ∀j,j<i→zc2 c j:=fun j hj=>ih j (by omega) (by omega)
   have K:=hn (c.m.ex.getD i zn) (by rw[zf5 I];exact List.getElem_mem I)
   have H:=zhA ha (i:=i)
   rw[zj4 ha] at z ⊢
   obtain⟨x,J⟩: ∃x,c.m.ex.getD i zn=x:=⟨_,rfl⟩
   rw[J] at z K H ⊢
   obtain⟨k,E,D,o,l,r⟩:=x
   simp only at z K H ⊢
   by_cases M:(k==1)=true
   ·rw[if_pos M] at z ⊢
    have e:=eq_of_beq M
    subst e
    exact zs5 c t i E D o l r w h I J K z
   rw[if_neg M] at z ⊢
   by_cases X:(k==2)=true
   ·rw[if_pos X] at z ⊢
    have e:=eq_of_beq X
    subst e
    exact zs6 c t i E D o l r w h I J z
   rw[if_neg X] at z ⊢
   by_cases V:(k==3)=true
   ·rw[if_pos V] at z ⊢
    have e:=eq_of_beq V
    subst e
    exact zs7 c t i E D o l r w h I J z
   rw[if_neg V] at z ⊢
   by_cases N:(k==4)=true
   ·rw[if_pos N] at z ⊢
    have e:=eq_of_beq N
    subst e
    exact zs8 c t i E D o l r w h I J z
   rw[if_neg N] at z ⊢
   by_cases O:(k==5)=true
   ·rw[if_pos O] at z ⊢
    have e:=eq_of_beq O
    subst e
    exact zs9 c t i E D o l r w h I J z
   rw[if_neg O] at z ⊢
   by_cases U:(k==6)=true
   ·rw[if_pos U] at z ⊢
    have e:=eq_of_beq U
    subst e
    have H:=H (by decide)
    obtain⟨l,rfl⟩: ∃n:Nat,l=(n:Int):=⟨l.toNat,by omega⟩
    obtain⟨r,rfl⟩: ∃n:Nat,r=(n:Int):=⟨r.toNat,by omega⟩
    simp only[Int.toNat_natCast] at z ⊢
    exact zsA c t i E D o l r w h I J (L l (by omega)) (L r (by omega)) (by omega) z
   rw[if_neg U] at z ⊢
   by_cases Y:(k==7)=true
   ·rw[if_pos Y] at z ⊢
    have e:=eq_of_beq Y
    subst e
    have H:=H (by decide)
    obtain⟨l,rfl⟩: ∃n:Nat,l=(n:Int):=⟨l.toNat,by omega⟩
    obtain⟨r,rfl⟩: ∃n:Nat,r=(n:Int):=⟨r.toNat,by omega⟩
    simp only[Int.toNat_natCast] at z ⊢
    exact zsB c t i E D o l r w h I J (L l (by omega)) (L r (by omega)) (by omega) z
   rw[if_neg Y] at z ⊢
   by_cases Q:(k==8)=true
   ·rw[if_pos Q] at z ⊢
    have e:=eq_of_beq Q
    subst e
    have H:=H (by decide)
    obtain⟨l,rfl⟩: ∃n:Nat,l=(n:Int):=⟨l.toNat,by omega⟩
    obtain⟨r,rfl⟩: ∃n:Nat,r=(n:Int):=⟨r.toNat,by omega⟩
    simp only[Int.toNat_natCast] at z ⊢
    exact zsC c t i E D o l r w h I J (L l (by omega)) (L r (by omega)) (by omega) (by omega) z
   rw[if_neg Q] at z ⊢
   exact zsD c t i k E D o l r w h I J (Bool.eq_false_iff.2 M) (Bool.eq_false_iff.2 X) (Bool.eq_false_iff.2 V) (Bool.eq_false_iff.2 N) (Bool.eq_false_iff.2 O) (Bool.eq_false_iff.2 U) (Bool.eq_false_iff.2 Y) (Bool.eq_false_iff.2 Q) z
theorem zlR (j:Nat) (S:Sv) (m:Md) (scr:Bool) (w:World) (h:OwnMd w j S m) (Z:Small m) (M:Tree m→(zbZ m).size≤140737488355328):
  Calls Tryz.prog 8 #[zbM S m,.bool scr] w fun e w'=>PrintOut (zbZ m) m e∧Below w.heap.size w w':=by
 have HH:=zc h
 have SM:=zc Z
 have HU:=zc M
 obtain⟨f1,f2,f3,f4,f5⟩:=Z.few
 clear h Z M
 unfold zbM
 go_enter Tryz.func8,Tryz.ntmps8
 go_wp2_with fail
 refine (zse j S m _ (HH.out.alloc _) f5 f4).mono ?_
 rintro e z ⟨⟨b,rfl,J⟩,I⟩
 have HT:=zc J
 have o:Hid (Below w.heap.size w z):=((Below.refl _ _).alloc (Nat.le_refl _) _).trans (I.mono (by rw[zW];omega))
 have H:Hid (z.heap[w.heap.size]? =some (.cells #[.slice S.rq.a m.rq.length S.rq.cap,.slice S.im.a m.im.length S.im.cap,.slice S.ep.a m.ep.length S.ep.cap,.slice S.st.a m.st.length S.st.cap,.slice S.ex.a m.ex.length S.ex.cap] 32 (0,0))):=(I.block _ (by rw[zW];omega)).trans (heap_alloc_new w _)
 have O:=zc (HH.out.later o.out)
 clear J I
 cases b with
 |false=>
  go_wp2
  go_ret
  exact⟨.inr ⟨(fun t=>by have:=HT.out.2 t;cases this),rfl⟩,o.out⟩
 |true=>
  have V:=zc (HT.out.1 rfl)
  have HZ:=zc (HU.out V.out)
  go_upto_region 4 with fail
  have D:Hid (Below z.heap.size z (z.alloc (.cells #[.pointer none,.slice none 0 0] 60))):=(Below.refl _ _).alloc (Nat.le_refl _) _
  have hz:=(Array.getElem?_eq_some_iff.1 H.out).1
  refine zaA (R:=fun W=>(Lib.IsBuilder 60 5 z.heap.size z.heap.size [] W∧z.heap.size≤W.heap.size)∧OwnMd W j S m∧W.heap[w.heap.size]? =some (.cells #[.slice S.rq.a m.rq.length S.rq.cap,.slice S.im.a m.im.length S.im.cap,.slice S.ep.a m.ep.length S.ep.cap,.slice S.st.a m.st.length S.st.cap,.slice S.ex.a m.ex.length S.ex.cap] 32 (0,0))∧Below w.heap.size w W) ⟨⟨Lib.fresh_isBuilder _ _ z,D.out.size⟩,O.out.later D.out,(D.out.block _ hz).trans H.out,o.out.trans (D.out.mono o.out.size)⟩ ?_
  obtain⟨b,E⟩: ∃b,b=z.heap.size:=⟨_,rfl⟩
  have U:w.heap.size≤b:=by rw[E];exact o.out.size
  rw[←E]
  rintro W ⟨⟨K,aa⟩,ho,hx,J⟩
  clear hz D H O o HH E z
  have BL:=zc K
  have HO:=zc ho
  have HX:=zc hx
  have HB:=zc J
  clear K ho hx J
  obtain⟨c0,c1,c2,c3,c4,cf⟩:=zaa HX.out
  go_upto_region 6 with fail
  have D:Hid (Below W.heap.size W (W.alloc (.cells #[.slice S.rq.a m.rq.length S.rq.cap,.slice S.im.a m.im.length S.im.cap,.slice S.ep.a m.ep.length S.ep.cap,.slice S.st.a m.st.length S.st.cap,.slice S.ex.a m.ex.length S.ex.cap,.func (.func 23) #[] #[.pointer (some ⟨b,0,none⟩)]] 68))):=(Below.refl _ _).alloc (Nat.le_refl _) _
  have ad:Hid (PP ⟨b,b,W.heap.size,j,S,m⟩ sNone (W.alloc (.cells #[.slice S.rq.a m.rq.length S.rq.cap,.slice S.im.a m.im.length S.im.cap,.slice S.ep.a m.ep.length S.ep.cap,.slice S.st.a m.st.length S.st.cap,.slice S.ex.a m.ex.length S.ex.cap,.func (.func 23) #[] #[.pointer (some ⟨b,0,none⟩)]] 68))):=by
   refine⟨⟨zl5 BL.out D.out,Nat.le_trans aa D.out.size⟩,HO.out.later D.out,heap_alloc_new W _,?_⟩
   obtain⟨ae,hc⟩:=zci BL.out
   have:=(Array.getElem?_eq_some_iff.1 hc).1
   show W.heap.size≠b
   omega
  have Y:=zc (HB.out.trans (D.out.mono HB.out.size))
  go_wp2_with fail
  refine (zs4 ⟨b,b,W.heap.size,j,S,m⟩ _ (fun i hi=>zsE _ SM.out.nums V.out.ahead _ i hi hi) V.out.stm SM.out ad.out HZ.out).mono ?_
  rintro e w3 ⟨rfl,hp,Q,X⟩
  have L:=zc hp
  have ab:=zc (Y.out.trans (Q.mono U))
  clear hp Q X c0 c1 c2 c3 c4 cf
  go_wp2_with fail
  refine (Tryz.Builder_String_any b b (zbZ m).data.toList w3 L.out.1.1 L.out.1.2).mono ?_
  rintro e w4 ⟨rfl,N⟩
  have ac:=zc (ab.out.trans (N.mono U))
  clear N
  go_wp2
  go_ret
  exact⟨.inl ⟨V.out,rfl⟩,ac.out⟩
theorem ziQ {C:Cx} {j:Bool} {q:PS} {x:PS×Ep} (h:zbG C j q= .ok x):q.pos<x.1.pos:=by
 obtain⟨a,E,D⟩:=ze h
 obtain⟨b,z,H⟩:=ze D
 have o:=zf6 z
 rw[(zaX E).1] at o
 cases H
 exact o
def zlS (C:Cx) (gt cap base gp:Nat) (t:TypeId) (size:Nat) (f:Ep→List Value) (y:PRL) (S:Sv) (w:World) (e:Ending) (w':World):Prop:=
 match y with
 | .ok a=>∃r S',e= .returned (.slice r.a a.2.length r.cap)∧IM C gt cap base gp S' a.1 w'∧IS gp S w S' w'∧Fr t size w' w.heap.size r a.2.length (a.2.flatMap f) S'∧0<a.2.length∧a.2.length≤4000
 | .error p=>e=Pan p∧Below base w w'
theorem zlT {C:Cx} {D o j E:Nat} {S:Sv} {q:PS} {w:World} (h:IM C D o j E S q w) (t:TypeId) (size:Nat):Fr t size (w.alloc (.cells #[] t)) w.heap.size ⟨some ⟨w.heap.size,0,none⟩,0⟩ 0 [] S:=by
 refine⟨World.ownsRow_lit w #[] 0 (Nat.le_refl _) (by unfold maxLen;omega) (Nat.zero_mul _).symm,fun k g z=>?_⟩
 have H:w.heap.size=k:=by simpa [Rw.blk,Value.ownBlock] using g
 have:=(h.mem.own.has z).2
 omega
theorem zsF (C:Cx) (K z j D:Nat) (S:Sv) (q:PS) (w:World) (h:IM C K z j D S q w):
  Calls Tryz.prog 116 #[.pointer (some ⟨D,0,none⟩)] w (zlS C K z j D 75 3 (fun e=>imL (zbl e)) (zay C false q []) S w):=by
 obtain⟨i0,hi,av,an,ap⟩:=info_parts Tryz.infoImp
 have HH:=zc h
 clear h
 go_enter Tryz.func116,Tryz.ntmps116
 go_wp2
 go_loopg [3] (C.ts.length+1) (fun k v wr=>∃(Q:Sv) (N:PS) (r:Rw) (l:List Ep),v= .slice r.a l.length r.cap∧zay C false q []=zay C false N l∧C.ts.length-N.pos<k∧l.length+(C.ts.length-N.pos)≤C.ts.length∧IM C K z j D Q N wr∧IS D S w Q wr∧Fr 75 3 wr w.heap.size r l.length (l.flatMap (fun e=>imL (zbl e))) Q)
 case atStart=>exact⟨S,q,⟨some ⟨w.heap.size,0,none⟩,0⟩,[],rfl,rfl,by omega,by simp,HH.out.alloc _,(IS.refl _ _ _).alloc _,zlT HH.out _ _⟩
 case round=>
  obtain⟨Q,N,r,l,rfl,hy,hk,hl,m',s',f'⟩:=hrel
  have HY:=zc hy
  have HZ:=zc (HY.out.trans (zlv C false N l))
  have aj:Hid (IM C K z j D Q N wr):=m'
  have al:Hid (IS D S w Q wr):=s'
  have ar:Hid (Fr 75 3 wr w.heap.size r l.length (l.flatMap (fun e=>imL (zbl e))) Q):=f'
  have aw:=m'.mem.few
  clear hy m' s' f'
  go_wp2_with fail
  refine (zrS C K z j D Q N _ aj.out).mono ?_
  cases Z:zbG C false N with
  |error p=>
   rintro e X ⟨rfl,hb⟩
   have HB:Hid (Below j w X):=(HH.out.back al.out).trans hb
   have HX:Hid (zay C false q []= .error p):=bdE HZ.out Z
   unfold Pan
   go_wp2
   refine⟨rfl,?_⟩
   rw[HX.out]
   exact⟨rfl,HB.out⟩
  |ok o=>
   rintro e X ⟨rfl,E,m,s⟩
   have H:Hid (Fr 75 3 X w.heap.size r l.length (l.flatMap (fun e=>imL (zbl e))) E):=ar.out.step aj.out (by decide) s
   have J:=zc m
   have ad:Hid (IS D S w E X):=al.out.trans s
   clear m s
   have ae:=zc (bdO HZ.out Z)
   have az:=ziQ Z
   have ay:=J.out.mem.inv.pos
   unfold imV
   have U:=fun o1=>(H.out.later ((Below.refl X.heap.size X).alloc (Nat.le_refl _) o1)).1
   have ai:=fun o1=>(ad.out.alloc o1).size
   go_wp2_with (at_builtin;refine zcC _ rfl _ _ 27 rfl w.heap.size 75 i0 _ 3 48 Tryz.underlying27 hi av an ap rfl (by decide) (by decide) r l.length _ (by rfl) (U _) X.heap.size (imL (zbl o.2)) (by rfl) (by exact heap_alloc_new X _) rfl (zjQ _) (by omega) (ai _) ?_;intro V w2 hr Y af;have HR:Hid (OwnR w2 w.heap.size 75 3 V (l.length+1) _):=hr;have M:Hid (IM C K z j D E o.1 w2):=(J.out.alloc _).aside Y (fun k g=>⟨H.out.2 k g,H.out.ngp J.out (by decide) g,H.out.ngt J.out (by decide) g⟩);have ak:Hid (IS D S w E w2):=(ad.out.alloc _).aside Y (fun k g=>(H.out.1.typed g).1);have ah:Hid (Fr 75 3 w2 w.heap.size V (l.length+1) _ E):=(H.out.later ((Below.refl _ _).alloc (Nat.le_refl _) _)).grown (J.out.alloc _) hr af;clear hr Y af U ai)
   have el:(l++[o.2]).length=l.length+1:=by simp
   have ab:Hid (Fr 75 3 w2 w.heap.size V (l++[o.2]).length ((l++[o.2]).flatMap (fun e=>imL (zbl e))) E):=by
    show Fr ..
    rw[el,List.flatMap_append]
    simpa using ah.out
   have I:=zc el
   clear el ah HR
   go_wp2_with fail
   cases hc:isT C o.1.pos 4 zbv with
   |true=>
    have ax:=za1 hc (by decide)
    have HC:=zc (ae.out.trans (if_pos hc))
    refine (zP C K z j D E (o.1) 4 zbv _ M.out (by decide)).mono ?_
    rintro e w3 ⟨rfl,m,s⟩
    rw[hc] at m ⊢
    have L:=zc m
    have O:Hid (IS D S w E w3):=ak.out.trans s
    have ac:=s
    clear m s
    have aa:Hid (Fr 75 3 w3 w.heap.size V (l++[o.2]).length ((l++[o.2]).flatMap (fun e=>imL (zbl e))) E):=ab.out.step M.out (by decide) ac
    clear ac
    go_wp2
    go_roundg (gk-1)
    case rel=>exact⟨E,adv o.1,V,l++[o.2],by rw[I.out],HC.out,by rw[zz];omega,by rw[zz,I.out];omega,L.out,O.out,aa.out⟩
    case measure=>omega
   |false=>
    have HC:=zc (ae.out.trans (if_neg (by rw[hc];decide)))
    refine (zP C K z j D E (o.1) 4 zbv _ M.out (by decide)).mono ?_
    rintro e w3 ⟨rfl,m,s⟩
    rw[hc] at m ⊢
    have L:=zc m
    have O:Hid (IS D S w E w3):=ak.out.trans s
    have aa:Hid (Fr 75 3 w3 w.heap.size V (l++[o.2]).length ((l++[o.2]).flatMap (fun e=>imL (zbl e))) E):=ab.out.step M.out (by decide) s
    clear m s
    go_wp2_with fail
    refine (zcw C K z j D E o.1 125 _ L.out).mono ?_
    cases ag:zd C 4 zaJ o.1 with
    |error p=>
     rintro e w4 ⟨rfl,hb⟩
     have HB:Hid (Below j w w4):=(HH.out.back O.out).trans hb
     have HX:Hid (zay C false q []= .error p):=bdE HC.out ag
     unfold Pan
     go_wp2
     refine⟨rfl,?_⟩
     rw[HX.out]
     exact⟨rfl,HB.out⟩
    |ok a4=>
     rintro e w4 ⟨rfl,S4,m,s⟩
     have ao:Hid (Fr 75 3 w4 w.heap.size V (l++[o.2]).length ((l++[o.2]).flatMap (fun e=>imL (zbl e))) S4):=aa.out.step L.out (by decide) s
     have am:=zc m
     have au:Hid (IS D S w S4 w4):=O.out.trans s
     clear m s
     have aq:=zc (bdO HC.out ag)
     go_wp2
     go_ret
     rw[aq.out]
     exact⟨V,S4,by rw[I.out];rfl,am.out,au.out,ao.out,by show 0<(l++[o.2]).length;rw[I.out];omega,by show (l++[o.2]).length≤4000;rw[I.out];omega⟩
def impFromI (C:Cx) (l:List Ep) (q:PS):PR:=bd (zd C 1 zH q) fun a=>bd (zy C a) fun b=>bd (zd C 4 cSemi b.1) fun c=>zK (fun e=>zX C (zbW b.2 e)) l (.ok c)
theorem zhk {α:Type} (f:α→PS→PR) (p:Nat): ∀l:List α,zK f l (.error p)= .error p
 |[]=>rfl
 |_::l=>zhk f p l
theorem ziR {α:Type} (f:α→PS→PR) {l:List α} {j:Nat} {x:α} (h:l[j]? =some x) (q:PS):zK f (l.drop j) (.ok q)=zK f (l.drop (j+1)) (f x q):=by
 obtain⟨o,rfl⟩:=List.getElem?_eq_some_iff.1 h
 rw[List.drop_eq_getElem_cons o]
 rfl
theorem zsG {C:Cx} {x:Im} {q a:PS} (h:zX C x q= .ok a):a.pos=q.pos:=by
 unfold zX at h
 split at h
 ·cases h
 ·cases h
  rfl
theorem zlU {C:Cx} {x:Ep} {q a:PS} (h:zm C x q= .ok a):a.pos=q.pos:=by
 unfold zm at h
 split at h
 ·cases h
 ·split at h
  ·cases h
   rfl
  ·cases h
   rfl
theorem zgd {α:Type} {l:List α} {j:Nat} (h:j<l.length): ∃x,l[j]? =some x:=⟨_,List.getElem?_eq_getElem h⟩
theorem zsH (C:Cx) (K z o D b0 g:Nat) (r:Rw) (S:Sv) (q:PS) (l:List Ep) (w:World) (h:IM C K z o D S q w) (hC:zb0 C) (hl:l.length≤4000) (hf:Fr 75 3 w b0 r l.length (l.flatMap (fun e=>imL (zbl e))) S) (hg:r.a=some ⟨g,0,none⟩):
  Calls Tryz.prog 115 #[.pointer (some ⟨D,0,none⟩),.slice (some ⟨g,0,none⟩) l.length r.cap] w (zT C K z o D (impFromI C l q) id (fun _=>.tuple #[]) S w):=by
 have X:=zc h
 have HF:=zc hf
 have HG:=zc hg
 have HY:=zc (impFromI.eq_1 C l q)
 clear h hf hg
 go_enter Tryz.func115,Tryz.ntmps115
 go_wp2_with fail
 refine (zeU C K z o D S q zH _ X.out).mono ?_
 cases Y:zd C 1 zH q with
 |error p=>
  rintro e w1 ⟨rfl,L⟩
  have M:Hid (Below o w w1):=(X.out.back (IS.refl _ _ _)).trans L
  have V:Hid (impFromI C l q= .error p):=bdE HY.out Y
  unfold Pan
  go_wp2
  refine⟨rfl,?_⟩
  rw[V.out]
  exact⟨rfl,M.out⟩
 |ok a1=>
  rintro e w1 ⟨rfl,S1,m,s⟩
  have az:Hid (Fr 75 3 w1 b0 r l.length (l.flatMap (fun e=>imL (zbl e))) S1):=HF.out.step X.out (by decide) s
  have aa:=zc m
  have ae:=zc s
  clear m s
  have ag:=zc (bdO HY.out Y)
  go_wp2_with fail
  refine (zgA C K z o D S1 a1 _ aa.out hC).mono ?_
  cases ai:zy C a1 with
  |error p=>
   rintro e w2 ⟨rfl,L⟩
   have M:Hid (Below o w w2):=(X.out.back ae.out).trans L
   have V:Hid (impFromI C l q= .error p):=bdE ag.out ai
   unfold Pan
   go_wp2
   refine⟨rfl,?_⟩
   rw[V.out]
   exact⟨rfl,M.out⟩
  |ok a2=>
   rintro e w2 ⟨rfl,S2,m,s⟩
   have ao:Hid (Fr 75 3 w2 b0 r l.length (l.flatMap (fun e=>imL (zbl e))) S2):=az.out.step aa.out (by decide) s
   have ah:=zc m
   have ad:Hid (IS D S w S2 w2):=ae.out.trans s
   clear m s
   have ab:=zc (bdO ag.out ai)
   go_wp2_with fail
   refine (zcw C K z o D S2 a2.1 59 _ ah.out).mono ?_
   cases O:zd C 4 cSemi (a2.1) with
   |error p=>
    rintro e w3 ⟨rfl,L⟩
    have M:Hid (Below o w w3):=(X.out.back ad.out).trans L
    have V:Hid (impFromI C l q= .error p):=bdE ab.out O
    unfold Pan
    go_wp2
    refine⟨rfl,?_⟩
    rw[V.out]
    exact⟨rfl,M.out⟩
   |ok a3=>
    rintro e w3 ⟨rfl,S3,m,s⟩
    have ay:Hid (Fr 75 3 w3 b0 r l.length (l.flatMap (fun e=>imL (zbl e))) S3):=ao.out.step ah.out (by decide) s
    have aq:=zc m
    have ax:Hid (IS D S w S3 w3):=ad.out.trans s
    clear m s
    have am:=zc (bdO ab.out O)
    have ac:0<a3.pos:=by rw[(zbh O).1];exact Nat.succ_pos _
    generalize an:a2.2=sp at*
    clear an
    go_wp2
    go_loopg [15] l.length (fun k i wr=>∃(j:Nat) (J:Sv) (H:PS),i= .int .i64 j∧j+k=l.length∧impFromI C l q=zK (fun e=>zX C (zbW sp e)) (l.drop j) (.ok H)∧0<H.pos∧IM C K z o D J H wr∧IS D S w J wr∧Fr 75 3 wr b0 r l.length (l.flatMap (fun e=>imL (zbl e))) J)
    case atStart=>exact⟨0,S3,a3,rfl,by omega,am.out,ac,aq.out,ax.out,ay.out⟩
    case round=>
     obtain⟨j,J,H,rfl,hj,hy,af,m',s',f'⟩:=hrel
     have ak:=zc hy
     have I:Hid (IM C K z o D J H wr):=m'
     have U:Hid (IS D S w J wr):=s'
     have Q:Hid (Fr 75 3 wr b0 r l.length (l.flatMap (fun e=>imL (zbl e))) J):=f'
     clear hy m' s' f'
     by_cases ap:j<l.length
     ·have Z:(j:Int)<(l.length:Int):=by omega
      obtain⟨x,hx⟩:=zgd ap
      obtain⟨g',aj,E⟩:=OwnR.elem (f:=fun e=>imL (zbl e)) (m:=3) (fun _=>rfl) Q.out.1 hx
      have eg:g'=g:=by have:=aj.symm.trans HG.out;simpa using this
      subst eg
      have k0:=E 0 (by omega)
      have k1:=E 1 (by omega)
      have k2:=E 2 (by omega)
      simp only[imL,zbl,Nat.add_zero,List.getElem?_cons_zero,List.getElem?_cons_succ] at k0 k1 k2
      have HZ:=zc (ak.out.trans (ziR (fun e=>zX C (zbW sp e)) hx H))
      clear E aj hx
      obtain⟨j1,N⟩: ∃j1,j1=j+1:=⟨_,rfl⟩
      have ej:(j:Int)+1=(j1:Int):=by omega
      rw[←N] at HZ
      have aA:=(Array.getElem?_eq_some_iff.1 (Q.out.1.typed (by rw[Rw.blk,HG.out];rfl)).2.2.choose_spec).1
      have aB:=I.out.lt
      have HJ:=zc N
      clear N
      go_wp2_with fail
      refine (zow C K z o D J H (zbW sp x) _ (I.out.alloc _) af).mono ?_
      cases hn:zX C (zbW sp x) H with
      |error p=>
       rintro e w5 ⟨rfl,L⟩
       have M:Hid (Below o w w5):=(X.out.back (U.out.alloc _)).trans L
       have V:Hid (impFromI C l q= .error p):=by show _=_;rw[HZ.out,hn];exact zhk _ _ _
       unfold Pan
       go_wp2
       refine⟨rfl,?_⟩
       rw[V.out]
       exact⟨rfl,M.out⟩
      |ok a5=>
       rintro e w5 ⟨rfl,S5,m,s⟩
       have ar:=zc m
       have av:Hid (IS D S w S5 w5):=(U.out.alloc _).trans s
       have al:Hid (Fr 75 3 w5 b0 r l.length (l.flatMap (fun e=>imL (zbl e))) S5):=(Q.out.later ((Below.refl _ _).alloc (Nat.le_refl _) _)).step (I.out.alloc _) (by decide) s
       have aw:Hid (impFromI C l q=zK (fun e=>zX C (zbW sp e)) (l.drop j1) (.ok a5)):=by show _=_;rw[HZ.out,hn]
       have au:Hid (0<a5.pos):=by show 0<a5.pos;rw[zsG hn];exact af
       clear m s
       go_wp2
       go_roundg (gk-1)
       case rel=>exact⟨j1,S5,a5,rfl,by have:=HJ.out;omega,aw.out,au.out,ar.out,av.out,al.out⟩
       case measure=>omega
     ·have Z: ¬(j:Int)<(l.length:Int):=by omega
      have HZ:Hid (impFromI C l q= .ok H):=by show _=_;rw[ak.out,List.drop_eq_nil_of_le (by omega)];rfl
      go_wp2
      go_end0
      rw[HZ.out]
      exact⟨rfl,J,I.out,U.out⟩
theorem ziS (C:Cx) (D o j z b0:Nat) (r:Rw) (S:Sv) (q:PS) (l:List Ep) (w:World) (h:IM C D o j z S q w) (I:zb0 C) (J:l.length≤4000) (K:l.length≠0) (H:Fr 75 3 w b0 r l.length (l.flatMap (fun e=>imL (zbl e))) S):
  Calls Tryz.prog 115 #[.pointer (some ⟨z,0,none⟩),.slice r.a l.length r.cap] w (zT C D o j z (impFromI C l q) id (fun _=>.tuple #[]) S w):=by
 rcases H.1.nil_or with ⟨_,_,e⟩|⟨g,E⟩
 ·exact absurd e K
 ·rw[E]
  exact zsH C D o j z b0 g r S q l w h I J H E
theorem zlV {C:Cx} {D o j E:Nat} {S:Sv} {q:PS} {w:World} (h:IM C D o j E S q w) (t:TypeId) (xs:List Value):Fr t xs.length (w.alloc (.cells xs.toArray t)) w.heap.size ⟨some ⟨w.heap.size,0,none⟩,1⟩ 1 xs S:=by
 refine⟨?_,fun k g z=>?_⟩
 ·have:=World.ownsRow_lit (e:=t) (size:=xs.length) w xs.toArray 1 (Nat.le_refl _) (by unfold maxLen;omega) (by simp)
  simpa [OwnR] using this
 ·have H:w.heap.size=k:=by simpa [Rw.blk,Value.ownBlock] using g
  have:=(h.mem.own.has z).2
  omega
def zaW (C:Cx) (q:PS):PR:=
 if (zf C q.pos).kind==3 then bd (zy C q) fun a=>zd C 4 cSemi a.1
 else if isT C q.pos 4 zF then bd (zay C false (adv q) []) fun a=>impFromI C a.2 a.1
 else if isT C q.pos 4 zp then bd (zd C 1 sAs (adv q)) fun a=>bd (zk C false a) fun b=>impFromI C [⟨0,b.2,zp,sNone⟩] b.1
 else bd (zk C false q) fun b=>impFromI C [⟨0,b.2,sDefault,sNone⟩] b.1
theorem zsI (C:Cx) (E o j z:Nat) (S:Sv) (q:PS) (w:World) (h:IM C E o j z S q w) (hC:zb0 C) (hk:((zf C q.pos).kind==3)=true):
  Calls Tryz.prog 90 #[.pointer (some ⟨z,0,none⟩)] w (zT C E o j z (zaW C q) id (fun _=>.tuple #[]) S w):=by
 have M:=zc h
 have ab:=zcV
 have HY:Hid (zaW C q=bd (zy C q) fun a=>zd C 4 cSemi a.1):=if_pos hk
 clear h
 go_enter Tryz.func90,Tryz.ntmps90
 go_wp2_with fail
 refine (zbD C E o j z S q _ M.out).mono ?_
 rintro e w1 ⟨rfl,D⟩
 unfold tkV
 have X:Hid (IM C E o j z S q w1):=M.out.later D
 have H:Hid (IS z S w S w1):=IS.below D
 clear D
 go_wp2_with fail
 refine (zgA C E o j z S q _ X.out hC).mono ?_
 cases J:zy C q with
 |error p=>
  rintro e Z ⟨rfl,D⟩
  have Y:Hid (Below j w Z):=(M.out.back H.out).trans D
  have V:Hid (zaW C q= .error p):=bdE HY.out J
  unfold Pan
  go_wp2
  refine⟨rfl,?_⟩
  rw[V.out]
  exact⟨rfl,Y.out⟩
 |ok a2=>
  rintro e Z ⟨rfl,S2,m,s⟩
  have Q:=zc m
  have L:Hid (IS z S w S2 Z):=H.out.trans s
  clear m s
  have K:=zc (bdO HY.out J)
  go_wp2_with fail
  refine (zcw C E o j z S2 a2.1 59 _ Q.out).mono ?_
  cases I:zd C 4 cSemi a2.1 with
  |error p=>
   rintro e N ⟨rfl,D⟩
   have Y:Hid (Below j w N):=(M.out.back L.out).trans D
   have V:Hid (zaW C q= .error p):=K.out.trans I
   unfold Pan
   go_wp2
   refine⟨rfl,?_⟩
   rw[V.out]
   exact⟨rfl,Y.out⟩
  |ok a3=>
   rintro e N ⟨rfl,S3,m,s⟩
   have O:=zc m
   have aa:Hid (IS z S w S3 N):=L.out.trans s
   clear m s
   have U:=zc (K.out.trans I)
   go_wp2
   go_end0
   rw[U.out]
   exact⟨rfl,S3,O.out,aa.out⟩
theorem zsJ (C:Cx) (D o j z:Nat) (S:Sv) (q:PS) (w:World) (h:IM C D o j z S q w) (hC:zb0 C) (hk:((zf C q.pos).kind==3)=false) (h1:isT C q.pos 4 zF=true):
  Calls Tryz.prog 90 #[.pointer (some ⟨z,0,none⟩)] w (zT C D o j z (zaW C q) id (fun _=>.tuple #[]) S w):=by
 have N:=zc h
 have ad:=zcV
 have HY:Hid (zaW C q=bd (zay C false (adv q) []) fun a=>impFromI C a.2 a.1):=by show _=_;rw[zaW,hk,h1];rfl
 clear h
 go_enter Tryz.func90,Tryz.ntmps90
 go_wp2_with fail
 refine (zbD C D o j z S q _ N.out).mono ?_
 rintro e w1 ⟨rfl,E⟩
 unfold tkV
 have ac:Hid (IM C D o j z S q w1):=N.out.later E
 have V:Hid (IS z S w S w1):=IS.below E
 clear E
 go_wp2_with fail
 refine (zP C D o j z S q 4 zF _ ac.out (by decide)).mono ?_
 rintro e w2 ⟨rfl,m,s⟩
 rw[h1] at m ⊢
 have Y:=zc m
 have K:Hid (IS z S w S w2):=V.out.trans s
 clear m s
 go_wp2_with fail
 refine (zsF C D o j z S (adv q) _ Y.out).mono ?_
 cases H:zay C false (adv q) [] with
 |error p=>
  rintro e U ⟨rfl,E⟩
  have HB:Hid (Below j w U):=(N.out.back K.out).trans E
  have HX:Hid (zaW C q= .error p):=bdE HY.out H
  unfold Pan
  go_wp2
  refine⟨rfl,?_⟩
  rw[HX.out]
  exact⟨rfl,HB.out⟩
 |ok M=>
  rintro e U ⟨r,S3,rfl,m,s,f,l0,l1⟩
  have X:=zc m
  have L:Hid (IS z S w S3 U):=K.out.trans s
  have Q:=zc f
  clear m s f
  have I:=zc (bdO HY.out H)
  go_wp2_with fail
  refine (ziS C D o j z _ r S3 M.1 M.2 _ X.out hC l1 (by omega) Q.out).mono ?_
  cases J:impFromI C M.2 M.1 with
  |error p=>
   rintro e Z ⟨rfl,E⟩
   have HB:Hid (Below j w Z):=(N.out.back L.out).trans E
   have HX:Hid (zaW C q= .error p):=I.out.trans J
   unfold Pan
   go_wp2
   refine⟨rfl,?_⟩
   rw[HX.out]
   exact⟨rfl,HB.out⟩
  |ok a4=>
   rintro e Z ⟨rfl,S4,m,s⟩
   have O:=zc m
   have ab:Hid (IS z S w S4 Z):=L.out.trans s
   clear m s
   have aa:=zc (I.out.trans J)
   go_wp2
   go_end0
   rw[aa.out]
   exact⟨rfl,S4,O.out,ab.out⟩
theorem zsK (C:Cx) (D o j z:Nat) (S:Sv) (q:PS) (w:World) (h:IM C D o j z S q w) (hC:zb0 C) (hk:((zf C q.pos).kind==3)=false) (h1:isT C q.pos 4 zF=false) (h2:isT C q.pos 4 zp=true):
  Calls Tryz.prog 90 #[.pointer (some ⟨z,0,none⟩)] w (zT C D o j z (zaW C q) id (fun _=>.tuple #[]) S w):=by
 have M:=zc h
 have aj:=zcV
 have HY:Hid (zaW C q=bd (zd C 1 sAs (adv q)) fun a=>bd (zk C false a) fun b=>impFromI C [⟨0,b.2,zp,sNone⟩] b.1):=by show _=_;rw[zaW,hk,h1,h2];rfl
 clear h
 go_enter Tryz.func90,Tryz.ntmps90
 go_wp2_with fail
 refine (zbD C D o j z S q _ M.out).mono ?_
 rintro e w1 ⟨rfl,E⟩
 unfold tkV
 have ag:Hid (IM C D o j z S q w1):=M.out.later E
 have ac:Hid (IS z S w S w1):=IS.below E
 clear E
 go_wp2_with fail
 refine (zP C D o j z S q 4 zF _ ag.out (by decide)).mono ?_
 rintro e w2 ⟨rfl,m,s⟩
 rw[h1] at m ⊢
 have ae:=zc m
 have ai:Hid (IS z S w S w2):=ac.out.trans s
 clear m s
 go_wp2_with fail
 refine (zP C D o j z S q 4 zp _ ae.out (by decide)).mono ?_
 rintro e w3 ⟨rfl,m,s⟩
 rw[h2] at m ⊢
 have ad:=zc m
 have Y:Hid (IS z S w S w3):=ai.out.trans s
 clear m s
 go_wp2_with fail
 refine (zeU C D o j z S (adv q) sAs _ ad.out).mono ?_
 cases N:zd C 1 sAs (adv q) with
 |error p=>
  rintro e w4 ⟨rfl,E⟩
  have X:Hid (Below j w w4):=(M.out.back Y.out).trans E
  have O:Hid (zaW C q= .error p):=bdE HY.out N
  unfold Pan
  go_wp2
  refine⟨rfl,?_⟩
  rw[O.out]
  exact⟨rfl,X.out⟩
 |ok a4=>
  rintro e w4 ⟨rfl,S4,m,s⟩
  have aa:=zc m
  have U:Hid (IS z S w S4 w4):=Y.out.trans s
  clear m s
  have Q:=zc (bdO HY.out N)
  go_wp2_with fail
  refine (zd1 C D o j z S4 a4 _ aa.out).mono ?_
  cases J:zk C false a4 with
  |error p=>
   rintro e Z ⟨rfl,E⟩
   have X:Hid (Below j w Z):=(M.out.back U.out).trans E
   have O:Hid (zaW C q= .error p):=bdE Q.out J
   unfold Pan
   go_wp2
   refine⟨rfl,?_⟩
   rw[O.out]
   exact⟨rfl,X.out⟩
  |ok H=>
   rintro e Z ⟨rfl,S5,m,s⟩
   have K:=zc m
   have I:Hid (IS z S w S5 Z):=U.out.trans s
   clear m s
   have L:=zc (bdO Q.out J)
   go_wp2_with fail
   refine (ziS C D o j z _ ⟨some ⟨Z.heap.size,0,none⟩,1⟩ S5 H.1 [⟨0,H.2,zp,sNone⟩] _ (K.out.alloc _) hC (by simp) (by simp) (zlV K.out 75 (imL (zbl ⟨0,H.2,zp,sNone⟩)))).mono ?_
   cases V:impFromI C [⟨0,H.2,zp,sNone⟩] H.1 with
   |error p=>
    rintro e w6 ⟨rfl,E⟩
    have X:Hid (Below j w w6):=(M.out.back (I.out.alloc _)).trans E
    have O:Hid (zaW C q= .error p):=L.out.trans V
    unfold Pan
    go_wp2
    refine⟨rfl,?_⟩
    rw[O.out]
    exact⟨rfl,X.out⟩
   |ok a6=>
    rintro e w6 ⟨rfl,S6,m,s⟩
    have ah:=zc m
    have af:Hid (IS z S w S6 w6):=(I.out.alloc _).trans s
    clear m s
    have ab:=zc (L.out.trans V)
    go_wp2
    go_end0
    rw[ab.out]
    exact⟨rfl,S6,ah.out,af.out⟩
theorem zsL (C:Cx) (D o j z:Nat) (S:Sv) (q:PS) (w:World) (h:IM C D o j z S q w) (hC:zb0 C) (hk:((zf C q.pos).kind==3)=false) (h1:isT C q.pos 4 zF=false) (h2:isT C q.pos 4 zp=false):
  Calls Tryz.prog 90 #[.pointer (some ⟨z,0,none⟩)] w (zT C D o j z (zaW C q) id (fun _=>.tuple #[]) S w):=by
 have O:=zc h
 have ad:=zcV
 have HY:Hid (zaW C q=bd (zk C false q) fun b=>impFromI C [⟨0,b.2,sDefault,sNone⟩] b.1):=by show _=_;rw[zaW,hk,h1,h2];rfl
 clear h
 go_enter Tryz.func90,Tryz.ntmps90
 go_wp2_with fail
 refine (zbD C D o j z S q _ O.out).mono ?_
 rintro e w1 ⟨rfl,E⟩
 unfold tkV
 have ab:Hid (IM C D o j z S q w1):=O.out.later E
 have U:Hid (IS z S w S w1):=IS.below E
 clear E
 go_wp2_with fail
 refine (zP C D o j z S q 4 zF _ ab.out (by decide)).mono ?_
 rintro e w2 ⟨rfl,m,s⟩
 rw[h1] at m ⊢
 have aa:=zc m
 have ac:Hid (IS z S w S w2):=U.out.trans s
 clear m s
 go_wp2_with fail
 refine (zP C D o j z S q 4 zp _ aa.out (by decide)).mono ?_
 rintro e w3 ⟨rfl,m,s⟩
 rw[h2] at m ⊢
 have X:=zc m
 have N:Hid (IS z S w S w3):=ac.out.trans s
 clear m s
 go_wp2_with fail
 refine (zd1 C D o j z S q _ X.out).mono ?_
 cases J:zk C false q with
 |error p=>
  rintro e Q ⟨rfl,E⟩
  have HB:Hid (Below j w Q):=(O.out.back N.out).trans E
  have HX:Hid (zaW C q= .error p):=bdE HY.out J
  unfold Pan
  go_wp2
  refine⟨rfl,?_⟩
  rw[HX.out]
  exact⟨rfl,HB.out⟩
 |ok M=>
  rintro e Q ⟨rfl,S4,m,s⟩
  have H:=zc m
  have L:Hid (IS z S w S4 Q):=N.out.trans s
  clear m s
  have K:=zc (bdO HY.out J)
  go_wp2_with fail
  refine (ziS C D o j z _ ⟨some ⟨Q.heap.size,0,none⟩,1⟩ S4 M.1 [⟨0,M.2,sDefault,sNone⟩] _ (H.out.alloc _) hC (by simp) (by simp) (zlV H.out 75 (imL (zbl ⟨0,M.2,sDefault,sNone⟩)))).mono ?_
  cases I:impFromI C [⟨0,M.2,sDefault,sNone⟩] M.1 with
  |error p=>
   rintro e w5 ⟨rfl,E⟩
   have HB:Hid (Below j w w5):=(O.out.back (L.out.alloc _)).trans E
   have HX:Hid (zaW C q= .error p):=K.out.trans I
   unfold Pan
   go_wp2
   refine⟨rfl,?_⟩
   rw[HX.out]
   exact⟨rfl,HB.out⟩
  |ok a5=>
   rintro e w5 ⟨rfl,S5,m,s⟩
   have Y:=zc m
   have V:Hid (IS z S w S5 w5):=(L.out.alloc _).trans s
   clear m s
   have Z:=zc (K.out.trans I)
   go_wp2
   go_end0
   rw[Z.out]
   exact⟨rfl,S5,Y.out,V.out⟩
theorem zsM (C:Cx) (D o j z:Nat) (S:Sv) (q:PS) (w:World) (h:IM C D o j z S q w) (H:zb0 C):
  Calls Tryz.prog 90 #[.pointer (some ⟨z,0,none⟩)] w (zT C D o j z (zaW C q) id (fun _=>.tuple #[]) S w):=by
 cases E:((zf C q.pos).kind==3) with
 |true=>exact zsI C D o j z S q w h H E
 |false=>
  cases I:isT C q.pos 4 zF with
  |true=>exact zsJ C D o j z S q w h H E I
  |false=>
   cases J:isT C q.pos 4 zp with
   |true=>exact zsK C D o j z S q w h H E I J
   |false=>exact zsL C D o j z S q w h H E I J
end Go.Proofs.YthfeoomfiafldaaGreat
