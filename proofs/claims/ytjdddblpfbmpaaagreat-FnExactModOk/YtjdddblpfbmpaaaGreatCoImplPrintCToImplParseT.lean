/-
  What impl's imp answers: the walk.
  What impl's exp answers: the walk.
  What impl's kind answers,and side,if expr answers so: the walks.
  What impl's stmt answers,if expr answers so: the walk.
  What impl's program of the printer answers,if expr answers so: the walk.
  What impl's sum answers,if expr answers so,and what expr answers,kind by kind: the walks.
  What impl's expr answers,whole. No walk is zp.
  What impl.Print answers: the walk.
  What importList of impl's parser answers: the walk.
  What importFrom of impl's parser answers: the walk.
  What importItem of impl's parser answers: the walks.
-/
import Derived.Deep.RegionWith
import Derived.Test.YtjdddblpfbmpaaaGreatCoImplBuilderToImplPrintB
namespace Go.Proofs.YtjdddblpfbmpaaaGreat
set_option maxRecDepth 100000
set_option maxHeartbeats 12800000
open Go.RowKit Go.PlainAid Go.Sort
theorem zbQ (c:PC) (t:ByteArray) (j:List ByteArray) (w:World) (h:PP c t w) (n:(zr t j).size≤140737488355328) (H:j.length≤4294967296):
  Calls Tryz.prog 122 #[.slice (some ⟨w.heap.size,0,none⟩) j.length j.length,.pointer (some ⟨c.b,0,none⟩)] (w.alloc (.cells (j.map Value.string).toArray 9)).drew (PO c (zr t j) w):=by
 have q:Below w.heap.size w (w.alloc (.cells (j.map Value.string).toArray 9)).drew:=((Below.refl _ _).alloc (Nat.le_refl _) _).drew
 refine (zie c t j w.heap.size _ (h.later q) (heap_alloc_new w _) n H).mono ?_
 rintro e I ⟨z,D,A,E⟩
 exact⟨z,D,(q.mono h.1.2).trans A,(KeepB.of_below q).trans E⟩
def zbR (x:Im):ByteArray:=
 if x.first.toList==[42] then ({data:=#[105,109,112,111,114,116,32]}:ByteArray)++({data:=#[42,32,97,115,32]}:ByteArray)++x.loc
 else if x.first.toList==[100,101,102,97,117,108,116] then ({data:=#[105,109,112,111,114,116,32]}:ByteArray)++x.loc
 else ({data:=#[105,109,112,111,114,116,32]}:ByteArray)++zb3 x.first x.loc
theorem zm5 {x:Im} (e:(x.first.toList==[42])=true):zbR x=({data:=#[105,109,112,111,114,116,32]}:ByteArray)++({data:=#[42,32,97,115,32]}:ByteArray)++x.loc:=by rw[zbR,e];rfl
theorem zm6 {x:Im} (e:(x.first.toList==[42])=false) (h:(x.first.toList==[100,101,102,97,117,108,116])=true):zbR x=({data:=#[105,109,112,111,114,116,32]}:ByteArray)++x.loc:=by rw[zbR,e,h];rfl
theorem zm7 {x:Im} (e:(x.first.toList==[42])=false) (h:(x.first.toList==[100,101,102,97,117,108,116])=false):zbR x=({data:=#[105,109,112,111,114,116,32]}:ByteArray)++zb3 x.first x.loc:=by rw[zbR,e,h];rfl
theorem zb9 (a b:Array UInt8):(⟨a++b⟩:ByteArray)=⟨a⟩++⟨b⟩:=by
 apply ByteArray.ext
 simp
theorem zdO (x:Im):zU x=zbR x++({data:=#[32,102,114,111,109,32]}:ByteArray)++zaq x.spec++({data:=#[59]}:ByteArray)++({data:=#[10]}:ByteArray):=by
 have q:({data:=#[59,10]}:ByteArray)={data:=#[59]}++{data:=#[10]}:=zb9 #[59] #[10]
 have j:({data:=#[105,109,112,111,114,116,32,42,32,97,115,32]}:ByteArray)={data:=#[105,109,112,111,114,116,32]}++{data:=#[42,32,97,115,32]}:=zb9 #[105,109,112,111,114,116,32] #[42,32,97,115,32]
 have n:({data:=#[105,109,112,111,114,116,32,123,32]}:ByteArray)={data:=#[105,109,112,111,114,116,32]}++{data:=#[123,32]}:=zb9 #[105,109,112,111,114,116,32] #[123,32]
 have h:({data:=#[32,125,32,102,114,111,109,32]}:ByteArray)={data:=#[32,125]}++{data:=#[32,102,114,111,109,32]}:=zb9 #[32,125] #[32,102,114,111,109,32]
 unfold zU zbR zb3
 rw[q,j,n,h]
 split
 ·simp only[ByteArray.append_assoc]
 ·split<;>simp only[ByteArray.append_assoc]
theorem zm8 (x:Im):(({data:=#[105,109,112,111,114,116,32]}:ByteArray)).size≤(zU x).size:=by
 rw[zdO,zbR]
 split
 ·simp only[ByteArray.size_append];omega
 ·split<;>(simp only[ByteArray.size_append];omega)
theorem zm9 (c:PC) (t:ByteArray) (x:Im) (w:World) (h:PP c t w) (z:(t++zU x).size≤140737488355328) (h1:x.spec.size≤1099511627776):
  Calls Tryz.prog 172 #[.pointer (some ⟨c.gp,0,none⟩),imV x] w (PO c (t++zU x) w):=by
 have HP:=zc h
 have K:=zc z
 clear h z
 have HZ:Hid (t.size+(zU x).size≤140737488355328∧(({data:=#[105,109,112,111,114,116,32]}:ByteArray)).size≤(zU x).size):=⟨by have:=K.out;rw[ByteArray.size_append] at this;exact this,zm8 x⟩
 unfold imV
 go_enter Tryz.func172,Tryz.ntmps172
 go_upto_region 1 with fail
 have HW:Hid (Below w.heap.size w (w.alloc (.cells #[.string x.spec,.string x.first,.string x.loc] 84))):=(Below.refl _ _).alloc (Nat.le_refl _) _
 refine zac (R:=fun W=>W.heap[w.heap.size]? =some (.cells #[.string x.spec,.string x.first,.string x.loc] 84 (0,0))∧PP c t W∧Below c.B w W∧KeepB c.b w W) ⟨heap_alloc_new w _,HP.out.later HW.out,HW.out.mono HP.out.1.2,KeepB.of_below HW.out⟩ ?_
 obtain⟨gx,J⟩: ∃gx,gx=w.heap.size:=⟨_,rfl⟩
 have O:gx≠c.b:=by
  rw[J]
  obtain⟨ah,hc⟩:=zb8 HP.out.1.1
  have:=(Array.getElem?_eq_some_iff.1 hc).1
  omega
 rw[←J]
 rintro W ⟨hx,hp,hb,hk⟩
 clear J HW
 have X:=zc hx
 have H:=zc hp
 have U:=zc hb
 have Y:=zc hk
 clear hx hp hb hk
 obtain⟨x0,x1,x2,xf⟩:=zbq X.out
 obtain⟨p0,p1,p2,p3,p4,p5,pf⟩:=zu H.out.2.2.1
 go_wp2_with fail
 refine (zbr c t [{data:=#[105,109,112,111,114,116,32]}] W H.out (by have:=HZ.out;simp only[zr,List.foldl_cons,List.foldl_nil,ByteArray.size_append] at this ⊢;omega) (by simp)).mono ?_
 rintro e M ⟨rfl,N,Z,E⟩
 have A:=zc N
 have ad:=zc (U.out.trans Z)
 have ab:=zc (Y.out.trans E)
 have X1:=zc ((E _ _ _ _ X.out O (by decide)).trans X.out)
 clear N Z E p0 p1 p2 p3 p4 p5 pf x0 x1 x2 xf H U Y X
 obtain⟨x0,x1,x2,xf⟩:=zbq X1.out
 obtain⟨p0,p1,p2,p3,p4,p5,pf⟩:=zu A.out.2.2.1
 have aa:=(Array.getElem?_eq_some_iff.1 A.out.2.2.1).1
 have L:=(Array.getElem?_eq_some_iff.1 X1.out).1
 have z:=K.out
 go_upto_block 0 with fail
 go_cut [] from 12 to 37 (fun wx=>PP c (t++zbR x) wx∧Below c.B M wx∧KeepB c.b M wx)
 case first=>
  cases e1:(x.first.toList==[42]) with
  |true=>
   have D:Hid (zbR x=({data:=#[105,109,112,111,114,116,32]}:ByteArray)++({data:=#[42,32,97,115,32]}:ByteArray)++x.loc):=zm5 e1
   go_wp2_with fail
   go_region_with (go_at_call 122;refine (zbQ c _ [{data:=#[42,32,97,115,32]},x.loc] M A.out (by have:=K.out;rw[zdO,D.out] at this;simp only[zr,List.foldl_cons,List.foldl_nil,ByteArray.size_append] at this ⊢;omega) (by simp)).mono ?_;rintro e w2 ⟨rfl,j,q,n⟩)
   all_goals (go_wp2_with fail;go_meet;exact⟨by rw[D.out];simp only[zr,List.foldl_cons,List.foldl_nil,←ByteArray.append_assoc] at j ⊢;exact j,q,n⟩)
  |false=>
   cases e2:(x.first.toList==[100,101,102,97,117,108,116]) with
   |true=>
    have D:Hid (zbR x=({data:=#[105,109,112,111,114,116,32]}:ByteArray)++x.loc):=zm6 e1 e2
    go_wp2_with fail
    go_region_with (go_at_call 122;refine (zbQ c _ [x.loc] M A.out (by have:=K.out;rw[zdO,D.out] at this;simp only[zr,List.foldl_cons,List.foldl_nil,ByteArray.size_append] at this ⊢;omega) (by simp)).mono ?_;rintro e w2 ⟨rfl,j,q,n⟩)
    all_goals (go_wp2_with fail;go_meet;exact⟨by rw[D.out];simp only[zr,List.foldl_cons,List.foldl_nil,←ByteArray.append_assoc] at j ⊢;exact j,q,n⟩)
   |false=>
    have D:Hid (zbR x=({data:=#[105,109,112,111,114,116,32]}:ByteArray)++zb3 x.first x.loc):=zm7 e1 e2
    go_wp2_with fail
    refine (zgc c _ x.first x.loc M A.out (by have:=K.out;rw[zdO,D.out] at this;simp only[zr,List.foldl_cons,List.foldl_nil,ByteArray.size_append] at this ⊢;omega)).mono ?_
    rintro e w2 ⟨rfl,j,q,n⟩
    go_wp2_with fail
    go_meet
    exact⟨by rw[D.out];simp only[zr,List.foldl_cons,List.foldl_nil,←ByteArray.append_assoc] at j ⊢;exact j,q,n⟩
 case rest=>
 obtain⟨j,q,n⟩:=hcut
 rename_i w2
 have I:=zc j
 have ae:=zc (ad.out.trans q)
 have ac:=zc (ab.out.trans n)
 have X2:=zc ((n _ _ _ _ X1.out O (by decide)).trans X1.out)
 clear j q n p0 p1 p2 p3 p4 p5 pf x0 x1 x2 xf aa L
 obtain⟨p0,p1,p2,p3,p4,p5,pf⟩:=zu I.out.2.2.1
 obtain⟨x0,x1,x2,xf⟩:=zbq X2.out
 have aa:=(Array.getElem?_eq_some_iff.1 I.out.2.2.1).1
 have L:=(Array.getElem?_eq_some_iff.1 X2.out).1
 go_wp2_with fail
 go_region_with (first|(go_at_call 171;refine (zfl x.spec _ h1).mono ?_;rintro e w' ⟨rfl,rfl⟩)|(go_at_call 122;refine (zbQ c _ [{data:=#[32,102,114,111,109,32]},zaq x.spec,{data:=#[59]},{data:=#[10]}] _ I.out (by have:=K.out;rw[zdO] at this;simp only[zr,List.foldl_cons,List.foldl_nil,ByteArray.size_append] at this ⊢;omega) (by simp)).mono ?_;rintro e w3 ⟨rfl,V,ag,af⟩))
 all_goals (go_wp2;go_end0;exact⟨rfl,(by rw[zdO];simp only[zr,List.foldl_cons,List.foldl_nil,←ByteArray.append_assoc] at V ⊢;exact V),ae.out.trans ag,ac.out.trans af⟩)
def zbS (x:Ep):ByteArray:=
 if x.kind==3 then ({data:=#[101,120,112,111,114,116,32]}:ByteArray)++({data:=#[42,32,102,114,111,109,32]}:ByteArray)++zaq x.spec
 else if x.kind==2 then ({data:=#[101,120,112,111,114,116,32]}:ByteArray)++zb3 x.loc x.name++({data:=#[32,102,114,111,109,32]}:ByteArray)++zaq x.spec
 else ({data:=#[101,120,112,111,114,116,32]}:ByteArray)++zb3 x.loc x.name
theorem zmA {x:Ep} (e:(x.kind==3)=true):zbS x=({data:=#[101,120,112,111,114,116,32]}:ByteArray)++({data:=#[42,32,102,114,111,109,32]}:ByteArray)++zaq x.spec:=by rw[zbS,e];rfl
theorem zmB {x:Ep} (e:(x.kind==3)=false) (h:(x.kind==2)=true):zbS x=({data:=#[101,120,112,111,114,116,32]}:ByteArray)++zb3 x.loc x.name++({data:=#[32,102,114,111,109,32]}:ByteArray)++zaq x.spec:=by rw[zbS,e,h];rfl
theorem zmC {x:Ep} (e:(x.kind==3)=false) (h:(x.kind==2)=false):zbS x=({data:=#[101,120,112,111,114,116,32]}:ByteArray)++zb3 x.loc x.name:=by rw[zbS,e,h];rfl
theorem zdp (x:Ep):zaW x=zbS x++({data:=#[59]}:ByteArray)++({data:=#[10]}:ByteArray):=by
 have j:({data:=#[59,10]}:ByteArray)={data:=#[59]}++{data:=#[10]}:=zb9 #[59] #[10]
 have n:({data:=#[101,120,112,111,114,116,32,42,32,102,114,111,109,32]}:ByteArray)={data:=#[101,120,112,111,114,116,32]}++{data:=#[42,32,102,114,111,109,32]}:=zb9 #[101,120,112,111,114,116,32] #[42,32,102,114,111,109,32]
 have w:({data:=#[101,120,112,111,114,116,32,123,32]}:ByteArray)={data:=#[101,120,112,111,114,116,32]}++{data:=#[123,32]}:=zb9 #[101,120,112,111,114,116,32] #[123,32]
 have h:({data:=#[32,125,32,102,114,111,109,32]}:ByteArray)={data:=#[32,125]}++{data:=#[32,102,114,111,109,32]}:=zb9 #[32,125] #[32,102,114,111,109,32]
 have q:({data:=#[32,125,59,10]}:ByteArray)={data:=#[32,125]}++{data:=#[59,10]}:=zb9 #[32,125] #[59,10]
 unfold zaW zbS zb3
 rw[q,j,n,w,h]
 split
 ·simp only[ByteArray.append_assoc]
 ·split<;>simp only[ByteArray.append_assoc]
theorem zmD (x:Ep):(({data:=#[101,120,112,111,114,116,32]}:ByteArray)).size≤(zaW x).size:=by
 rw[zdp,zbS]
 split
 ·simp only[ByteArray.size_append];omega
 ·split<;>(simp only[ByteArray.size_append];omega)
theorem zmE (c:PC) (t:ByteArray) (x:Ep) (w:World) (h:PP c t w) (E:(t++zaW x).size≤140737488355328) (h1:x.spec.size≤1099511627776):
  Calls Tryz.prog 173 #[.pointer (some ⟨c.gp,0,none⟩),epV x] w (PO c (t++zaW x) w):=by
 have HP:=zc h
 have HL:=zc E
 clear h E
 have HZ:Hid (t.size+(zaW x).size≤140737488355328∧(({data:=#[101,120,112,111,114,116,32]}:ByteArray)).size≤(zaW x).size):=⟨by have:=HL.out;rw[ByteArray.size_append] at this;exact this,zmD x⟩
 unfold epV
 go_enter Tryz.func173,Tryz.ntmps173
 go_upto_region 1 with fail
 have HW:Hid (Below w.heap.size w (w.alloc (.cells #[.int .i64 x.kind,.string x.name,.string x.loc,.string x.spec] 86))):=(Below.refl _ _).alloc (Nat.le_refl _) _
 refine zac (R:=fun W=>W.heap[w.heap.size]? =some (.cells #[.int .i64 x.kind,.string x.name,.string x.loc,.string x.spec] 86 (0,0))∧PP c t W∧Below c.B w W∧KeepB c.b w W) ⟨heap_alloc_new w _,HP.out.later HW.out,HW.out.mono HP.out.1.2,KeepB.of_below HW.out⟩ ?_
 obtain⟨gx,ab⟩: ∃gx,gx=w.heap.size:=⟨_,rfl⟩
 have af:gx≠c.b:=by
  rw[ab]
  obtain⟨ao,hc⟩:=zb8 HP.out.1.1
  have:=(Array.getElem?_eq_some_iff.1 hc).1
  omega
 rw[←ab]
 rintro W ⟨hx,hp,hb,hk⟩
 clear ab HW
 have X:=zc hx
 have aa:=zc hp
 have ag:=zc hb
 have ah:=zc hk
 clear hx hp hb hk
 obtain⟨x0,x1,x2,x3,xf⟩:=zcT X.out
 obtain⟨p0,Z,U,N,L,K,V⟩:=zu aa.out.2.2.1
 go_wp2_with fail
 refine (zbr c t [{data:=#[101,120,112,111,114,116,32]}] W aa.out (by have:=HZ.out;simp only[zr,List.foldl_cons,List.foldl_nil,ByteArray.size_append] at this ⊢;omega) (by simp)).mono ?_
 rintro e w1 ⟨rfl,ae,aj,O⟩
 have H:=zc ae
 have am:=zc (ag.out.trans aj)
 have ak:=zc (ah.out.trans O)
 have X1:=zc ((O _ _ _ _ X.out af (by decide)).trans X.out)
 clear ae aj O p0 Z U N L K V x0 x1 x2 x3 xf aa ag ah X
 obtain⟨x0,x1,x2,x3,xf⟩:=zcT X1.out
 obtain⟨p0,Z,U,N,L,K,V⟩:=zu H.out.2.2.1
 have ad:=(Array.getElem?_eq_some_iff.1 H.out.2.2.1).1
 have M:=(Array.getElem?_eq_some_iff.1 X1.out).1
 have E:=HL.out
 go_upto_block 0 with fail
 go_cut [] from 12 to 45 (fun wx=>PP c (t++zbS x) wx∧Below c.B w1 wx∧KeepB c.b w1 wx)
 case first=>
  cases e1:(x.kind==3) with
  |true=>
   have J:Hid (zbS x=({data:=#[101,120,112,111,114,116,32]}:ByteArray)++({data:=#[42,32,102,114,111,109,32]}:ByteArray)++zaq x.spec):=zmA e1
   go_wp2_with fail
   go_region_with (first|(go_at_call 171;refine (zfl x.spec _ h1).mono ?_;rintro e w' ⟨rfl,rfl⟩)|(go_at_call 122;refine (zbQ c _ [{data:=#[42,32,102,114,111,109,32]},zaq x.spec] w1 H.out (by have:=HL.out;rw[zdp,J.out] at this;simp only[zr,List.foldl_cons,List.foldl_nil,ByteArray.size_append] at this ⊢;omega) (by simp)).mono ?_;rintro e w2 ⟨rfl,j,z,n⟩))
   all_goals (go_wp2_with fail;go_meet;exact⟨by rw[J.out];simp only[zr,List.foldl_cons,List.foldl_nil,←ByteArray.append_assoc] at j ⊢;exact j,z,n⟩)
  |false=>
   cases e2:(x.kind==2) with
   |true=>
    have J:Hid (zbS x=({data:=#[101,120,112,111,114,116,32]}:ByteArray)++zb3 x.loc x.name++({data:=#[32,102,114,111,109,32]}:ByteArray)++zaq x.spec):=zmB e1 e2
    go_wp2_with fail
    refine (zgc c _ x.loc x.name w1 H.out (by have:=HL.out;rw[zdp,J.out] at this;simp only[zr,List.foldl_cons,List.foldl_nil,ByteArray.size_append] at this ⊢;omega)).mono ?_
    rintro e w3 ⟨rfl,q,I,A⟩
    have D:=zc q
    have X3:=zc ((A _ _ _ _ X1.out af (by decide)).trans X1.out)
    have Y:=zc I
    have ac:=zc A
    clear q I A p0 Z U N L K V x0 x1 x2 x3 xf ad M
    obtain⟨p0,Z,U,N,L,K,V⟩:=zu D.out.2.2.1
    obtain⟨x0,x1,x2,x3,xf⟩:=zcT X3.out
    have ad:=(Array.getElem?_eq_some_iff.1 D.out.2.2.1).1
    have M:=(Array.getElem?_eq_some_iff.1 X3.out).1
    go_wp2_with fail
    go_region_with (first|(go_at_call 171;refine (zfl x.spec _ h1).mono ?_;rintro e w' ⟨rfl,rfl⟩)|(go_at_call 122;refine (zbQ c _ [{data:=#[32,102,114,111,109,32]},zaq x.spec] w3 D.out (by have:=HL.out;rw[zdp,J.out] at this;simp only[zr,List.foldl_cons,List.foldl_nil,ByteArray.size_append] at this ⊢;omega) (by simp)).mono ?_;rintro e w2 ⟨rfl,j,z,n⟩))
    all_goals (go_wp2_with fail;go_meet;exact⟨by rw[J.out];simp only[zr,List.foldl_cons,List.foldl_nil,←ByteArray.append_assoc] at j ⊢;exact j,Y.out.trans z,ac.out.trans n⟩)
   |false=>
    have J:Hid (zbS x=({data:=#[101,120,112,111,114,116,32]}:ByteArray)++zb3 x.loc x.name):=zmC e1 e2
    go_wp2_with fail
    refine (zgc c _ x.loc x.name w1 H.out (by have:=HL.out;rw[zdp,J.out] at this;simp only[zr,List.foldl_cons,List.foldl_nil,ByteArray.size_append] at this ⊢;omega)).mono ?_
    rintro e w2 ⟨rfl,j,z,n⟩
    go_wp2_with fail
    go_meet
    exact⟨by rw[J.out];simp only[zr,List.foldl_cons,List.foldl_nil,←ByteArray.append_assoc] at j ⊢;exact j,z,n⟩
 case rest=>
 obtain⟨j,z,n⟩:=hcut
 rename_i w2
 have ai:=zc j
 have an:=zc (am.out.trans z)
 have al:=zc (ak.out.trans n)
 clear j z n p0 Z U N L K V x0 x1 x2 x3 xf ad M
 obtain⟨p0,Z,U,N,L,K,V⟩:=zu ai.out.2.2.1
 go_wp2_with fail
 refine (zbr c _ [{data:=#[59]},{data:=#[10]}] _ ai.out (by have:=HL.out;rw[zdp] at this;simp only[zr,List.foldl_cons,List.foldl_nil,ByteArray.size_append] at this ⊢;omega) (by simp)).mono ?_
 rintro e w3 ⟨rfl,q,I,A⟩
 have D:=zc q
 have Y:=zc (an.out.trans I)
 have ac:=zc (al.out.trans A)
 clear q I A p0 Z U N L K V
 go_wp2
 go_end0
 exact⟨rfl,(by have q:=D.out;rw[zdp];simp only[zr,List.foldl_cons,List.foldl_nil,←ByteArray.append_assoc] at q ⊢;exact q),Y.out,ac.out⟩
theorem zgd (c:PC) (t:ByteArray) (i:Nat) (w:World) (h:PP c t w) (H:i<c.m.ex.length):
  Calls Tryz.prog 222 #[.pointer (some ⟨c.gp,0,none⟩),.int .i64 (i:Int)] w fun e D=>e= .returned (.int .i64 (c.m.ex.getD i zf).kind)∧D=w:=by
 obtain⟨Y,U,L,J,A,K,O⟩:=zu h.2.2.1
 obtain⟨g,n,I,z,Z,V,N,M,X⟩:=h.2.1.expr H
 rw[n] at A
 have E:(i:Int)<(c.m.ex.length:Int):=by omega
 obtain⟨q,j⟩: ∃q,(c.m.ex.getD i zf).kind=q:=⟨_,rfl⟩
 rw[j] at z
 rw[j]
 clear h n j
 go_enter Tryz.func222,Tryz.ntmps222
 go_wp2
 go_ret
 exact⟨rfl,rfl⟩
def zbT (c:PC) (i:Nat):Prop:=∀(t:ByteArray) (w:World),PP c t w→(t++prX c.m.ex i).size≤140737488355328→Calls Tryz.prog 201 #[.pointer (some ⟨c.gp,0,none⟩),.int .i64 (i:Int)] w (PO c (t++prX c.m.ex i) w)
theorem zfm (c:PC) (t:ByteArray) (i:Nat) (o:Bool) (w:World) (ok:zbT c i) (h:PP c t w) (j:(t++zC o (prX c.m.ex i)).size≤140737488355328):
  Calls Tryz.prog 221 #[.pointer (some ⟨c.gp,0,none⟩),.int .i64 (i:Int),.bool o] w (PO c (t++zC o (prX c.m.ex i)) w):=by
 have OK:=zc ok
 have HP:=zc h
 clear ok h
 obtain⟨p0,p1,Y,U,X,V,Z⟩:=zu HP.out.2.2.1
 cases o with
 |false=>
  have K:Hid ((t++prX c.m.ex i).size≤140737488355328):=j
  clear j
  go_enter Tryz.func221,Tryz.ntmps221
  go_wp2_with fail
  refine (OK.out t w HP.out K.out).mono ?_
  rintro e w1 ⟨rfl,n,A,q⟩
  have E:=zc n
  have H:=zc A
  have D:=zc q
  clear n A q p0 p1 Y U X V Z
  go_wp2
  refine bodyPost_ret (results_none rfl _ _ _) rfl ?_
  exact⟨rfl,E.out,H.out,D.out⟩
 |true=>
  have K:Hid ((t++(zm++prX c.m.ex i++zaw)).size≤140737488355328):=j
  clear j
  go_enter Tryz.func221,Tryz.ntmps221
  go_wp2_with fail
  refine (zbr c t [zm] w HP.out (by have:=K.out;simp only[zr,List.foldl_cons,List.foldl_nil,ByteArray.size_append] at this ⊢;omega) (by simp)).mono ?_
  rintro e w1 ⟨rfl,n,A,q⟩
  have E:=zc n
  have H:=zc A
  have D:=zc q
  clear n A q p0 p1 Y U X V Z
  go_wp2_with fail
  refine (OK.out _ w1 E.out (by have:=K.out;simp only[zr,List.foldl_cons,List.foldl_nil,ByteArray.size_append] at this ⊢;omega)).mono ?_
  rintro e w2 ⟨rfl,J,L,I⟩
  have N:=zc J
  have ad:=zc (H.out.trans L)
  have ac:=zc (D.out.trans I)
  clear J L I
  obtain⟨p0,p1,Y,U,X,V,Z⟩:=zu N.out.2.2.1
  go_wp2_with fail
  refine (zbr c _ [zaw] w2 N.out (by have:=K.out;simp only[zr,List.foldl_cons,List.foldl_nil,ByteArray.size_append] at this ⊢;omega) (by simp)).mono ?_
  rintro e w3 ⟨rfl,z,O,M⟩
  have ab:=zc z
  have aa:=zc (ad.out.trans O)
  have ae:=zc (ac.out.trans M)
  clear z O M p0 p1 Y U X V Z
  go_wp2
  go_end0
  exact⟨rfl,(by have z:=ab.out;unfold zC;rw[if_pos rfl];simp only[zr,List.foldl_cons,List.foldl_nil,←ByteArray.append_assoc] at z ⊢;exact z),aa.out,ae.out⟩
def zaF (k:Int) (n:ByteArray):ByteArray:=
 if n.toList==[42,100,101,102,97,117,108,116] then ({data:=#[101,120,112,111,114,116,32]}:ByteArray)++({data:=#[100,101,102,97,117,108,116]}:ByteArray)++({data:=#[32]}:ByteArray)
 else if k==1 then ({data:=#[108,101,116,32]}:ByteArray)++n++({data:=#[32,61,32]}:ByteArray)
 else if k==2 then ({data:=#[102,117,110,99,116,105,111,110,32]}:ByteArray)++n++({data:=#[40,41,32,123,32,114,101,116,117,114,110,32]}:ByteArray)
 else if k==3 then n++({data:=#[32,61,32]}:ByteArray)
 else if k==4 then ({data:=#[112,114,105,110,116,40]}:ByteArray)
 else if k==5 then ({data:=#[116,104,114,111,119,32]}:ByteArray)
 else ({data:=#[102,97,105,108,32]}:ByteArray)
def zaB (k:Int) (n:ByteArray):ByteArray:=
 if n.toList==[42,100,101,102,97,117,108,116] then ({data:=#[59]}:ByteArray) else if k==2 then ({data:=#[59,32,125]}:ByteArray) else if k==4 then ({data:=#[41,59]}:ByteArray) else ({data:=#[59]}:ByteArray)
theorem zif {k:Int} {n:ByteArray} (e:(n.toList==[42,100,101,102,97,117,108,116])=true):zaF k n=({data:=#[101,120,112,111,114,116,32]}:ByteArray)++({data:=#[100,101,102,97,117,108,116]}:ByteArray)++({data:=#[32]}:ByteArray):=by rw[zaF,e];rfl
theorem zig {k:Int} {n:ByteArray} (e:(n.toList==[42,100,101,102,97,117,108,116])=true):zaB k n=({data:=#[59]}:ByteArray):=by rw[zaB,e];rfl
theorem zih {k:Int} {n:ByteArray} (e:(n.toList==[42,100,101,102,97,117,108,116])=false) (h:(k==1)=true):zaF k n=({data:=#[108,101,116,32]}:ByteArray)++n++({data:=#[32,61,32]}:ByteArray):=by rw[zaF,e,h];rfl
theorem zii {k:Int} {n:ByteArray} (e:(n.toList==[42,100,101,102,97,117,108,116])=false) (h:(k==1)=true):zaB k n=({data:=#[59]}:ByteArray):=by have q:=eq_of_beq h;subst q;rw[zaB,e];rfl
theorem zij {k:Int} {n:ByteArray} (e:(n.toList==[42,100,101,102,97,117,108,116])=false) (j:(k==1)=false) (h:(k==2)=true):zaF k n=({data:=#[102,117,110,99,116,105,111,110,32]}:ByteArray)++n++({data:=#[40,41,32,123,32,114,101,116,117,114,110,32]}:ByteArray):=by rw[zaF,e,j,h];rfl
theorem zik {k:Int} {n:ByteArray} (e:(n.toList==[42,100,101,102,97,117,108,116])=false) (h:(k==2)=true):zaB k n=({data:=#[59,32,125]}:ByteArray):=by rw[zaB,e,h];rfl
theorem zil {k:Int} {n:ByteArray} (e:(n.toList==[42,100,101,102,97,117,108,116])=false) (q:(k==1)=false) (j:(k==2)=false) (h:(k==3)=true):zaF k n=n++({data:=#[32,61,32]}:ByteArray):=by rw[zaF,e,q,j,h];rfl
theorem zim {k:Int} {n:ByteArray} (e:(n.toList==[42,100,101,102,97,117,108,116])=false) (h:(k==3)=true):zaB k n=({data:=#[59]}:ByteArray):=by have q:=eq_of_beq h;subst q;rw[zaB,e];rfl
theorem zin {k:Int} {n:ByteArray} (e:(n.toList==[42,100,101,102,97,117,108,116])=false) (w:(k==1)=false) (j:(k==2)=false) (h:(k==3)=false) (q:(k==4)=true):zaF k n=({data:=#[112,114,105,110,116,40]}:ByteArray):=by rw[zaF,e,w,j,h,q];rfl
theorem zio {k:Int} {n:ByteArray} (e:(n.toList==[42,100,101,102,97,117,108,116])=false) (h:(k==2)=false) (j:(k==4)=true):zaB k n=({data:=#[41,59]}:ByteArray):=by rw[zaB,e,h,j];rfl
theorem zip {k:Int} {n:ByteArray} (e:(n.toList==[42,100,101,102,97,117,108,116])=false) (j:(k==1)=false) (z:(k==2)=false) (q:(k==3)=false) (w:(k==4)=false) (h:(k==5)=true):zaF k n=({data:=#[116,104,114,111,119,32]}:ByteArray):=by rw[zaF,e,j,z,q,w,h];rfl
theorem ziq {k:Int} {n:ByteArray} (e:(n.toList==[42,100,101,102,97,117,108,116])=false) (h:(k==2)=false) (j:(k==4)=false):zaB k n=({data:=#[59]}:ByteArray):=by rw[zaB,e,h,j];rfl
theorem zir {k:Int} {n:ByteArray} (e:(n.toList==[42,100,101,102,97,117,108,116])=false) (j:(k==1)=false) (z:(k==2)=false) (q:(k==3)=false) (w:(k==4)=false) (h:(k==5)=false):zaF k n=({data:=#[102,97,105,108,32]}:ByteArray):=by rw[zaF,e,j,z,q,w,h];rfl
theorem zis {k:Int} {n:ByteArray} (e:(n.toList==[42,100,101,102,97,117,108,116])=false) (h:(k==2)=false) (j:(k==4)=false):zaB k n=({data:=#[59]}:ByteArray):=by rw[zaB,e,h,j];rfl
theorem zit (k:Int) (n e:ByteArray):zc8 k n e=zaF k n++e++zaB k n++({data:=#[10]}:ByteArray):=by
 have H:({data:=#[59,10]}:ByteArray)=({data:=#[59]}:ByteArray)++({data:=#[10]}:ByteArray):=zb9 #[59] #[10]
 have E:({data:=#[59,32,125,10]}:ByteArray)=({data:=#[59,32,125]}:ByteArray)++({data:=#[10]}:ByteArray):=zb9 #[59,32,125] #[10]
 have J:({data:=#[41,59,10]}:ByteArray)=({data:=#[41,59]}:ByteArray)++({data:=#[10]}:ByteArray):=zb9 #[41,59] #[10]
 have D:({data:=#[101,120,112,111,114,116,32,100,101,102,97,117,108,116,32]}:ByteArray)=({data:=#[101,120,112,111,114,116,32,100,101,102,97,117,108,116]}:ByteArray)++({data:=#[32]}:ByteArray):=zb9 #[101,120,112,111,114,116,32,100,101,102,97,117,108,116] #[32]
 have I:({data:=#[101,120,112,111,114,116,32,100,101,102,97,117,108,116]}:ByteArray)=({data:=#[101,120,112,111,114,116,32]}:ByteArray)++({data:=#[100,101,102,97,117,108,116]}:ByteArray):=zb9 #[101,120,112,111,114,116,32] #[100,101,102,97,117,108,116]
 unfold zc8 zav
 rw[H,E,J,D,I]
 cases h:(n.toList==[42,100,101,102,97,117,108,116]) with
 |true=>rw[zif h,zig h];simp only[↓reduceIte,ByteArray.append_assoc]
 |false=>
  cases q:(k==1) with
  |true=>rw[zih h q,zii h q];simp only[↓reduceIte,Bool.false_eq_true,ByteArray.append_assoc]
  |false=>
   cases j:(k==2) with
   |true=>rw[zij h q j,zik h j];simp only[↓reduceIte,Bool.false_eq_true,ByteArray.append_assoc]
   |false=>
    cases z:(k==3) with
    |true=>rw[zil h q j z,zim h z];simp only[↓reduceIte,Bool.false_eq_true,ByteArray.append_assoc]
    |false=>
     cases w:(k==4) with
     |true=>rw[zin h q j z w,zio h j w];simp only[↓reduceIte,Bool.false_eq_true,ByteArray.append_assoc]
     |false=>
      cases A:(k==5) with
      |true=>rw[zip h q j z w A,ziq h j w];simp only[↓reduceIte,Bool.false_eq_true,ByteArray.append_assoc]
      |false=>
       rw[zir h q j z w A,zis h j w];simp only[↓reduceIte,Bool.false_eq_true,ByteArray.append_assoc]
theorem zmF (k:Int) (n e:ByteArray):(zc8 k n e).size=(zaF k n).size+e.size+(zaB k n).size+1:=by
 rw[zit,ByteArray.size_append,ByteArray.size_append,ByteArray.size_append]
 rfl
theorem zmG (c:PC) (t:ByteArray) (k:Int) (n:ByteArray) (i:Nat) (w:World) (ok:zbT c i) (h:PP c t w) (L:(t++zc8 k n (prX c.m.ex i)).size≤140737488355328):
  Calls Tryz.prog 174 #[.pointer (some ⟨c.gp,0,none⟩),.agg #[.int .i64 k,.string n,.int .i64 (i:Int)]] w (PO c (t++zc8 k n (prX c.m.ex i)) w):=by
 have HP:=zc h
 have OK:=zc ok
 have O:Hid (t.size+((zaF k n).size+(prX c.m.ex i).size+(zaB k n).size+1)≤140737488355328):=by show _≤_;rw[ByteArray.size_append,zmF] at L;exact L
 clear h L ok
 go_enter Tryz.func174,Tryz.ntmps174
 go_upto_region 1 with fail
 have HW:Hid (Below w.heap.size w (w.alloc (.cells #[.int .i64 k,.string n,.int .i64 (i:Int)] 107))):=(Below.refl _ _).alloc (Nat.le_refl _) _
 refine zac (R:=fun W=>W.heap[w.heap.size]? =some (.cells #[.int .i64 k,.string n,.int .i64 (i:Int)] 107 (0,0))∧PP c t W∧Below c.B w W∧KeepB c.b w W) ⟨heap_alloc_new w _,HP.out.later HW.out,HW.out.mono HP.out.1.2,KeepB.of_below HW.out⟩ ?_
 obtain⟨gx,V⟩: ∃gx,gx=w.heap.size:=⟨_,rfl⟩
 have ag:gx≠c.b:=by
  rw[V]
  obtain⟨au,hc⟩:=zb8 HP.out.1.1
  have:=(Array.getElem?_eq_some_iff.1 hc).1
  omega
 rw[←V]
 rintro M ⟨hx,hp,hb,hk⟩
 clear V HW
 have X1:=zc hx
 have E:=zc hp
 have am:=zc hb
 have aj:=zc hk
 clear hx hp hb hk
 obtain⟨x0,x1,x2,xf⟩:=zbq X1.out
 obtain⟨p0,p1,p2,p3,p4,p5,pf⟩:=zu E.out.2.2.1
 have ar:=(Array.getElem?_eq_some_iff.1 E.out.2.2.1).1
 have af:=(Array.getElem?_eq_some_iff.1 X1.out).1
 go_upto_block 0 with fail
 go_cut [4] from 5 to 76 (fun s4 wx=>s4= .string (zaB k n)∧PP c (t++zaF k n) wx∧Below c.B M wx∧KeepB c.b M wx)
 case first=>
  cases H:(n.toList==[42,100,101,102,97,117,108,116]) with
  |true=>
   have D:Hid (zaF k n=({data:=#[101,120,112,111,114,116,32]}:ByteArray)++({data:=#[100,101,102,97,117,108,116]}:ByteArray)++({data:=#[32]}:ByteArray)):=zif H
   have J:Hid (zaB k n=({data:=#[59]}:ByteArray)):=zig H
   have I:Hid ((zr t [{data:=#[101,120,112,111,114,116,32]},{data:=#[100,101,102,97,117,108,116]},{data:=#[32]}]).size≤140737488355328):=by show _≤_;have:=O.out;rw[D.out] at this;simp only[zr,List.foldl_cons,List.foldl_nil,ByteArray.size_append] at this ⊢;omega
   go_wp2_with fail
   refine (zbr c t [{data:=#[101,120,112,111,114,116,32]},{data:=#[100,101,102,97,117,108,116]},{data:=#[32]}] M E.out I.out (by simp)).mono ?_
   rintro e X ⟨rfl,j,A,q⟩
   go_wp2_with fail
   go_meet
   exact⟨by rw[J.out],by rw[D.out];simp only[zr,List.foldl_cons,List.foldl_nil,←ByteArray.append_assoc] at j ⊢;exact j,A,q⟩
  |false=>
   cases U:(k==1) with
   |true=>
    have D:Hid (zaF k n=({data:=#[108,101,116,32]}:ByteArray)++n++({data:=#[32,61,32]}:ByteArray)):=zih H U
    have J:Hid (zaB k n=({data:=#[59]}:ByteArray)):=zii H U
    have I:Hid ((zr t [{data:=#[108,101,116,32]},n,{data:=#[32,61,32]}]).size≤140737488355328):=by show _≤_;have:=O.out;rw[D.out] at this;simp only[zr,List.foldl_cons,List.foldl_nil,ByteArray.size_append] at this ⊢;omega
    go_wp2_with fail
    go_region_with (go_at_call 122;refine (zbQ c t [{data:=#[108,101,116,32]},n,{data:=#[32,61,32]}] M E.out I.out (by simp)).mono ?_;rintro e X ⟨rfl,j,A,q⟩)
    all_goals (go_wp2_with fail;go_meet;exact⟨by rw[J.out],by rw[D.out];simp only[zr,List.foldl_cons,List.foldl_nil,←ByteArray.append_assoc] at j ⊢;exact j,A,q⟩)
   |false=>
    cases N:(k==2) with
    |true=>
     have D:Hid (zaF k n=({data:=#[102,117,110,99,116,105,111,110,32]}:ByteArray)++n++({data:=#[40,41,32,123,32,114,101,116,117,114,110,32]}:ByteArray)):=zij H U N
     have J:Hid (zaB k n=({data:=#[59,32,125]}:ByteArray)):=zik H N
     have I:Hid ((zr t [{data:=#[102,117,110,99,116,105,111,110,32]},n,{data:=#[40,41,32,123,32,114,101,116,117,114,110,32]}]).size≤140737488355328):=by show _≤_;have:=O.out;rw[D.out] at this;simp only[zr,List.foldl_cons,List.foldl_nil,ByteArray.size_append] at this ⊢;omega
     go_wp2_with fail
     go_region_with (go_at_call 122;refine (zbQ c t [{data:=#[102,117,110,99,116,105,111,110,32]},n,{data:=#[40,41,32,123,32,114,101,116,117,114,110,32]}] M E.out I.out (by simp)).mono ?_;rintro e X ⟨rfl,j,A,q⟩)
     all_goals (go_wp2_with fail;go_meet;exact⟨by rw[J.out],by rw[D.out];simp only[zr,List.foldl_cons,List.foldl_nil,←ByteArray.append_assoc] at j ⊢;exact j,A,q⟩)
    |false=>
     cases h3:(k==3) with
     |true=>
      have D:Hid (zaF k n=n++({data:=#[32,61,32]}:ByteArray)):=zil H U N h3
      have J:Hid (zaB k n=({data:=#[59]}:ByteArray)):=zim H h3
      have I:Hid ((zr t [n,{data:=#[32,61,32]}]).size≤140737488355328):=by show _≤_;have:=O.out;rw[D.out] at this;simp only[zr,List.foldl_cons,List.foldl_nil,ByteArray.size_append] at this ⊢;omega
      go_wp2_with fail
      go_region_with (go_at_call 122;refine (zbQ c t [n,{data:=#[32,61,32]}] M E.out I.out (by simp)).mono ?_;rintro e X ⟨rfl,j,A,q⟩)
      all_goals (go_wp2_with fail;go_meet;exact⟨by rw[J.out],by rw[D.out];simp only[zr,List.foldl_cons,List.foldl_nil,←ByteArray.append_assoc] at j ⊢;exact j,A,q⟩)
     |false=>
      cases Y:(k==4) with
      |true=>
       have D:Hid (zaF k n=({data:=#[112,114,105,110,116,40]}:ByteArray)):=zin H U N h3 Y
       have J:Hid (zaB k n=({data:=#[41,59]}:ByteArray)):=zio H N Y
       have I:Hid ((zr t [{data:=#[112,114,105,110,116,40]}]).size≤140737488355328):=by show _≤_;have:=O.out;rw[D.out] at this;simp only[zr,List.foldl_cons,List.foldl_nil,ByteArray.size_append] at this ⊢;omega
       go_wp2_with fail
       refine (zbr c t [{data:=#[112,114,105,110,116,40]}] M E.out I.out (by simp)).mono ?_
       rintro e X ⟨rfl,j,A,q⟩
       go_wp2_with fail
       go_meet
       exact⟨by rw[J.out],by rw[D.out];exact j,A,q⟩
      |false=>
       cases h5:(k==5) with
       |true=>
        have D:Hid (zaF k n=({data:=#[116,104,114,111,119,32]}:ByteArray)):=zip H U N h3 Y h5
        have J:Hid (zaB k n=({data:=#[59]}:ByteArray)):=ziq H N Y
        have I:Hid ((zr t [{data:=#[116,104,114,111,119,32]}]).size≤140737488355328):=by show _≤_;have:=O.out;rw[D.out] at this;simp only[zr,List.foldl_cons,List.foldl_nil,ByteArray.size_append] at this ⊢;omega
        go_wp2_with fail
        refine (zbr c t [{data:=#[116,104,114,111,119,32]}] M E.out I.out (by simp)).mono ?_
        rintro e X ⟨rfl,j,A,q⟩
        go_wp2_with fail
        go_meet
        exact⟨by rw[J.out],by rw[D.out];exact j,A,q⟩
       |false=>
        have D:Hid (zaF k n=({data:=#[102,97,105,108,32]}:ByteArray)):=zir H U N h3 Y h5
        have J:Hid (zaB k n=({data:=#[59]}:ByteArray)):=zis H N Y
        have I:Hid ((zr t [{data:=#[102,97,105,108,32]}]).size≤140737488355328):=by show _≤_;have:=O.out;rw[D.out] at this;simp only[zr,List.foldl_cons,List.foldl_nil,ByteArray.size_append] at this ⊢;omega
        go_wp2_with fail
        refine (zbr c t [{data:=#[102,97,105,108,32]}] M E.out I.out (by simp)).mono ?_
        rintro e X ⟨rfl,j,A,q⟩
        go_wp2_with fail
        go_meet
        exact⟨by rw[J.out],by rw[D.out];exact j,A,q⟩
 case rest=>
 rename_i s4 X
 obtain⟨rfl,j,A,q⟩:=hcut
 have ap:=zc j
 have an:=zc (am.out.trans A)
 have al:=zc (aj.out.trans q)
 have X2:=zc ((q _ _ _ _ X1.out ag (by decide)).trans X1.out)
 clear j A q p0 p1 p2 p3 p4 p5 pf x0 x1 x2 xf ar af
 obtain⟨x0,x1,x2,xf⟩:=zbq X2.out
 go_wp2_with fail
 refine (OK.out _ _ ap.out (by have:=O.out;simp only[ByteArray.size_append] at this ⊢;omega)).mono ?_
 rintro e w3 ⟨rfl,K,ae,ac⟩
 have Z:=zc K
 have ah:=zc (an.out.trans ae)
 have aq:=zc (al.out.trans ac)
 clear K ae ac x0 x1 x2 xf
 obtain⟨p0,p1,p2,p3,p4,p5,pf⟩:=zu Z.out.2.2.1
 go_wp2_with fail
 refine (zbr c _ [zaB k n,{data:=#[10]}] _ Z.out (by have:=O.out;have z:(({data:=#[10]}:ByteArray)).size=1:=rfl;simp only[zr,List.foldl_cons,List.foldl_nil,ByteArray.size_append,z] at this ⊢;omega) (by simp)).mono ?_
 rintro e w4 ⟨rfl,ab,ad,aa⟩
 have ak:=zc ab
 have ao:=zc (ah.out.trans ad)
 have ai:=zc (aq.out.trans aa)
 clear ab ad aa p0 p1 p2 p3 p4 p5 pf
 go_wp2
 go_end0
 exact⟨rfl,(by have K:=ak.out;rw[zit];simp only[zr,List.foldl_cons,List.foldl_nil,←ByteArray.append_assoc] at K ⊢;exact K),ao.out,ai.out⟩
theorem zfn {α:Type} {l:List α} {j:Nat} (h:j<l.length): ∃x,l[j]? =some x:=⟨_,List.getElem?_eq_getElem h⟩
theorem zmH (l:List ByteArray):l.map Value.string=l.flatMap (fun x=>[Value.string x]):=by
 induction l with
 |nil=>rfl
 |cons x l h=>rw[List.map_cons,List.flatMap_cons,h];rfl
theorem zmI (t:ByteArray):t++sNone=t:=by
 cases t with
 |mk d=>
  show ByteArray.append _ _=_
  simp[ByteArray.append]
theorem ziu (m:Md):(acc epF m.ep (acc zU m.im (acc rqT m.rq sNone))).size≤(zbp m).size:=zdm _ _ _
theorem ziv (m:Md):(acc zU m.im (acc rqT m.rq sNone)).size≤(zbp m).size:=Nat.le_trans (zdm _ _ _) (ziu m)
theorem zmJ (m:Md):(acc rqT m.rq sNone).size≤(zbp m).size:=Nat.le_trans (zdm _ _ _) (ziv m)
theorem ziw (s:ByteArray):rqT s=({data:=#[105,109,112,111,114,116,32]}:ByteArray)++zaq s++({data:=#[59]}:ByteArray)++({data:=#[10]}:ByteArray):=by
 have h:({data:=#[59,10]}:ByteArray)={data:=#[59]}++{data:=#[10]}:=zb9 #[59] #[10]
 rw[rqT,h]
 simp only[ByteArray.append_assoc]
theorem zix {x:Ep} (h:(x.loc.toList==[42,100,101,102,97,117,108,116])=false):epF x=zaW x:=by rw[epF,h];rfl
theorem zmK {x:Ep} (h:(x.loc.toList==[42,100,101,102,97,117,108,116])=true):epF x=sNone:=by rw[epF,h];rfl
theorem zmL (c:PC) (w:World) (ok: ∀i,i<c.m.ex.length→zbT c i) (hs: ∀s∈c.m.st,0≤s.expr∧s.expr<(c.m.ex.length:Int)) (hm:Small c.m) (h:PP c sNone w) (ae:(zbp c.m).size≤140737488355328):
  Calls Tryz.prog 124 #[.pointer (some ⟨c.gp,0,none⟩)] w (PO c (zbp c.m) w):=by
 have ag:=zc h
 have SM:=zc hm
 have OK:=zc ok
 have HS:=zc hs
 have HL:=zc ae
 obtain⟨f1,f2,f3,f4,f5⟩:=hm.few
 clear h hm ok hs ae
 obtain⟨p0,p1,p2,Z,p4,p5,pf⟩:=zu ag.out.2.2.1
 go_enter Tryz.func124,Tryz.ntmps124
 go_wp2
 go_loopg [16] c.m.rq.length (fun k i wr=>∃j:Nat,i= .int .i64 j∧j+k=c.m.rq.length∧PP c (acc rqT (c.m.rq.take j) sNone) wr∧Below c.B w wr∧KeepB c.b w wr)
 case atStart=>exact⟨0,rfl,by omega,ag.out,Below.refl _ _,fun _ _ _ _ _ _ _=>rfl⟩
 case round=>
  obtain⟨j,rfl,hj,N,L,M⟩:=hrel
  have z:=zc N
  have H:=zc L
  have E:=zc M
  clear N L M p0 p1 p2 Z p4 p5 pf
  obtain⟨p0,p1,p2,Z,p4,p5,pf⟩:=zu z.out.2.2.1
  by_cases Y:j<c.m.rq.length
  ·have J:(j:Int)<(c.m.rq.length:Int):=by omega
   obtain⟨x,q⟩:=zfn Y
   have D:=List.mem_of_getElem? q
   have HZ:Hid ((acc rqT (c.m.rq.take j) sNone++rqT x).size≤140737488355328):=by show _≤_;rw[←zbO rqT q];exact Nat.le_trans (zcV rqT c.m.rq (j+1) sNone) (Nat.le_trans (zmJ c.m) HL.out)
   have HX:=zc q
   obtain⟨K,I⟩: ∃K,K=j+1:=⟨_,rfl⟩
   have ej:(j:Int)+1=(K:Int):=by omega
   have HJ:=zc I
   clear I
   obtain⟨g,hg,k0⟩: ∃g,c.S.rq.a=some ⟨g,0,none⟩∧wr.cell? ⟨g,j,none⟩=some (.string x):=by
    obtain⟨g,hg,hc⟩:=OwnR.elem (f:=fun x=>[Value.string x]) (m:=1) (fun _=>rfl) (show OwnR wr c.base 9 1 c.S.rq c.m.rq.length (c.m.rq.flatMap fun x=>[Value.string x]) by rw[←zmH];exact z.out.2.1.rq) q
    have k0:=hc 0 (by omega)
    simp only[Nat.mul_one,Nat.add_zero,List.getElem?_cons_zero] at k0
    exact⟨g,hg,k0⟩
   have ai:=SM.out.rq x D
   have HG:Hid (Value.slice c.S.rq.a c.m.rq.length c.S.rq.cap=Value.slice (some ⟨g,0,none⟩) c.m.rq.length c.S.rq.cap):=by show _=_;rw[hg]
   clear hg q D p0 p1 p2 Z p4 p5 pf
   rw[HG.out]
   obtain⟨p0,p1,p2,Z,p4,p5,pf⟩:=zu z.out.2.2.1
   have ak:=(Array.getElem?_eq_some_iff.1 z.out.2.2.1).1
   go_wp2_with fail
   go_region_with (first|(go_at_call 171;refine (zfl x _ (by omega)).mono ?_;rintro e w' ⟨rfl,rfl⟩)|(go_at_call 122;refine (zbQ c _ [{data:=#[105,109,112,111,114,116,32]},zaq x,{data:=#[59]},{data:=#[10]}] wr z.out (by have:=HZ.out;rw[ziw] at this;simp only[zr,List.foldl_cons,List.foldl_nil,ByteArray.size_append] at this ⊢;omega) (by simp)).mono ?_;rintro e w3 ⟨rfl,aa,ah,aj⟩))
   all_goals
    have al:=zc aa
    have am:=zc (H.out.trans ah)
    have ao:=zc (E.out.trans aj)
    clear aa ah aj p0 p1 p2 Z p4 p5 pf ak k0
    go_wp2
    rw[←HG.out]
    go_roundg (gk-1)
    case rel=>exact⟨K,rfl,by have:=HJ.out;omega,by rw[HJ.out,zbO rqT HX.out];exact (by have aa:=al.out;rw[ziw];simp only[zr,List.foldl_cons,List.foldl_nil,←ByteArray.append_assoc] at aa ⊢;exact aa),am.out,ao.out⟩
    case measure=>omega
  ·have J: ¬(j:Int)<(c.m.rq.length:Int):=by omega
   obtain rfl:j=c.m.rq.length:=by omega
   have HN:Hid (PP c (acc zU (c.m.im.take 0) (acc rqT c.m.rq sNone)) wr):=by have:=z.out;rw[List.take_length] at this;exact this
   go_wp2
   go_loopg [35] c.m.im.length (fun k i wr=>∃j:Nat,i= .int .i64 j∧j+k=c.m.im.length∧PP c (acc zU (c.m.im.take j) (acc rqT c.m.rq sNone)) wr∧Below c.B w wr∧KeepB c.b w wr)
   case atStart=>exact⟨0,rfl,by omega,HN.out,H.out,E.out⟩
   case round=>
    obtain⟨j,rfl,hj,N,L,M⟩:=hrel
    clear z H E HN
    have z:=zc N
    have H:=zc L
    have E:=zc M
    clear N L M p0 p1 p2 Z p4 p5 pf
    obtain⟨p0,p1,p2,Z,p4,p5,pf⟩:=zu z.out.2.2.1
    by_cases Y:j<c.m.im.length
    ·have J:(j:Int)<(c.m.im.length:Int):=by omega
     obtain⟨x,q⟩:=zfn Y
     have D:=List.mem_of_getElem? q
     have HZ:Hid ((acc zU (c.m.im.take j) (acc rqT c.m.rq sNone)++zU x).size≤140737488355328):=by show _≤_;rw[←zbO zU q];exact Nat.le_trans (zcV zU c.m.im (j+1) (acc rqT c.m.rq sNone)) (Nat.le_trans (ziv c.m) HL.out)
     have HX:=zc q
     obtain⟨K,I⟩: ∃K,K=j+1:=⟨_,rfl⟩
     have ej:(j:Int)+1=(K:Int):=by omega
     have HJ:=zc I
     clear I
     obtain⟨g,hg,A⟩:=OwnR.elem (f:=imL) (m:=3) (fun _=>rfl) z.out.2.1.im q
     have k0:=A 0 (by omega)
     have k1:=A 1 (by omega)
     have k2:=A 2 (by omega)
     simp only[imL,Nat.add_zero,List.getElem?_cons_zero,List.getElem?_cons_succ] at k0 k1 k2
     clear A
     have ai:=(SM.out.im x D).1
     have HG:Hid (Value.slice c.S.im.a c.m.im.length c.S.im.cap=Value.slice (some ⟨g,0,none⟩) c.m.im.length c.S.im.cap):=by show _=_;rw[hg]
     clear hg q D p0 p1 p2 Z p4 p5 pf
     rw[HG.out]
     go_upto_region 8 with fail
     have HW:Hid (Below wr.heap.size wr (wr.alloc (.cells #[.string x.spec,.string x.first,.string x.loc] 84))):=(Below.refl _ _).alloc (Nat.le_refl _) _
     refine zac (R:=fun W=>W.heap[wr.heap.size]? =some (.cells #[.string x.spec,.string x.first,.string x.loc] 84 (0,0))∧PP c (acc zU (c.m.im.take j) (acc rqT c.m.rq sNone)) W∧Below c.B w W∧KeepB c.b w W) ⟨heap_alloc_new wr _,z.out.later HW.out,H.out.trans (HW.out.mono z.out.1.2),E.out.trans (KeepB.of_below HW.out)⟩ ?_
     obtain⟨gx,O⟩: ∃gx,gx=wr.heap.size:=⟨_,rfl⟩
     rw[←O]
     clear k0 k1 k2 HW
     rintro W ⟨xb,N,L,M⟩
     clear O z H E
     have XB:=zc xb
     have z:=zc N
     have H:=zc L
     have E:=zc M
     clear xb N L M
     obtain⟨x0,x1,x2,xf⟩:=zbq XB.out
     go_wp2_with fail
     refine (zm9 c _ x W z.out HZ.out (by omega)).mono ?_
     rintro e W2 ⟨rfl,X,V,U⟩
     have ab:=zc X
     have ac:=zc (H.out.trans V)
     have ad:=zc (E.out.trans U)
     clear X V U x0 x1 x2 xf
     go_wp2
     rw[←HG.out]
     go_roundg (gk-1)
     case rel=>exact⟨K,rfl,by have:=HJ.out;omega,by rw[HJ.out,zbO zU HX.out];exact ab.out,ac.out,ad.out⟩
     case measure=>omega
    ·have J: ¬(j:Int)<(c.m.im.length:Int):=by omega
     obtain rfl:j=c.m.im.length:=by omega
     have HN:Hid (PP c (acc epF (c.m.ep.take 0) (acc zU c.m.im (acc rqT c.m.rq sNone))) wr):=by have:=z.out;rw[List.take_length] at this;exact this
     go_wp2
     go_loopg [49] c.m.ep.length (fun k i wr=>∃j:Nat,i= .int .i64 j∧j+k=c.m.ep.length∧PP c (acc epF (c.m.ep.take j) (acc zU c.m.im (acc rqT c.m.rq sNone))) wr∧Below c.B w wr∧KeepB c.b w wr)
     case atStart=>exact⟨0,rfl,by omega,HN.out,H.out,E.out⟩
     case round=>
      obtain⟨j,rfl,hj,N,L,M⟩:=hrel
      clear z H E HN
      have z:=zc N
      have H:=zc L
      have E:=zc M
      clear N L M p0 p1 p2 Z p4 p5 pf
      obtain⟨p0,p1,p2,Z,p4,p5,pf⟩:=zu z.out.2.2.1
      by_cases Y:j<c.m.ep.length
      ·have J:(j:Int)<(c.m.ep.length:Int):=by omega
       obtain⟨x,q⟩:=zfn Y
       have D:=List.mem_of_getElem? q
       have HZ:Hid ((acc epF (c.m.ep.take j) (acc zU c.m.im (acc rqT c.m.rq sNone))++epF x).size≤140737488355328):=by show _≤_;rw[←zbO epF q];exact Nat.le_trans (zcV epF c.m.ep (j+1) (acc zU c.m.im (acc rqT c.m.rq sNone))) (Nat.le_trans (ziu c.m) HL.out)
       have HX:=zc q
       obtain⟨K,I⟩: ∃K,K=j+1:=⟨_,rfl⟩
       have ej:(j:Int)+1=(K:Int):=by omega
       have HJ:=zc I
       clear I
       obtain⟨g,hg,A⟩:=OwnR.elem (f:=epL) (m:=4) (fun _=>rfl) z.out.2.1.ep q
       have k0:=A 0 (by omega)
       have k1:=A 1 (by omega)
       have k2:=A 2 (by omega)
       have k3:=A 3 (by omega)
       simp only[epL,Nat.add_zero,List.getElem?_cons_zero,List.getElem?_cons_succ] at k0 k1 k2 k3
       clear A
       have ai:=(SM.out.ep x D).1
       have HG:Hid (Value.slice c.S.ep.a c.m.ep.length c.S.ep.cap=Value.slice (some ⟨g,0,none⟩) c.m.ep.length c.S.ep.cap):=by show _=_;rw[hg]
       clear hg q D p0 p1 p2 Z p4 p5 pf
       rw[HG.out]
       go_upto_region 13 with fail
       have HW:Hid (Below wr.heap.size wr (wr.alloc (.cells #[.int .i64 x.kind,.string x.name,.string x.loc,.string x.spec] 86))):=(Below.refl _ _).alloc (Nat.le_refl _) _
       refine zac (R:=fun W=>W.heap[wr.heap.size]? =some (.cells #[.int .i64 x.kind,.string x.name,.string x.loc,.string x.spec] 86 (0,0))∧PP c (acc epF (c.m.ep.take j) (acc zU c.m.im (acc rqT c.m.rq sNone))) W∧Below c.B w W∧KeepB c.b w W) ⟨heap_alloc_new wr _,z.out.later HW.out,H.out.trans (HW.out.mono z.out.1.2),E.out.trans (KeepB.of_below HW.out)⟩ ?_
       obtain⟨gx,O⟩: ∃gx,gx=wr.heap.size:=⟨_,rfl⟩
       rw[←O]
       clear k0 k1 k2 k3 HW
       rintro W ⟨xb,N,L,M⟩
       clear O z H E
       have XB:=zc xb
       have z:=zc N
       have H:=zc L
       have E:=zc M
       clear xb N L M
       obtain⟨x0,x1,x2,x3,xf⟩:=zcT XB.out
       cases e1:(x.loc.toList==[42,100,101,102,97,117,108,116]) with
       |false=>
        go_wp2_with fail
        refine (zmE c _ x W z.out (by have:=HZ.out;rw[zix e1] at this;exact this) (by omega)).mono ?_
        rintro e W2 ⟨rfl,X,V,U⟩
        have ab:=zc X
        have ac:=zc (H.out.trans V)
        have ad:=zc (E.out.trans U)
        clear X V U x0 x1 x2 x3 xf
        go_wp2
        rw[←HG.out]
        go_roundg (gk-1)
        case rel=>exact⟨K,rfl,by have:=HJ.out;omega,by rw[HJ.out,zbO epF HX.out];exact (by rw[zix e1];exact ab.out),ac.out,ad.out⟩
        case measure=>omega
       |true=>
        go_wp2
        rw[←HG.out]
        go_roundg (gk-1)
        case rel=>exact⟨K,rfl,by have:=HJ.out;omega,by rw[HJ.out,zbO epF HX.out];exact (by rw[zmK e1,zmI];exact z.out),H.out,E.out⟩
        case measure=>omega
      ·have J: ¬(j:Int)<(c.m.ep.length:Int):=by omega
       obtain rfl:j=c.m.ep.length:=by omega
       have HN:Hid (PP c (acc (zcd c.m.ex) (c.m.st.take 0) (zb7 c.m)) wr):=by have:=z.out;rw[List.take_length] at this;exact this
       go_wp2
       go_loopg [66] c.m.st.length (fun k i wr=>∃j:Nat,i= .int .i64 j∧j+k=c.m.st.length∧PP c (acc (zcd c.m.ex) (c.m.st.take j) (zb7 c.m)) wr∧Below c.B w wr∧KeepB c.b w wr)
       case atStart=>exact⟨0,rfl,by omega,HN.out,H.out,E.out⟩
       case round=>
        obtain⟨j,rfl,hj,N,L,M⟩:=hrel
        clear z H E HN
        have z:=zc N
        have H:=zc L
        have E:=zc M
        clear N L M p0 p1 p2 Z p4 p5 pf
        obtain⟨p0,p1,p2,Z,p4,p5,pf⟩:=zu z.out.2.2.1
        by_cases Y:j<c.m.st.length
        ·have J:(j:Int)<(c.m.st.length:Int):=by omega
         obtain⟨x,q⟩:=zfn Y
         have D:=List.mem_of_getElem? q
         have HZ:Hid ((acc (zcd c.m.ex) (c.m.st.take j) (zb7 c.m)++(zcd c.m.ex) x).size≤140737488355328):=by show _≤_;rw[←zbO (zcd c.m.ex) q];exact Nat.le_trans (zcV (zcd c.m.ex) c.m.st (j+1) (zb7 c.m)) HL.out
         have HX:=zc q
         obtain⟨K,I⟩: ∃K,K=j+1:=⟨_,rfl⟩
         have ej:(j:Int)+1=(K:Int):=by omega
         have HJ:=zc I
         clear I
         obtain⟨ei,af⟩: ∃n:Nat,x.expr=(n:Int):=⟨x.expr.toNat,by have:=HS.out x D;omega⟩
         have an:ei<c.m.ex.length:=by have:=HS.out x D;omega
         obtain⟨g,hg,A⟩:=OwnR.elem (f:=smL) (m:=3) (fun _=>rfl) z.out.2.1.st q
         have k0:=A 0 (by omega)
         have k1:=A 1 (by omega)
         have k2:=A 2 (by omega)
         simp only[smL,Nat.add_zero,List.getElem?_cons_zero,List.getElem?_cons_succ,af] at k0 k1 k2
         clear A
         have HG:Hid (Value.slice c.S.st.a c.m.st.length c.S.st.cap=Value.slice (some ⟨g,0,none⟩) c.m.st.length c.S.st.cap):=by show _=_;rw[hg]
         clear hg q D p0 p1 p2 Z p4 p5 pf
         rw[HG.out]
         go_upto_region 19 with fail
         have HW:Hid (Below wr.heap.size wr (wr.alloc (.cells #[.int .i64 x.kind,.string x.name,.int .i64 (ei:Int)] 107))):=(Below.refl _ _).alloc (Nat.le_refl _) _
         refine zac (R:=fun W=>W.heap[wr.heap.size]? =some (.cells #[.int .i64 x.kind,.string x.name,.int .i64 (ei:Int)] 107 (0,0))∧PP c (acc (zcd c.m.ex) (c.m.st.take j) (zb7 c.m)) W∧Below c.B w W∧KeepB c.b w W) ⟨heap_alloc_new wr _,z.out.later HW.out,H.out.trans (HW.out.mono z.out.1.2),E.out.trans (KeepB.of_below HW.out)⟩ ?_
         obtain⟨gx,O⟩: ∃gx,gx=wr.heap.size:=⟨_,rfl⟩
         rw[←O]
         clear k0 k1 k2 HW
         rintro W ⟨xb,N,L,M⟩
         clear O z H E
         have XB:=zc xb
         have z:=zc N
         have H:=zc L
         have E:=zc M
         clear xb N L M
         obtain⟨x0,x1,x2,xf⟩:=zbq XB.out
         go_wp2_with fail
         refine (zmG c _ x.kind x.name ei W (OK.out ei an) z.out (by have:=HZ.out;rw[zcd,af,Int.toNat_natCast] at this;exact this)).mono ?_
         rintro e W2 ⟨rfl,X,V,U⟩
         have ab:=zc X
         have ac:=zc (H.out.trans V)
         have ad:=zc (E.out.trans U)
         clear X V U x0 x1 x2 xf
         go_wp2
         rw[←HG.out]
         go_roundg (gk-1)
         case rel=>exact⟨K,rfl,by have:=HJ.out;omega,by rw[HJ.out,zbO (zcd c.m.ex) HX.out];exact (by rw[zcd,af,Int.toNat_natCast];exact ab.out),ac.out,ad.out⟩
         case measure=>omega
        ·have J: ¬(j:Int)<(c.m.st.length:Int):=by omega
         obtain rfl:j=c.m.st.length:=by omega
         have HN:Hid (PP c (zbp c.m) wr):=by have:=z.out;rw[List.take_length] at this;exact this
         go_wp2
         go_end0
         exact⟨rfl,HN.out,H.out,E.out⟩
theorem ziy (c:PC) (t:ByteArray) (k L:Int) (A j V:ByteArray) (l r:Nat) (w:World) (ab:zbT c l) (Z:zbT c r) (hr:r<c.m.ex.length) (h:PP c t w) (n:(t++(prX c.m.ex l++V++zC (zK (c.m.ex.getD r zf).kind) (prX c.m.ex r))).size≤140737488355328):
  Calls Tryz.prog 220 #[.pointer (some ⟨c.gp,0,none⟩),.agg #[.int .i64 k,.int .i64 L,.string A,.string j,.int .i64 (l:Int),.int .i64 (r:Int)],.string V] w (PO c (t++(prX c.m.ex l++V++zC (zK (c.m.ex.getD r zf).kind) (prX c.m.ex r))) w):=by
 have HP:=zc h
 obtain⟨Y,K⟩: ∃Y,(c.m.ex.getD r zf).kind=Y:=⟨_,rfl⟩
 rw[K] at n ⊢
 have KK:=zc K
 have HL:Hid (t.size+((prX c.m.ex l).size+V.size+(zC (zK Y) (prX c.m.ex r)).size)≤140737488355328):=by show _≤_;simp only[ByteArray.size_append] at n;exact n
 obtain⟨T,hT⟩: ∃T,T=prX c.m.ex l++V++zC (zK Y) (prX c.m.ex r):=⟨_,rfl⟩
 rw[←hT]
 have HT:=zc hT
 have ad:=zc ab
 have ac:=zc Z
 have HR:=zc hr
 clear h n ab Z hr K hT
 go_enter Tryz.func220,Tryz.ntmps220
 go_upto_region 1 with fail
 have HW:Hid (Below w.heap.size w (w.alloc (.cells #[.int .i64 k,.int .i64 L,.string A,.string j,.int .i64 (l:Int),.int .i64 (r:Int)] 109))):=(Below.refl _ _).alloc (Nat.le_refl _) _
 refine zac (R:=fun W=>W.heap[w.heap.size]? =some (.cells #[.int .i64 k,.int .i64 L,.string A,.string j,.int .i64 (l:Int),.int .i64 (r:Int)] 109 (0,0))∧PP c t W∧Below c.B w W∧KeepB c.b w W) ⟨heap_alloc_new w _,HP.out.later HW.out,HW.out.mono HP.out.1.2,KeepB.of_below HW.out⟩ ?_
 obtain⟨gx,O⟩: ∃gx,gx=w.heap.size:=⟨_,rfl⟩
 have X:gx≠c.b:=by
  rw[O]
  obtain⟨ak,hc⟩:=zb8 HP.out.1.1
  have:=(Array.getElem?_eq_some_iff.1 hc).1
  omega
 rw[←O]
 rintro w1 ⟨hx,D,E,z⟩
 clear O HW
 have X1:=zc hx
 have M:=zc D
 have ah:=zc E
 have af:=zc z
 clear hx D E z
 obtain⟨x0,x1,x2,x3,x4,x5,xf⟩:=zu X1.out
 obtain⟨p0,p1,p2,p3,p4,p5,pf⟩:=zu M.out.2.2.1
 have J:=(Array.getElem?_eq_some_iff.1 M.out.2.2.1).1
 have H:=(Array.getElem?_eq_some_iff.1 X1.out).1
 go_wp2_with fail
 refine (zfm c t l false w1 ad.out M.out (by have:=HL.out;simp only[zC,Bool.false_eq_true,↓reduceIte,ByteArray.size_append] at this ⊢;omega)).mono ?_
 rintro e w2 ⟨rfl,D,E,z⟩
 have N:=zc D
 have ai:=zc (ah.out.trans E)
 have ag:=zc (af.out.trans z)
 have X2:=zc ((z _ _ _ _ X1.out X (by decide)).trans X1.out)
 clear D E z p0 p1 p2 p3 p4 p5 pf x0 x1 x2 x3 x4 x5 xf J H
 obtain⟨x0,x1,x2,x3,x4,x5,xf⟩:=zu X2.out
 obtain⟨p0,p1,p2,p3,p4,p5,pf⟩:=zu N.out.2.2.1
 have J:=(Array.getElem?_eq_some_iff.1 N.out.2.2.1).1
 have H:=(Array.getElem?_eq_some_iff.1 X2.out).1
 go_wp2_with fail
 refine (zbr c _ [V] w2 N.out (by have:=HL.out;simp only[zr,zC,Bool.false_eq_true,↓reduceIte,List.foldl_cons,List.foldl_nil,ByteArray.size_append] at this ⊢;omega) (by simp)).mono ?_
 rintro e U ⟨rfl,D,E,z⟩
 have I:=zc D
 have ae:=zc (ai.out.trans E)
 have aj:=zc (ag.out.trans z)
 have X3:=zc ((z _ _ _ _ X2.out X (by decide)).trans X2.out)
 clear D E z p0 p1 p2 p3 p4 p5 pf x0 x1 x2 x3 x4 x5 xf J H
 obtain⟨x0,x1,x2,x3,x4,x5,xf⟩:=zu X3.out
 obtain⟨p0,p1,p2,p3,p4,p5,pf⟩:=zu I.out.2.2.1
 have J:=(Array.getElem?_eq_some_iff.1 I.out.2.2.1).1
 have H:=(Array.getElem?_eq_some_iff.1 X3.out).1
 go_wp2_with fail
 have aa:=zc (I.out.later ((Below.refl U.heap.size U).drew))
 go_region_with (first|(go_at_call 222;refine (zgd c _ r _ aa.out HR.out).mono ?_;rintro e w' ⟨rfl,rfl⟩;rw[KK.out])|(go_at_call 197;refine (zex _ _).mono ?_;rintro e w' ⟨rfl,rfl⟩)|(go_at_call 221;refine (zfm c _ r (zK Y) _ ac.out aa.out (by have:=HL.out;simp only[zr,show ∀q,zC false q=q from fun _=>rfl,List.foldl_cons,List.foldl_nil,ByteArray.size_append] at this ⊢;omega)).mono ?_;rintro e w4 ⟨rfl,D,E,z⟩))
 all_goals (go_wp2;go_end0;exact⟨rfl,(by rw[HT.out];simp only[zr,show ∀q,zC false q=q from fun _=>rfl,List.foldl_cons,List.foldl_nil,←ByteArray.append_assoc] at D ⊢;exact D),ae.out.trans ((((Below.refl U.heap.size U).drew).mono I.out.1.2).trans E),aj.out.trans ((KeepB.of_below ((Below.refl U.heap.size U).drew)).trans z)⟩)
theorem zmM (c:PC) (t:ByteArray) (i:Nat) (j:Int) (q n:ByteArray) (l r:Int) (w:World) (h:PP c t w) (hi:i<c.m.ex.length) (K:c.m.ex.getD i zf=⟨1,j,q,n,l,r⟩) (hn: -9223372036854775808≤j∧j≤9223372036854775807) (z:(t++(strOfNums (zbz j))).size≤140737488355328):
  Calls Tryz.prog 201 #[.pointer (some ⟨c.gp,0,none⟩),.int .i64 (i:Int)] w (PO c (t++(strOfNums (zbz j))) w):=by
 have I:=zc h
 obtain⟨T,hT⟩: ∃T,T=strOfNums (zbz j):=⟨_,rfl⟩
 rw[←hT] at z ⊢
 have HT:=zc hT
 have HL:=zc z
 clear h z hT
 obtain⟨p0,p1,p2,p3,p4,p5,pf⟩:=zu I.out.2.2.1
 obtain⟨g,hg,L,M,x1,Y,O,N,x5⟩:=I.out.2.1.expr hi
 rw[K] at M x1 Y O N x5
 dsimp only at M x1 Y O N x5
 rw[hg] at p4
 have ab:(i:Int)<(c.m.ex.length:Int):=by omega
 clear hg K
 go_enter Tryz.func201,Tryz.ntmps201
 go_upto_region 1 with fail
 have Z:Hid (Below w.heap.size w (w.alloc (.cells #[.int .i64 1,.int .i64 j,.string q,.string n,.int .i64 l,.int .i64 r] 109))):=(Below.refl _ _).alloc (Nat.le_refl _) _
 refine zac (R:=fun W=>W.heap[w.heap.size]? =some (.cells #[.int .i64 1,.int .i64 j,.string q,.string n,.int .i64 l,.int .i64 r] 109 (0,0))∧PP c t W∧Below c.B w W∧KeepB c.b w W) ⟨heap_alloc_new w _,I.out.later Z.out,Z.out.mono I.out.1.2,KeepB.of_below Z.out⟩ ?_
 obtain⟨gx,H⟩: ∃gx,gx=w.heap.size:=⟨_,rfl⟩
 have ai:gx≠c.b:=by
  rw[H]
  obtain⟨aj,hc⟩:=zb8 I.out.1.1
  have:=(Array.getElem?_eq_some_iff.1 hc).1
  omega
 rw[←H]
 rintro w1 ⟨K,X,U,V⟩
 clear H Z L M x1 Y O N x5 p0 p1 p2 p3 p4 p5 pf ab
 have X1:=zc K
 have A:=zc X
 have ac:=zc U
 have aa:=zc V
 clear K X U V
 obtain⟨M,x1,Y,O,N,x5,xf⟩:=zu X1.out
 obtain⟨p0,p1,p2,p3,p4,p5,pf⟩:=zu A.out.2.2.1
 have L:=(Array.getElem?_eq_some_iff.1 A.out.2.2.1).1
 have ah:=(Array.getElem?_eq_some_iff.1 X1.out).1
 have HN:=zc hn
 go_wp2_with fail
 go_region_with (first|(go_at_call 219;refine (zlU j _ HN.out).mono ?_;rintro e w2 ⟨rfl,J⟩;have D:=zc (((Below.refl w1.heap.size w1).drew).trans J);have E:=zc (A.out.later D.out);have X2:=zc ((D.out.block _ (Array.getElem?_eq_some_iff.1 X1.out).1).trans X1.out);clear J;obtain⟨y0,y1,y2,y3,y4,y5,yf⟩:=zu X2.out;obtain⟨q0,q1,q2,q3,q4,q5,qf⟩:=zu E.out.2.2.1;have af:=(Array.getElem?_eq_some_iff.1 E.out.2.2.1).1;have ag:=(Array.getElem?_eq_some_iff.1 X2.out).1)|(go_at_call 122;refine (zbr c t [strOfNums (zbz j)] _ E.out (by have:=HL.out;rw[HT.out] at this;simp only[zr,List.foldl_cons,List.foldl_nil,ByteArray.size_append] at this ⊢;omega) (by simp)).mono ?_;rintro e w3 ⟨rfl,X,ae,ad⟩))
 all_goals (have U:=(D.out.mono A.out.1.2).trans ae;have V:=(KeepB.of_below (b:=c.b) D.out).trans ad;go_wp2;go_end0;exact⟨rfl,(by rw[HT.out];exact X),ac.out.trans U,aa.out.trans V⟩)
theorem zmN (c:PC) (t:ByteArray) (i:Nat) (z:Int) (j n:ByteArray) (l r:Int) (w:World) (h:PP c t w) (hi:i<c.m.ex.length) (E:c.m.ex.getD i zf=⟨2,z,j,n,l,r⟩) (q:(t++(j)).size≤140737488355328):
  Calls Tryz.prog 201 #[.pointer (some ⟨c.gp,0,none⟩),.int .i64 (i:Int)] w (PO c (t++(j)) w):=by
 have I:=zc h
 obtain⟨T,hT⟩: ∃T,T=j:=⟨_,rfl⟩
 rw[←hT] at q ⊢
 have HT:=zc hT
 have HL:=zc q
 clear h q hT
 obtain⟨p0,p1,p2,p3,Z,p5,pf⟩:=zu I.out.2.2.1
 obtain⟨g,hg,H,J,Y,V,L,K,X⟩:=I.out.2.1.expr hi
 rw[E] at J Y V L K X
 dsimp only at J Y V L K X
 rw[hg] at Z
 have ab:(i:Int)<(c.m.ex.length:Int):=by omega
 clear hg E
 go_enter Tryz.func201,Tryz.ntmps201
 go_upto_region 1 with fail
 have U:Hid (Below w.heap.size w (w.alloc (.cells #[.int .i64 2,.int .i64 z,.string j,.string n,.int .i64 l,.int .i64 r] 109))):=(Below.refl _ _).alloc (Nat.le_refl _) _
 refine zac (R:=fun W=>W.heap[w.heap.size]? =some (.cells #[.int .i64 2,.int .i64 z,.string j,.string n,.int .i64 l,.int .i64 r] 109 (0,0))∧PP c t W∧Below c.B w W∧KeepB c.b w W) ⟨heap_alloc_new w _,I.out.later U.out,U.out.mono I.out.1.2,KeepB.of_below U.out⟩ ?_
 obtain⟨gx,D⟩: ∃gx,gx=w.heap.size:=⟨_,rfl⟩
 have ae:gx≠c.b:=by
  rw[D]
  obtain⟨af,hc⟩:=zb8 I.out.1.1
  have:=(Array.getElem?_eq_some_iff.1 hc).1
  omega
 rw[←D]
 rintro w1 ⟨E,O,M,N⟩
 clear D U H J Y V L K X p0 p1 p2 p3 Z p5 pf ab
 have X1:=zc E
 have A:=zc O
 have ac:=zc M
 have aa:=zc N
 clear E O M N
 obtain⟨J,Y,V,L,K,X,xf⟩:=zu X1.out
 obtain⟨p0,p1,p2,p3,Z,p5,pf⟩:=zu A.out.2.2.1
 have H:=(Array.getElem?_eq_some_iff.1 A.out.2.2.1).1
 have ad:=(Array.getElem?_eq_some_iff.1 X1.out).1
 go_wp2_with fail
 go_region_with (go_at_call 122;refine (zbQ c t [j] w1 A.out (by have:=HL.out;rw[HT.out] at this;simp only[zr,List.foldl_cons,List.foldl_nil,ByteArray.size_append] at this ⊢;omega) (by simp)).mono ?_;rintro e w2 ⟨rfl,O,M,N⟩)
 all_goals (go_wp2;go_end0;exact⟨rfl,(by rw[HT.out];exact O),ac.out.trans M,aa.out.trans N⟩)
theorem zmO (c:PC) (t:ByteArray) (i:Nat) (z:Int) (j n:ByteArray) (l r:Int) (w:World) (h:PP c t w) (hi:i<c.m.ex.length) (H:c.m.ex.getD i zf=⟨3,z,j,n,l,r⟩) (q:(t++(j++cParens)).size≤140737488355328):
  Calls Tryz.prog 201 #[.pointer (some ⟨c.gp,0,none⟩),.int .i64 (i:Int)] w (PO c (t++(j++cParens)) w):=by
 have J:=zc h
 obtain⟨T,hT⟩: ∃T,T=j++cParens:=⟨_,rfl⟩
 rw[←hT] at q ⊢
 have HT:=zc hT
 have HL:=zc q
 clear h q hT
 obtain⟨p0,p1,p2,p3,Z,p5,pf⟩:=zu J.out.2.2.1
 obtain⟨g,hg,I,K,Y,V,M,L,X⟩:=J.out.2.1.expr hi
 rw[H] at K Y V M L X
 dsimp only at K Y V M L X
 rw[hg] at Z
 have ab:(i:Int)<(c.m.ex.length:Int):=by omega
 clear hg H
 go_enter Tryz.func201,Tryz.ntmps201
 go_upto_region 1 with fail
 have U:Hid (Below w.heap.size w (w.alloc (.cells #[.int .i64 3,.int .i64 z,.string j,.string n,.int .i64 l,.int .i64 r] 109))):=(Below.refl _ _).alloc (Nat.le_refl _) _
 refine zac (R:=fun W=>W.heap[w.heap.size]? =some (.cells #[.int .i64 3,.int .i64 z,.string j,.string n,.int .i64 l,.int .i64 r] 109 (0,0))∧PP c t W∧Below c.B w W∧KeepB c.b w W) ⟨heap_alloc_new w _,J.out.later U.out,U.out.mono J.out.1.2,KeepB.of_below U.out⟩ ?_
 obtain⟨gx,D⟩: ∃gx,gx=w.heap.size:=⟨_,rfl⟩
 have ae:gx≠c.b:=by
  rw[D]
  obtain⟨af,hc⟩:=zb8 J.out.1.1
  have:=(Array.getElem?_eq_some_iff.1 hc).1
  omega
 rw[←D]
 rintro w1 ⟨H,E,N,O⟩
 clear D U I K Y V M L X p0 p1 p2 p3 Z p5 pf ab
 have X1:=zc H
 have A:=zc E
 have ac:=zc N
 have aa:=zc O
 clear H E N O
 obtain⟨K,Y,V,M,L,X,xf⟩:=zu X1.out
 obtain⟨p0,p1,p2,p3,Z,p5,pf⟩:=zu A.out.2.2.1
 have I:=(Array.getElem?_eq_some_iff.1 A.out.2.2.1).1
 have ad:=(Array.getElem?_eq_some_iff.1 X1.out).1
 go_wp2_with fail
 go_region_with (go_at_call 122;refine (zbQ c t [j,cParens] w1 A.out (by have:=HL.out;rw[HT.out] at this;simp only[zr,List.foldl_cons,List.foldl_nil,ByteArray.size_append] at this ⊢;omega) (by simp)).mono ?_;rintro e w2 ⟨rfl,E,N,O⟩)
 all_goals (go_wp2;go_end0;exact⟨rfl,(by rw[HT.out];simp only[zr,List.foldl_cons,List.foldl_nil,←ByteArray.append_assoc] at E ⊢;exact E),ac.out.trans N,aa.out.trans O⟩)
theorem zmP (c:PC) (t:ByteArray) (i:Nat) (z:Int) (n j:ByteArray) (l r:Int) (w:World) (h:PP c t w) (hi:i<c.m.ex.length) (H:c.m.ex.getD i zf=⟨4,z,n,j,l,r⟩) (q:(t++(n++cPoint++j)).size≤140737488355328):
  Calls Tryz.prog 201 #[.pointer (some ⟨c.gp,0,none⟩),.int .i64 (i:Int)] w (PO c (t++(n++cPoint++j)) w):=by
 have J:=zc h
 obtain⟨T,hT⟩: ∃T,T=n++cPoint++j:=⟨_,rfl⟩
 rw[←hT] at q ⊢
 have HT:=zc hT
 have HL:=zc q
 clear h q hT
 obtain⟨p0,p1,p2,p3,Z,p5,pf⟩:=zu J.out.2.2.1
 obtain⟨g,hg,I,K,Y,V,M,L,X⟩:=J.out.2.1.expr hi
 rw[H] at K Y V M L X
 dsimp only at K Y V M L X
 rw[hg] at Z
 have ab:(i:Int)<(c.m.ex.length:Int):=by omega
 clear hg H
 go_enter Tryz.func201,Tryz.ntmps201
 go_upto_region 1 with fail
 have U:Hid (Below w.heap.size w (w.alloc (.cells #[.int .i64 4,.int .i64 z,.string n,.string j,.int .i64 l,.int .i64 r] 109))):=(Below.refl _ _).alloc (Nat.le_refl _) _
 refine zac (R:=fun W=>W.heap[w.heap.size]? =some (.cells #[.int .i64 4,.int .i64 z,.string n,.string j,.int .i64 l,.int .i64 r] 109 (0,0))∧PP c t W∧Below c.B w W∧KeepB c.b w W) ⟨heap_alloc_new w _,J.out.later U.out,U.out.mono J.out.1.2,KeepB.of_below U.out⟩ ?_
 obtain⟨gx,D⟩: ∃gx,gx=w.heap.size:=⟨_,rfl⟩
 have ae:gx≠c.b:=by
  rw[D]
  obtain⟨af,hc⟩:=zb8 J.out.1.1
  have:=(Array.getElem?_eq_some_iff.1 hc).1
  omega
 rw[←D]
 rintro w1 ⟨H,E,N,O⟩
 clear D U I K Y V M L X p0 p1 p2 p3 Z p5 pf ab
 have X1:=zc H
 have A:=zc E
 have ac:=zc N
 have aa:=zc O
 clear H E N O
 obtain⟨K,Y,V,M,L,X,xf⟩:=zu X1.out
 obtain⟨p0,p1,p2,p3,Z,p5,pf⟩:=zu A.out.2.2.1
 have I:=(Array.getElem?_eq_some_iff.1 A.out.2.2.1).1
 have ad:=(Array.getElem?_eq_some_iff.1 X1.out).1
 go_wp2_with fail
 go_region_with (go_at_call 122;refine (zbQ c t [n,cPoint,j] w1 A.out (by have:=HL.out;rw[HT.out] at this;simp only[zr,List.foldl_cons,List.foldl_nil,ByteArray.size_append] at this ⊢;omega) (by simp)).mono ?_;rintro e w2 ⟨rfl,E,N,O⟩)
 all_goals (go_wp2;go_end0;exact⟨rfl,(by rw[HT.out];simp only[zr,List.foldl_cons,List.foldl_nil,←ByteArray.append_assoc] at E ⊢;exact E),ac.out.trans N,aa.out.trans O⟩)
theorem zmQ (c:PC) (t:ByteArray) (i:Nat) (z:Int) (n j:ByteArray) (l r:Int) (w:World) (h:PP c t w) (hi:i<c.m.ex.length) (H:c.m.ex.getD i zf=⟨5,z,n,j,l,r⟩) (q:(t++(n++cPoint++j++cParens)).size≤140737488355328):
  Calls Tryz.prog 201 #[.pointer (some ⟨c.gp,0,none⟩),.int .i64 (i:Int)] w (PO c (t++(n++cPoint++j++cParens)) w):=by
 have J:=zc h
 obtain⟨T,hT⟩: ∃T,T=n++cPoint++j++cParens:=⟨_,rfl⟩
 rw[←hT] at q ⊢
 have HT:=zc hT
 have HL:=zc q
 clear h q hT
 obtain⟨p0,p1,p2,p3,Z,p5,pf⟩:=zu J.out.2.2.1
 obtain⟨g,hg,I,K,Y,V,M,L,X⟩:=J.out.2.1.expr hi
 rw[H] at K Y V M L X
 dsimp only at K Y V M L X
 rw[hg] at Z
 have ab:(i:Int)<(c.m.ex.length:Int):=by omega
 clear hg H
 go_enter Tryz.func201,Tryz.ntmps201
 go_upto_region 1 with fail
 have U:Hid (Below w.heap.size w (w.alloc (.cells #[.int .i64 5,.int .i64 z,.string n,.string j,.int .i64 l,.int .i64 r] 109))):=(Below.refl _ _).alloc (Nat.le_refl _) _
 refine zac (R:=fun W=>W.heap[w.heap.size]? =some (.cells #[.int .i64 5,.int .i64 z,.string n,.string j,.int .i64 l,.int .i64 r] 109 (0,0))∧PP c t W∧Below c.B w W∧KeepB c.b w W) ⟨heap_alloc_new w _,J.out.later U.out,U.out.mono J.out.1.2,KeepB.of_below U.out⟩ ?_
 obtain⟨gx,D⟩: ∃gx,gx=w.heap.size:=⟨_,rfl⟩
 have ae:gx≠c.b:=by
  rw[D]
  obtain⟨af,hc⟩:=zb8 J.out.1.1
  have:=(Array.getElem?_eq_some_iff.1 hc).1
  omega
 rw[←D]
 rintro w1 ⟨H,E,N,O⟩
 clear D U I K Y V M L X p0 p1 p2 p3 Z p5 pf ab
 have X1:=zc H
 have A:=zc E
 have ac:=zc N
 have aa:=zc O
 clear H E N O
 obtain⟨K,Y,V,M,L,X,xf⟩:=zu X1.out
 obtain⟨p0,p1,p2,p3,Z,p5,pf⟩:=zu A.out.2.2.1
 have I:=(Array.getElem?_eq_some_iff.1 A.out.2.2.1).1
 have ad:=(Array.getElem?_eq_some_iff.1 X1.out).1
 go_wp2_with fail
 go_region_with (go_at_call 122;refine (zbQ c t [n,cPoint,j,cParens] w1 A.out (by have:=HL.out;rw[HT.out] at this;simp only[zr,List.foldl_cons,List.foldl_nil,ByteArray.size_append] at this ⊢;omega) (by simp)).mono ?_;rintro e w2 ⟨rfl,E,N,O⟩)
 all_goals (go_wp2;go_end0;exact⟨rfl,(by rw[HT.out];simp only[zr,List.foldl_cons,List.foldl_nil,←ByteArray.append_assoc] at E ⊢;exact E),ac.out.trans N,aa.out.trans O⟩)
theorem zmR (c:PC) (t:ByteArray) (i:Nat) (z:Int) (n j:ByteArray) (l r:Nat) (w:World) (h:PP c t w) (hi:i<c.m.ex.length) (H:c.m.ex.getD i zf=⟨6,z,n,j,(l:Int),(r:Int)⟩) (ae:zbT c l) (ac:zbT c r) (hr:r<c.m.ex.length) (q:(t++(prX c.m.ex l++tPlus++zC (zK (c.m.ex.getD r zf).kind) (prX c.m.ex r))).size≤140737488355328):
  Calls Tryz.prog 201 #[.pointer (some ⟨c.gp,0,none⟩),.int .i64 (i:Int)] w (PO c (t++(prX c.m.ex l++tPlus++zC (zK (c.m.ex.getD r zf).kind) (prX c.m.ex r))) w):=by
 have J:=zc h
 obtain⟨T,hT⟩: ∃T,T=prX c.m.ex l++tPlus++zC (zK (c.m.ex.getD r zf).kind) (prX c.m.ex r):=⟨_,rfl⟩
 rw[←hT] at q ⊢
 have HT:=zc hT
 have HL:=zc q
 clear h q hT
 obtain⟨p0,p1,p2,p3,Z,p5,pf⟩:=zu J.out.2.2.1
 obtain⟨g,hg,I,K,Y,V,M,L,X⟩:=J.out.2.1.expr hi
 rw[H] at K Y V M L X
 dsimp only at K Y V M L X
 rw[hg] at Z
 have ab:(i:Int)<(c.m.ex.length:Int):=by omega
 clear hg H
 go_enter Tryz.func201,Tryz.ntmps201
 go_upto_region 1 with fail
 have U:Hid (Below w.heap.size w (w.alloc (.cells #[.int .i64 6,.int .i64 z,.string n,.string j,.int .i64 (l:Int),.int .i64 (r:Int)] 109))):=(Below.refl _ _).alloc (Nat.le_refl _) _
 refine zac (R:=fun W=>W.heap[w.heap.size]? =some (.cells #[.int .i64 6,.int .i64 z,.string n,.string j,.int .i64 (l:Int),.int .i64 (r:Int)] 109 (0,0))∧PP c t W∧Below c.B w W∧KeepB c.b w W) ⟨heap_alloc_new w _,J.out.later U.out,U.out.mono J.out.1.2,KeepB.of_below U.out⟩ ?_
 obtain⟨gx,D⟩: ∃gx,gx=w.heap.size:=⟨_,rfl⟩
 have ah:gx≠c.b:=by
  rw[D]
  obtain⟨ai,hc⟩:=zb8 J.out.1.1
  have:=(Array.getElem?_eq_some_iff.1 hc).1
  omega
 rw[←D]
 rintro w1 ⟨H,E,N,O⟩
 clear D U I K Y V M L X p0 p1 p2 p3 Z p5 pf ab
 have X1:=zc H
 have A:=zc E
 have ad:=zc N
 have aa:=zc O
 clear H E N O
 obtain⟨K,Y,V,M,L,X,xf⟩:=zu X1.out
 obtain⟨p0,p1,p2,p3,Z,p5,pf⟩:=zu A.out.2.2.1
 have I:=(Array.getElem?_eq_some_iff.1 A.out.2.2.1).1
 have ag:=(Array.getElem?_eq_some_iff.1 X1.out).1
 go_wp2_with fail
 refine (ziy c t 6 z n j tPlus l r w1 ae ac hr A.out (by rw[←HT.out];exact HL.out)).mono ?_
 rw[←HT.out]
 rintro e w2 ⟨rfl,E,N,O⟩
 have af:=zc E
 clear E
 go_wp2
 go_end0
 exact⟨rfl,af.out,ad.out.trans N,aa.out.trans O⟩
theorem zmS (c:PC) (t:ByteArray) (i:Nat) (z:Int) (n j:ByteArray) (l r:Nat) (w:World) (h:PP c t w) (hi:i<c.m.ex.length) (H:c.m.ex.getD i zf=⟨7,z,n,j,(l:Int),(r:Int)⟩) (ae:zbT c l) (ac:zbT c r) (hr:r<c.m.ex.length) (q:(t++(prX c.m.ex l++tMinus++zC (zK (c.m.ex.getD r zf).kind) (prX c.m.ex r))).size≤140737488355328):
  Calls Tryz.prog 201 #[.pointer (some ⟨c.gp,0,none⟩),.int .i64 (i:Int)] w (PO c (t++(prX c.m.ex l++tMinus++zC (zK (c.m.ex.getD r zf).kind) (prX c.m.ex r))) w):=by
 have J:=zc h
 obtain⟨T,hT⟩: ∃T,T=prX c.m.ex l++tMinus++zC (zK (c.m.ex.getD r zf).kind) (prX c.m.ex r):=⟨_,rfl⟩
 rw[←hT] at q ⊢
 have HT:=zc hT
 have HL:=zc q
 clear h q hT
 obtain⟨p0,p1,p2,p3,Z,p5,pf⟩:=zu J.out.2.2.1
 obtain⟨g,hg,I,K,Y,V,M,L,X⟩:=J.out.2.1.expr hi
 rw[H] at K Y V M L X
 dsimp only at K Y V M L X
 rw[hg] at Z
 have ab:(i:Int)<(c.m.ex.length:Int):=by omega
 clear hg H
 go_enter Tryz.func201,Tryz.ntmps201
 go_upto_region 1 with fail
 have U:Hid (Below w.heap.size w (w.alloc (.cells #[.int .i64 7,.int .i64 z,.string n,.string j,.int .i64 (l:Int),.int .i64 (r:Int)] 109))):=(Below.refl _ _).alloc (Nat.le_refl _) _
 refine zac (R:=fun W=>W.heap[w.heap.size]? =some (.cells #[.int .i64 7,.int .i64 z,.string n,.string j,.int .i64 (l:Int),.int .i64 (r:Int)] 109 (0,0))∧PP c t W∧Below c.B w W∧KeepB c.b w W) ⟨heap_alloc_new w _,J.out.later U.out,U.out.mono J.out.1.2,KeepB.of_below U.out⟩ ?_
 obtain⟨gx,D⟩: ∃gx,gx=w.heap.size:=⟨_,rfl⟩
 have ah:gx≠c.b:=by
  rw[D]
  obtain⟨ai,hc⟩:=zb8 J.out.1.1
  have:=(Array.getElem?_eq_some_iff.1 hc).1
  omega
 rw[←D]
 rintro w1 ⟨H,E,N,O⟩
 clear D U I K Y V M L X p0 p1 p2 p3 Z p5 pf ab
 have X1:=zc H
 have A:=zc E
 have ad:=zc N
 have aa:=zc O
 clear H E N O
 obtain⟨K,Y,V,M,L,X,xf⟩:=zu X1.out
 obtain⟨p0,p1,p2,p3,Z,p5,pf⟩:=zu A.out.2.2.1
 have I:=(Array.getElem?_eq_some_iff.1 A.out.2.2.1).1
 have ag:=(Array.getElem?_eq_some_iff.1 X1.out).1
 go_wp2_with fail
 refine (ziy c t 7 z n j tMinus l r w1 ae ac hr A.out (by rw[←HT.out];exact HL.out)).mono ?_
 rw[←HT.out]
 rintro e w2 ⟨rfl,E,N,O⟩
 have af:=zc E
 clear E
 go_wp2
 go_end0
 exact⟨rfl,af.out,ad.out.trans N,aa.out.trans O⟩
theorem zmT (c:PC) (t:ByteArray) (i:Nat) (ab:Int) (D j:ByteArray) (l r:Nat) (w:World) (h:PP c t w) (hi:i<c.m.ex.length) (hx:c.m.ex.getD i zf=⟨8,ab,D,j,(l:Int),(r:Int)⟩) (ag:zbT c l) (af:zbT c r) (hl:l<c.m.ex.length) (hr:r<c.m.ex.length) (E:(t++(zC (zK (c.m.ex.getD l zf).kind) (prX c.m.ex l)++tStar++zC (zR (c.m.ex.getD r zf).kind) (prX c.m.ex r))).size≤140737488355328):
  Calls Tryz.prog 201 #[.pointer (some ⟨c.gp,0,none⟩),.int .i64 (i:Int)] w (PO c (t++(zC (zK (c.m.ex.getD l zf).kind) (prX c.m.ex l)++tStar++zC (zR (c.m.ex.getD r zf).kind) (prX c.m.ex r))) w):=by
 have HP:=zc h
 obtain⟨T,hT⟩: ∃T,T=zC (zK (c.m.ex.getD l zf).kind) (prX c.m.ex l)++tStar++zC (zR (c.m.ex.getD r zf).kind) (prX c.m.ex r):=⟨_,rfl⟩
 rw[←hT] at E ⊢
 have HT:=zc hT
 have HL:=zc E
 clear h E hT
 obtain⟨p0,p1,p2,p3,Y,p5,pf⟩:=zu HP.out.2.2.1
 obtain⟨g,hg,z,L,X,U,O,N,V⟩:=HP.out.2.1.expr hi
 rw[hx] at L X U O N V
 dsimp only at L X U O N V
 rw[hg] at Y
 have an:(i:Int)<(c.m.ex.length:Int):=by omega
 clear hg hx
 go_enter Tryz.func201,Tryz.ntmps201
 go_upto_region 1 with fail
 have HW:Hid (Below w.heap.size w (w.alloc (.cells #[.int .i64 8,.int .i64 ab,.string D,.string j,.int .i64 (l:Int),.int .i64 (r:Int)] 109))):=(Below.refl _ _).alloc (Nat.le_refl _) _
 refine zac (R:=fun W=>W.heap[w.heap.size]? =some (.cells #[.int .i64 8,.int .i64 ab,.string D,.string j,.int .i64 (l:Int),.int .i64 (r:Int)] 109 (0,0))∧PP c t W∧Below c.B w W∧KeepB c.b w W) ⟨heap_alloc_new w _,HP.out.later HW.out,HW.out.mono HP.out.1.2,KeepB.of_below HW.out⟩ ?_
 obtain⟨gx,ad⟩: ∃gx,gx=w.heap.size:=⟨_,rfl⟩
 have ae:gx≠c.b:=by
  rw[ad]
  obtain⟨ar,hc⟩:=zb8 HP.out.1.1
  have:=(Array.getElem?_eq_some_iff.1 hc).1
  omega
 rw[←ad]
 rintro M ⟨hx,q,A,n⟩
 clear ad HW z L X U O N V p0 p1 p2 p3 Y p5 pf an
 have X1:=zc hx
 have K:=zc q
 have ao:=zc A
 have al:=zc n
 clear hx q A n
 obtain⟨L,X,U,O,N,V,xf⟩:=zu X1.out
 obtain⟨p0,p1,p2,p3,Y,p5,pf⟩:=zu K.out.2.2.1
 have z:=(Array.getElem?_eq_some_iff.1 K.out.2.2.1).1
 have I:=(Array.getElem?_eq_some_iff.1 X1.out).1
 have ai:=zc ag
 have ah:=zc af
 have HR:=zc hr
 have aj:=zc hl
 obtain⟨kk,aa⟩: ∃kk,(c.m.ex.getD r zf).kind=kk:=⟨_,rfl⟩
 obtain⟨kl,Z⟩: ∃kl,(c.m.ex.getD l zf).kind=kl:=⟨_,rfl⟩
 have HU:Hid (T=zC (zK kl) (prX c.m.ex l)++tStar++zC (zR kk) (prX c.m.ex r)):=by show _=_;rw[←aa,←Z];exact HT.out
 have KK:=zc aa
 have KL:=zc Z
 clear ag af hr hl aa Z HT
 go_upto_region 17 with fail
 go_cut [] from 82 to 90 (fun wx=>PP c (t++zC (zK kl) (prX c.m.ex l)) wx∧Below c.B M wx∧KeepB c.b M wx)
 case first=>
  go_wp2_with fail
  have H:=zc (K.out.later ((Below.refl M.heap.size M).drew))
  go_region_with (first|(go_at_call 222;refine (zgd c _ l _ H.out aj.out).mono ?_;rintro e w' ⟨rfl,rfl⟩;rw[KL.out])|(go_at_call 197;refine (zex _ _).mono ?_;rintro e w' ⟨rfl,rfl⟩)|(go_at_call 221;refine (zfm c _ l (zK kl) _ ai.out H.out (by have:=HL.out;rw[HU.out] at this;simp only[ByteArray.size_append] at this ⊢;omega)).mono ?_;rintro e w2 ⟨rfl,q,A,n⟩))
  all_goals (go_wp2_with fail;go_meet;exact⟨q,(((Below.refl M.heap.size M).drew).mono K.out.1.2).trans A,(KeepB.of_below ((Below.refl M.heap.size M).drew)).trans n⟩)
 case rest=>
 obtain⟨q,A,n⟩:=hcut
 rename_i w2
 have ac:=zc q
 have ap:=zc (ao.out.trans A)
 have am:=zc (al.out.trans n)
 have X2:=zc ((n _ _ _ _ X1.out ae (by decide)).trans X1.out)
 clear q A n p0 p1 p2 p3 Y p5 pf L X U O N V xf z I
 obtain⟨L,X,U,O,N,V,xf⟩:=zu X2.out
 obtain⟨p0,p1,p2,p3,Y,p5,pf⟩:=zu ac.out.2.2.1
 have z:=(Array.getElem?_eq_some_iff.1 ac.out.2.2.1).1
 have I:=(Array.getElem?_eq_some_iff.1 X2.out).1
 go_wp2_with fail
 refine (zbr c _ [tStar] _ ac.out (by have:=HL.out;rw[HU.out] at this;simp only[zr,List.foldl_cons,List.foldl_nil,ByteArray.size_append] at this ⊢;omega) (by simp)).mono ?_
 rintro e w3 ⟨rfl,q,A,n⟩
 have J:=zc q
 have ak:=zc (ap.out.trans A)
 have aq:=zc (am.out.trans n)
 have X3:=zc ((n _ _ _ _ X2.out ae (by decide)).trans X2.out)
 clear q A n p0 p1 p2 p3 Y p5 pf L X U O N V xf z I
 obtain⟨L,X,U,O,N,V,xf⟩:=zu X3.out
 obtain⟨p0,p1,p2,p3,Y,p5,pf⟩:=zu J.out.2.2.1
 have z:=(Array.getElem?_eq_some_iff.1 J.out.2.2.1).1
 have I:=(Array.getElem?_eq_some_iff.1 X3.out).1
 go_wp2_with fail
 have H:=zc (J.out.later ((Below.refl w3.heap.size w3).drew))
 go_region_with (first|(go_at_call 222;refine (zgd c _ r _ H.out HR.out).mono ?_;rintro e w' ⟨rfl,rfl⟩;rw[KK.out])|(go_at_call 167;refine (zhT _ _).mono ?_;rintro e w' ⟨rfl,rfl⟩)|(go_at_call 221;refine (zfm c _ r (zR kk) _ ah.out H.out (by have:=HL.out;rw[HU.out] at this;simp only[zr,List.foldl_cons,List.foldl_nil,ByteArray.size_append] at this ⊢;omega)).mono ?_;rintro e w4 ⟨rfl,q,A,n⟩))
 all_goals (go_wp2;go_end0;exact⟨rfl,(by rw[HU.out];simp only[zr,List.foldl_cons,List.foldl_nil,←ByteArray.append_assoc] at q ⊢;exact q),ak.out.trans ((((Below.refl w3.heap.size w3).drew).mono J.out.1.2).trans A),aq.out.trans ((KeepB.of_below ((Below.refl w3.heap.size w3).drew)).trans n)⟩)
theorem zmU (c:PC) (t:ByteArray) (i:Nat) (k z:Int) (n j:ByteArray) (l r:Int) (w:World) (h:PP c t w) (hi:i<c.m.ex.length) (H:c.m.ex.getD i zf=⟨k,z,n,j,l,r⟩) (k1:(k==1)=false) (k2:(k==2)=false) (k3:(k==3)=false) (k4:(k==4)=false) (k5:(k==5)=false) (k6:(k==6)=false) (k7:(k==7)=false) (k8:(k==8)=false) (q:(t++(sNone)).size≤140737488355328):
  Calls Tryz.prog 201 #[.pointer (some ⟨c.gp,0,none⟩),.int .i64 (i:Int)] w (PO c (t++(sNone)) w):=by
 have I:=zc h
 obtain⟨T,X⟩: ∃T,T=sNone:=⟨_,rfl⟩
 rw[←X] at q ⊢
 have HT:=zc X
 have HL:=zc q
 clear h q X
 obtain⟨p0,p1,p2,p3,V,p5,pf⟩:=zu I.out.2.2.1
 obtain⟨g,hg,E,J,U,N,L,K,O⟩:=I.out.2.1.expr hi
 rw[H] at J U N L K O
 dsimp only at J U N L K O
 rw[hg] at V
 have Z:(i:Int)<(c.m.ex.length:Int):=by omega
 clear hg H
 go_enter Tryz.func201,Tryz.ntmps201
 go_upto_region 1 with fail
 have M:Hid (Below w.heap.size w (w.alloc (.cells #[.int .i64 k,.int .i64 z,.string n,.string j,.int .i64 l,.int .i64 r] 109))):=(Below.refl _ _).alloc (Nat.le_refl _) _
 refine zac (R:=fun W=>W.heap[w.heap.size]? =some (.cells #[.int .i64 k,.int .i64 z,.string n,.string j,.int .i64 l,.int .i64 r] 109 (0,0))∧PP c t W∧Below c.B w W∧KeepB c.b w W) ⟨heap_alloc_new w _,I.out.later M.out,M.out.mono I.out.1.2,KeepB.of_below M.out⟩ ?_
 obtain⟨gx,D⟩: ∃gx,gx=w.heap.size:=⟨_,rfl⟩
 have ac:gx≠c.b:=by
  rw[D]
  obtain⟨ad,hc⟩:=zb8 I.out.1.1
  have:=(Array.getElem?_eq_some_iff.1 hc).1
  omega
 rw[←D]
 rintro w1 ⟨H,hp,hb,hk⟩
 clear D M E J U N L K O p0 p1 p2 p3 V p5 pf Z
 have X1:=zc H
 have A:=zc hp
 have aa:=zc hb
 have Y:=zc hk
 clear H hp hb hk
 obtain⟨J,U,N,L,K,O,xf⟩:=zu X1.out
 obtain⟨p0,p1,p2,p3,V,p5,pf⟩:=zu A.out.2.2.1
 have E:=(Array.getElem?_eq_some_iff.1 A.out.2.2.1).1
 have ab:=(Array.getElem?_eq_some_iff.1 X1.out).1
 go_wp2
 go_end0
 exact⟨rfl,(by rw[HT.out,show t++sNone=t from ByteArray.append_empty];exact A.out),aa.out,Y.out⟩
theorem zmV (c:PC) (hn:zaR c.m.ex) (ha:zbd c.m.ex) (n:Nat): ∀i,i<n→i<c.m.ex.length→zbT c i:=by
 induction n with
 |zero=>intro i H;omega
 |succ n ih=>
  intro i aa H t w h z
  by_cases Z:i<n
  ·exact ih i Z H t w h z
  ·have K: ∀j,j<i→zbT c j:=fun j hj=>ih j (by omega) (by omega)
   have J:=hn (c.m.ex.getD i zf) (by rw[zdd H];exact List.getElem_mem H)
   have E:=zeI ha (i:=i)
   rw[zf9 ha] at z ⊢
   obtain⟨x,I⟩: ∃x,c.m.ex.getD i zf=x:=⟨_,rfl⟩
   rw[I] at z J E ⊢
   obtain⟨k,D,A,q,l,r⟩:=x
   simp only at z J E ⊢
   by_cases L:(k==1)=true
   ·rw[if_pos L] at z ⊢
    have e:=eq_of_beq L
    subst e
    exact zmM c t i D A q l r w h H I J z
   rw[if_neg L] at z ⊢
   by_cases X:(k==2)=true
   ·rw[if_pos X] at z ⊢
    have e:=eq_of_beq X
    subst e
    exact zmN c t i D A q l r w h H I z
   rw[if_neg X] at z ⊢
   by_cases O:(k==3)=true
   ·rw[if_pos O] at z ⊢
    have e:=eq_of_beq O
    subst e
    exact zmO c t i D A q l r w h H I z
   rw[if_neg O] at z ⊢
   by_cases Y:(k==4)=true
   ·rw[if_pos Y] at z ⊢
    have e:=eq_of_beq Y
    subst e
    exact zmP c t i D A q l r w h H I z
   rw[if_neg Y] at z ⊢
   by_cases U:(k==5)=true
   ·rw[if_pos U] at z ⊢
    have e:=eq_of_beq U
    subst e
    exact zmQ c t i D A q l r w h H I z
   rw[if_neg U] at z ⊢
   by_cases V:(k==6)=true
   ·rw[if_pos V] at z ⊢
    have e:=eq_of_beq V
    subst e
    have E:=E (by decide)
    obtain⟨l,rfl⟩: ∃n:Nat,l=(n:Int):=⟨l.toNat,by omega⟩
    obtain⟨r,rfl⟩: ∃n:Nat,r=(n:Int):=⟨r.toNat,by omega⟩
    simp only[Int.toNat_natCast] at z ⊢
    exact zmR c t i D A q l r w h H I (K l (by omega)) (K r (by omega)) (by omega) z
   rw[if_neg V] at z ⊢
   by_cases N:(k==7)=true
   ·rw[if_pos N] at z ⊢
    have e:=eq_of_beq N
    subst e
    have E:=E (by decide)
    obtain⟨l,rfl⟩: ∃n:Nat,l=(n:Int):=⟨l.toNat,by omega⟩
    obtain⟨r,rfl⟩: ∃n:Nat,r=(n:Int):=⟨r.toNat,by omega⟩
    simp only[Int.toNat_natCast] at z ⊢
    exact zmS c t i D A q l r w h H I (K l (by omega)) (K r (by omega)) (by omega) z
   rw[if_neg N] at z ⊢
   by_cases M:(k==8)=true
   ·rw[if_pos M] at z ⊢
    have e:=eq_of_beq M
    subst e
    have E:=E (by decide)
    obtain⟨l,rfl⟩: ∃n:Nat,l=(n:Int):=⟨l.toNat,by omega⟩
    obtain⟨r,rfl⟩: ∃n:Nat,r=(n:Int):=⟨r.toNat,by omega⟩
    simp only[Int.toNat_natCast] at z ⊢
    exact zmT c t i D A q l r w h H I (K l (by omega)) (K r (by omega)) (by omega) (by omega) z
   rw[if_neg M] at z ⊢
   exact zmU c t i k D A q l r w h H I (Bool.eq_false_iff.2 L) (Bool.eq_false_iff.2 X) (Bool.eq_false_iff.2 O) (Bool.eq_false_iff.2 Y) (Bool.eq_false_iff.2 U) (Bool.eq_false_iff.2 V) (Bool.eq_false_iff.2 N) (Bool.eq_false_iff.2 M) z
theorem zmW (j:Nat) (S:Sv) (m:Md) (Z:Bool) (w:World) (h:OwnMd w j S m) (hm:Small m) (L:Tree m→(zbp m).size≤140737488355328):
  Calls Tryz.prog 90 #[zq S m,.bool Z] w fun e w'=>PrintOut (zbp m) m e∧Below w.heap.size w w':=by
 have HH:=zc h
 have SM:=zc hm
 have HU:=zc L
 obtain⟨f1,f2,f3,f4,f5⟩:=hm.few
 clear h hm L
 unfold zq
 go_enter Tryz.func90,Tryz.ntmps90
 go_wp2_with fail
 refine (zmr j S m _ (HH.out.alloc _) f5 f4).mono ?_
 rintro e q ⟨⟨b,rfl,I⟩,A⟩
 have HT:=zc I
 have n:Hid (Below w.heap.size w q):=((Below.refl _ _).alloc (Nat.le_refl _) _).trans (A.mono (by rw[zk];omega))
 have E:Hid (q.heap[w.heap.size]? =some (.cells #[.slice S.rq.a m.rq.length S.rq.cap,.slice S.im.a m.im.length S.im.cap,.slice S.ep.a m.ep.length S.ep.cap,.slice S.st.a m.st.length S.st.cap,.slice S.ex.a m.ex.length S.ex.cap] 36 (0,0))):=(A.block _ (by rw[zk];omega)).trans (heap_alloc_new w _)
 have M:=zc (HH.out.later n.out)
 clear I A
 cases b with
 |false=>
  go_wp2
  go_ret
  exact⟨.inr ⟨(fun t=>by have:=HT.out.2 t;cases this),rfl⟩,n.out⟩
 |true=>
  have U:=zc (HT.out.1 rfl)
  have HZ:=zc (HU.out U.out)
  go_upto_region 4 with fail
  have z:Hid (Below q.heap.size q (q.alloc (.cells #[.pointer none,.slice none 0 0] 163))):=(Below.refl _ _).alloc (Nat.le_refl _) _
  have hz:=(Array.getElem?_eq_some_iff.1 E.out).1
  refine zac (R:=fun W=>(Lib.IsBuilder 163 5 q.heap.size q.heap.size [] W∧q.heap.size≤W.heap.size)∧OwnMd W j S m∧W.heap[w.heap.size]? =some (.cells #[.slice S.rq.a m.rq.length S.rq.cap,.slice S.im.a m.im.length S.im.cap,.slice S.ep.a m.ep.length S.ep.cap,.slice S.st.a m.st.length S.st.cap,.slice S.ex.a m.ex.length S.ex.cap] 36 (0,0))∧Below w.heap.size w W) ⟨⟨Lib.fresh_isBuilder _ _ q,z.out.size⟩,M.out.later z.out,(z.out.block _ hz).trans E.out,n.out.trans (z.out.mono n.out.size)⟩ ?_
  obtain⟨b,D⟩: ∃b,b=q.heap.size:=⟨_,rfl⟩
  have J:w.heap.size≤b:=by rw[D];exact n.out.size
  rw[←D]
  rintro W ⟨⟨H,V⟩,ho,hx,I⟩
  clear hz z E M n HH D q
  have BL:=zc H
  have HO:=zc ho
  have HX:=zc hx
  have HB:=zc I
  clear H ho hx I
  obtain⟨c0,c1,c2,c3,c4,cf⟩:=zi HX.out
  go_upto_region 6 with fail
  have z:Hid (Below W.heap.size W (W.alloc (.cells #[.slice S.rq.a m.rq.length S.rq.cap,.slice S.im.a m.im.length S.im.cap,.slice S.ep.a m.ep.length S.ep.cap,.slice S.st.a m.st.length S.st.cap,.slice S.ex.a m.ex.length S.ex.cap,.func (.func 122) #[] #[.pointer (some ⟨b,0,none⟩)]] 171))):=(Below.refl _ _).alloc (Nat.le_refl _) _
  have ac:Hid (PP ⟨b,b,W.heap.size,j,S,m⟩ sNone (W.alloc (.cells #[.slice S.rq.a m.rq.length S.rq.cap,.slice S.im.a m.im.length S.im.cap,.slice S.ep.a m.ep.length S.ep.cap,.slice S.st.a m.st.length S.st.cap,.slice S.ex.a m.ex.length S.ex.cap,.func (.func 122) #[] #[.pointer (some ⟨b,0,none⟩)]] 171))):=by
   refine⟨⟨zid BL.out z.out,Nat.le_trans V z.out.size⟩,HO.out.later z.out,heap_alloc_new W _,?_⟩
   obtain⟨ad,hc⟩:=zb8 BL.out
   have:=(Array.getElem?_eq_some_iff.1 hc).1
   show W.heap.size≠b
   omega
  have X:=zc (HB.out.trans (z.out.mono HB.out.size))
  go_wp2_with fail
  refine (zmL ⟨b,b,W.heap.size,j,S,m⟩ _ (fun i hi=>zmV _ SM.out.nums U.out.ahead _ i hi hi) U.out.stm SM.out ac.out HZ.out).mono ?_
  rintro e w3 ⟨rfl,hp,O,aa⟩
  have K:=zc hp
  have Y:=zc (X.out.trans (O.mono J))
  clear hp O aa c0 c1 c2 c3 c4 cf
  go_wp2_with fail
  refine (Tryz.Builder_String_any b b (zbp m).data.toList w3 K.out.1.1 K.out.1.2).mono ?_
  rintro e w4 ⟨rfl,N⟩
  have ab:=zc (Y.out.trans (N.mono J))
  clear N
  go_wp2
  go_ret
  exact⟨.inl ⟨U.out,rfl⟩,ab.out⟩
theorem zge {C:Cx} {j:Bool} {q:PS} {x:PS×Ep} (h:zbh C j q= .ok x):q.pos<x.1.pos:=by
 obtain⟨a,A,w⟩:=zj h
 obtain⟨b,D,z⟩:=zj w
 have n:=zeg D
 rw[(zbc A).1] at n
 cases z
 exact n
def ziz (C:Cx) (gt cap base gp:Nat) (t:TypeId) (size:Nat) (f:Ep→List Value) (y:PRL) (S:Sv) (w:World) (e:Ending) (w':World):Prop:=
 match y with
 | .ok a=>∃r S',e= .returned (.slice r.a a.2.length r.cap)∧IM C gt cap base gp S' a.1 w'∧IS gp S w S' w'∧Fr t size w' w.heap.size r a.2.length (a.2.flatMap f) S'∧0<a.2.length∧a.2.length≤4000
 | .error p=>e=Pan p∧Below base w w'
theorem zi0 {C:Cx} {D n j z:Nat} {S:Sv} {q:PS} {w:World} (h:IM C D n j z S q w) (t:TypeId) (size:Nat):Fr t size (w.alloc (.cells #[] t)) w.heap.size ⟨some ⟨w.heap.size,0,none⟩,0⟩ 0 [] S:=by
 refine⟨World.ownsRow_lit w #[] 0 (Nat.le_refl _) (by unfold maxLen;omega) (Nat.zero_mul _).symm,fun k g A=>?_⟩
 have E:w.heap.size=k:=by simpa [Rw.blk,Value.ownBlock] using g
 have:=(h.mem.own.has A).2
 omega
theorem zmX (C:Cx) (O z j E:Nat) (S:Sv) (q:PS) (w:World) (h:IM C O z j E S q w):
  Calls Tryz.prog 209 #[.pointer (some ⟨E,0,none⟩)] w (ziz C O z j E 84 3 (fun e=>imL (zaK e)) (zat C false q []) S w):=by
 obtain⟨i0,hi,am,ao,aq⟩:=info_parts Tryz.infoImp
 go_enter Tryz.func209,Tryz.ntmps209
 go_wp2
 go_loopg [3] (C.ts.length+1) (fun k v wr=>∃(S':Sv) (U:PS) (r:Rw) (l:List Ep),v= .slice r.a l.length r.cap∧zat C false q []=zat C false U l∧C.ts.length-U.pos<k∧l.length+(C.ts.length-U.pos)≤C.ts.length∧IM C O z j E S' U wr∧IS E S w S' wr∧Fr 84 3 wr w.heap.size r l.length (l.flatMap (fun e=>imL (zaK e))) S')
 case atStart=>exact⟨S,q,⟨some ⟨w.heap.size,0,none⟩,0⟩,[],rfl,rfl,by omega,by simp,h.alloc _,(IS.refl _ _ _).alloc _,zi0 h _ _⟩
 case round=>
  obtain⟨S',U,r,l,rfl,hy,hk,hl,m',s',f'⟩:=hrel
  have HY:=zc hy
  have HZ:=zc (HY.out.trans (zhQ C false U l))
  have ab:=m'
  have ak:=s'
  have ap:Hid (Fr 84 3 wr w.heap.size r l.length (l.flatMap (fun e=>imL (zaK e))) S'):=f'
  have av:=m'.mem.few
  clear hy m' s' f'
  go_wp2_with fail
  refine (zmj C O z j E S' U _ ab).mono ?_
  cases X:zbh C false U with
  |error p=>
   rintro e V ⟨rfl,hb⟩
   have HB:=(h.back ak).trans hb
   have HX:Hid (zat C false q []= .error p):=bdE HZ.out X
   unfold Pan
   go_wp2
   refine⟨rfl,?_⟩
   rw[HX.out]
   exact⟨rfl,HB⟩
  |ok n=>
   rintro e V ⟨rfl,H,m,s⟩
   have D:Hid (Fr 84 3 V w.heap.size r l.length (l.flatMap (fun e=>imL (zaK e))) H):=ap.out.step ab (by decide) s
   have J:=zc m
   have ae:Hid (IS E S w H V):=ak.trans s
   clear m s
   have ag:=zc (bdO HZ.out X)
   have ay:=zge X
   have ax:=J.out.mem.inv.pos
   unfold imV
   have M:=fun o1=>(D.out.later ((Below.refl V.heap.size V).alloc (Nat.le_refl _) o1)).1
   have ah:=fun o1=>(ae.out.alloc o1).size
   go_wp2_with (at_builtin;refine zch _ rfl _ _ 31 rfl w.heap.size 84 i0 _ 3 48 Tryz.underlying31 hi am ao aq rfl (by decide) (by decide) r l.length _ (by rfl) (M _) V.heap.size (imL (zaK n.2)) (by rfl) (by exact heap_alloc_new V _) rfl (zhh _) (by omega) (ah _) ?_;intro N w2 hr Z ad;have HR:Hid (OwnR w2 w.heap.size 84 3 N (l.length+1) _):=hr;have K:Hid (IM C O z j E H n.1 w2):=(J.out.alloc _).aside Z (fun k g=>⟨D.out.2 k g,D.out.ngp J.out (by decide) g,D.out.ngt J.out (by decide) g⟩);have af:Hid (IS E S w H w2):=(ae.out.alloc _).aside Z (fun k g=>(D.out.1.typed g).1);have ai:Hid (Fr 84 3 w2 w.heap.size N (l.length+1) _ H):=(D.out.later ((Below.refl _ _).alloc (Nat.le_refl _) _)).grown (J.out.alloc _) hr ad;clear hr Z ad M ah)
   have el:(l++[n.2]).length=l.length+1:=by simp
   have aj:Hid (Fr 84 3 w2 w.heap.size N (l++[n.2]).length ((l++[n.2]).flatMap (fun e=>imL (zaK e))) H):=by
    show Fr ..
    rw[el,List.flatMap_append]
    simpa using ai.out
   have I:=zc el
   clear el ai HR
   go_wp2_with fail
   cases hc:isT C n.1.pos 4 zbl with
   |true=>
    have aw:=zax hc (by decide)
    have HC:=zc (ag.out.trans (if_pos hc))
    refine (zH C O z j E H (n.1) 4 zbl _ K.out (by decide)).mono ?_
    rintro e w3 ⟨rfl,A,s⟩
    rw[hc] at A ⊢
    have L:=af.out.trans s
    have ac:=s
    clear s
    have Y:Hid (Fr 84 3 w3 w.heap.size N (l++[n.2]).length ((l++[n.2]).flatMap (fun e=>imL (zaK e))) H):=aj.out.step K.out (by decide) ac
    clear ac
    go_wp2
    go_roundg (gk-1)
    case rel=>exact⟨H,adv n.1,N,l++[n.2],by rw[I.out],HC.out,by rw[zw];omega,by rw[zw,I.out];omega,A,L,Y.out⟩
    case measure=>omega
   |false=>
    have HC:=zc (ag.out.trans (if_neg (by rw[hc];decide)))
    refine (zH C O z j E H (n.1) 4 zbl _ K.out (by decide)).mono ?_
    rintro e w3 ⟨rfl,A,s⟩
    rw[hc] at A ⊢
    have L:=af.out.trans s
    have Y:Hid (Fr 84 3 w3 w.heap.size N (l++[n.2]).length ((l++[n.2]).flatMap (fun e=>imL (zaK e))) H):=aj.out.step K.out (by decide) s
    clear s
    go_wp2_with fail
    refine (zbM C O z j E H n.1 125 _ A).mono ?_
    cases aa:zd C 4 zbb n.1 with
    |error p=>
     rintro e w4 ⟨rfl,hb⟩
     have HB:=(h.back L).trans hb
     have HX:Hid (zat C false q []= .error p):=bdE HC.out aa
     unfold Pan
     go_wp2
     refine⟨rfl,?_⟩
     rw[HX.out]
     exact⟨rfl,HB⟩
    |ok a4=>
     rintro e w4 ⟨rfl,S4,an,s⟩
     have au:Hid (Fr 84 3 w4 w.heap.size N (l++[n.2]).length ((l++[n.2]).flatMap (fun e=>imL (zaK e))) S4):=Y.out.step A (by decide) s
     have al:=L.trans s
     clear s
     have ar:=zc (bdO HC.out aa)
     go_wp2
     go_ret
     rw[ar.out]
     exact⟨N,S4,by rw[I.out];rfl,an,al,au.out,by show 0<(l++[n.2]).length;rw[I.out];omega,by show (l++[n.2]).length≤4000;rw[I.out];omega⟩
def impFromI (C:Cx) (l:List Ep) (q:PS):PR:=bd (zd C 1 zO q) fun a=>bd (zG C a) fun b=>bd (zd C 4 cSemi b.1) fun c=>zQ (fun e=>zan C (zb4 b.2 e)) l (.ok c)
theorem zfo {α:Type} (f:α→PS→PR) (p:Nat): ∀l:List α,zQ f l (.error p)= .error p
 |[]=>rfl
 |_::l=>zfo f p l
theorem zgf {α:Type} (f:α→PS→PR) {l:List α} {j:Nat} {x:α} (h:l[j]? =some x) (q:PS):zQ f (l.drop j) (.ok q)=zQ f (l.drop (j+1)) (f x q):=by
 obtain⟨n,rfl⟩:=List.getElem?_eq_some_iff.1 h
 rw[List.drop_eq_getElem_cons n]
 rfl
theorem zmY {C:Cx} {x:Im} {q a:PS} (h:zan C x q= .ok a):a.pos=q.pos:=by
 unfold zan at h
 split at h
 ·cases h
 ·cases h
  rfl
theorem zi1 {C:Cx} {x:Ep} {q a:PS} (h:zn C x q= .ok a):a.pos=q.pos:=by
 unfold zn at h
 split at h
 ·cases h
 ·split at h
  ·cases h
   rfl
  ·cases h
   rfl
theorem zey {α:Type} {l:List α} {j:Nat} (h:j<l.length): ∃x,l[j]? =some x:=⟨_,List.getElem?_eq_getElem h⟩
theorem zmZ (C:Cx) (M z n A b0 g:Nat) (r:Rw) (S:Sv) (q:PS) (l:List Ep) (w:World) (h:IM C M z n A S q w) (hC:zaT C) (hl:l.length≤4000) (hf:Fr 84 3 w b0 r l.length (l.flatMap (fun e=>imL (zaK e))) S) (hg:r.a=some ⟨g,0,none⟩):
  Calls Tryz.prog 208 #[.pointer (some ⟨A,0,none⟩),.slice (some ⟨g,0,none⟩) l.length r.cap] w (zM C M z n A (impFromI C l q) id (fun _=>.tuple #[]) S w):=by
 have HF:=zc hf
 have HG:=zc hg
 have HY:=zc (impFromI.eq_1 C l q)
 clear hf hg
 go_enter Tryz.func208,Tryz.ntmps208
 go_wp2_with fail
 refine (zdE C M z n A S q zO _ h).mono ?_
 cases Z:zd C 1 zO q with
 |error p=>
  rintro e w1 ⟨rfl,I⟩
  have U:Below n w w1:=(h.back (IS.refl _ _ _)).trans I
  have X:Hid (impFromI C l q= .error p):=bdE HY.out Z
  unfold Pan
  go_wp2
  refine⟨rfl,?_⟩
  rw[X.out]
  exact⟨rfl,U⟩
 |ok a1=>
  rintro e w1 ⟨rfl,S1,ak,J⟩
  have am:Hid (Fr 84 3 w1 b0 r l.length (l.flatMap (fun e=>imL (zaK e))) S1):=HF.out.step h (by decide) J
  have ag:=zc (bdO HY.out Z)
  go_wp2_with fail
  refine (zeX C M z n A S1 a1 _ ak hC).mono ?_
  cases aj:zG C a1 with
  |error p=>
   rintro e w2 ⟨rfl,I⟩
   have U:=(h.back J).trans I
   have X:Hid (impFromI C l q= .error p):=bdE ag.out aj
   unfold Pan
   go_wp2
   refine⟨rfl,?_⟩
   rw[X.out]
   exact⟨rfl,U⟩
  |ok a2=>
   rintro e w2 ⟨rfl,S2,ah,s⟩
   have ax:Hid (Fr 84 3 w2 b0 r l.length (l.flatMap (fun e=>imL (zaK e))) S2):=am.out.step ak (by decide) s
   have ac:=J.trans s
   clear s
   have ai:=zc (bdO ag.out aj)
   go_wp2_with fail
   refine (zbM C M z n A S2 a2.1 59 _ ah).mono ?_
   cases L:zd C 4 cSemi (a2.1) with
   |error p=>
    rintro e w3 ⟨rfl,I⟩
    have U:=(h.back ac).trans I
    have X:Hid (impFromI C l q= .error p):=bdE ai.out L
    unfold Pan
    go_wp2
    refine⟨rfl,?_⟩
    rw[X.out]
    exact⟨rfl,U⟩
   |ok a3=>
    rintro e w3 ⟨rfl,S3,aw,s⟩
    have ay:Hid (Fr 84 3 w3 b0 r l.length (l.flatMap (fun e=>imL (zaK e))) S3):=ax.out.step ah (by decide) s
    have aq:=ac.trans s
    clear s
    have ap:=zc (bdO ai.out L)
    have ad:0<a3.pos:=by rw[(zbx L).1];exact Nat.succ_pos _
    generalize az:a2.2=sp at*
    clear az
    go_wp2
    go_loopg [15] l.length (fun k i wr=>∃(j:Nat) (N:Sv) (H:PS),i= .int .i64 j∧j+k=l.length∧impFromI C l q=zQ (fun e=>zan C (zb4 sp e)) (l.drop j) (.ok H)∧0<H.pos∧IM C M z n A N H wr∧IS A S w N wr∧Fr 84 3 wr b0 r l.length (l.flatMap (fun e=>imL (zaK e))) N)
    case atStart=>exact⟨0,S3,a3,rfl,by omega,ap.out,ad,aw,aq,ay.out⟩
    case round=>
     obtain⟨j,N,H,rfl,hj,hy,aa,m',s',f'⟩:=hrel
     have ae:=zc hy
     have D:=m'
     have O:=s'
     have V:Hid (Fr 84 3 wr b0 r l.length (l.flatMap (fun e=>imL (zaK e))) N):=f'
     clear hy m' s' f'
     by_cases an:j<l.length
     ·have af:(j:Int)<(l.length:Int):=by omega
      obtain⟨x,hx⟩:=zey an
      obtain⟨g',ab,E⟩:=OwnR.elem (f:=fun e=>imL (zaK e)) (m:=3) (fun _=>rfl) V.out.1 hx
      have eg:g'=g:=by have:=ab.symm.trans HG.out;simpa using this
      subst eg
      have k0:=E 0 (by omega)
      have k1:=E 1 (by omega)
      have k2:=E 2 (by omega)
      simp only[imL,zaK,Nat.add_zero,List.getElem?_cons_zero,List.getElem?_cons_succ] at k0 k1 k2
      have HZ:=zc (ae.out.trans (zgf (fun e=>zan C (zb4 sp e)) hx H))
      clear E ab hx
      obtain⟨Y,K⟩: ∃Y,Y=j+1:=⟨_,rfl⟩
      have ej:(j:Int)+1=(Y:Int):=by omega
      rw[←K] at HZ
      have aA:=(Array.getElem?_eq_some_iff.1 (V.out.1.typed (by rw[Rw.blk,HG.out];rfl)).2.2.choose_spec).1
      have aB:=D.lt
      have HJ:=zc K
      clear K
      go_wp2_with fail
      refine (zk6 C M z n A N H (zb4 sp x) _ (D.alloc _) aa).mono ?_
      cases hn:zan C (zb4 sp x) H with
      |error p=>
       rintro e w5 ⟨rfl,I⟩
       have U:Below n w w5:=(h.back (O.alloc _)).trans I
       have X:Hid (impFromI C l q= .error p):=by show _=_;rw[HZ.out,hn];exact zfo _ _ _
       unfold Pan
       go_wp2
       refine⟨rfl,?_⟩
       rw[X.out]
       exact⟨rfl,U⟩
      |ok a5=>
       rintro e w5 ⟨rfl,S5,al,s⟩
       have ar:IS A S w S5 w5:=(O.alloc _).trans s
       have au:Hid (Fr 84 3 w5 b0 r l.length (l.flatMap (fun e=>imL (zaK e))) S5):=(V.out.later ((Below.refl _ _).alloc (Nat.le_refl _) _)).step (D.alloc _) (by decide) s
       have ao:Hid (impFromI C l q=zQ (fun e=>zan C (zb4 sp e)) (l.drop Y) (.ok a5)):=by show _=_;rw[HZ.out,hn]
       have av:Hid (0<a5.pos):=by show 0<a5.pos;rw[zmY hn];exact aa
       clear s
       go_wp2
       go_roundg (gk-1)
       case rel=>exact⟨Y,S5,a5,rfl,by have:=HJ.out;omega,ao.out,av.out,al,ar,au.out⟩
       case measure=>omega
     ·have af: ¬(j:Int)<(l.length:Int):=by omega
      have HZ:Hid (impFromI C l q= .ok H):=by show _=_;rw[ae.out,List.drop_eq_nil_of_le (by omega)];rfl
      go_wp2
      go_end0
      rw[HZ.out]
      exact⟨rfl,N,D,O⟩
theorem zgg (C:Cx) (A n j z b0:Nat) (r:Rw) (S:Sv) (q:PS) (l:List Ep) (w:World) (h:IM C A n j z S q w) (H:zaT C) (I:l.length≤4000) (J:l.length≠0) (D:Fr 84 3 w b0 r l.length (l.flatMap (fun e=>imL (zaK e))) S):
  Calls Tryz.prog 208 #[.pointer (some ⟨z,0,none⟩),.slice r.a l.length r.cap] w (zM C A n j z (impFromI C l q) id (fun _=>.tuple #[]) S w):=by
 rcases D.1.nil_or with ⟨_,_,e⟩|⟨g,E⟩
 ·exact absurd e J
 ·rw[E]
  exact zmZ C A n j z b0 g r S q l w h H I D E
theorem zi2 {C:Cx} {D n j z:Nat} {S:Sv} {q:PS} {w:World} (h:IM C D n j z S q w) (t:TypeId) (xs:List Value):Fr t xs.length (w.alloc (.cells xs.toArray t)) w.heap.size ⟨some ⟨w.heap.size,0,none⟩,1⟩ 1 xs S:=by
 refine⟨?_,fun k g A=>?_⟩
 ·have:=World.ownsRow_lit (e:=t) (size:=xs.length) w xs.toArray 1 (Nat.le_refl _) (by unfold maxLen;omega) (by simp)
  simpa [OwnR] using this
 ·have E:w.heap.size=k:=by simpa [Rw.blk,Value.ownBlock] using g
  have:=(h.mem.own.has A).2
  omega
def zaC (C:Cx) (q:PS):PR:=
 if (ze C q.pos).kind==3 then bd (zG C q) fun a=>zd C 4 cSemi a.1
 else if isT C q.pos 4 zF then bd (zat C false (adv q) []) fun a=>impFromI C a.2 a.1
 else if isT C q.pos 4 zv then bd (zd C 1 sAs (adv q)) fun a=>bd (zh C false a) fun b=>impFromI C [⟨0,b.2,zv,sNone⟩] b.1
 else bd (zh C false q) fun b=>impFromI C [⟨0,b.2,sDefault,sNone⟩] b.1
theorem zna (C:Cx) (J n j A:Nat) (S:Sv) (q:PS) (w:World) (h:IM C J n j A S q w) (hC:zaT C) (hk:((ze C q.pos).kind==3)=true):
  Calls Tryz.prog 191 #[.pointer (some ⟨A,0,none⟩)] w (zM C J n j A (zaC C q) id (fun _=>.tuple #[]) S w):=by
 have aa:=zcy
 have Y:Hid (zaC C q=bd (zG C q) fun a=>zd C 4 cSemi a.1):=if_pos hk
 go_enter Tryz.func191,Tryz.ntmps191
 go_wp2_with fail
 refine (zbg C J n j A S q _ h).mono ?_
 rintro e w1 ⟨rfl,z⟩
 unfold tkV
 have V:=h.later z
 have E:IS A S w S w1:=IS.below z
 clear z
 go_wp2_with fail
 refine (zeX C J n j A S q _ V hC).mono ?_
 cases K:zG C q with
 |error p=>
  rintro e w2 ⟨rfl,z⟩
  have M:=(h.back E).trans z
  have X:Hid (zaC C q= .error p):=bdE Y.out K
  unfold Pan
  go_wp2
  refine⟨rfl,?_⟩
  rw[X.out]
  exact⟨rfl,M⟩
 |ok Z=>
  rintro e w2 ⟨rfl,S2,L,s⟩
  have H:=E.trans s
  clear s
  have D:=zc (bdO Y.out K)
  go_wp2_with fail
  refine (zbM C J n j A S2 Z.1 59 _ L).mono ?_
  cases I:zd C 4 cSemi Z.1 with
  |error p=>
   rintro e w3 ⟨rfl,z⟩
   have M:=(h.back H).trans z
   have X:Hid (zaC C q= .error p):=D.out.trans I
   unfold Pan
   go_wp2
   refine⟨rfl,?_⟩
   rw[X.out]
   exact⟨rfl,M⟩
  |ok a3=>
   rintro e w3 ⟨rfl,S3,N,s⟩
   have U:=H.trans s
   clear s
   have O:=zc (D.out.trans I)
   go_wp2
   go_end0
   rw[O.out]
   exact⟨rfl,S3,N,U⟩
theorem znb (C:Cx) (D n j z:Nat) (S:Sv) (q:PS) (w:World) (h:IM C D n j z S q w) (hC:zaT C) (hk:((ze C q.pos).kind==3)=false) (h1:isT C q.pos 4 zF=true):
  Calls Tryz.prog 191 #[.pointer (some ⟨z,0,none⟩)] w (zM C D n j z (zaC C q) id (fun _=>.tuple #[]) S w):=by
 have ab:=zcy
 have HY:Hid (zaC C q=bd (zat C false (adv q) []) fun a=>impFromI C a.2 a.1):=by show _=_;rw[zaC,hk,h1];rfl
 go_enter Tryz.func191,Tryz.ntmps191
 go_wp2_with fail
 refine (zbg C D n j z S q _ h).mono ?_
 rintro e w1 ⟨rfl,A⟩
 unfold tkV
 have aa:=h.later A
 have U:IS z S w S w1:=IS.below A
 clear A
 go_wp2_with fail
 refine (zH C D n j z S q 4 zF _ aa (by decide)).mono ?_
 rintro e w2 ⟨rfl,H,s⟩
 rw[h1] at H ⊢
 have I:=U.trans s
 clear s
 go_wp2_with fail
 refine (zmX C D n j z S (adv q) _ H).mono ?_
 cases J:zat C false (adv q) [] with
 |error p=>
  rintro e w3 ⟨rfl,A⟩
  have V:=(h.back I).trans A
  have HX:Hid (zaC C q= .error p):=bdE HY.out J
  unfold Pan
  go_wp2
  refine⟨rfl,?_⟩
  rw[HX.out]
  exact⟨rfl,V⟩
 |ok M=>
  rintro e w3 ⟨r,S3,rfl,X,s,f,l0,l1⟩
  have L:=I.trans s
  have Y:=zc f
  clear s f
  have K:=zc (bdO HY.out J)
  go_wp2_with fail
  refine (zgg C D n j z _ r S3 M.1 M.2 _ X hC l1 (by omega) Y.out).mono ?_
  cases E:impFromI C M.2 M.1 with
  |error p=>
   rintro e w4 ⟨rfl,A⟩
   have V:=(h.back L).trans A
   have HX:Hid (zaC C q= .error p):=K.out.trans E
   unfold Pan
   go_wp2
   refine⟨rfl,?_⟩
   rw[HX.out]
   exact⟨rfl,V⟩
  |ok a4=>
   rintro e w4 ⟨rfl,S4,O,s⟩
   have N:=L.trans s
   clear s
   have Z:=zc (K.out.trans E)
   go_wp2
   go_end0
   rw[Z.out]
   exact⟨rfl,S4,O,N⟩
theorem znc (C:Cx) (D n j z:Nat) (S:Sv) (q:PS) (w:World) (h:IM C D n j z S q w) (hC:zaT C) (hk:((ze C q.pos).kind==3)=false) (h1:isT C q.pos 4 zF=false) (h2:isT C q.pos 4 zv=true):
  Calls Tryz.prog 191 #[.pointer (some ⟨z,0,none⟩)] w (zM C D n j z (zaC C q) id (fun _=>.tuple #[]) S w):=by
 have ah:=zcy
 have HY:Hid (zaC C q=bd (zd C 1 sAs (adv q)) fun a=>bd (zh C false a) fun b=>impFromI C [⟨0,b.2,zv,sNone⟩] b.1):=by show _=_;rw[zaC,hk,h1,h2];rfl
 go_enter Tryz.func191,Tryz.ntmps191
 go_wp2_with fail
 refine (zbg C D n j z S q _ h).mono ?_
 rintro e w1 ⟨rfl,A⟩
 unfold tkV
 have af:=h.later A
 have ab:IS z S w S w1:=IS.below A
 clear A
 go_wp2_with fail
 refine (zH C D n j z S q 4 zF _ af (by decide)).mono ?_
 rintro e w2 ⟨rfl,J,s⟩
 rw[h1] at J ⊢
 have ac:=ab.trans s
 clear s
 go_wp2_with fail
 refine (zH C D n j z S q 4 zv _ J (by decide)).mono ?_
 rintro e w3 ⟨rfl,U,s⟩
 rw[h2] at U ⊢
 have V:=ac.trans s
 clear s
 go_wp2_with fail
 refine (zdE C D n j z S (adv q) sAs _ U).mono ?_
 cases E:zd C 1 sAs (adv q) with
 |error p=>
  rintro e w4 ⟨rfl,A⟩
  have M:=(h.back V).trans A
  have Z:Hid (zaC C q= .error p):=bdE HY.out E
  unfold Pan
  go_wp2
  refine⟨rfl,?_⟩
  rw[Z.out]
  exact⟨rfl,M⟩
 |ok a4=>
  rintro e w4 ⟨rfl,S4,aa,s⟩
  have H:=V.trans s
  clear s
  have X:=zc (bdO HY.out E)
  go_wp2_with fail
  refine (zcL C D n j z S4 a4 _ aa).mono ?_
  cases I:zh C false a4 with
  |error p=>
   rintro e w5 ⟨rfl,A⟩
   have M:=(h.back H).trans A
   have Z:Hid (zaC C q= .error p):=bdE X.out I
   unfold Pan
   go_wp2
   refine⟨rfl,?_⟩
   rw[Z.out]
   exact⟨rfl,M⟩
  |ok O=>
   rintro e w5 ⟨rfl,S5,K,s⟩
   have Y:=H.trans s
   clear s
   have L:=zc (bdO X.out I)
   go_wp2_with fail
   refine (zgg C D n j z _ ⟨some ⟨w5.heap.size,0,none⟩,1⟩ S5 O.1 [⟨0,O.2,zv,sNone⟩] _ (K.alloc _) hC (by simp) (by simp) (zi2 K 84 (imL (zaK ⟨0,O.2,zv,sNone⟩)))).mono ?_
   cases N:impFromI C [⟨0,O.2,zv,sNone⟩] O.1 with
   |error p=>
    rintro e w6 ⟨rfl,A⟩
    have M:Below j w w6:=(h.back (Y.alloc _)).trans A
    have Z:Hid (zaC C q= .error p):=L.out.trans N
    unfold Pan
    go_wp2
    refine⟨rfl,?_⟩
    rw[Z.out]
    exact⟨rfl,M⟩
   |ok a6=>
    rintro e w6 ⟨rfl,S6,ad,s⟩
    have ae:IS z S w S6 w6:=(Y.alloc _).trans s
    clear s
    have ag:=zc (L.out.trans N)
    go_wp2
    go_end0
    rw[ag.out]
    exact⟨rfl,S6,ad,ae⟩
theorem znd (C:Cx) (D n j z:Nat) (S:Sv) (q:PS) (w:World) (h:IM C D n j z S q w) (hC:zaT C) (hk:((ze C q.pos).kind==3)=false) (h1:isT C q.pos 4 zF=false) (h2:isT C q.pos 4 zv=false):
  Calls Tryz.prog 191 #[.pointer (some ⟨z,0,none⟩)] w (zM C D n j z (zaC C q) id (fun _=>.tuple #[]) S w):=by
 have ac:=zcy
 have HY:Hid (zaC C q=bd (zh C false q) fun b=>impFromI C [⟨0,b.2,sDefault,sNone⟩] b.1):=by show _=_;rw[zaC,hk,h1,h2];rfl
 go_enter Tryz.func191,Tryz.ntmps191
 go_wp2_with fail
 refine (zbg C D n j z S q _ h).mono ?_
 rintro e w1 ⟨rfl,A⟩
 unfold tkV
 have ab:=h.later A
 have V:IS z S w S w1:=IS.below A
 clear A
 go_wp2_with fail
 refine (zH C D n j z S q 4 zF _ ab (by decide)).mono ?_
 rintro e w2 ⟨rfl,J,s⟩
 rw[h1] at J ⊢
 have X:=V.trans s
 clear s
 go_wp2_with fail
 refine (zH C D n j z S q 4 zv _ J (by decide)).mono ?_
 rintro e w3 ⟨rfl,M,s⟩
 rw[h2] at M ⊢
 have N:=X.trans s
 clear s
 go_wp2_with fail
 refine (zcL C D n j z S q _ M).mono ?_
 cases E:zh C false q with
 |error p=>
  rintro e w4 ⟨rfl,A⟩
  have Z:=(h.back N).trans A
  have HX:Hid (zaC C q= .error p):=bdE HY.out E
  unfold Pan
  go_wp2
  refine⟨rfl,?_⟩
  rw[HX.out]
  exact⟨rfl,Z⟩
 |ok L=>
  rintro e w4 ⟨rfl,S4,K,s⟩
  have H:=N.trans s
  clear s
  have O:=zc (bdO HY.out E)
  go_wp2_with fail
  refine (zgg C D n j z _ ⟨some ⟨w4.heap.size,0,none⟩,1⟩ S4 L.1 [⟨0,L.2,sDefault,sNone⟩] _ (K.alloc _) hC (by simp) (by simp) (zi2 K 84 (imL (zaK ⟨0,L.2,sDefault,sNone⟩)))).mono ?_
  cases I:impFromI C [⟨0,L.2,sDefault,sNone⟩] L.1 with
  |error p=>
   rintro e w5 ⟨rfl,A⟩
   have Z:Below j w w5:=(h.back (H.alloc _)).trans A
   have HX:Hid (zaC C q= .error p):=O.out.trans I
   unfold Pan
   go_wp2
   refine⟨rfl,?_⟩
   rw[HX.out]
   exact⟨rfl,Z⟩
  |ok a5=>
   rintro e w5 ⟨rfl,S5,U,s⟩
   have aa:IS z S w S5 w5:=(H.alloc _).trans s
   clear s
   have Y:=zc (O.out.trans I)
   go_wp2
   go_end0
   rw[Y.out]
   exact⟨rfl,S5,U,aa⟩
theorem zne (C:Cx) (A n j z:Nat) (S:Sv) (q:PS) (w:World) (h:IM C A n j z S q w) (E:zaT C):
  Calls Tryz.prog 191 #[.pointer (some ⟨z,0,none⟩)] w (zM C A n j z (zaC C q) id (fun _=>.tuple #[]) S w):=by
 cases D:((ze C q.pos).kind==3) with
 |true=>exact zna C A n j z S q w h E D
 |false=>
  cases H:isT C q.pos 4 zF with
  |true=>exact znb C A n j z S q w h E D H
  |false=>
   cases I:isT C q.pos 4 zv with
   |true=>exact znc C A n j z S q w h E D H I
   |false=>exact znd C A n j z S q w h E D H I
end Go.Proofs.YtjdddblpfbmpaaaGreat
