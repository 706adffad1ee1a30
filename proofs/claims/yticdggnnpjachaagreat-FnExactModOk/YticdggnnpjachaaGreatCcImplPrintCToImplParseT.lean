/-
  What impl's imp answers: the walk.
  What impl's exp answers: the walk.
  What impl's kind answers,and side,if expr answers so: the walks.
  What impl's stmt answers,if expr answers so: the walk.
  What impl's program of the printer answers,if expr answers so: the walk.
  What impl's sum answers,if expr answers so,and what expr answers,kind by kind: the walks.
  What impl's expr answers,whole. No walk is zq.
  What impl.Print answers: the walk.
  What importList of impl's parser answers: the walk.
  What importFrom of impl's parser answers: the walk.
  What importItem of impl's parser answers: the walks.
-/
import Derived.Deep.CutBlock
import Derived.Deep.RegionWith
import Derived.Test.YticdggnnpjachaaGreatCcImplBuilderToImplPrintB
namespace Go.Proofs.YticdggnnpjachaaGreat
set_option maxRecDepth 100000
set_option maxHeartbeats 12800000
open Go.RowKit Go.PlainAid Go.Sort
theorem zbU (c:PC) (t:ByteArray) (j:List ByteArray) (w:World) (h:PP c t w) (n:(zr t j).size≤140737488355328) (q:j.length≤4294967296):
  Calls Tryz.prog 57 #[.slice (some ⟨w.heap.size,0,none⟩) j.length j.length,.pointer (some ⟨c.b,0,none⟩)] (w.alloc (.cells (j.map Value.string).toArray 9)).drew (PO c (zr t j) w):=by
 have o:Below w.heap.size w (w.alloc (.cells (j.map Value.string).toArray 9)).drew:=((Below.refl _ _).alloc (Nat.le_refl _) _).drew
 refine (zib c t j w.heap.size _ (h.later o) (heap_alloc_new w _) n q).mono ?_
 rintro e H ⟨E,z,D,A⟩
 exact⟨E,z,(o.mono h.1.2).trans D,(KeepB.of_below o).trans A⟩
def zbV (x:Im):ByteArray:=
 if x.first.toList==[42] then ({data:=#[105,109,112,111,114,116,32]}:ByteArray)++({data:=#[42,32,97,115,32]}:ByteArray)++x.loc
 else if x.first.toList==[100,101,102,97,117,108,116] then ({data:=#[105,109,112,111,114,116,32]}:ByteArray)++x.loc
 else ({data:=#[105,109,112,111,114,116,32]}:ByteArray)++zb7 x.first x.loc
theorem zmv {x:Im} (e:(x.first.toList==[42])=true):zbV x=({data:=#[105,109,112,111,114,116,32]}:ByteArray)++({data:=#[42,32,97,115,32]}:ByteArray)++x.loc:=by rw[zbV,e];rfl
theorem zmw {x:Im} (e:(x.first.toList==[42])=false) (h:(x.first.toList==[100,101,102,97,117,108,116])=true):zbV x=({data:=#[105,109,112,111,114,116,32]}:ByteArray)++x.loc:=by rw[zbV,e,h];rfl
theorem zmx {x:Im} (e:(x.first.toList==[42])=false) (h:(x.first.toList==[100,101,102,97,117,108,116])=false):zbV x=({data:=#[105,109,112,111,114,116,32]}:ByteArray)++zb7 x.first x.loc:=by rw[zbV,e,h];rfl
theorem zbD (a b:Array UInt8):(⟨a++b⟩:ByteArray)=⟨a⟩++⟨b⟩:=by
 apply ByteArray.ext
 simp
theorem zdR (x:Im):zV x=zbV x++({data:=#[32,102,114,111,109,32]}:ByteArray)++zar x.spec++({data:=#[59]}:ByteArray)++({data:=#[10]}:ByteArray):=by
 have h:({data:=#[59,10]}:ByteArray)={data:=#[59]}++{data:=#[10]}:=zbD #[59] #[10]
 have j:({data:=#[105,109,112,111,114,116,32,42,32,97,115,32]}:ByteArray)={data:=#[105,109,112,111,114,116,32]}++{data:=#[42,32,97,115,32]}:=zbD #[105,109,112,111,114,116,32] #[42,32,97,115,32]
 have o:({data:=#[105,109,112,111,114,116,32,123,32]}:ByteArray)={data:=#[105,109,112,111,114,116,32]}++{data:=#[123,32]}:=zbD #[105,109,112,111,114,116,32] #[123,32]
 have n:({data:=#[32,125,32,102,114,111,109,32]}:ByteArray)={data:=#[32,125]}++{data:=#[32,102,114,111,109,32]}:=zbD #[32,125] #[32,102,114,111,109,32]
 unfold zV zbV zb7
 rw[h,j,o,n]
 split
 ·simp only[ByteArray.append_assoc]
 ·split<;>simp only[ByteArray.append_assoc]
theorem zmy (x:Im):(({data:=#[105,109,112,111,114,116,32]}:ByteArray)).size≤(zV x).size:=by
 rw[zdR,zbV]
 split
 ·simp only[ByteArray.size_append];omega
 ·split<;>(simp only[ByteArray.size_append];omega)
theorem zmz (c:PC) (t:ByteArray) (x:Im) (w:World) (h:PP c t w) (q:(t++zV x).size≤140737488355328) (h1:x.spec.size≤1099511627776):
  Calls Tryz.prog 118 #[.pointer (some ⟨c.gp,0,none⟩),imV x] w (PO c (t++zV x) w):=by
 have HP:=zc h
 have J:=zc q
 clear h q
 have HZ:Hid (t.size+(zV x).size≤140737488355328∧(({data:=#[105,109,112,111,114,116,32]}:ByteArray)).size≤(zV x).size):=⟨by have:=J.out;rw[ByteArray.size_append] at this;exact this,zmy x⟩
 unfold imV
 go_enter Tryz.func118,Tryz.ntmps118
 go_upto_region 1 with fail
 have HW:Hid (Below w.heap.size w (w.alloc (.cells #[.string x.spec,.string x.first,.string x.loc] 100))):=(Below.refl _ _).alloc (Nat.le_refl _) _
 refine zah (R:=fun W=>W.heap[w.heap.size]? =some (.cells #[.string x.spec,.string x.first,.string x.loc] 100 (0,0))∧PP c t W∧Below c.B w W∧KeepB c.b w W) ⟨heap_alloc_new w _,HP.out.later HW.out,HW.out.mono HP.out.1.2,KeepB.of_below HW.out⟩ ?_
 obtain⟨gx,E⟩: ∃gx,gx=w.heap.size:=⟨_,rfl⟩
 have U:gx≠c.b:=by
  rw[E]
  obtain⟨ag,hc⟩:=zbC HP.out.1.1
  have:=(Array.getElem?_eq_some_iff.1 hc).1
  omega
 rw[←E]
 rintro W ⟨hx,hp,hb,hk⟩
 clear E HW
 have X:=zc hx
 have D:=zc hp
 have Y:=zc hb
 have K:=zc hk
 clear hx hp hb hk
 obtain⟨x0,x1,x2,xf⟩:=zbt X.out
 obtain⟨p0,p1,p2,p3,p4,p5,pf⟩:=zu D.out.2.2.1
 go_wp2_with fail
 refine (zbu c t [{data:=#[105,109,112,111,114,116,32]}] W D.out (by have:=HZ.out;simp only[zr,List.foldl_cons,List.foldl_nil,ByteArray.size_append] at this ⊢;omega) (by simp)).mono ?_
 rintro e N ⟨rfl,V,O,I⟩
 have z:=zc V
 have ad:=zc (Y.out.trans O)
 have ac:=zc (K.out.trans I)
 have X1:=zc ((I _ _ _ _ X.out U (by decide)).trans X.out)
 clear V O I p0 p1 p2 p3 p4 p5 pf x0 x1 x2 xf D Y K X
 obtain⟨x0,x1,x2,xf⟩:=zbt X1.out
 obtain⟨p0,p1,p2,p3,p4,p5,pf⟩:=zu z.out.2.2.1
 have M:=(Array.getElem?_eq_some_iff.1 z.out.2.2.1).1
 have L:=(Array.getElem?_eq_some_iff.1 X1.out).1
 have q:=J.out
 go_upto_block 0 with fail
 go_cut [] from 12 to 37 (fun wx=>PP c (t++zbV x) wx∧Below c.B N wx∧KeepB c.b N wx)
 case first=>
  cases e1:(x.first.toList==[42]) with
  |true=>
   have A:Hid (zbV x=({data:=#[105,109,112,111,114,116,32]}:ByteArray)++({data:=#[42,32,97,115,32]}:ByteArray)++x.loc):=zmv e1
   go_wp2_with fail
   go_region_with (go_at_call 57;refine (zbU c _ [{data:=#[42,32,97,115,32]},x.loc] N z.out (by have:=J.out;rw[zdR,A.out] at this;simp only[zr,List.foldl_cons,List.foldl_nil,ByteArray.size_append] at this ⊢;omega) (by simp)).mono ?_;rintro e w2 ⟨rfl,j,o,n⟩)
   all_goals (go_wp2_with fail;go_meet;exact⟨by rw[A.out];simp only[zr,List.foldl_cons,List.foldl_nil,←ByteArray.append_assoc] at j ⊢;exact j,o,n⟩)
  |false=>
   cases e2:(x.first.toList==[100,101,102,97,117,108,116]) with
   |true=>
    have A:Hid (zbV x=({data:=#[105,109,112,111,114,116,32]}:ByteArray)++x.loc):=zmw e1 e2
    go_wp2_with fail
    go_region_with (go_at_call 57;refine (zbU c _ [x.loc] N z.out (by have:=J.out;rw[zdR,A.out] at this;simp only[zr,List.foldl_cons,List.foldl_nil,ByteArray.size_append] at this ⊢;omega) (by simp)).mono ?_;rintro e w2 ⟨rfl,j,o,n⟩)
    all_goals (go_wp2_with fail;go_meet;exact⟨by rw[A.out];simp only[zr,List.foldl_cons,List.foldl_nil,←ByteArray.append_assoc] at j ⊢;exact j,o,n⟩)
   |false=>
    have A:Hid (zbV x=({data:=#[105,109,112,111,114,116,32]}:ByteArray)++zb7 x.first x.loc):=zmx e1 e2
    go_wp2_with fail
    refine (zgf c _ x.first x.loc N z.out (by have:=J.out;rw[zdR,A.out] at this;simp only[zr,List.foldl_cons,List.foldl_nil,ByteArray.size_append] at this ⊢;omega)).mono ?_
    rintro e w2 ⟨rfl,j,o,n⟩
    go_wp2_with fail
    go_meet
    exact⟨by rw[A.out];simp only[zr,List.foldl_cons,List.foldl_nil,←ByteArray.append_assoc] at j ⊢;exact j,o,n⟩
 case rest=>
 obtain⟨j,o,n⟩:=hcut
 rename_i w2
 have H:=zc j
 have aa:=zc (ad.out.trans o)
 have af:=zc (ac.out.trans n)
 have X2:=zc ((n _ _ _ _ X1.out U (by decide)).trans X1.out)
 clear j o n p0 p1 p2 p3 p4 p5 pf x0 x1 x2 xf M L
 obtain⟨p0,p1,p2,p3,p4,p5,pf⟩:=zu H.out.2.2.1
 obtain⟨x0,x1,x2,xf⟩:=zbt X2.out
 have M:=(Array.getElem?_eq_some_iff.1 H.out.2.2.1).1
 have L:=(Array.getElem?_eq_some_iff.1 X2.out).1
 go_wp2_with fail
 go_region_with (first|(go_at_call 117;refine (zfo x.spec _ h1).mono ?_;rintro e w' ⟨rfl,rfl⟩)|(go_at_call 57;refine (zbU c _ [{data:=#[32,102,114,111,109,32]},zar x.spec,{data:=#[59]},{data:=#[10]}] _ H.out (by have:=J.out;rw[zdR] at this;simp only[zr,List.foldl_cons,List.foldl_nil,ByteArray.size_append] at this ⊢;omega) (by simp)).mono ?_;rintro e w3 ⟨rfl,Z,ae,ab⟩))
 all_goals (go_wp2;go_end0;exact⟨rfl,(by rw[zdR];simp only[zr,List.foldl_cons,List.foldl_nil,←ByteArray.append_assoc] at Z ⊢;exact Z),aa.out.trans ae,af.out.trans ab⟩)
def zbW (x:Ep):ByteArray:=
 if x.kind==3 then ({data:=#[101,120,112,111,114,116,32]}:ByteArray)++({data:=#[42,32,102,114,111,109,32]}:ByteArray)++zar x.spec
 else if x.kind==2 then ({data:=#[101,120,112,111,114,116,32]}:ByteArray)++zb7 x.loc x.name++({data:=#[32,102,114,111,109,32]}:ByteArray)++zar x.spec
 else ({data:=#[101,120,112,111,114,116,32]}:ByteArray)++zb7 x.loc x.name
theorem zm0 {x:Ep} (e:(x.kind==3)=true):zbW x=({data:=#[101,120,112,111,114,116,32]}:ByteArray)++({data:=#[42,32,102,114,111,109,32]}:ByteArray)++zar x.spec:=by rw[zbW,e];rfl
theorem zm1 {x:Ep} (e:(x.kind==3)=false) (h:(x.kind==2)=true):zbW x=({data:=#[101,120,112,111,114,116,32]}:ByteArray)++zb7 x.loc x.name++({data:=#[32,102,114,111,109,32]}:ByteArray)++zar x.spec:=by rw[zbW,e,h];rfl
theorem zm2 {x:Ep} (e:(x.kind==3)=false) (h:(x.kind==2)=false):zbW x=({data:=#[101,120,112,111,114,116,32]}:ByteArray)++zb7 x.loc x.name:=by rw[zbW,e,h];rfl
theorem zdr (x:Ep):zaY x=zbW x++({data:=#[59]}:ByteArray)++({data:=#[10]}:ByteArray):=by
 have j:({data:=#[59,10]}:ByteArray)={data:=#[59]}++{data:=#[10]}:=zbD #[59] #[10]
 have n:({data:=#[101,120,112,111,114,116,32,42,32,102,114,111,109,32]}:ByteArray)={data:=#[101,120,112,111,114,116,32]}++{data:=#[42,32,102,114,111,109,32]}:=zbD #[101,120,112,111,114,116,32] #[42,32,102,114,111,109,32]
 have h:({data:=#[101,120,112,111,114,116,32,123,32]}:ByteArray)={data:=#[101,120,112,111,114,116,32]}++{data:=#[123,32]}:=zbD #[101,120,112,111,114,116,32] #[123,32]
 have o:({data:=#[32,125,32,102,114,111,109,32]}:ByteArray)={data:=#[32,125]}++{data:=#[32,102,114,111,109,32]}:=zbD #[32,125] #[32,102,114,111,109,32]
 have q:({data:=#[32,125,59,10]}:ByteArray)={data:=#[32,125]}++{data:=#[59,10]}:=zbD #[32,125] #[59,10]
 unfold zaY zbW zb7
 rw[q,j,n,h,o]
 split
 ·simp only[ByteArray.append_assoc]
 ·split<;>simp only[ByteArray.append_assoc]
theorem zm3 (x:Ep):(({data:=#[101,120,112,111,114,116,32]}:ByteArray)).size≤(zaY x).size:=by
 rw[zdr,zbW]
 split
 ·simp only[ByteArray.size_append];omega
 ·split<;>(simp only[ByteArray.size_append];omega)
theorem zm4 (c:PC) (t:ByteArray) (x:Ep) (w:World) (h:PP c t w) (A:(t++zaY x).size≤140737488355328) (h1:x.spec.size≤1099511627776):
  Calls Tryz.prog 119 #[.pointer (some ⟨c.gp,0,none⟩),epV x] w (PO c (t++zaY x) w):=by
 have HP:=zc h
 have V:=zc A
 clear h A
 have HZ:Hid (t.size+(zaY x).size≤140737488355328∧(({data:=#[101,120,112,111,114,116,32]}:ByteArray)).size≤(zaY x).size):=⟨by have:=V.out;rw[ByteArray.size_append] at this;exact this,zm3 x⟩
 unfold epV
 go_enter Tryz.func119,Tryz.ntmps119
 go_upto_region 1 with fail
 have HW:Hid (Below w.heap.size w (w.alloc (.cells #[.int .i64 x.kind,.string x.name,.string x.loc,.string x.spec] 102))):=(Below.refl _ _).alloc (Nat.le_refl _) _
 refine zah (R:=fun W=>W.heap[w.heap.size]? =some (.cells #[.int .i64 x.kind,.string x.name,.string x.loc,.string x.spec] 102 (0,0))∧PP c t W∧Below c.B w W∧KeepB c.b w W) ⟨heap_alloc_new w _,HP.out.later HW.out,HW.out.mono HP.out.1.2,KeepB.of_below HW.out⟩ ?_
 obtain⟨gx,O⟩: ∃gx,gx=w.heap.size:=⟨_,rfl⟩
 have ae:gx≠c.b:=by
  rw[O]
  obtain⟨am,hc⟩:=zbC HP.out.1.1
  have:=(Array.getElem?_eq_some_iff.1 hc).1
  omega
 rw[←O]
 rintro W ⟨hx,hp,hb,hk⟩
 clear O HW
 have X:=zc hx
 have K:=zc hp
 have ag:=zc hb
 have ac:=zc hk
 clear hx hp hb hk
 obtain⟨x0,x1,x2,x3,xf⟩:=zcV X.out
 obtain⟨p0,U,p2,Z,Y,p5,N⟩:=zu K.out.2.2.1
 go_wp2_with fail
 refine (zbu c t [{data:=#[101,120,112,111,114,116,32]}] W K.out (by have:=HZ.out;simp only[zr,List.foldl_cons,List.foldl_nil,ByteArray.size_append] at this ⊢;omega) (by simp)).mono ?_
 rintro e w1 ⟨rfl,af,ad,aa⟩
 have E:=zc af
 have ak:=zc (ag.out.trans ad)
 have aj:=zc (ac.out.trans aa)
 have X1:=zc ((aa _ _ _ _ X.out ae (by decide)).trans X.out)
 clear af ad aa p0 U p2 Z Y p5 N x0 x1 x2 x3 xf K ag ac X
 obtain⟨x0,x1,x2,x3,xf⟩:=zcV X1.out
 obtain⟨p0,U,p2,Z,Y,p5,N⟩:=zu E.out.2.2.1
 have L:=(Array.getElem?_eq_some_iff.1 E.out.2.2.1).1
 have J:=(Array.getElem?_eq_some_iff.1 X1.out).1
 have A:=V.out
 go_upto_block 0 with fail
 go_cut [] from 12 to 45 (fun wx=>PP c (t++zbW x) wx∧Below c.B w1 wx∧KeepB c.b w1 wx)
 case first=>
  cases e1:(x.kind==3) with
  |true=>
   have I:Hid (zbW x=({data:=#[101,120,112,111,114,116,32]}:ByteArray)++({data:=#[42,32,102,114,111,109,32]}:ByteArray)++zar x.spec):=zm0 e1
   go_wp2_with fail
   go_region_with (first|(go_at_call 117;refine (zfo x.spec _ h1).mono ?_;rintro e w' ⟨rfl,rfl⟩)|(go_at_call 57;refine (zbU c _ [{data:=#[42,32,102,114,111,109,32]},zar x.spec] w1 E.out (by have:=V.out;rw[zdr,I.out] at this;simp only[zr,List.foldl_cons,List.foldl_nil,ByteArray.size_append] at this ⊢;omega) (by simp)).mono ?_;rintro e w2 ⟨rfl,j,o,n⟩))
   all_goals (go_wp2_with fail;go_meet;exact⟨by rw[I.out];simp only[zr,List.foldl_cons,List.foldl_nil,←ByteArray.append_assoc] at j ⊢;exact j,o,n⟩)
  |false=>
   cases e2:(x.kind==2) with
   |true=>
    have I:Hid (zbW x=({data:=#[101,120,112,111,114,116,32]}:ByteArray)++zb7 x.loc x.name++({data:=#[32,102,114,111,109,32]}:ByteArray)++zar x.spec):=zm1 e1 e2
    go_wp2_with fail
    refine (zgf c _ x.loc x.name w1 E.out (by have:=V.out;rw[zdr,I.out] at this;simp only[zr,List.foldl_cons,List.foldl_nil,ByteArray.size_append] at this ⊢;omega)).mono ?_
    rintro e w3 ⟨rfl,q,D,z⟩
    have H:=zc q
    have X3:=zc ((z _ _ _ _ X1.out ae (by decide)).trans X1.out)
    have M:=zc D
    have ab:=zc z
    clear q D z p0 U p2 Z Y p5 N x0 x1 x2 x3 xf L J
    obtain⟨p0,U,p2,Z,Y,p5,N⟩:=zu H.out.2.2.1
    obtain⟨x0,x1,x2,x3,xf⟩:=zcV X3.out
    have L:=(Array.getElem?_eq_some_iff.1 H.out.2.2.1).1
    have J:=(Array.getElem?_eq_some_iff.1 X3.out).1
    go_wp2_with fail
    go_region_with (first|(go_at_call 117;refine (zfo x.spec _ h1).mono ?_;rintro e w' ⟨rfl,rfl⟩)|(go_at_call 57;refine (zbU c _ [{data:=#[32,102,114,111,109,32]},zar x.spec] w3 H.out (by have:=V.out;rw[zdr,I.out] at this;simp only[zr,List.foldl_cons,List.foldl_nil,ByteArray.size_append] at this ⊢;omega) (by simp)).mono ?_;rintro e w2 ⟨rfl,j,o,n⟩))
    all_goals (go_wp2_with fail;go_meet;exact⟨by rw[I.out];simp only[zr,List.foldl_cons,List.foldl_nil,←ByteArray.append_assoc] at j ⊢;exact j,M.out.trans o,ab.out.trans n⟩)
   |false=>
    have I:Hid (zbW x=({data:=#[101,120,112,111,114,116,32]}:ByteArray)++zb7 x.loc x.name):=zm2 e1 e2
    go_wp2_with fail
    refine (zgf c _ x.loc x.name w1 E.out (by have:=V.out;rw[zdr,I.out] at this;simp only[zr,List.foldl_cons,List.foldl_nil,ByteArray.size_append] at this ⊢;omega)).mono ?_
    rintro e w2 ⟨rfl,j,o,n⟩
    go_wp2_with fail
    go_meet
    exact⟨by rw[I.out];simp only[zr,List.foldl_cons,List.foldl_nil,←ByteArray.append_assoc] at j ⊢;exact j,o,n⟩
 case rest=>
 obtain⟨j,o,n⟩:=hcut
 rename_i w2
 have ah:=zc j
 have ai:=zc (ak.out.trans o)
 have al:=zc (aj.out.trans n)
 clear j o n p0 U p2 Z Y p5 N x0 x1 x2 x3 xf L J
 obtain⟨p0,U,p2,Z,Y,p5,N⟩:=zu ah.out.2.2.1
 go_wp2_with fail
 refine (zbu c _ [{data:=#[59]},{data:=#[10]}] _ ah.out (by have:=V.out;rw[zdr] at this;simp only[zr,List.foldl_cons,List.foldl_nil,ByteArray.size_append] at this ⊢;omega) (by simp)).mono ?_
 rintro e w3 ⟨rfl,q,D,z⟩
 have H:=zc q
 have M:=zc (ai.out.trans D)
 have ab:=zc (al.out.trans z)
 clear q D z p0 U p2 Z Y p5 N
 go_wp2
 go_end0
 exact⟨rfl,(by have q:=H.out;rw[zdr];simp only[zr,List.foldl_cons,List.foldl_nil,←ByteArray.append_assoc] at q ⊢;exact q),M.out,ab.out⟩
theorem zgg (c:PC) (t:ByteArray) (i:Nat) (w:World) (h:PP c t w) (H:i<c.m.ex.length):
  Calls Tryz.prog 190 #[.pointer (some ⟨c.gp,0,none⟩),.int .i64 (i:Int)] w fun e D=>e= .returned (.int .i64 (c.m.ex.getD i zf).kind)∧D=w:=by
 obtain⟨V,L,O,N,E,X,K⟩:=zu h.2.2.1
 obtain⟨g,o,q,z,J,U,I,M,Y⟩:=h.2.1.expr H
 rw[o] at E
 have A:(i:Int)<(c.m.ex.length:Int):=by omega
 obtain⟨n,j⟩: ∃n,(c.m.ex.getD i zf).kind=n:=⟨_,rfl⟩
 rw[j] at z
 rw[j]
 clear h o j
 go_enter Tryz.func190,Tryz.ntmps190
 go_wp2
 go_ret
 exact⟨rfl,rfl⟩
def zbX (c:PC) (i:Nat):Prop:=∀(t:ByteArray) (w:World),PP c t w→(t++prX c.m.ex i).size≤140737488355328→Calls Tryz.prog 162 #[.pointer (some ⟨c.gp,0,none⟩),.int .i64 (i:Int)] w (PO c (t++prX c.m.ex i) w)
theorem zfp (c:PC) (t:ByteArray) (i:Nat) (o:Bool) (w:World) (ok:zbX c i) (h:PP c t w) (j:(t++zC o (prX c.m.ex i)).size≤140737488355328):
  Calls Tryz.prog 189 #[.pointer (some ⟨c.gp,0,none⟩),.int .i64 (i:Int),.bool o] w (PO c (t++zC o (prX c.m.ex i)) w):=by
 have OK:=zc ok
 have HP:=zc h
 clear ok h
 obtain⟨p0,V,Z,Y,X,p5,U⟩:=zu HP.out.2.2.1
 cases o with
 |false=>
  have K:Hid ((t++prX c.m.ex i).size≤140737488355328):=j
  clear j
  go_enter Tryz.func189,Tryz.ntmps189
  go_wp2_with fail
  refine (OK.out t w HP.out K.out).mono ?_
  rintro e w1 ⟨rfl,q,n,z⟩
  have H:=zc q
  have E:=zc n
  have D:=zc z
  clear q n z p0 V Z Y X p5 U
  go_wp2
  refine bodyPost_ret (results_none rfl _ _ _) rfl ?_
  exact⟨rfl,H.out,E.out,D.out⟩
 |true=>
  have K:Hid ((t++(zm++prX c.m.ex i++zay)).size≤140737488355328):=j
  clear j
  go_enter Tryz.func189,Tryz.ntmps189
  go_wp2_with fail
  refine (zbu c t [zm] w HP.out (by have:=K.out;simp only[zr,List.foldl_cons,List.foldl_nil,ByteArray.size_append] at this ⊢;omega) (by simp)).mono ?_
  rintro e w1 ⟨rfl,q,n,z⟩
  have H:=zc q
  have E:=zc n
  have D:=zc z
  clear q n z p0 V Z Y X p5 U
  go_wp2_with fail
  refine (OK.out _ w1 H.out (by have:=K.out;simp only[zr,List.foldl_cons,List.foldl_nil,ByteArray.size_append] at this ⊢;omega)).mono ?_
  rintro e w2 ⟨rfl,O,N,I⟩
  have M:=zc O
  have ab:=zc (E.out.trans N)
  have ad:=zc (D.out.trans I)
  clear O N I
  obtain⟨p0,V,Z,Y,X,p5,U⟩:=zu M.out.2.2.1
  go_wp2_with fail
  refine (zbu c _ [zay] w2 M.out (by have:=K.out;simp only[zr,List.foldl_cons,List.foldl_nil,ByteArray.size_append] at this ⊢;omega) (by simp)).mono ?_
  rintro e w3 ⟨rfl,A,L,J⟩
  have ac:=zc A
  have aa:=zc (ab.out.trans L)
  have ae:=zc (ad.out.trans J)
  clear A L J p0 V Z Y X p5 U
  go_wp2
  go_end0
  exact⟨rfl,(by have A:=ac.out;unfold zC;rw[if_pos rfl];simp only[zr,List.foldl_cons,List.foldl_nil,←ByteArray.append_assoc] at A ⊢;exact A),aa.out,ae.out⟩
def zaI (k:Int) (n:ByteArray):ByteArray:=
 if n.toList==[42,100,101,102,97,117,108,116] then ({data:=#[101,120,112,111,114,116,32]}:ByteArray)++({data:=#[100,101,102,97,117,108,116]}:ByteArray)++({data:=#[32]}:ByteArray)
 else if k==1 then ({data:=#[108,101,116,32]}:ByteArray)++n++({data:=#[32,61,32]}:ByteArray)
 else if k==2 then ({data:=#[102,117,110,99,116,105,111,110,32]}:ByteArray)++n++({data:=#[40,41,32,123,32,114,101,116,117,114,110,32]}:ByteArray)
 else if k==3 then n++({data:=#[32,61,32]}:ByteArray)
 else if k==4 then ({data:=#[112,114,105,110,116,40]}:ByteArray)
 else if k==5 then ({data:=#[116,104,114,111,119,32]}:ByteArray)
 else ({data:=#[102,97,105,108,32]}:ByteArray)
def zaD (k:Int) (n:ByteArray):ByteArray:=
 if n.toList==[42,100,101,102,97,117,108,116] then ({data:=#[59]}:ByteArray) else if k==2 then ({data:=#[59,32,125]}:ByteArray) else if k==4 then ({data:=#[41,59]}:ByteArray) else ({data:=#[59]}:ByteArray)
theorem zic {k:Int} {n:ByteArray} (e:(n.toList==[42,100,101,102,97,117,108,116])=true):zaI k n=({data:=#[101,120,112,111,114,116,32]}:ByteArray)++({data:=#[100,101,102,97,117,108,116]}:ByteArray)++({data:=#[32]}:ByteArray):=by rw[zaI,e];rfl
theorem zid {k:Int} {n:ByteArray} (e:(n.toList==[42,100,101,102,97,117,108,116])=true):zaD k n=({data:=#[59]}:ByteArray):=by rw[zaD,e];rfl
theorem zie {k:Int} {n:ByteArray} (e:(n.toList==[42,100,101,102,97,117,108,116])=false) (h:(k==1)=true):zaI k n=({data:=#[108,101,116,32]}:ByteArray)++n++({data:=#[32,61,32]}:ByteArray):=by rw[zaI,e,h];rfl
theorem zif {k:Int} {n:ByteArray} (e:(n.toList==[42,100,101,102,97,117,108,116])=false) (h:(k==1)=true):zaD k n=({data:=#[59]}:ByteArray):=by have q:=eq_of_beq h;subst q;rw[zaD,e];rfl
theorem zig {k:Int} {n:ByteArray} (e:(n.toList==[42,100,101,102,97,117,108,116])=false) (j:(k==1)=false) (h:(k==2)=true):zaI k n=({data:=#[102,117,110,99,116,105,111,110,32]}:ByteArray)++n++({data:=#[40,41,32,123,32,114,101,116,117,114,110,32]}:ByteArray):=by rw[zaI,e,j,h];rfl
theorem zih {k:Int} {n:ByteArray} (e:(n.toList==[42,100,101,102,97,117,108,116])=false) (h:(k==2)=true):zaD k n=({data:=#[59,32,125]}:ByteArray):=by rw[zaD,e,h];rfl
theorem zii {k:Int} {n:ByteArray} (e:(n.toList==[42,100,101,102,97,117,108,116])=false) (j:(k==1)=false) (h:(k==2)=false) (o:(k==3)=true):zaI k n=n++({data:=#[32,61,32]}:ByteArray):=by rw[zaI,e,j,h,o];rfl
theorem zij {k:Int} {n:ByteArray} (e:(n.toList==[42,100,101,102,97,117,108,116])=false) (h:(k==3)=true):zaD k n=({data:=#[59]}:ByteArray):=by have q:=eq_of_beq h;subst q;rw[zaD,e];rfl
theorem zik {k:Int} {n:ByteArray} (e:(n.toList==[42,100,101,102,97,117,108,116])=false) (j:(k==1)=false) (h:(k==2)=false) (q:(k==3)=false) (o:(k==4)=true):zaI k n=({data:=#[112,114,105,110,116,40]}:ByteArray):=by rw[zaI,e,j,h,q,o];rfl
theorem zil {k:Int} {n:ByteArray} (e:(n.toList==[42,100,101,102,97,117,108,116])=false) (h:(k==2)=false) (j:(k==4)=true):zaD k n=({data:=#[41,59]}:ByteArray):=by rw[zaD,e,h,j];rfl
theorem zim {k:Int} {n:ByteArray} (e:(n.toList==[42,100,101,102,97,117,108,116])=false) (w:(k==1)=false) (q:(k==2)=false) (o:(k==3)=false) (j:(k==4)=false) (h:(k==5)=true):zaI k n=({data:=#[116,104,114,111,119,32]}:ByteArray):=by rw[zaI,e,w,q,o,j,h];rfl
theorem zin {k:Int} {n:ByteArray} (e:(n.toList==[42,100,101,102,97,117,108,116])=false) (h:(k==2)=false) (j:(k==4)=false):zaD k n=({data:=#[59]}:ByteArray):=by rw[zaD,e,h,j];rfl
theorem zio {k:Int} {n:ByteArray} (e:(n.toList==[42,100,101,102,97,117,108,116])=false) (w:(k==1)=false) (q:(k==2)=false) (o:(k==3)=false) (j:(k==4)=false) (h:(k==5)=false):zaI k n=({data:=#[102,97,105,108,32]}:ByteArray):=by rw[zaI,e,w,q,o,j,h];rfl
theorem zip {k:Int} {n:ByteArray} (e:(n.toList==[42,100,101,102,97,117,108,116])=false) (h:(k==2)=false) (j:(k==4)=false):zaD k n=({data:=#[59]}:ByteArray):=by rw[zaD,e,h,j];rfl
theorem ziq (k:Int) (n e:ByteArray):zcB k n e=zaI k n++e++zaD k n++({data:=#[10]}:ByteArray):=by
 have D:({data:=#[59,10]}:ByteArray)=({data:=#[59]}:ByteArray)++({data:=#[10]}:ByteArray):=zbD #[59] #[10]
 have E:({data:=#[59,32,125,10]}:ByteArray)=({data:=#[59,32,125]}:ByteArray)++({data:=#[10]}:ByteArray):=zbD #[59,32,125] #[10]
 have A:({data:=#[41,59,10]}:ByteArray)=({data:=#[41,59]}:ByteArray)++({data:=#[10]}:ByteArray):=zbD #[41,59] #[10]
 have H:({data:=#[101,120,112,111,114,116,32,100,101,102,97,117,108,116,32]}:ByteArray)=({data:=#[101,120,112,111,114,116,32,100,101,102,97,117,108,116]}:ByteArray)++({data:=#[32]}:ByteArray):=zbD #[101,120,112,111,114,116,32,100,101,102,97,117,108,116] #[32]
 have I:({data:=#[101,120,112,111,114,116,32,100,101,102,97,117,108,116]}:ByteArray)=({data:=#[101,120,112,111,114,116,32]}:ByteArray)++({data:=#[100,101,102,97,117,108,116]}:ByteArray):=zbD #[101,120,112,111,114,116,32] #[100,101,102,97,117,108,116]
 unfold zcB zax
 rw[D,E,A,H,I]
 cases h:(n.toList==[42,100,101,102,97,117,108,116]) with
 |true=>rw[zic h,zid h];simp only[↓reduceIte,ByteArray.append_assoc]
 |false=>
  cases o:(k==1) with
  |true=>rw[zie h o,zif h o];simp only[↓reduceIte,Bool.false_eq_true,ByteArray.append_assoc]
  |false=>
   cases j:(k==2) with
   |true=>rw[zig h o j,zih h j];simp only[↓reduceIte,Bool.false_eq_true,ByteArray.append_assoc]
   |false=>
    cases w:(k==3) with
    |true=>rw[zii h o j w,zij h w];simp only[↓reduceIte,Bool.false_eq_true,ByteArray.append_assoc]
    |false=>
     cases q:(k==4) with
     |true=>rw[zik h o j w q,zil h j q];simp only[↓reduceIte,Bool.false_eq_true,ByteArray.append_assoc]
     |false=>
      cases z:(k==5) with
      |true=>rw[zim h o j w q z,zin h j q];simp only[↓reduceIte,Bool.false_eq_true,ByteArray.append_assoc]
      |false=>
       rw[zio h o j w q z,zip h j q];simp only[↓reduceIte,Bool.false_eq_true,ByteArray.append_assoc]
theorem zm5 (k:Int) (n e:ByteArray):(zcB k n e).size=(zaI k n).size+e.size+(zaD k n).size+1:=by
 rw[ziq,ByteArray.size_append,ByteArray.size_append,ByteArray.size_append]
 rfl
theorem zm6 (c:PC) (t:ByteArray) (k:Int) (n:ByteArray) (i:Nat) (w:World) (ok:zbX c i) (h:PP c t w) (J:(t++zcB k n (prX c.m.ex i)).size≤140737488355328):
  Calls Tryz.prog 120 #[.pointer (some ⟨c.gp,0,none⟩),.agg #[.int .i64 k,.string n,.int .i64 (i:Int)]] w (PO c (t++zcB k n (prX c.m.ex i)) w):=by
 have HP:=zc h
 have OK:=zc ok
 have N:Hid (t.size+((zaI k n).size+(prX c.m.ex i).size+(zaD k n).size+1)≤140737488355328):=by show _≤_;rw[ByteArray.size_append,zm5] at J;exact J
 clear h J ok
 go_enter Tryz.func120,Tryz.ntmps120
 go_upto_region 1 with fail
 have HW:Hid (Below w.heap.size w (w.alloc (.cells #[.int .i64 k,.string n,.int .i64 (i:Int)] 106))):=(Below.refl _ _).alloc (Nat.le_refl _) _
 refine zah (R:=fun W=>W.heap[w.heap.size]? =some (.cells #[.int .i64 k,.string n,.int .i64 (i:Int)] 106 (0,0))∧PP c t W∧Below c.B w W∧KeepB c.b w W) ⟨heap_alloc_new w _,HP.out.later HW.out,HW.out.mono HP.out.1.2,KeepB.of_below HW.out⟩ ?_
 obtain⟨gx,U⟩: ∃gx,gx=w.heap.size:=⟨_,rfl⟩
 have aj:gx≠c.b:=by
  rw[U]
  obtain⟨ar,hc⟩:=zbC HP.out.1.1
  have:=(Array.getElem?_eq_some_iff.1 hc).1
  omega
 rw[←U]
 rintro L ⟨hx,hp,hb,hk⟩
 clear U HW
 have X1:=zc hx
 have D:=zc hp
 have an:=zc hb
 have am:=zc hk
 clear hx hp hb hk
 obtain⟨x0,x1,x2,xf⟩:=zbt X1.out
 obtain⟨p0,p1,p2,p3,p4,p5,pf⟩:=zu D.out.2.2.1
 have ag:=(Array.getElem?_eq_some_iff.1 D.out.2.2.1).1
 have ae:=(Array.getElem?_eq_some_iff.1 X1.out).1
 go_upto_block 0 with fail
 go_cut [4] from 5 to 76 (fun s4 wx=>s4= .string (zaD k n)∧PP c (t++zaI k n) wx∧Below c.B L wx∧KeepB c.b L wx)
 case first=>
  cases E:(n.toList==[42,100,101,102,97,117,108,116]) with
  |true=>
   have A:Hid (zaI k n=({data:=#[101,120,112,111,114,116,32]}:ByteArray)++({data:=#[100,101,102,97,117,108,116]}:ByteArray)++({data:=#[32]}:ByteArray)):=zic E
   have I:Hid (zaD k n=({data:=#[59]}:ByteArray)):=zid E
   have H:Hid ((zr t [{data:=#[101,120,112,111,114,116,32]},{data:=#[100,101,102,97,117,108,116]},{data:=#[32]}]).size≤140737488355328):=by show _≤_;have:=N.out;rw[A.out] at this;simp only[zr,List.foldl_cons,List.foldl_nil,ByteArray.size_append] at this ⊢;omega
   go_wp2_with fail
   refine (zbu c t [{data:=#[101,120,112,111,114,116,32]},{data:=#[100,101,102,97,117,108,116]},{data:=#[32]}] L D.out H.out (by simp)).mono ?_
   rintro e V ⟨rfl,j,q,o⟩
   go_wp2_with fail
   go_meet
   exact⟨by rw[I.out],by rw[A.out];simp only[zr,List.foldl_cons,List.foldl_nil,←ByteArray.append_assoc] at j ⊢;exact j,q,o⟩
  |false=>
   cases O:(k==1) with
   |true=>
    have A:Hid (zaI k n=({data:=#[108,101,116,32]}:ByteArray)++n++({data:=#[32,61,32]}:ByteArray)):=zie E O
    have I:Hid (zaD k n=({data:=#[59]}:ByteArray)):=zif E O
    have H:Hid ((zr t [{data:=#[108,101,116,32]},n,{data:=#[32,61,32]}]).size≤140737488355328):=by show _≤_;have:=N.out;rw[A.out] at this;simp only[zr,List.foldl_cons,List.foldl_nil,ByteArray.size_append] at this ⊢;omega
    go_wp2_with fail
    go_region_with (go_at_call 57;refine (zbU c t [{data:=#[108,101,116,32]},n,{data:=#[32,61,32]}] L D.out H.out (by simp)).mono ?_;rintro e V ⟨rfl,j,q,o⟩)
    all_goals (go_wp2_with fail;go_meet;exact⟨by rw[I.out],by rw[A.out];simp only[zr,List.foldl_cons,List.foldl_nil,←ByteArray.append_assoc] at j ⊢;exact j,q,o⟩)
   |false=>
    cases M:(k==2) with
    |true=>
     have A:Hid (zaI k n=({data:=#[102,117,110,99,116,105,111,110,32]}:ByteArray)++n++({data:=#[40,41,32,123,32,114,101,116,117,114,110,32]}:ByteArray)):=zig E O M
     have I:Hid (zaD k n=({data:=#[59,32,125]}:ByteArray)):=zih E M
     have H:Hid ((zr t [{data:=#[102,117,110,99,116,105,111,110,32]},n,{data:=#[40,41,32,123,32,114,101,116,117,114,110,32]}]).size≤140737488355328):=by show _≤_;have:=N.out;rw[A.out] at this;simp only[zr,List.foldl_cons,List.foldl_nil,ByteArray.size_append] at this ⊢;omega
     go_wp2_with fail
     go_region_with (go_at_call 57;refine (zbU c t [{data:=#[102,117,110,99,116,105,111,110,32]},n,{data:=#[40,41,32,123,32,114,101,116,117,114,110,32]}] L D.out H.out (by simp)).mono ?_;rintro e V ⟨rfl,j,q,o⟩)
     all_goals (go_wp2_with fail;go_meet;exact⟨by rw[I.out],by rw[A.out];simp only[zr,List.foldl_cons,List.foldl_nil,←ByteArray.append_assoc] at j ⊢;exact j,q,o⟩)
    |false=>
     cases h3:(k==3) with
     |true=>
      have A:Hid (zaI k n=n++({data:=#[32,61,32]}:ByteArray)):=zii E O M h3
      have I:Hid (zaD k n=({data:=#[59]}:ByteArray)):=zij E h3
      have H:Hid ((zr t [n,{data:=#[32,61,32]}]).size≤140737488355328):=by show _≤_;have:=N.out;rw[A.out] at this;simp only[zr,List.foldl_cons,List.foldl_nil,ByteArray.size_append] at this ⊢;omega
      go_wp2_with fail
      go_region_with (go_at_call 57;refine (zbU c t [n,{data:=#[32,61,32]}] L D.out H.out (by simp)).mono ?_;rintro e V ⟨rfl,j,q,o⟩)
      all_goals (go_wp2_with fail;go_meet;exact⟨by rw[I.out],by rw[A.out];simp only[zr,List.foldl_cons,List.foldl_nil,←ByteArray.append_assoc] at j ⊢;exact j,q,o⟩)
     |false=>
      cases X:(k==4) with
      |true=>
       have A:Hid (zaI k n=({data:=#[112,114,105,110,116,40]}:ByteArray)):=zik E O M h3 X
       have I:Hid (zaD k n=({data:=#[41,59]}:ByteArray)):=zil E M X
       have H:Hid ((zr t [{data:=#[112,114,105,110,116,40]}]).size≤140737488355328):=by show _≤_;have:=N.out;rw[A.out] at this;simp only[zr,List.foldl_cons,List.foldl_nil,ByteArray.size_append] at this ⊢;omega
       go_wp2_with fail
       refine (zbu c t [{data:=#[112,114,105,110,116,40]}] L D.out H.out (by simp)).mono ?_
       rintro e V ⟨rfl,j,q,o⟩
       go_wp2_with fail
       go_meet
       exact⟨by rw[I.out],by rw[A.out];exact j,q,o⟩
      |false=>
       cases h5:(k==5) with
       |true=>
        have A:Hid (zaI k n=({data:=#[116,104,114,111,119,32]}:ByteArray)):=zim E O M h3 X h5
        have I:Hid (zaD k n=({data:=#[59]}:ByteArray)):=zin E M X
        have H:Hid ((zr t [{data:=#[116,104,114,111,119,32]}]).size≤140737488355328):=by show _≤_;have:=N.out;rw[A.out] at this;simp only[zr,List.foldl_cons,List.foldl_nil,ByteArray.size_append] at this ⊢;omega
        go_wp2_with fail
        refine (zbu c t [{data:=#[116,104,114,111,119,32]}] L D.out H.out (by simp)).mono ?_
        rintro e V ⟨rfl,j,q,o⟩
        go_wp2_with fail
        go_meet
        exact⟨by rw[I.out],by rw[A.out];exact j,q,o⟩
       |false=>
        have A:Hid (zaI k n=({data:=#[102,97,105,108,32]}:ByteArray)):=zio E O M h3 X h5
        have I:Hid (zaD k n=({data:=#[59]}:ByteArray)):=zip E M X
        have H:Hid ((zr t [{data:=#[102,97,105,108,32]}]).size≤140737488355328):=by show _≤_;have:=N.out;rw[A.out] at this;simp only[zr,List.foldl_cons,List.foldl_nil,ByteArray.size_append] at this ⊢;omega
        go_wp2_with fail
        refine (zbu c t [{data:=#[102,97,105,108,32]}] L D.out H.out (by simp)).mono ?_
        rintro e V ⟨rfl,j,q,o⟩
        go_wp2_with fail
        go_meet
        exact⟨by rw[I.out],by rw[A.out];exact j,q,o⟩
 case rest=>
 rename_i s4 V
 obtain⟨rfl,j,q,o⟩:=hcut
 have ao:=zc j
 have ak:=zc (an.out.trans q)
 have ap:=zc (am.out.trans o)
 have X2:=zc ((o _ _ _ _ X1.out aj (by decide)).trans X1.out)
 clear j q o p0 p1 p2 p3 p4 p5 pf x0 x1 x2 xf ag ae
 obtain⟨x0,x1,x2,xf⟩:=zbt X2.out
 go_wp2_with fail
 refine (OK.out _ _ ao.out (by have:=N.out;simp only[ByteArray.size_append] at this ⊢;omega)).mono ?_
 rintro e w3 ⟨rfl,K,Z,Y⟩
 have ad:=zc K
 have ai:=zc (ak.out.trans Z)
 have aq:=zc (ap.out.trans Y)
 clear K Z Y x0 x1 x2 xf
 obtain⟨p0,p1,p2,p3,p4,p5,pf⟩:=zu ad.out.2.2.1
 go_wp2_with fail
 refine (zbu c _ [zaD k n,{data:=#[10]}] _ ad.out (by have:=N.out;have z:(({data:=#[10]}:ByteArray)).size=1:=rfl;simp only[zr,List.foldl_cons,List.foldl_nil,ByteArray.size_append,z] at this ⊢;omega) (by simp)).mono ?_
 rintro e w4 ⟨rfl,ab,aa,ac⟩
 have af:=zc ab
 have al:=zc (ai.out.trans aa)
 have ah:=zc (aq.out.trans ac)
 clear ab aa ac p0 p1 p2 p3 p4 p5 pf
 go_wp2
 go_end0
 exact⟨rfl,(by have K:=af.out;rw[ziq];simp only[zr,List.foldl_cons,List.foldl_nil,←ByteArray.append_assoc] at K ⊢;exact K),al.out,ah.out⟩
theorem zfq {α:Type} {l:List α} {j:Nat} (h:j<l.length): ∃x,l[j]? =some x:=⟨_,List.getElem?_eq_getElem h⟩
theorem zm7 (l:List ByteArray):l.map Value.string=l.flatMap (fun x=>[Value.string x]):=by
 induction l with
 |nil=>rfl
 |cons x l h=>rw[List.map_cons,List.flatMap_cons,h];rfl
theorem zm8 (t:ByteArray):t++sNone=t:=by
 cases t with
 |mk d=>
  show ByteArray.append _ _=_
  simp[ByteArray.append]
theorem zir (m:Md):(acc epF m.ep (acc zV m.im (acc rqT m.rq sNone))).size≤(zb6 m).size:=zdp _ _ _
theorem zis (m:Md):(acc zV m.im (acc rqT m.rq sNone)).size≤(zb6 m).size:=Nat.le_trans (zdp _ _ _) (zir m)
theorem zm9 (m:Md):(acc rqT m.rq sNone).size≤(zb6 m).size:=Nat.le_trans (zdp _ _ _) (zis m)
theorem zit (s:ByteArray):rqT s=({data:=#[105,109,112,111,114,116,32]}:ByteArray)++zar s++({data:=#[59]}:ByteArray)++({data:=#[10]}:ByteArray):=by
 have h:({data:=#[59,10]}:ByteArray)={data:=#[59]}++{data:=#[10]}:=zbD #[59] #[10]
 rw[rqT,h]
 simp only[ByteArray.append_assoc]
theorem ziu {x:Ep} (h:(x.loc.toList==[42,100,101,102,97,117,108,116])=false):epF x=zaY x:=by rw[epF,h];rfl
theorem zmA {x:Ep} (h:(x.loc.toList==[42,100,101,102,97,117,108,116])=true):epF x=sNone:=by rw[epF,h];rfl
theorem zmB (c:PC) (w:World) (ok: ∀i,i<c.m.ex.length→zbX c i) (hs: ∀s∈c.m.st,0≤s.expr∧s.expr<(c.m.ex.length:Int)) (hm:Small c.m) (h:PP c sNone w) (ae:(zb6 c.m).size≤140737488355328):
  Calls Tryz.prog 59 #[.pointer (some ⟨c.gp,0,none⟩)] w (PO c (zb6 c.m) w):=by
 have ai:=zc h
 have SM:=zc hm
 have OK:=zc ok
 have HS:=zc hs
 have HL:=zc ae
 obtain⟨f1,f2,f3,f4,f5⟩:=hm.few
 clear h hm ok hs ae
 obtain⟨p0,p1,p2,Y,p4,p5,pf⟩:=zu ai.out.2.2.1
 go_enter Tryz.func59,Tryz.ntmps59
 go_wp2
 go_loopg [16] c.m.rq.length (fun k i wr=>∃j:Nat,i= .int .i64 j∧j+k=c.m.rq.length∧PP c (acc rqT (c.m.rq.take j) sNone) wr∧Below c.B w wr∧KeepB c.b w wr)
 case atStart=>exact⟨0,rfl,by omega,ai.out,Below.refl _ _,fun _ _ _ _ _ _ _=>rfl⟩
 case round=>
  obtain⟨j,rfl,hj,J,M,L⟩:=hrel
  have q:=zc J
  have D:=zc M
  have E:=zc L
  clear J M L p0 p1 p2 Y p4 p5 pf
  obtain⟨p0,p1,p2,Y,p4,p5,pf⟩:=zu q.out.2.2.1
  by_cases X:j<c.m.rq.length
  ·have I:(j:Int)<(c.m.rq.length:Int):=by omega
   obtain⟨x,o⟩:=zfq X
   have A:=List.mem_of_getElem? o
   have HZ:Hid ((acc rqT (c.m.rq.take j) sNone++rqT x).size≤140737488355328):=by show _≤_;rw[←zbS rqT o];exact Nat.le_trans (zcX rqT c.m.rq (j+1) sNone) (Nat.le_trans (zm9 c.m) HL.out)
   have HX:=zc o
   obtain⟨K,H⟩: ∃K,K=j+1:=⟨_,rfl⟩
   have ej:(j:Int)+1=(K:Int):=by omega
   have HJ:=zc H
   clear H
   obtain⟨g,hg,k0⟩: ∃g,c.S.rq.a=some ⟨g,0,none⟩∧wr.cell? ⟨g,j,none⟩=some (.string x):=by
    obtain⟨g,hg,hc⟩:=OwnR.elem (f:=fun x=>[Value.string x]) (m:=1) (fun _=>rfl) (show OwnR wr c.base 9 1 c.S.rq c.m.rq.length (c.m.rq.flatMap fun x=>[Value.string x]) by rw[←zm7];exact q.out.2.1.rq) o
    have k0:=hc 0 (by omega)
    simp only[Nat.mul_one,Nat.add_zero,List.getElem?_cons_zero] at k0
    exact⟨g,hg,k0⟩
   have aj:=SM.out.rq x A
   have HG:Hid (Value.slice c.S.rq.a c.m.rq.length c.S.rq.cap=Value.slice (some ⟨g,0,none⟩) c.m.rq.length c.S.rq.cap):=by show _=_;rw[hg]
   clear hg o A p0 p1 p2 Y p4 p5 pf
   rw[HG.out]
   obtain⟨p0,p1,p2,Y,p4,p5,pf⟩:=zu q.out.2.2.1
   have ak:=(Array.getElem?_eq_some_iff.1 q.out.2.2.1).1
   go_wp2_with fail
   go_region_with (first|(go_at_call 117;refine (zfo x _ (by omega)).mono ?_;rintro e w' ⟨rfl,rfl⟩)|(go_at_call 57;refine (zbU c _ [{data:=#[105,109,112,111,114,116,32]},zar x,{data:=#[59]},{data:=#[10]}] wr q.out (by have:=HZ.out;rw[zit] at this;simp only[zr,List.foldl_cons,List.foldl_nil,ByteArray.size_append] at this ⊢;omega) (by simp)).mono ?_;rintro e w3 ⟨rfl,ad,ah,ag⟩))
   all_goals
    have an:=zc ad
    have al:=zc (D.out.trans ah)
    have ao:=zc (E.out.trans ag)
    clear ad ah ag p0 p1 p2 Y p4 p5 pf ak k0
    go_wp2
    rw[←HG.out]
    go_roundg (gk-1)
    case rel=>exact⟨K,rfl,by have:=HJ.out;omega,by rw[HJ.out,zbS rqT HX.out];exact (by have ad:=an.out;rw[zit];simp only[zr,List.foldl_cons,List.foldl_nil,←ByteArray.append_assoc] at ad ⊢;exact ad),al.out,ao.out⟩
    case measure=>omega
  ·have I: ¬(j:Int)<(c.m.rq.length:Int):=by omega
   obtain rfl:j=c.m.rq.length:=by omega
   have HN:Hid (PP c (acc zV (c.m.im.take 0) (acc rqT c.m.rq sNone)) wr):=by have:=q.out;rw[List.take_length] at this;exact this
   go_wp2
   go_loopg [35] c.m.im.length (fun k i wr=>∃j:Nat,i= .int .i64 j∧j+k=c.m.im.length∧PP c (acc zV (c.m.im.take j) (acc rqT c.m.rq sNone)) wr∧Below c.B w wr∧KeepB c.b w wr)
   case atStart=>exact⟨0,rfl,by omega,HN.out,D.out,E.out⟩
   case round=>
    obtain⟨j,rfl,hj,J,M,L⟩:=hrel
    clear q D E HN
    have q:=zc J
    have D:=zc M
    have E:=zc L
    clear J M L p0 p1 p2 Y p4 p5 pf
    obtain⟨p0,p1,p2,Y,p4,p5,pf⟩:=zu q.out.2.2.1
    by_cases X:j<c.m.im.length
    ·have I:(j:Int)<(c.m.im.length:Int):=by omega
     obtain⟨x,o⟩:=zfq X
     have A:=List.mem_of_getElem? o
     have HZ:Hid ((acc zV (c.m.im.take j) (acc rqT c.m.rq sNone)++zV x).size≤140737488355328):=by show _≤_;rw[←zbS zV o];exact Nat.le_trans (zcX zV c.m.im (j+1) (acc rqT c.m.rq sNone)) (Nat.le_trans (zis c.m) HL.out)
     have HX:=zc o
     obtain⟨K,H⟩: ∃K,K=j+1:=⟨_,rfl⟩
     have ej:(j:Int)+1=(K:Int):=by omega
     have HJ:=zc H
     clear H
     obtain⟨g,hg,z⟩:=OwnR.elem (f:=imL) (m:=3) (fun _=>rfl) q.out.2.1.im o
     have k0:=z 0 (by omega)
     have k1:=z 1 (by omega)
     have k2:=z 2 (by omega)
     simp only[imL,Nat.add_zero,List.getElem?_cons_zero,List.getElem?_cons_succ] at k0 k1 k2
     clear z
     have aj:=(SM.out.im x A).1
     have HG:Hid (Value.slice c.S.im.a c.m.im.length c.S.im.cap=Value.slice (some ⟨g,0,none⟩) c.m.im.length c.S.im.cap):=by show _=_;rw[hg]
     clear hg o A p0 p1 p2 Y p4 p5 pf
     rw[HG.out]
     go_upto_region 8 with fail
     have Z:Hid (Below wr.heap.size wr (wr.alloc (.cells #[.string x.spec,.string x.first,.string x.loc] 100))):=(Below.refl _ _).alloc (Nat.le_refl _) _
     refine zah (R:=fun W=>W.heap[wr.heap.size]? =some (.cells #[.string x.spec,.string x.first,.string x.loc] 100 (0,0))∧PP c (acc zV (c.m.im.take j) (acc rqT c.m.rq sNone)) W∧Below c.B w W∧KeepB c.b w W) ⟨heap_alloc_new wr _,q.out.later Z.out,D.out.trans (Z.out.mono q.out.1.2),E.out.trans (KeepB.of_below Z.out)⟩ ?_
     obtain⟨gx,U⟩: ∃gx,gx=wr.heap.size:=⟨_,rfl⟩
     rw[←U]
     clear k0 k1 k2 Z
     rintro W ⟨xb,J,M,L⟩
     clear U q D E
     have XB:=zc xb
     have q:=zc J
     have D:=zc M
     have E:=zc L
     clear xb J M L
     obtain⟨x0,x1,x2,xf⟩:=zbt XB.out
     go_wp2_with fail
     refine (zmz c _ x W q.out HZ.out (by omega)).mono ?_
     rintro e W2 ⟨rfl,O,V,N⟩
     have aa:=zc O
     have ac:=zc (D.out.trans V)
     have ab:=zc (E.out.trans N)
     clear O V N x0 x1 x2 xf
     go_wp2
     rw[←HG.out]
     go_roundg (gk-1)
     case rel=>exact⟨K,rfl,by have:=HJ.out;omega,by rw[HJ.out,zbS zV HX.out];exact aa.out,ac.out,ab.out⟩
     case measure=>omega
    ·have I: ¬(j:Int)<(c.m.im.length:Int):=by omega
     obtain rfl:j=c.m.im.length:=by omega
     have HN:Hid (PP c (acc epF (c.m.ep.take 0) (acc zV c.m.im (acc rqT c.m.rq sNone))) wr):=by have:=q.out;rw[List.take_length] at this;exact this
     go_wp2
     go_loopg [49] c.m.ep.length (fun k i wr=>∃j:Nat,i= .int .i64 j∧j+k=c.m.ep.length∧PP c (acc epF (c.m.ep.take j) (acc zV c.m.im (acc rqT c.m.rq sNone))) wr∧Below c.B w wr∧KeepB c.b w wr)
     case atStart=>exact⟨0,rfl,by omega,HN.out,D.out,E.out⟩
     case round=>
      obtain⟨j,rfl,hj,J,M,L⟩:=hrel
      clear q D E HN
      have q:=zc J
      have D:=zc M
      have E:=zc L
      clear J M L p0 p1 p2 Y p4 p5 pf
      obtain⟨p0,p1,p2,Y,p4,p5,pf⟩:=zu q.out.2.2.1
      by_cases X:j<c.m.ep.length
      ·have I:(j:Int)<(c.m.ep.length:Int):=by omega
       obtain⟨x,o⟩:=zfq X
       have A:=List.mem_of_getElem? o
       have HZ:Hid ((acc epF (c.m.ep.take j) (acc zV c.m.im (acc rqT c.m.rq sNone))++epF x).size≤140737488355328):=by show _≤_;rw[←zbS epF o];exact Nat.le_trans (zcX epF c.m.ep (j+1) (acc zV c.m.im (acc rqT c.m.rq sNone))) (Nat.le_trans (zir c.m) HL.out)
       have HX:=zc o
       obtain⟨K,H⟩: ∃K,K=j+1:=⟨_,rfl⟩
       have ej:(j:Int)+1=(K:Int):=by omega
       have HJ:=zc H
       clear H
       obtain⟨g,hg,z⟩:=OwnR.elem (f:=epL) (m:=4) (fun _=>rfl) q.out.2.1.ep o
       have k0:=z 0 (by omega)
       have k1:=z 1 (by omega)
       have k2:=z 2 (by omega)
       have k3:=z 3 (by omega)
       simp only[epL,Nat.add_zero,List.getElem?_cons_zero,List.getElem?_cons_succ] at k0 k1 k2 k3
       clear z
       have aj:=(SM.out.ep x A).1
       have HG:Hid (Value.slice c.S.ep.a c.m.ep.length c.S.ep.cap=Value.slice (some ⟨g,0,none⟩) c.m.ep.length c.S.ep.cap):=by show _=_;rw[hg]
       clear hg o A p0 p1 p2 Y p4 p5 pf
       rw[HG.out]
       go_upto_region 13 with fail
       have Z:Hid (Below wr.heap.size wr (wr.alloc (.cells #[.int .i64 x.kind,.string x.name,.string x.loc,.string x.spec] 102))):=(Below.refl _ _).alloc (Nat.le_refl _) _
       refine zah (R:=fun W=>W.heap[wr.heap.size]? =some (.cells #[.int .i64 x.kind,.string x.name,.string x.loc,.string x.spec] 102 (0,0))∧PP c (acc epF (c.m.ep.take j) (acc zV c.m.im (acc rqT c.m.rq sNone))) W∧Below c.B w W∧KeepB c.b w W) ⟨heap_alloc_new wr _,q.out.later Z.out,D.out.trans (Z.out.mono q.out.1.2),E.out.trans (KeepB.of_below Z.out)⟩ ?_
       obtain⟨gx,U⟩: ∃gx,gx=wr.heap.size:=⟨_,rfl⟩
       rw[←U]
       clear k0 k1 k2 k3 Z
       rintro W ⟨xb,J,M,L⟩
       clear U q D E
       have XB:=zc xb
       have q:=zc J
       have D:=zc M
       have E:=zc L
       clear xb J M L
       obtain⟨x0,x1,x2,x3,xf⟩:=zcV XB.out
       cases e1:(x.loc.toList==[42,100,101,102,97,117,108,116]) with
       |false=>
        go_wp2_with fail
        refine (zm4 c _ x W q.out (by have:=HZ.out;rw[ziu e1] at this;exact this) (by omega)).mono ?_
        rintro e W2 ⟨rfl,O,V,N⟩
        have aa:=zc O
        have ac:=zc (D.out.trans V)
        have ab:=zc (E.out.trans N)
        clear O V N x0 x1 x2 x3 xf
        go_wp2
        rw[←HG.out]
        go_roundg (gk-1)
        case rel=>exact⟨K,rfl,by have:=HJ.out;omega,by rw[HJ.out,zbS epF HX.out];exact (by rw[ziu e1];exact aa.out),ac.out,ab.out⟩
        case measure=>omega
       |true=>
        go_wp2
        rw[←HG.out]
        go_roundg (gk-1)
        case rel=>exact⟨K,rfl,by have:=HJ.out;omega,by rw[HJ.out,zbS epF HX.out];exact (by rw[zmA e1,zm8];exact q.out),D.out,E.out⟩
        case measure=>omega
      ·have I: ¬(j:Int)<(c.m.ep.length:Int):=by omega
       obtain rfl:j=c.m.ep.length:=by omega
       have HN:Hid (PP c (acc (zch c.m.ex) (c.m.st.take 0) (zbB c.m)) wr):=by have:=q.out;rw[List.take_length] at this;exact this
       go_wp2
       go_loopg [66] c.m.st.length (fun k i wr=>∃j:Nat,i= .int .i64 j∧j+k=c.m.st.length∧PP c (acc (zch c.m.ex) (c.m.st.take j) (zbB c.m)) wr∧Below c.B w wr∧KeepB c.b w wr)
       case atStart=>exact⟨0,rfl,by omega,HN.out,D.out,E.out⟩
       case round=>
        obtain⟨j,rfl,hj,J,M,L⟩:=hrel
        clear q D E HN
        have q:=zc J
        have D:=zc M
        have E:=zc L
        clear J M L p0 p1 p2 Y p4 p5 pf
        obtain⟨p0,p1,p2,Y,p4,p5,pf⟩:=zu q.out.2.2.1
        by_cases X:j<c.m.st.length
        ·have I:(j:Int)<(c.m.st.length:Int):=by omega
         obtain⟨x,o⟩:=zfq X
         have A:=List.mem_of_getElem? o
         have HZ:Hid ((acc (zch c.m.ex) (c.m.st.take j) (zbB c.m)++(zch c.m.ex) x).size≤140737488355328):=by show _≤_;rw[←zbS (zch c.m.ex) o];exact Nat.le_trans (zcX (zch c.m.ex) c.m.st (j+1) (zbB c.m)) HL.out
         have HX:=zc o
         obtain⟨K,H⟩: ∃K,K=j+1:=⟨_,rfl⟩
         have ej:(j:Int)+1=(K:Int):=by omega
         have HJ:=zc H
         clear H
         obtain⟨ei,af⟩: ∃n:Nat,x.expr=(n:Int):=⟨x.expr.toNat,by have:=HS.out x A;omega⟩
         have am:ei<c.m.ex.length:=by have:=HS.out x A;omega
         obtain⟨g,hg,z⟩:=OwnR.elem (f:=smL) (m:=3) (fun _=>rfl) q.out.2.1.st o
         have k0:=z 0 (by omega)
         have k1:=z 1 (by omega)
         have k2:=z 2 (by omega)
         simp only[smL,Nat.add_zero,List.getElem?_cons_zero,List.getElem?_cons_succ,af] at k0 k1 k2
         clear z
         have HG:Hid (Value.slice c.S.st.a c.m.st.length c.S.st.cap=Value.slice (some ⟨g,0,none⟩) c.m.st.length c.S.st.cap):=by show _=_;rw[hg]
         clear hg o A p0 p1 p2 Y p4 p5 pf
         rw[HG.out]
         go_upto_region 19 with fail
         have Z:Hid (Below wr.heap.size wr (wr.alloc (.cells #[.int .i64 x.kind,.string x.name,.int .i64 (ei:Int)] 106))):=(Below.refl _ _).alloc (Nat.le_refl _) _
         refine zah (R:=fun W=>W.heap[wr.heap.size]? =some (.cells #[.int .i64 x.kind,.string x.name,.int .i64 (ei:Int)] 106 (0,0))∧PP c (acc (zch c.m.ex) (c.m.st.take j) (zbB c.m)) W∧Below c.B w W∧KeepB c.b w W) ⟨heap_alloc_new wr _,q.out.later Z.out,D.out.trans (Z.out.mono q.out.1.2),E.out.trans (KeepB.of_below Z.out)⟩ ?_
         obtain⟨gx,U⟩: ∃gx,gx=wr.heap.size:=⟨_,rfl⟩
         rw[←U]
         clear k0 k1 k2 Z
         rintro W ⟨xb,J,M,L⟩
         clear U q D E
         have XB:=zc xb
         have q:=zc J
         have D:=zc M
         have E:=zc L
         clear xb J M L
         obtain⟨x0,x1,x2,xf⟩:=zbt XB.out
         go_wp2_with fail
         refine (zm6 c _ x.kind x.name ei W (OK.out ei am) q.out (by have:=HZ.out;rw[zch,af,Int.toNat_natCast] at this;exact this)).mono ?_
         rintro e W2 ⟨rfl,O,V,N⟩
         have aa:=zc O
         have ac:=zc (D.out.trans V)
         have ab:=zc (E.out.trans N)
         clear O V N x0 x1 x2 xf
         go_wp2
         rw[←HG.out]
         go_roundg (gk-1)
         case rel=>exact⟨K,rfl,by have:=HJ.out;omega,by rw[HJ.out,zbS (zch c.m.ex) HX.out];exact (by rw[zch,af,Int.toNat_natCast];exact aa.out),ac.out,ab.out⟩
         case measure=>omega
        ·have I: ¬(j:Int)<(c.m.st.length:Int):=by omega
         obtain rfl:j=c.m.st.length:=by omega
         have HN:Hid (PP c (zb6 c.m) wr):=by have:=q.out;rw[List.take_length] at this;exact this
         go_wp2
         go_end0
         exact⟨rfl,HN.out,D.out,E.out⟩
theorem ziv (c:PC) (t:ByteArray) (k M:Int) (A j O:ByteArray) (l r:Nat) (w:World) (Z:zbX c l) (aa:zbX c r) (hr:r<c.m.ex.length) (h:PP c t w) (n:(t++(prX c.m.ex l++O++zC (zL (c.m.ex.getD r zf).kind) (prX c.m.ex r))).size≤140737488355328):
  Calls Tryz.prog 188 #[.pointer (some ⟨c.gp,0,none⟩),.agg #[.int .i64 k,.int .i64 M,.string A,.string j,.int .i64 (l:Int),.int .i64 (r:Int)],.string O] w (PO c (t++(prX c.m.ex l++O++zC (zL (c.m.ex.getD r zf).kind) (prX c.m.ex r))) w):=by
 have HP:=zc h
 obtain⟨V,J⟩: ∃V,(c.m.ex.getD r zf).kind=V:=⟨_,rfl⟩
 rw[J] at n ⊢
 have KK:=zc J
 have HL:Hid (t.size+((prX c.m.ex l).size+O.size+(zC (zL V) (prX c.m.ex r)).size)≤140737488355328):=by show _≤_;simp only[ByteArray.size_append] at n;exact n
 obtain⟨T,hT⟩: ∃T,T=prX c.m.ex l++O++zC (zL V) (prX c.m.ex r):=⟨_,rfl⟩
 rw[←hT]
 have HT:=zc hT
 have ad:=zc Z
 have ab:=zc aa
 have HR:=zc hr
 clear h n Z aa hr J hT
 go_enter Tryz.func188,Tryz.ntmps188
 go_upto_region 1 with fail
 have HW:Hid (Below w.heap.size w (w.alloc (.cells #[.int .i64 k,.int .i64 M,.string A,.string j,.int .i64 (l:Int),.int .i64 (r:Int)] 108))):=(Below.refl _ _).alloc (Nat.le_refl _) _
 refine zah (R:=fun W=>W.heap[w.heap.size]? =some (.cells #[.int .i64 k,.int .i64 M,.string A,.string j,.int .i64 (l:Int),.int .i64 (r:Int)] 108 (0,0))∧PP c t W∧Below c.B w W∧KeepB c.b w W) ⟨heap_alloc_new w _,HP.out.later HW.out,HW.out.mono HP.out.1.2,KeepB.of_below HW.out⟩ ?_
 obtain⟨gx,K⟩: ∃gx,gx=w.heap.size:=⟨_,rfl⟩
 have X:gx≠c.b:=by
  rw[K]
  obtain⟨aj,hc⟩:=zbC HP.out.1.1
  have:=(Array.getElem?_eq_some_iff.1 hc).1
  omega
 rw[←K]
 rintro w1 ⟨hx,z,D,o⟩
 clear K HW
 have X1:=zc hx
 have N:=zc z
 have ag:=zc D
 have af:=zc o
 clear hx z D o
 obtain⟨x0,x1,x2,x3,x4,x5,xf⟩:=zu X1.out
 obtain⟨p0,p1,p2,p3,p4,p5,pf⟩:=zu N.out.2.2.1
 have H:=(Array.getElem?_eq_some_iff.1 N.out.2.2.1).1
 have E:=(Array.getElem?_eq_some_iff.1 X1.out).1
 go_wp2_with fail
 refine (zfp c t l false w1 ad.out N.out (by have:=HL.out;simp only[zC,Bool.false_eq_true,↓reduceIte,ByteArray.size_append] at this ⊢;omega)).mono ?_
 rintro e w2 ⟨rfl,z,D,o⟩
 have L:=zc z
 have ae:=zc (ag.out.trans D)
 have ah:=zc (af.out.trans o)
 have X2:=zc ((o _ _ _ _ X1.out X (by decide)).trans X1.out)
 clear z D o p0 p1 p2 p3 p4 p5 pf x0 x1 x2 x3 x4 x5 xf H E
 obtain⟨x0,x1,x2,x3,x4,x5,xf⟩:=zu X2.out
 obtain⟨p0,p1,p2,p3,p4,p5,pf⟩:=zu L.out.2.2.1
 have H:=(Array.getElem?_eq_some_iff.1 L.out.2.2.1).1
 have E:=(Array.getElem?_eq_some_iff.1 X2.out).1
 go_wp2_with fail
 refine (zbu c _ [O] w2 L.out (by have:=HL.out;simp only[zr,zC,Bool.false_eq_true,↓reduceIte,List.foldl_cons,List.foldl_nil,ByteArray.size_append] at this ⊢;omega) (by simp)).mono ?_
 rintro e U ⟨rfl,z,D,o⟩
 have I:=zc z
 have ac:=zc (ae.out.trans D)
 have ai:=zc (ah.out.trans o)
 have X3:=zc ((o _ _ _ _ X2.out X (by decide)).trans X2.out)
 clear z D o p0 p1 p2 p3 p4 p5 pf x0 x1 x2 x3 x4 x5 xf H E
 obtain⟨x0,x1,x2,x3,x4,x5,xf⟩:=zu X3.out
 obtain⟨p0,p1,p2,p3,p4,p5,pf⟩:=zu I.out.2.2.1
 have H:=(Array.getElem?_eq_some_iff.1 I.out.2.2.1).1
 have E:=(Array.getElem?_eq_some_iff.1 X3.out).1
 go_wp2_with fail
 have Y:=zc (I.out.later ((Below.refl U.heap.size U).drew))
 go_region_with (first|(go_at_call 190;refine (zgg c _ r _ Y.out HR.out).mono ?_;rintro e w' ⟨rfl,rfl⟩;rw[KK.out])|(go_at_call 158;refine (ze0 _ _).mono ?_;rintro e w' ⟨rfl,rfl⟩)|(go_at_call 189;refine (zfp c _ r (zL V) _ ab.out Y.out (by have:=HL.out;simp only[zr,show ∀q,zC false q=q from fun _=>rfl,List.foldl_cons,List.foldl_nil,ByteArray.size_append] at this ⊢;omega)).mono ?_;rintro e w4 ⟨rfl,z,D,o⟩))
 all_goals (go_wp2;go_end0;exact⟨rfl,(by rw[HT.out];simp only[zr,show ∀q,zC false q=q from fun _=>rfl,List.foldl_cons,List.foldl_nil,←ByteArray.append_assoc] at z ⊢;exact z),ac.out.trans ((((Below.refl U.heap.size U).drew).mono I.out.1.2).trans D),ai.out.trans ((KeepB.of_below ((Below.refl U.heap.size U).drew)).trans o)⟩)
theorem zmC (c:PC) (t:ByteArray) (i:Nat) (j:Int) (q n:ByteArray) (l r:Int) (w:World) (h:PP c t w) (hi:i<c.m.ex.length) (J:c.m.ex.getD i zf=⟨1,j,q,n,l,r⟩) (hn: -9223372036854775808≤j∧j≤9223372036854775807) (o:(t++(strOfNums (zb2 j))).size≤140737488355328):
  Calls Tryz.prog 162 #[.pointer (some ⟨c.gp,0,none⟩),.int .i64 (i:Int)] w (PO c (t++(strOfNums (zb2 j))) w):=by
 have I:=zc h
 obtain⟨T,hT⟩: ∃T,T=strOfNums (zb2 j):=⟨_,rfl⟩
 rw[←hT] at o ⊢
 have HT:=zc hT
 have HL:=zc o
 clear h o hT
 obtain⟨p0,p1,p2,p3,p4,p5,pf⟩:=zu I.out.2.2.1
 obtain⟨g,hg,H,M,O,Z,L,Y,x5⟩:=I.out.2.1.expr hi
 rw[J] at M O Z L Y x5
 dsimp only at M O Z L Y x5
 rw[hg] at p4
 have ad:(i:Int)<(c.m.ex.length:Int):=by omega
 clear hg J
 go_enter Tryz.func162,Tryz.ntmps162
 go_upto_region 1 with fail
 have U:Hid (Below w.heap.size w (w.alloc (.cells #[.int .i64 1,.int .i64 j,.string q,.string n,.int .i64 l,.int .i64 r] 108))):=(Below.refl _ _).alloc (Nat.le_refl _) _
 refine zah (R:=fun W=>W.heap[w.heap.size]? =some (.cells #[.int .i64 1,.int .i64 j,.string q,.string n,.int .i64 l,.int .i64 r] 108 (0,0))∧PP c t W∧Below c.B w W∧KeepB c.b w W) ⟨heap_alloc_new w _,I.out.later U.out,U.out.mono I.out.1.2,KeepB.of_below U.out⟩ ?_
 obtain⟨gx,D⟩: ∃gx,gx=w.heap.size:=⟨_,rfl⟩
 have ai:gx≠c.b:=by
  rw[D]
  obtain⟨aj,hc⟩:=zbC I.out.1.1
  have:=(Array.getElem?_eq_some_iff.1 hc).1
  omega
 rw[←D]
 rintro w1 ⟨J,N,V,hk⟩
 clear D U H M O Z L Y x5 p0 p1 p2 p3 p4 p5 pf ad
 have X:=zc J
 have A:=zc N
 have ac:=zc V
 have ab:=zc hk
 clear J N V hk
 obtain⟨M,O,Z,L,Y,x5,xf⟩:=zu X.out
 obtain⟨p0,p1,p2,p3,p4,p5,pf⟩:=zu A.out.2.2.1
 have H:=(Array.getElem?_eq_some_iff.1 A.out.2.2.1).1
 have ah:=(Array.getElem?_eq_some_iff.1 X.out).1
 have HN:=zc hn
 go_wp2_with fail
 go_region_with (first|(go_at_call 187;refine (zlO j _ HN.out).mono ?_;rintro e w2 ⟨rfl,K⟩;have z:=zc (((Below.refl w1.heap.size w1).drew).trans K);have E:=zc (A.out.later z.out);have X2:=zc ((z.out.block _ (Array.getElem?_eq_some_iff.1 X.out).1).trans X.out);clear K;obtain⟨y0,y1,y2,y3,y4,y5,yf⟩:=zu X2.out;obtain⟨q0,q1,q2,q3,q4,q5,qf⟩:=zu E.out.2.2.1;have ag:=(Array.getElem?_eq_some_iff.1 E.out.2.2.1).1;have af:=(Array.getElem?_eq_some_iff.1 X2.out).1)|(go_at_call 57;refine (zbu c t [strOfNums (zb2 j)] _ E.out (by have:=HL.out;rw[HT.out] at this;simp only[zr,List.foldl_cons,List.foldl_nil,ByteArray.size_append] at this ⊢;omega) (by simp)).mono ?_;rintro e w3 ⟨rfl,N,ae,aa⟩))
 all_goals (have V:=(z.out.mono A.out.1.2).trans ae;have hk:=(KeepB.of_below (b:=c.b) z.out).trans aa;go_wp2;go_end0;exact⟨rfl,(by rw[HT.out];exact N),ac.out.trans V,ab.out.trans hk⟩)
theorem zmD (c:PC) (t:ByteArray) (i:Nat) (z:Int) (j n:ByteArray) (l r:Int) (w:World) (h:PP c t w) (hi:i<c.m.ex.length) (H:c.m.ex.getD i zf=⟨2,z,j,n,l,r⟩) (o:(t++(j)).size≤140737488355328):
  Calls Tryz.prog 162 #[.pointer (some ⟨c.gp,0,none⟩),.int .i64 (i:Int)] w (PO c (t++(j)) w):=by
 have E:=zc h
 obtain⟨T,hT⟩: ∃T,T=j:=⟨_,rfl⟩
 rw[←hT] at o ⊢
 have HT:=zc hT
 have HL:=zc o
 clear h o hT
 obtain⟨p0,p1,p2,p3,p4,p5,pf⟩:=zu E.out.2.2.1
 obtain⟨g,hg,D,J,L,U,I,O,X⟩:=E.out.2.1.expr hi
 rw[H] at J L U I O X
 dsimp only at J L U I O X
 rw[hg] at p4
 have aa:(i:Int)<(c.m.ex.length:Int):=by omega
 clear hg H
 go_enter Tryz.func162,Tryz.ntmps162
 go_upto_region 1 with fail
 have M:Hid (Below w.heap.size w (w.alloc (.cells #[.int .i64 2,.int .i64 z,.string j,.string n,.int .i64 l,.int .i64 r] 108))):=(Below.refl _ _).alloc (Nat.le_refl _) _
 refine zah (R:=fun W=>W.heap[w.heap.size]? =some (.cells #[.int .i64 2,.int .i64 z,.string j,.string n,.int .i64 l,.int .i64 r] 108 (0,0))∧PP c t W∧Below c.B w W∧KeepB c.b w W) ⟨heap_alloc_new w _,E.out.later M.out,M.out.mono E.out.1.2,KeepB.of_below M.out⟩ ?_
 obtain⟨gx,q⟩: ∃gx,gx=w.heap.size:=⟨_,rfl⟩
 have ac:gx≠c.b:=by
  rw[q]
  obtain⟨ad,hc⟩:=zbC E.out.1.1
  have:=(Array.getElem?_eq_some_iff.1 hc).1
  omega
 rw[←q]
 rintro w1 ⟨H,K,N,V⟩
 clear q M D J L U I O X p0 p1 p2 p3 p4 p5 pf aa
 have X1:=zc H
 have A:=zc K
 have Z:=zc N
 have Y:=zc V
 clear H K N V
 obtain⟨J,L,U,I,O,X,xf⟩:=zu X1.out
 obtain⟨p0,p1,p2,p3,p4,p5,pf⟩:=zu A.out.2.2.1
 have D:=(Array.getElem?_eq_some_iff.1 A.out.2.2.1).1
 have ab:=(Array.getElem?_eq_some_iff.1 X1.out).1
 go_wp2_with fail
 go_region_with (go_at_call 57;refine (zbU c t [j] w1 A.out (by have:=HL.out;rw[HT.out] at this;simp only[zr,List.foldl_cons,List.foldl_nil,ByteArray.size_append] at this ⊢;omega) (by simp)).mono ?_;rintro e w2 ⟨rfl,K,N,V⟩)
 all_goals (go_wp2;go_end0;exact⟨rfl,(by rw[HT.out];exact K),Z.out.trans N,Y.out.trans V⟩)
theorem zmE (c:PC) (t:ByteArray) (i:Nat) (z:Int) (j n:ByteArray) (l r:Int) (w:World) (h:PP c t w) (hi:i<c.m.ex.length) (I:c.m.ex.getD i zf=⟨3,z,j,n,l,r⟩) (o:(t++(j++cParens)).size≤140737488355328):
  Calls Tryz.prog 162 #[.pointer (some ⟨c.gp,0,none⟩),.int .i64 (i:Int)] w (PO c (t++(j++cParens)) w):=by
 have H:=zc h
 obtain⟨T,hT⟩: ∃T,T=j++cParens:=⟨_,rfl⟩
 rw[←hT] at o ⊢
 have HT:=zc hT
 have HL:=zc o
 clear h o hT
 obtain⟨p0,p1,p2,p3,p4,p5,pf⟩:=zu H.out.2.2.1
 obtain⟨g,hg,D,K,L,U,J,O,X⟩:=H.out.2.1.expr hi
 rw[I] at K L U J O X
 dsimp only at K L U J O X
 rw[hg] at p4
 have aa:(i:Int)<(c.m.ex.length:Int):=by omega
 clear hg I
 go_enter Tryz.func162,Tryz.ntmps162
 go_upto_region 1 with fail
 have M:Hid (Below w.heap.size w (w.alloc (.cells #[.int .i64 3,.int .i64 z,.string j,.string n,.int .i64 l,.int .i64 r] 108))):=(Below.refl _ _).alloc (Nat.le_refl _) _
 refine zah (R:=fun W=>W.heap[w.heap.size]? =some (.cells #[.int .i64 3,.int .i64 z,.string j,.string n,.int .i64 l,.int .i64 r] 108 (0,0))∧PP c t W∧Below c.B w W∧KeepB c.b w W) ⟨heap_alloc_new w _,H.out.later M.out,M.out.mono H.out.1.2,KeepB.of_below M.out⟩ ?_
 obtain⟨gx,q⟩: ∃gx,gx=w.heap.size:=⟨_,rfl⟩
 have ac:gx≠c.b:=by
  rw[q]
  obtain⟨ad,hc⟩:=zbC H.out.1.1
  have:=(Array.getElem?_eq_some_iff.1 hc).1
  omega
 rw[←q]
 rintro w1 ⟨I,E,N,V⟩
 clear q M D K L U J O X p0 p1 p2 p3 p4 p5 pf aa
 have X1:=zc I
 have A:=zc E
 have Z:=zc N
 have Y:=zc V
 clear I E N V
 obtain⟨K,L,U,J,O,X,xf⟩:=zu X1.out
 obtain⟨p0,p1,p2,p3,p4,p5,pf⟩:=zu A.out.2.2.1
 have D:=(Array.getElem?_eq_some_iff.1 A.out.2.2.1).1
 have ab:=(Array.getElem?_eq_some_iff.1 X1.out).1
 go_wp2_with fail
 go_region_with (go_at_call 57;refine (zbU c t [j,cParens] w1 A.out (by have:=HL.out;rw[HT.out] at this;simp only[zr,List.foldl_cons,List.foldl_nil,ByteArray.size_append] at this ⊢;omega) (by simp)).mono ?_;rintro e w2 ⟨rfl,E,N,V⟩)
 all_goals (go_wp2;go_end0;exact⟨rfl,(by rw[HT.out];simp only[zr,List.foldl_cons,List.foldl_nil,←ByteArray.append_assoc] at E ⊢;exact E),Z.out.trans N,Y.out.trans V⟩)
theorem zmF (c:PC) (t:ByteArray) (i:Nat) (z:Int) (n j:ByteArray) (l r:Int) (w:World) (h:PP c t w) (hi:i<c.m.ex.length) (I:c.m.ex.getD i zf=⟨4,z,n,j,l,r⟩) (o:(t++(n++cPoint++j)).size≤140737488355328):
  Calls Tryz.prog 162 #[.pointer (some ⟨c.gp,0,none⟩),.int .i64 (i:Int)] w (PO c (t++(n++cPoint++j)) w):=by
 have H:=zc h
 obtain⟨T,hT⟩: ∃T,T=n++cPoint++j:=⟨_,rfl⟩
 rw[←hT] at o ⊢
 have HT:=zc hT
 have HL:=zc o
 clear h o hT
 obtain⟨p0,p1,p2,p3,p4,p5,pf⟩:=zu H.out.2.2.1
 obtain⟨g,hg,D,K,L,U,J,O,X⟩:=H.out.2.1.expr hi
 rw[I] at K L U J O X
 dsimp only at K L U J O X
 rw[hg] at p4
 have aa:(i:Int)<(c.m.ex.length:Int):=by omega
 clear hg I
 go_enter Tryz.func162,Tryz.ntmps162
 go_upto_region 1 with fail
 have M:Hid (Below w.heap.size w (w.alloc (.cells #[.int .i64 4,.int .i64 z,.string n,.string j,.int .i64 l,.int .i64 r] 108))):=(Below.refl _ _).alloc (Nat.le_refl _) _
 refine zah (R:=fun W=>W.heap[w.heap.size]? =some (.cells #[.int .i64 4,.int .i64 z,.string n,.string j,.int .i64 l,.int .i64 r] 108 (0,0))∧PP c t W∧Below c.B w W∧KeepB c.b w W) ⟨heap_alloc_new w _,H.out.later M.out,M.out.mono H.out.1.2,KeepB.of_below M.out⟩ ?_
 obtain⟨gx,q⟩: ∃gx,gx=w.heap.size:=⟨_,rfl⟩
 have ac:gx≠c.b:=by
  rw[q]
  obtain⟨ad,hc⟩:=zbC H.out.1.1
  have:=(Array.getElem?_eq_some_iff.1 hc).1
  omega
 rw[←q]
 rintro w1 ⟨I,E,N,V⟩
 clear q M D K L U J O X p0 p1 p2 p3 p4 p5 pf aa
 have X1:=zc I
 have A:=zc E
 have Z:=zc N
 have Y:=zc V
 clear I E N V
 obtain⟨K,L,U,J,O,X,xf⟩:=zu X1.out
 obtain⟨p0,p1,p2,p3,p4,p5,pf⟩:=zu A.out.2.2.1
 have D:=(Array.getElem?_eq_some_iff.1 A.out.2.2.1).1
 have ab:=(Array.getElem?_eq_some_iff.1 X1.out).1
 go_wp2_with fail
 go_region_with (go_at_call 57;refine (zbU c t [n,cPoint,j] w1 A.out (by have:=HL.out;rw[HT.out] at this;simp only[zr,List.foldl_cons,List.foldl_nil,ByteArray.size_append] at this ⊢;omega) (by simp)).mono ?_;rintro e w2 ⟨rfl,E,N,V⟩)
 all_goals (go_wp2;go_end0;exact⟨rfl,(by rw[HT.out];simp only[zr,List.foldl_cons,List.foldl_nil,←ByteArray.append_assoc] at E ⊢;exact E),Z.out.trans N,Y.out.trans V⟩)
theorem zmG (c:PC) (t:ByteArray) (i:Nat) (z:Int) (n j:ByteArray) (l r:Int) (w:World) (h:PP c t w) (hi:i<c.m.ex.length) (I:c.m.ex.getD i zf=⟨5,z,n,j,l,r⟩) (o:(t++(n++cPoint++j++cParens)).size≤140737488355328):
  Calls Tryz.prog 162 #[.pointer (some ⟨c.gp,0,none⟩),.int .i64 (i:Int)] w (PO c (t++(n++cPoint++j++cParens)) w):=by
 have H:=zc h
 obtain⟨T,hT⟩: ∃T,T=n++cPoint++j++cParens:=⟨_,rfl⟩
 rw[←hT] at o ⊢
 have HT:=zc hT
 have HL:=zc o
 clear h o hT
 obtain⟨p0,p1,p2,p3,p4,p5,pf⟩:=zu H.out.2.2.1
 obtain⟨g,hg,D,K,L,U,J,O,X⟩:=H.out.2.1.expr hi
 rw[I] at K L U J O X
 dsimp only at K L U J O X
 rw[hg] at p4
 have aa:(i:Int)<(c.m.ex.length:Int):=by omega
 clear hg I
 go_enter Tryz.func162,Tryz.ntmps162
 go_upto_region 1 with fail
 have M:Hid (Below w.heap.size w (w.alloc (.cells #[.int .i64 5,.int .i64 z,.string n,.string j,.int .i64 l,.int .i64 r] 108))):=(Below.refl _ _).alloc (Nat.le_refl _) _
 refine zah (R:=fun W=>W.heap[w.heap.size]? =some (.cells #[.int .i64 5,.int .i64 z,.string n,.string j,.int .i64 l,.int .i64 r] 108 (0,0))∧PP c t W∧Below c.B w W∧KeepB c.b w W) ⟨heap_alloc_new w _,H.out.later M.out,M.out.mono H.out.1.2,KeepB.of_below M.out⟩ ?_
 obtain⟨gx,q⟩: ∃gx,gx=w.heap.size:=⟨_,rfl⟩
 have ac:gx≠c.b:=by
  rw[q]
  obtain⟨ad,hc⟩:=zbC H.out.1.1
  have:=(Array.getElem?_eq_some_iff.1 hc).1
  omega
 rw[←q]
 rintro w1 ⟨I,E,N,V⟩
 clear q M D K L U J O X p0 p1 p2 p3 p4 p5 pf aa
 have X1:=zc I
 have A:=zc E
 have Z:=zc N
 have Y:=zc V
 clear I E N V
 obtain⟨K,L,U,J,O,X,xf⟩:=zu X1.out
 obtain⟨p0,p1,p2,p3,p4,p5,pf⟩:=zu A.out.2.2.1
 have D:=(Array.getElem?_eq_some_iff.1 A.out.2.2.1).1
 have ab:=(Array.getElem?_eq_some_iff.1 X1.out).1
 go_wp2_with fail
 go_region_with (go_at_call 57;refine (zbU c t [n,cPoint,j,cParens] w1 A.out (by have:=HL.out;rw[HT.out] at this;simp only[zr,List.foldl_cons,List.foldl_nil,ByteArray.size_append] at this ⊢;omega) (by simp)).mono ?_;rintro e w2 ⟨rfl,E,N,V⟩)
 all_goals (go_wp2;go_end0;exact⟨rfl,(by rw[HT.out];simp only[zr,List.foldl_cons,List.foldl_nil,←ByteArray.append_assoc] at E ⊢;exact E),Z.out.trans N,Y.out.trans V⟩)
theorem zmH (c:PC) (t:ByteArray) (i:Nat) (q:Int) (n j:ByteArray) (l r:Nat) (w:World) (h:PP c t w) (hi:i<c.m.ex.length) (I:c.m.ex.getD i zf=⟨6,q,n,j,(l:Int),(r:Int)⟩) (ab:zbX c l) (ac:zbX c r) (hr:r<c.m.ex.length) (o:(t++(prX c.m.ex l++tPlus++zC (zL (c.m.ex.getD r zf).kind) (prX c.m.ex r))).size≤140737488355328):
  Calls Tryz.prog 162 #[.pointer (some ⟨c.gp,0,none⟩),.int .i64 (i:Int)] w (PO c (t++(prX c.m.ex l++tPlus++zC (zL (c.m.ex.getD r zf).kind) (prX c.m.ex r))) w):=by
 have H:=zc h
 obtain⟨T,hT⟩: ∃T,T=prX c.m.ex l++tPlus++zC (zL (c.m.ex.getD r zf).kind) (prX c.m.ex r):=⟨_,rfl⟩
 rw[←hT] at o ⊢
 have HT:=zc hT
 have HL:=zc o
 clear h o hT
 obtain⟨p0,p1,p2,p3,p4,p5,pf⟩:=zu H.out.2.2.1
 obtain⟨g,hg,D,K,L,U,J,O,X⟩:=H.out.2.1.expr hi
 rw[I] at K L U J O X
 dsimp only at K L U J O X
 rw[hg] at p4
 have aa:(i:Int)<(c.m.ex.length:Int):=by omega
 clear hg I
 go_enter Tryz.func162,Tryz.ntmps162
 go_upto_region 1 with fail
 have M:Hid (Below w.heap.size w (w.alloc (.cells #[.int .i64 6,.int .i64 q,.string n,.string j,.int .i64 (l:Int),.int .i64 (r:Int)] 108))):=(Below.refl _ _).alloc (Nat.le_refl _) _
 refine zah (R:=fun W=>W.heap[w.heap.size]? =some (.cells #[.int .i64 6,.int .i64 q,.string n,.string j,.int .i64 (l:Int),.int .i64 (r:Int)] 108 (0,0))∧PP c t W∧Below c.B w W∧KeepB c.b w W) ⟨heap_alloc_new w _,H.out.later M.out,M.out.mono H.out.1.2,KeepB.of_below M.out⟩ ?_
 obtain⟨gx,z⟩: ∃gx,gx=w.heap.size:=⟨_,rfl⟩
 have af:gx≠c.b:=by
  rw[z]
  obtain⟨ag,hc⟩:=zbC H.out.1.1
  have:=(Array.getElem?_eq_some_iff.1 hc).1
  omega
 rw[←z]
 rintro w1 ⟨I,E,N,V⟩
 clear z M D K L U J O X p0 p1 p2 p3 p4 p5 pf aa
 have X1:=zc I
 have A:=zc E
 have Z:=zc N
 have Y:=zc V
 clear I E N V
 obtain⟨K,L,U,J,O,X,xf⟩:=zu X1.out
 obtain⟨p0,p1,p2,p3,p4,p5,pf⟩:=zu A.out.2.2.1
 have D:=(Array.getElem?_eq_some_iff.1 A.out.2.2.1).1
 have ae:=(Array.getElem?_eq_some_iff.1 X1.out).1
 go_wp2_with fail
 refine (ziv c t 6 q n j tPlus l r w1 ab ac hr A.out (by rw[←HT.out];exact HL.out)).mono ?_
 rw[←HT.out]
 rintro e w2 ⟨rfl,E,N,V⟩
 have ad:=zc E
 clear E
 go_wp2
 go_end0
 exact⟨rfl,ad.out,Z.out.trans N,Y.out.trans V⟩
theorem zmI (c:PC) (t:ByteArray) (i:Nat) (q:Int) (n j:ByteArray) (l r:Nat) (w:World) (h:PP c t w) (hi:i<c.m.ex.length) (I:c.m.ex.getD i zf=⟨7,q,n,j,(l:Int),(r:Int)⟩) (ab:zbX c l) (ac:zbX c r) (hr:r<c.m.ex.length) (o:(t++(prX c.m.ex l++tMinus++zC (zL (c.m.ex.getD r zf).kind) (prX c.m.ex r))).size≤140737488355328):
  Calls Tryz.prog 162 #[.pointer (some ⟨c.gp,0,none⟩),.int .i64 (i:Int)] w (PO c (t++(prX c.m.ex l++tMinus++zC (zL (c.m.ex.getD r zf).kind) (prX c.m.ex r))) w):=by
 have H:=zc h
 obtain⟨T,hT⟩: ∃T,T=prX c.m.ex l++tMinus++zC (zL (c.m.ex.getD r zf).kind) (prX c.m.ex r):=⟨_,rfl⟩
 rw[←hT] at o ⊢
 have HT:=zc hT
 have HL:=zc o
 clear h o hT
 obtain⟨p0,p1,p2,p3,p4,p5,pf⟩:=zu H.out.2.2.1
 obtain⟨g,hg,D,K,L,U,J,O,X⟩:=H.out.2.1.expr hi
 rw[I] at K L U J O X
 dsimp only at K L U J O X
 rw[hg] at p4
 have aa:(i:Int)<(c.m.ex.length:Int):=by omega
 clear hg I
 go_enter Tryz.func162,Tryz.ntmps162
 go_upto_region 1 with fail
 have M:Hid (Below w.heap.size w (w.alloc (.cells #[.int .i64 7,.int .i64 q,.string n,.string j,.int .i64 (l:Int),.int .i64 (r:Int)] 108))):=(Below.refl _ _).alloc (Nat.le_refl _) _
 refine zah (R:=fun W=>W.heap[w.heap.size]? =some (.cells #[.int .i64 7,.int .i64 q,.string n,.string j,.int .i64 (l:Int),.int .i64 (r:Int)] 108 (0,0))∧PP c t W∧Below c.B w W∧KeepB c.b w W) ⟨heap_alloc_new w _,H.out.later M.out,M.out.mono H.out.1.2,KeepB.of_below M.out⟩ ?_
 obtain⟨gx,z⟩: ∃gx,gx=w.heap.size:=⟨_,rfl⟩
 have af:gx≠c.b:=by
  rw[z]
  obtain⟨ag,hc⟩:=zbC H.out.1.1
  have:=(Array.getElem?_eq_some_iff.1 hc).1
  omega
 rw[←z]
 rintro w1 ⟨I,E,N,V⟩
 clear z M D K L U J O X p0 p1 p2 p3 p4 p5 pf aa
 have X1:=zc I
 have A:=zc E
 have Z:=zc N
 have Y:=zc V
 clear I E N V
 obtain⟨K,L,U,J,O,X,xf⟩:=zu X1.out
 obtain⟨p0,p1,p2,p3,p4,p5,pf⟩:=zu A.out.2.2.1
 have D:=(Array.getElem?_eq_some_iff.1 A.out.2.2.1).1
 have ae:=(Array.getElem?_eq_some_iff.1 X1.out).1
 go_wp2_with fail
 refine (ziv c t 7 q n j tMinus l r w1 ab ac hr A.out (by rw[←HT.out];exact HL.out)).mono ?_
 rw[←HT.out]
 rintro e w2 ⟨rfl,E,N,V⟩
 have ad:=zc E
 clear E
 go_wp2
 go_end0
 exact⟨rfl,ad.out,Z.out.trans N,Y.out.trans V⟩
theorem zmJ (c:PC) (t:ByteArray) (i:Nat) (ab:Int) (D j:ByteArray) (l r:Nat) (w:World) (h:PP c t w) (hi:i<c.m.ex.length) (hx:c.m.ex.getD i zf=⟨8,ab,D,j,(l:Int),(r:Int)⟩) (ae:zbX c l) (af:zbX c r) (hl:l<c.m.ex.length) (hr:r<c.m.ex.length) (A:(t++(zC (zL (c.m.ex.getD l zf).kind) (prX c.m.ex l)++tStar++zC (zT (c.m.ex.getD r zf).kind) (prX c.m.ex r))).size≤140737488355328):
  Calls Tryz.prog 162 #[.pointer (some ⟨c.gp,0,none⟩),.int .i64 (i:Int)] w (PO c (t++(zC (zL (c.m.ex.getD l zf).kind) (prX c.m.ex l)++tStar++zC (zT (c.m.ex.getD r zf).kind) (prX c.m.ex r))) w):=by
 have HP:=zc h
 obtain⟨T,hT⟩: ∃T,T=zC (zL (c.m.ex.getD l zf).kind) (prX c.m.ex l)++tStar++zC (zT (c.m.ex.getD r zf).kind) (prX c.m.ex r):=⟨_,rfl⟩
 rw[←hT] at A ⊢
 have HT:=zc hT
 have HL:=zc A
 clear h A hT
 obtain⟨p0,p1,p2,p3,Z,p5,pf⟩:=zu HP.out.2.2.1
 obtain⟨g,hg,o,L,N,U,K,O,V⟩:=HP.out.2.1.expr hi
 rw[hx] at L N U K O V
 dsimp only at L N U K O V
 rw[hg] at Z
 have am:(i:Int)<(c.m.ex.length:Int):=by omega
 clear hg hx
 go_enter Tryz.func162,Tryz.ntmps162
 go_upto_region 1 with fail
 have HW:Hid (Below w.heap.size w (w.alloc (.cells #[.int .i64 8,.int .i64 ab,.string D,.string j,.int .i64 (l:Int),.int .i64 (r:Int)] 108))):=(Below.refl _ _).alloc (Nat.le_refl _) _
 refine zah (R:=fun W=>W.heap[w.heap.size]? =some (.cells #[.int .i64 8,.int .i64 ab,.string D,.string j,.int .i64 (l:Int),.int .i64 (r:Int)] 108 (0,0))∧PP c t W∧Below c.B w W∧KeepB c.b w W) ⟨heap_alloc_new w _,HP.out.later HW.out,HW.out.mono HP.out.1.2,KeepB.of_below HW.out⟩ ?_
 obtain⟨gx,Y⟩: ∃gx,gx=w.heap.size:=⟨_,rfl⟩
 have ad:gx≠c.b:=by
  rw[Y]
  obtain⟨aq,hc⟩:=zbC HP.out.1.1
  have:=(Array.getElem?_eq_some_iff.1 hc).1
  omega
 rw[←Y]
 rintro M ⟨hx,q,z,n⟩
 clear Y HW o L N U K O V p0 p1 p2 p3 Z p5 pf am
 have X1:=zc hx
 have I:=zc q
 have al:=zc z
 have ak:=zc n
 clear hx q z n
 obtain⟨L,N,U,K,O,V,xf⟩:=zu X1.out
 obtain⟨p0,p1,p2,p3,Z,p5,pf⟩:=zu I.out.2.2.1
 have o:=(Array.getElem?_eq_some_iff.1 I.out.2.2.1).1
 have H:=(Array.getElem?_eq_some_iff.1 X1.out).1
 have ai:=zc ae
 have ag:=zc af
 have HR:=zc hr
 have ao:=zc hl
 obtain⟨kk,X⟩: ∃kk,(c.m.ex.getD r zf).kind=kk:=⟨_,rfl⟩
 obtain⟨kl,ac⟩: ∃kl,(c.m.ex.getD l zf).kind=kl:=⟨_,rfl⟩
 have HU:Hid (T=zC (zL kl) (prX c.m.ex l)++tStar++zC (zT kk) (prX c.m.ex r)):=by show _=_;rw[←X,←ac];exact HT.out
 have KK:=zc X
 have KL:=zc ac
 clear ae af hr hl X ac HT
 go_upto_region 17 with fail
 go_cut [] from 82 to 90 (fun wx=>PP c (t++zC (zL kl) (prX c.m.ex l)) wx∧Below c.B M wx∧KeepB c.b M wx)
 case first=>
  go_wp2_with fail
  have E:=zc (I.out.later ((Below.refl M.heap.size M).drew))
  go_region_with (first|(go_at_call 190;refine (zgg c _ l _ E.out ao.out).mono ?_;rintro e w' ⟨rfl,rfl⟩;rw[KL.out])|(go_at_call 158;refine (ze0 _ _).mono ?_;rintro e w' ⟨rfl,rfl⟩)|(go_at_call 189;refine (zfp c _ l (zL kl) _ ai.out E.out (by have:=HL.out;rw[HU.out] at this;simp only[ByteArray.size_append] at this ⊢;omega)).mono ?_;rintro e w2 ⟨rfl,q,z,n⟩))
  all_goals (go_wp2_with fail;go_meet;exact⟨q,(((Below.refl M.heap.size M).drew).mono I.out.1.2).trans z,(KeepB.of_below ((Below.refl M.heap.size M).drew)).trans n⟩)
 case rest=>
 obtain⟨q,z,n⟩:=hcut
 rename_i w2
 have aa:=zc q
 have aj:=zc (al.out.trans z)
 have an:=zc (ak.out.trans n)
 have X2:=zc ((n _ _ _ _ X1.out ad (by decide)).trans X1.out)
 clear q z n p0 p1 p2 p3 Z p5 pf L N U K O V xf o H
 obtain⟨L,N,U,K,O,V,xf⟩:=zu X2.out
 obtain⟨p0,p1,p2,p3,Z,p5,pf⟩:=zu aa.out.2.2.1
 have o:=(Array.getElem?_eq_some_iff.1 aa.out.2.2.1).1
 have H:=(Array.getElem?_eq_some_iff.1 X2.out).1
 go_wp2_with fail
 refine (zbu c _ [tStar] _ aa.out (by have:=HL.out;rw[HU.out] at this;simp only[zr,List.foldl_cons,List.foldl_nil,ByteArray.size_append] at this ⊢;omega) (by simp)).mono ?_
 rintro e w3 ⟨rfl,q,z,n⟩
 have J:=zc q
 have ah:=zc (aj.out.trans z)
 have ap:=zc (an.out.trans n)
 have X3:=zc ((n _ _ _ _ X2.out ad (by decide)).trans X2.out)
 clear q z n p0 p1 p2 p3 Z p5 pf L N U K O V xf o H
 obtain⟨L,N,U,K,O,V,xf⟩:=zu X3.out
 obtain⟨p0,p1,p2,p3,Z,p5,pf⟩:=zu J.out.2.2.1
 have o:=(Array.getElem?_eq_some_iff.1 J.out.2.2.1).1
 have H:=(Array.getElem?_eq_some_iff.1 X3.out).1
 go_wp2_with fail
 have E:=zc (J.out.later ((Below.refl w3.heap.size w3).drew))
 go_region_with (first|(go_at_call 190;refine (zgg c _ r _ E.out HR.out).mono ?_;rintro e w' ⟨rfl,rfl⟩;rw[KK.out])|(go_at_call 113;refine (zhU _ _).mono ?_;rintro e w' ⟨rfl,rfl⟩)|(go_at_call 189;refine (zfp c _ r (zT kk) _ ag.out E.out (by have:=HL.out;rw[HU.out] at this;simp only[zr,List.foldl_cons,List.foldl_nil,ByteArray.size_append] at this ⊢;omega)).mono ?_;rintro e w4 ⟨rfl,q,z,n⟩))
 all_goals (go_wp2;go_end0;exact⟨rfl,(by rw[HU.out];simp only[zr,List.foldl_cons,List.foldl_nil,←ByteArray.append_assoc] at q ⊢;exact q),ah.out.trans ((((Below.refl w3.heap.size w3).drew).mono J.out.1.2).trans z),ap.out.trans ((KeepB.of_below ((Below.refl w3.heap.size w3).drew)).trans n)⟩)
theorem zmK (c:PC) (t:ByteArray) (i:Nat) (k z:Int) (o j:ByteArray) (l r:Int) (w:World) (h:PP c t w) (hi:i<c.m.ex.length) (H:c.m.ex.getD i zf=⟨k,z,o,j,l,r⟩) (k1:(k==1)=false) (k2:(k==2)=false) (k3:(k==3)=false) (k4:(k==4)=false) (k5:(k==5)=false) (k6:(k==6)=false) (k7:(k==7)=false) (k8:(k==8)=false) (n:(t++(sNone)).size≤140737488355328):
  Calls Tryz.prog 162 #[.pointer (some ⟨c.gp,0,none⟩),.int .i64 (i:Int)] w (PO c (t++(sNone)) w):=by
 have E:=zc h
 obtain⟨T,Z⟩: ∃T,T=sNone:=⟨_,rfl⟩
 rw[←Z] at n ⊢
 have HT:=zc Z
 have HL:=zc n
 clear h n Z
 obtain⟨p0,p1,p2,p3,Y,p5,pf⟩:=zu E.out.2.2.1
 obtain⟨g,hg,D,J,K,N,I,M,O⟩:=E.out.2.1.expr hi
 rw[H] at J K N I M O
 dsimp only at J K N I M O
 rw[hg] at Y
 have X:(i:Int)<(c.m.ex.length:Int):=by omega
 clear hg H
 go_enter Tryz.func162,Tryz.ntmps162
 go_upto_region 1 with fail
 have L:Hid (Below w.heap.size w (w.alloc (.cells #[.int .i64 k,.int .i64 z,.string o,.string j,.int .i64 l,.int .i64 r] 108))):=(Below.refl _ _).alloc (Nat.le_refl _) _
 refine zah (R:=fun W=>W.heap[w.heap.size]? =some (.cells #[.int .i64 k,.int .i64 z,.string o,.string j,.int .i64 l,.int .i64 r] 108 (0,0))∧PP c t W∧Below c.B w W∧KeepB c.b w W) ⟨heap_alloc_new w _,E.out.later L.out,L.out.mono E.out.1.2,KeepB.of_below L.out⟩ ?_
 obtain⟨gx,q⟩: ∃gx,gx=w.heap.size:=⟨_,rfl⟩
 have ab:gx≠c.b:=by
  rw[q]
  obtain⟨ac,hc⟩:=zbC E.out.1.1
  have:=(Array.getElem?_eq_some_iff.1 hc).1
  omega
 rw[←q]
 rintro w1 ⟨H,hp,hb,hk⟩
 clear q L D J K N I M O p0 p1 p2 p3 Y p5 pf X
 have X1:=zc H
 have A:=zc hp
 have V:=zc hb
 have U:=zc hk
 clear H hp hb hk
 obtain⟨J,K,N,I,M,O,xf⟩:=zu X1.out
 obtain⟨p0,p1,p2,p3,Y,p5,pf⟩:=zu A.out.2.2.1
 have D:=(Array.getElem?_eq_some_iff.1 A.out.2.2.1).1
 have aa:=(Array.getElem?_eq_some_iff.1 X1.out).1
 go_wp2
 go_end0
 exact⟨rfl,(by rw[HT.out,show t++sNone=t from ByteArray.append_empty];exact A.out),V.out,U.out⟩
theorem zmL (c:PC) (hn:zbg c.m.ex) (ha:zbf c.m.ex) (n:Nat): ∀i,i<n→i<c.m.ex.length→zbX c i:=by
 induction n with
 |zero=>intro i E;omega
 |succ n Z=>
  intro i aa E t w h q
  by_cases Y:i<n
  ·exact Z i Y E t w h q
  ·have J: ∀j,j<i→zbX c j:=fun j hj=>Z j (by omega) (by omega)
   have I:=hn (c.m.ex.getD i zf) (by rw[zdf E];exact List.getElem_mem E)
   have D:=zeL ha (i:=i)
   rw[zfC ha] at q ⊢
   obtain⟨x,H⟩: ∃x,c.m.ex.getD i zf=x:=⟨_,rfl⟩
   rw[H] at q I D ⊢
   obtain⟨k,A,z,o,l,r⟩:=x
   simp only at q I D ⊢
   by_cases V:(k==1)=true
   ·rw[if_pos V] at q ⊢
    have e:=eq_of_beq V
    subst e
    exact zmC c t i A z o l r w h E H I q
   rw[if_neg V] at q ⊢
   by_cases X:(k==2)=true
   ·rw[if_pos X] at q ⊢
    have e:=eq_of_beq X
    subst e
    exact zmD c t i A z o l r w h E H q
   rw[if_neg X] at q ⊢
   by_cases K:(k==3)=true
   ·rw[if_pos K] at q ⊢
    have e:=eq_of_beq K
    subst e
    exact zmE c t i A z o l r w h E H q
   rw[if_neg K] at q ⊢
   by_cases L:(k==4)=true
   ·rw[if_pos L] at q ⊢
    have e:=eq_of_beq L
    subst e
    exact zmF c t i A z o l r w h E H q
   rw[if_neg L] at q ⊢
   by_cases U:(k==5)=true
   ·rw[if_pos U] at q ⊢
    have e:=eq_of_beq U
    subst e
    exact zmG c t i A z o l r w h E H q
   rw[if_neg U] at q ⊢
   by_cases M:(k==6)=true
   ·rw[if_pos M] at q ⊢
    have e:=eq_of_beq M
    subst e
    have D:=D (by decide)
    obtain⟨l,rfl⟩: ∃n:Nat,l=(n:Int):=⟨l.toNat,by omega⟩
    obtain⟨r,rfl⟩: ∃n:Nat,r=(n:Int):=⟨r.toNat,by omega⟩
    simp only[Int.toNat_natCast] at q ⊢
    exact zmH c t i A z o l r w h E H (J l (by omega)) (J r (by omega)) (by omega) q
   rw[if_neg M] at q ⊢
   by_cases N:(k==7)=true
   ·rw[if_pos N] at q ⊢
    have e:=eq_of_beq N
    subst e
    have D:=D (by decide)
    obtain⟨l,rfl⟩: ∃n:Nat,l=(n:Int):=⟨l.toNat,by omega⟩
    obtain⟨r,rfl⟩: ∃n:Nat,r=(n:Int):=⟨r.toNat,by omega⟩
    simp only[Int.toNat_natCast] at q ⊢
    exact zmI c t i A z o l r w h E H (J l (by omega)) (J r (by omega)) (by omega) q
   rw[if_neg N] at q ⊢
   by_cases O:(k==8)=true
   ·rw[if_pos O] at q ⊢
    have e:=eq_of_beq O
    subst e
    have D:=D (by decide)
    obtain⟨l,rfl⟩: ∃n:Nat,l=(n:Int):=⟨l.toNat,by omega⟩
    obtain⟨r,rfl⟩: ∃n:Nat,r=(n:Int):=⟨r.toNat,by omega⟩
    simp only[Int.toNat_natCast] at q ⊢
    exact zmJ c t i A z o l r w h E H (J l (by omega)) (J r (by omega)) (by omega) (by omega) q
   rw[if_neg O] at q ⊢
   exact zmK c t i k A z o l r w h E H (Bool.eq_false_iff.2 V) (Bool.eq_false_iff.2 X) (Bool.eq_false_iff.2 K) (Bool.eq_false_iff.2 L) (Bool.eq_false_iff.2 U) (Bool.eq_false_iff.2 M) (Bool.eq_false_iff.2 N) (Bool.eq_false_iff.2 O) q
theorem zmM (j:Nat) (S:Sv) (m:Md) (ac:Bool) (w:World) (h:OwnMd w j S m) (U:Small m) (E:Tree m→(zb6 m).size≤140737488355328):
  Calls Tryz.prog 17 #[zt S m,.bool ac] w fun e w'=>PrintOut (zb6 m) m e∧Below w.heap.size w w':=by
 have X:=zc h
 have SM:=zc U
 have HU:=zc E
 obtain⟨f1,f2,f3,f4,f5⟩:=U.few
 clear h U E
 unfold zt
 go_enter Tryz.func17,Tryz.ntmps17
 go_wp2_with fail
 refine (zml j S m _ (X.out.alloc _) f5 f4).mono ?_
 rintro e o ⟨⟨b,rfl,I⟩,z⟩
 have HT:=zc I
 have n:Hid (Below w.heap.size w o):=((Below.refl _ _).alloc (Nat.le_refl _) _).trans (z.mono (by rw[zj];omega))
 have A:Hid (o.heap[w.heap.size]? =some (.cells #[.slice S.rq.a m.rq.length S.rq.cap,.slice S.im.a m.im.length S.im.cap,.slice S.ep.a m.ep.length S.ep.cap,.slice S.st.a m.st.length S.st.cap,.slice S.ex.a m.ex.length S.ex.cap] 28 (0,0))):=(z.block _ (by rw[zj];omega)).trans (heap_alloc_new w _)
 have H:=zc (X.out.later n.out)
 clear I z
 cases b with
 |false=>
  go_wp2
  go_ret
  exact⟨.inr ⟨(fun t=>by have:=HT.out.2 t;cases this),rfl⟩,n.out⟩
 |true=>
  have O:=zc (HT.out.1 rfl)
  have HZ:=zc (HU.out O.out)
  go_upto_region 4 with fail
  have q:Hid (Below o.heap.size o (o.alloc (.cells #[.pointer none,.slice none 0 0] 87))):=(Below.refl _ _).alloc (Nat.le_refl _) _
  have hz:=(Array.getElem?_eq_some_iff.1 A.out).1
  refine zah (R:=fun W=>(Lib.IsBuilder 87 5 o.heap.size o.heap.size [] W∧o.heap.size≤W.heap.size)∧OwnMd W j S m∧W.heap[w.heap.size]? =some (.cells #[.slice S.rq.a m.rq.length S.rq.cap,.slice S.im.a m.im.length S.im.cap,.slice S.ep.a m.ep.length S.ep.cap,.slice S.st.a m.st.length S.st.cap,.slice S.ex.a m.ex.length S.ex.cap] 28 (0,0))∧Below w.heap.size w W) ⟨⟨Lib.fresh_isBuilder _ _ o,q.out.size⟩,H.out.later q.out,(q.out.block _ hz).trans A.out,n.out.trans (q.out.mono n.out.size)⟩ ?_
  obtain⟨b,D⟩: ∃b,b=o.heap.size:=⟨_,rfl⟩
  have K:w.heap.size≤b:=by rw[D];exact n.out.size
  rw[←D]
  rintro W ⟨⟨M,ad⟩,ho,hx,I⟩
  clear hz q A H n X D o
  have BL:=zc M
  have HO:=zc ho
  have HX:=zc hx
  have HB:=zc I
  clear M ho hx I
  obtain⟨c0,c1,c2,c3,c4,cf⟩:=zk HX.out
  go_upto_region 6 with fail
  have q:Hid (Below W.heap.size W (W.alloc (.cells #[.slice S.rq.a m.rq.length S.rq.cap,.slice S.im.a m.im.length S.im.cap,.slice S.ep.a m.ep.length S.ep.cap,.slice S.st.a m.st.length S.st.cap,.slice S.ex.a m.ex.length S.ex.cap,.func (.func 57) #[] #[.pointer (some ⟨b,0,none⟩)]] 95))):=(Below.refl _ _).alloc (Nat.le_refl _) _
  have ab:Hid (PP ⟨b,b,W.heap.size,j,S,m⟩ sNone (W.alloc (.cells #[.slice S.rq.a m.rq.length S.rq.cap,.slice S.im.a m.im.length S.im.cap,.slice S.ep.a m.ep.length S.ep.cap,.slice S.st.a m.st.length S.st.cap,.slice S.ex.a m.ex.length S.ex.cap,.func (.func 57) #[] #[.pointer (some ⟨b,0,none⟩)]] 95))):=by
   refine⟨⟨zia BL.out q.out,Nat.le_trans ad q.out.size⟩,HO.out.later q.out,heap_alloc_new W _,?_⟩
   obtain⟨ae,hc⟩:=zbC BL.out
   have:=(Array.getElem?_eq_some_iff.1 hc).1
   show W.heap.size≠b
   omega
  have V:=zc (HB.out.trans (q.out.mono HB.out.size))
  go_wp2_with fail
  refine (zmB ⟨b,b,W.heap.size,j,S,m⟩ _ (fun i hi=>zmL _ SM.out.nums O.out.ahead _ i hi hi) O.out.stm SM.out ab.out HZ.out).mono ?_
  rintro e w3 ⟨rfl,hp,J,aa⟩
  have N:=zc hp
  have Y:=zc (V.out.trans (J.mono K))
  clear hp J aa c0 c1 c2 c3 c4 cf
  go_wp2_with fail
  refine (Tryz.Builder_String_any b b (zb6 m).data.toList w3 N.out.1.1 N.out.1.2).mono ?_
  rintro e w4 ⟨rfl,L⟩
  have Z:=zc (Y.out.trans (L.mono K))
  clear L
  go_wp2
  go_ret
  exact⟨.inl ⟨O.out,rfl⟩,Z.out⟩
theorem zgh {C:Cx} {j:Bool} {q:PS} {x:PS×Ep} (h:zbl C j q= .ok x):q.pos<x.1.pos:=by
 obtain⟨a,w,A⟩:=zi h
 obtain⟨b,z,o⟩:=zi A
 have n:=zej z
 rw[(zbe w).1] at n
 cases o
 exact n
def ziw (C:Cx) (gt cap base gp:Nat) (t:TypeId) (size:Nat) (f:Ep→List Value) (y:PRL) (S:Sv) (w:World) (e:Ending) (w':World):Prop:=
 match y with
 | .ok a=>∃r S',e= .returned (.slice r.a a.2.length r.cap)∧IM C gt cap base gp S' a.1 w'∧IS gp S w S' w'∧Fr t size w' w.heap.size r a.2.length (a.2.flatMap f) S'∧0<a.2.length∧a.2.length≤4000
 | .error p=>e=Pan p∧Below base w w'
theorem zix {C:Cx} {A n j z:Nat} {S:Sv} {q:PS} {w:World} (h:IM C A n j z S q w) (t:TypeId) (size:Nat):Fr t size (w.alloc (.cells #[] t)) w.heap.size ⟨some ⟨w.heap.size,0,none⟩,0⟩ 0 [] S:=by
 refine⟨World.ownsRow_lit w #[] 0 (Nat.le_refl _) (by unfold maxLen;omega) (Nat.zero_mul _).symm,fun k g o=>?_⟩
 have D:w.heap.size=k:=by simpa [Rw.blk,Value.ownBlock] using g
 have:=(h.mem.own.has o).2
 omega
theorem zmN (C:Cx) (M o j z:Nat) (S:Sv) (q:PS) (w:World) (h:IM C M o j z S q w):
  Calls Tryz.prog 175 #[.pointer (some ⟨z,0,none⟩)] w (ziw C M o j z 100 3 (fun e=>imL (zaN e)) (zav C false q []) S w):=by
 obtain⟨i0,hi,an,ap,am⟩:=info_parts Tryz.infoImp
 have HH:=zc h
 clear h
 go_enter Tryz.func175,Tryz.ntmps175
 go_wp2
 go_loopg [3] (C.ts.length+1) (fun k v wr=>∃(N:Sv) (L:PS) (r:Rw) (l:List Ep),v= .slice r.a l.length r.cap∧zav C false q []=zav C false L l∧C.ts.length-L.pos<k∧l.length+(C.ts.length-L.pos)≤C.ts.length∧IM C M o j z N L wr∧IS z S w N wr∧Fr 100 3 wr w.heap.size r l.length (l.flatMap (fun e=>imL (zaN e))) N)
 case atStart=>exact⟨S,q,⟨some ⟨w.heap.size,0,none⟩,0⟩,[],rfl,rfl,by omega,by simp,HH.out.alloc _,(IS.refl _ _ _).alloc _,zix HH.out _ _⟩
 case round=>
  obtain⟨N,L,r,l,rfl,hy,hk,hl,m',s',f'⟩:=hrel
  have HY:=zc hy
  have HZ:=zc (HY.out.trans (zhQ C false L l))
  have ae:Hid (IM C M o j z N L wr):=m'
  have ah:Hid (IS z S w N wr):=s'
  have ao:Hid (Fr 100 3 wr w.heap.size r l.length (l.flatMap (fun e=>imL (zaN e))) N):=f'
  have av:=m'.mem.few
  clear hy m' s' f'
  go_wp2_with fail
  refine (zmd C M o j z N L _ ae.out).mono ?_
  cases Y:zbl C false L with
  |error p=>
   rintro e O ⟨rfl,hb⟩
   have HB:Hid (Below j w O):=(HH.out.back ah.out).trans hb
   have HX:Hid (zav C false q []= .error p):=bdE HZ.out Y
   unfold Pan
   go_wp2
   refine⟨rfl,?_⟩
   rw[HX.out]
   exact⟨rfl,HB.out⟩
  |ok n=>
   rintro e O ⟨rfl,A,m,s⟩
   have D:Hid (Fr 100 3 O w.heap.size r l.length (l.flatMap (fun e=>imL (zaN e))) A):=ao.out.step ae.out (by decide) s
   have H:=zc m
   have ai:Hid (IS z S w A O):=ah.out.trans s
   clear m s
   have af:=zc (bdO HZ.out Y)
   have aw:=zgh Y
   have ay:=H.out.mem.inv.pos
   unfold imV
   have V:=fun o1=>(D.out.later ((Below.refl O.heap.size O).alloc (Nat.le_refl _) o1)).1
   have aa:=fun o1=>(ai.out.alloc o1).size
   go_wp2_with (at_builtin;refine zcl _ rfl _ _ 23 rfl w.heap.size 100 i0 _ 3 48 Tryz.underlying23 hi an ap am rfl (by decide) (by decide) r l.length _ (by rfl) (V _) O.heap.size (imL (zaN n.2)) (by rfl) (by exact heap_alloc_new O _) rfl (zhk _) (by omega) (aa _) ?_;intro U w2 hr X ab;have HR:Hid (OwnR w2 w.heap.size 100 3 U (l.length+1) _):=hr;have K:Hid (IM C M o j z A n.1 w2):=(H.out.alloc _).aside X (fun k g=>⟨D.out.2 k g,D.out.ngp H.out (by decide) g,D.out.ngt H.out (by decide) g⟩);have aj:Hid (IS z S w A w2):=(ai.out.alloc _).aside X (fun k g=>(D.out.1.typed g).1);have ac:Hid (Fr 100 3 w2 w.heap.size U (l.length+1) _ A):=(D.out.later ((Below.refl _ _).alloc (Nat.le_refl _) _)).grown (H.out.alloc _) hr ab;clear hr X ab V aa)
   have el:(l++[n.2]).length=l.length+1:=by simp
   have ag:Hid (Fr 100 3 w2 w.heap.size U (l++[n.2]).length ((l++[n.2]).flatMap (fun e=>imL (zaN e))) A):=by
    show Fr ..
    rw[el,List.flatMap_append]
    simpa using ac.out
   have E:=zc el
   clear el ac HR
   go_wp2_with fail
   cases hc:isT C n.1.pos 4 zbp with
   |true=>
    have ax:=zaz hc (by decide)
    have HC:=zc (af.out.trans (if_pos hc))
    refine (zH C M o j z A (n.1) 4 zbp _ K.out (by decide)).mono ?_
    rintro e w3 ⟨rfl,m,s⟩
    rw[hc] at m ⊢
    have I:=zc m
    have J:Hid (IS z S w A w3):=aj.out.trans s
    have ad:=s
    clear m s
    have Z:Hid (Fr 100 3 w3 w.heap.size U (l++[n.2]).length ((l++[n.2]).flatMap (fun e=>imL (zaN e))) A):=ag.out.step K.out (by decide) ad
    clear ad
    go_wp2
    go_roundg (gk-1)
    case rel=>exact⟨A,adv n.1,U,l++[n.2],by rw[E.out],HC.out,by rw[zw];omega,by rw[zw,E.out];omega,I.out,J.out,Z.out⟩
    case measure=>omega
   |false=>
    have HC:=zc (af.out.trans (if_neg (by rw[hc];decide)))
    refine (zH C M o j z A (n.1) 4 zbp _ K.out (by decide)).mono ?_
    rintro e w3 ⟨rfl,m,s⟩
    rw[hc] at m ⊢
    have I:=zc m
    have J:Hid (IS z S w A w3):=aj.out.trans s
    have Z:Hid (Fr 100 3 w3 w.heap.size U (l++[n.2]).length ((l++[n.2]).flatMap (fun e=>imL (zaN e))) A):=ag.out.step K.out (by decide) s
    clear m s
    go_wp2_with fail
    refine (zbQ C M o j z A n.1 125 _ I.out).mono ?_
    cases ak:zd C 4 zbd n.1 with
    |error p=>
     rintro e w4 ⟨rfl,hb⟩
     have HB:Hid (Below j w w4):=(HH.out.back J.out).trans hb
     have HX:Hid (zav C false q []= .error p):=bdE HC.out ak
     unfold Pan
     go_wp2
     refine⟨rfl,?_⟩
     rw[HX.out]
     exact⟨rfl,HB.out⟩
    |ok a4=>
     rintro e w4 ⟨rfl,S4,m,s⟩
     have ar:Hid (Fr 100 3 w4 w.heap.size U (l++[n.2]).length ((l++[n.2]).flatMap (fun e=>imL (zaN e))) S4):=Z.out.step I.out (by decide) s
     have aq:=zc m
     have au:Hid (IS z S w S4 w4):=J.out.trans s
     clear m s
     have al:=zc (bdO HC.out ak)
     go_wp2
     go_ret
     rw[al.out]
     exact⟨U,S4,by rw[E.out];rfl,aq.out,au.out,ar.out,by show 0<(l++[n.2]).length;rw[E.out];omega,by show (l++[n.2]).length≤4000;rw[E.out];omega⟩
def impFromI (C:Cx) (l:List Ep) (q:PS):PR:=bd (zd C 1 zP q) fun a=>bd (zG C a) fun b=>bd (zd C 4 cSemi b.1) fun c=>zR (fun e=>zao C (zb8 b.2 e)) l (.ok c)
theorem zfr {α:Type} (f:α→PS→PR) (p:Nat): ∀l:List α,zR f l (.error p)= .error p
 |[]=>rfl
 |_::l=>zfr f p l
theorem zgi {α:Type} (f:α→PS→PR) {l:List α} {j:Nat} {x:α} (h:l[j]? =some x) (q:PS):zR f (l.drop j) (.ok q)=zR f (l.drop (j+1)) (f x q):=by
 obtain⟨n,rfl⟩:=List.getElem?_eq_some_iff.1 h
 rw[List.drop_eq_getElem_cons n]
 rfl
theorem zmO {C:Cx} {x:Im} {q a:PS} (h:zao C x q= .ok a):a.pos=q.pos:=by
 unfold zao at h
 split at h
 ·cases h
 ·cases h
  rfl
theorem ziy {C:Cx} {x:Ep} {q a:PS} (h:zn C x q= .ok a):a.pos=q.pos:=by
 unfold zn at h
 split at h
 ·cases h
 ·split at h
  ·cases h
   rfl
  ·cases h
   rfl
theorem ze1 {α:Type} {l:List α} {j:Nat} (h:j<l.length): ∃x,l[j]? =some x:=⟨_,List.getElem?_eq_getElem h⟩
theorem zmP (C:Cx) (I o n z b0 g:Nat) (r:Rw) (S:Sv) (q:PS) (l:List Ep) (w:World) (h:IM C I o n z S q w) (hC:zaV C) (hl:l.length≤4000) (hf:Fr 100 3 w b0 r l.length (l.flatMap (fun e=>imL (zaN e))) S) (hg:r.a=some ⟨g,0,none⟩):
  Calls Tryz.prog 174 #[.pointer (some ⟨z,0,none⟩),.slice (some ⟨g,0,none⟩) l.length r.cap] w (zN C I o n z (impFromI C l q) id (fun _=>.tuple #[]) S w):=by
 have V:=zc h
 have HF:=zc hf
 have HG:=zc hg
 have HY:=zc (impFromI.eq_1 C l q)
 clear h hf hg
 go_enter Tryz.func174,Tryz.ntmps174
 go_wp2_with fail
 refine (zdH C I o n z S q zP _ V.out).mono ?_
 cases af:zd C 1 zP q with
 |error p=>
  rintro e w1 ⟨rfl,U⟩
  have J:Hid (Below n w w1):=(V.out.back (IS.refl _ _ _)).trans U
  have N:Hid (impFromI C l q= .error p):=bdE HY.out af
  unfold Pan
  go_wp2
  refine⟨rfl,?_⟩
  rw[N.out]
  exact⟨rfl,J.out⟩
 |ok a1=>
  rintro e w1 ⟨rfl,S1,m,s⟩
  have av:Hid (Fr 100 3 w1 b0 r l.length (l.flatMap (fun e=>imL (zaN e))) S1):=HF.out.step V.out (by decide) s
  have ae:=zc m
  have ab:=zc s
  clear m s
  have X:=zc (bdO HY.out af)
  go_wp2_with fail
  refine (zfa C I o n z S1 a1 _ ae.out hC).mono ?_
  cases ac:zG C a1 with
  |error p=>
   rintro e w2 ⟨rfl,U⟩
   have J:Hid (Below n w w2):=(V.out.back ab.out).trans U
   have N:Hid (impFromI C l q= .error p):=bdE X.out ac
   unfold Pan
   go_wp2
   refine⟨rfl,?_⟩
   rw[N.out]
   exact⟨rfl,J.out⟩
  |ok a2=>
   rintro e w2 ⟨rfl,S2,m,s⟩
   have al:Hid (Fr 100 3 w2 b0 r l.length (l.flatMap (fun e=>imL (zaN e))) S2):=av.out.step ae.out (by decide) s
   have ah:=zc m
   have ak:Hid (IS z S w S2 w2):=ab.out.trans s
   clear m s
   have aj:=zc (bdO X.out ac)
   go_wp2_with fail
   refine (zbQ C I o n z S2 a2.1 59 _ ah.out).mono ?_
   cases L:zd C 4 cSemi (a2.1) with
   |error p=>
    rintro e w3 ⟨rfl,U⟩
    have J:Hid (Below n w w3):=(V.out.back ak.out).trans U
    have N:Hid (impFromI C l q= .error p):=bdE aj.out L
    unfold Pan
    go_wp2
    refine⟨rfl,?_⟩
    rw[N.out]
    exact⟨rfl,J.out⟩
   |ok a3=>
    rintro e w3 ⟨rfl,S3,m,s⟩
    have ay:Hid (Fr 100 3 w3 b0 r l.length (l.flatMap (fun e=>imL (zaN e))) S3):=al.out.step ah.out (by decide) s
    have ar:=zc m
    have aq:Hid (IS z S w S3 w3):=ak.out.trans s
    clear m s
    have az:=zc (bdO aj.out L)
    have aa:0<a3.pos:=by rw[(zb0 L).1];exact Nat.succ_pos _
    generalize ap:a2.2=sp at*
    clear ap
    go_wp2
    go_loopg [15] l.length (fun k i wr=>∃(j:Nat) (E:Sv) (H:PS),i= .int .i64 j∧j+k=l.length∧impFromI C l q=zR (fun e=>zao C (zb8 sp e)) (l.drop j) (.ok H)∧0<H.pos∧IM C I o n z E H wr∧IS z S w E wr∧Fr 100 3 wr b0 r l.length (l.flatMap (fun e=>imL (zaN e))) E)
    case atStart=>exact⟨0,S3,a3,rfl,by omega,az.out,aa,ar.out,aq.out,ay.out⟩
    case round=>
     obtain⟨j,E,H,rfl,hj,hy,ad,m',s',f'⟩:=hrel
     have Z:=zc hy
     have D:Hid (IM C I o n z E H wr):=m'
     have O:Hid (IS z S w E wr):=s'
     have K:Hid (Fr 100 3 wr b0 r l.length (l.flatMap (fun e=>imL (zaN e))) E):=f'
     clear hy m' s' f'
     by_cases aw:j<l.length
     ·have ai:(j:Int)<(l.length:Int):=by omega
      obtain⟨x,hx⟩:=ze1 aw
      obtain⟨g',ag,A⟩:=OwnR.elem (f:=fun e=>imL (zaN e)) (m:=3) (fun _=>rfl) K.out.1 hx
      have eg:g'=g:=by have:=ag.symm.trans HG.out;simpa using this
      subst eg
      have k0:=A 0 (by omega)
      have k1:=A 1 (by omega)
      have k2:=A 2 (by omega)
      simp only[imL,zaN,Nat.add_zero,List.getElem?_cons_zero,List.getElem?_cons_succ] at k0 k1 k2
      have HZ:=zc (Z.out.trans (zgi (fun e=>zao C (zb8 sp e)) hx H))
      clear A ag hx
      obtain⟨Y,M⟩: ∃Y,Y=j+1:=⟨_,rfl⟩
      have ej:(j:Int)+1=(Y:Int):=by omega
      rw[←M] at HZ
      have aA:=(Array.getElem?_eq_some_iff.1 (K.out.1.typed (by rw[Rw.blk,HG.out];rfl)).2.2.choose_spec).1
      have aB:=D.out.lt
      have HJ:=zc M
      clear M
      go_wp2_with fail
      refine (zk1 C I o n z E H (zb8 sp x) _ (D.out.alloc _) ad).mono ?_
      cases hn:zao C (zb8 sp x) H with
      |error p=>
       rintro e w5 ⟨rfl,U⟩
       have J:Hid (Below n w w5):=(V.out.back (O.out.alloc _)).trans U
       have N:Hid (impFromI C l q= .error p):=by show _=_;rw[HZ.out,hn];exact zfr _ _ _
       unfold Pan
       go_wp2
       refine⟨rfl,?_⟩
       rw[N.out]
       exact⟨rfl,J.out⟩
      |ok a5=>
       rintro e w5 ⟨rfl,S5,m,s⟩
       have ax:=zc m
       have an:Hid (IS z S w S5 w5):=(O.out.alloc _).trans s
       have ao:Hid (Fr 100 3 w5 b0 r l.length (l.flatMap (fun e=>imL (zaN e))) S5):=(K.out.later ((Below.refl _ _).alloc (Nat.le_refl _) _)).step (D.out.alloc _) (by decide) s
       have au:Hid (impFromI C l q=zR (fun e=>zao C (zb8 sp e)) (l.drop Y) (.ok a5)):=by show _=_;rw[HZ.out,hn]
       have am:Hid (0<a5.pos):=by show 0<a5.pos;rw[zmO hn];exact ad
       clear m s
       go_wp2
       go_roundg (gk-1)
       case rel=>exact⟨Y,S5,a5,rfl,by have:=HJ.out;omega,au.out,am.out,ax.out,an.out,ao.out⟩
       case measure=>omega
     ·have ai: ¬(j:Int)<(l.length:Int):=by omega
      have HZ:Hid (impFromI C l q= .ok H):=by show _=_;rw[Z.out,List.drop_eq_nil_of_le (by omega)];rfl
      go_wp2
      go_end0
      rw[HZ.out]
      exact⟨rfl,E,D.out,O.out⟩
theorem zgj (C:Cx) (z n j o b0:Nat) (r:Rw) (S:Sv) (q:PS) (l:List Ep) (w:World) (h:IM C z n j o S q w) (I:zaV C) (E:l.length≤4000) (H:l.length≠0) (D:Fr 100 3 w b0 r l.length (l.flatMap (fun e=>imL (zaN e))) S):
  Calls Tryz.prog 174 #[.pointer (some ⟨o,0,none⟩),.slice r.a l.length r.cap] w (zN C z n j o (impFromI C l q) id (fun _=>.tuple #[]) S w):=by
 rcases D.1.nil_or with ⟨_,_,e⟩|⟨g,A⟩
 ·exact absurd e H
 ·rw[A]
  exact zmP C z n j o b0 g r S q l w h I E D A
theorem ziz {C:Cx} {A n j z:Nat} {S:Sv} {q:PS} {w:World} (h:IM C A n j z S q w) (t:TypeId) (xs:List Value):Fr t xs.length (w.alloc (.cells xs.toArray t)) w.heap.size ⟨some ⟨w.heap.size,0,none⟩,1⟩ 1 xs S:=by
 refine⟨?_,fun k g o=>?_⟩
 ·have:=World.ownsRow_lit (e:=t) (size:=xs.length) w xs.toArray 1 (Nat.le_refl _) (by unfold maxLen;omega) (by simp)
  simpa [OwnR] using this
 ·have D:w.heap.size=k:=by simpa [Rw.blk,Value.ownBlock] using g
  have:=(h.mem.own.has o).2
  omega
def zaE (C:Cx) (q:PS):PR:=
 if (ze C q.pos).kind==3 then bd (zG C q) fun a=>zd C 4 cSemi a.1
 else if isT C q.pos 4 zF then bd (zav C false (adv q) []) fun a=>impFromI C a.2 a.1
 else if isT C q.pos 4 zv then bd (zd C 1 sAs (adv q)) fun a=>bd (zh C false a) fun b=>impFromI C [⟨0,b.2,zv,sNone⟩] b.1
 else bd (zh C false q) fun b=>impFromI C [⟨0,b.2,sDefault,sNone⟩] b.1
theorem zmQ (C:Cx) (A n j o:Nat) (S:Sv) (q:PS) (w:World) (h:IM C A n j o S q w) (hC:zaV C) (hk:((ze C q.pos).kind==3)=true):
  Calls Tryz.prog 149 #[.pointer (some ⟨o,0,none⟩)] w (zN C A n j o (zaE C q) id (fun _=>.tuple #[]) S w):=by
 have K:=zc h
 have aa:=zc1
 have HY:Hid (zaE C q=bd (zG C q) fun a=>zd C 4 cSemi a.1):=if_pos hk
 clear h
 go_enter Tryz.func149,Tryz.ntmps149
 go_wp2_with fail
 refine (zbk C A n j o S q _ K.out).mono ?_
 rintro e w1 ⟨rfl,z⟩
 unfold tkV
 have V:Hid (IM C A n j o S q w1):=K.out.later z
 have H:Hid (IS o S w S w1):=IS.below z
 clear z
 go_wp2_with fail
 refine (zfa C A n j o S q _ V.out hC).mono ?_
 cases I:zG C q with
 |error p=>
  rintro e Z ⟨rfl,z⟩
  have M:Hid (Below j w Z):=(K.out.back H.out).trans z
  have X:Hid (zaE C q= .error p):=bdE HY.out I
  unfold Pan
  go_wp2
  refine⟨rfl,?_⟩
  rw[X.out]
  exact⟨rfl,M.out⟩
 |ok a2=>
  rintro e Z ⟨rfl,S2,m,s⟩
  have U:=zc m
  have J:Hid (IS o S w S2 Z):=H.out.trans s
  clear m s
  have E:=zc (bdO HY.out I)
  go_wp2_with fail
  refine (zbQ C A n j o S2 a2.1 59 _ U.out).mono ?_
  cases D:zd C 4 cSemi a2.1 with
  |error p=>
   rintro e L ⟨rfl,z⟩
   have M:Hid (Below j w L):=(K.out.back J.out).trans z
   have X:Hid (zaE C q= .error p):=E.out.trans D
   unfold Pan
   go_wp2
   refine⟨rfl,?_⟩
   rw[X.out]
   exact⟨rfl,M.out⟩
  |ok a3=>
   rintro e L ⟨rfl,S3,m,s⟩
   have N:=zc m
   have O:Hid (IS o S w S3 L):=J.out.trans s
   clear m s
   have Y:=zc (E.out.trans D)
   go_wp2
   go_end0
   rw[Y.out]
   exact⟨rfl,S3,N.out,O.out⟩
theorem zmR (C:Cx) (A n j o:Nat) (S:Sv) (q:PS) (w:World) (h:IM C A n j o S q w) (hC:zaV C) (hk:((ze C q.pos).kind==3)=false) (h1:isT C q.pos 4 zF=true):
  Calls Tryz.prog 149 #[.pointer (some ⟨o,0,none⟩)] w (zN C A n j o (zaE C q) id (fun _=>.tuple #[]) S w):=by
 have K:=zc h
 have ad:=zc1
 have HY:Hid (zaE C q=bd (zav C false (adv q) []) fun a=>impFromI C a.2 a.1):=by show _=_;rw[zaE,hk,h1];rfl
 clear h
 go_enter Tryz.func149,Tryz.ntmps149
 go_wp2_with fail
 refine (zbk C A n j o S q _ K.out).mono ?_
 rintro e w1 ⟨rfl,z⟩
 unfold tkV
 have Z:Hid (IM C A n j o S q w1):=K.out.later z
 have ab:Hid (IS o S w S w1):=IS.below z
 clear z
 go_wp2_with fail
 refine (zH C A n j o S q 4 zF _ Z.out (by decide)).mono ?_
 rintro e w2 ⟨rfl,m,s⟩
 rw[h1] at m ⊢
 have V:=zc m
 have I:Hid (IS o S w S w2):=ab.out.trans s
 clear m s
 go_wp2_with fail
 refine (zmN C A n j o S (adv q) _ V.out).mono ?_
 cases E:zav C false (adv q) [] with
 |error p=>
  rintro e N ⟨rfl,z⟩
  have O:Hid (Below j w N):=(K.out.back I.out).trans z
  have HX:Hid (zaE C q= .error p):=bdE HY.out E
  unfold Pan
  go_wp2
  refine⟨rfl,?_⟩
  rw[HX.out]
  exact⟨rfl,O.out⟩
 |ok L=>
  rintro e N ⟨r,S3,rfl,m,s,f,l0,l1⟩
  have U:=zc m
  have D:Hid (IS o S w S3 N):=I.out.trans s
  have X:=zc f
  clear m s f
  have H:=zc (bdO HY.out E)
  go_wp2_with fail
  refine (zgj C A n j o _ r S3 L.1 L.2 _ U.out hC l1 (by omega) X.out).mono ?_
  cases J:impFromI C L.2 L.1 with
  |error p=>
   rintro e Y ⟨rfl,z⟩
   have O:Hid (Below j w Y):=(K.out.back D.out).trans z
   have HX:Hid (zaE C q= .error p):=H.out.trans J
   unfold Pan
   go_wp2
   refine⟨rfl,?_⟩
   rw[HX.out]
   exact⟨rfl,O.out⟩
  |ok a4=>
   rintro e Y ⟨rfl,S4,m,s⟩
   have aa:=zc m
   have ac:Hid (IS o S w S4 Y):=D.out.trans s
   clear m s
   have M:=zc (H.out.trans J)
   go_wp2
   go_end0
   rw[M.out]
   exact⟨rfl,S4,aa.out,ac.out⟩
theorem zmS (C:Cx) (A n j o:Nat) (S:Sv) (q:PS) (w:World) (h:IM C A n j o S q w) (hC:zaV C) (hk:((ze C q.pos).kind==3)=false) (h1:isT C q.pos 4 zF=false) (h2:isT C q.pos 4 zv=true):
  Calls Tryz.prog 149 #[.pointer (some ⟨o,0,none⟩)] w (zN C A n j o (zaE C q) id (fun _=>.tuple #[]) S w):=by
 have J:=zc h
 have aj:=zc1
 have HY:Hid (zaE C q=bd (zd C 1 sAs (adv q)) fun a=>bd (zh C false a) fun b=>impFromI C [⟨0,b.2,zv,sNone⟩] b.1):=by show _=_;rw[zaE,hk,h1,h2];rfl
 clear h
 go_enter Tryz.func149,Tryz.ntmps149
 go_wp2_with fail
 refine (zbk C A n j o S q _ J.out).mono ?_
 rintro e w1 ⟨rfl,z⟩
 unfold tkV
 have ae:Hid (IM C A n j o S q w1):=J.out.later z
 have ag:Hid (IS o S w S w1):=IS.below z
 clear z
 go_wp2_with fail
 refine (zH C A n j o S q 4 zF _ ae.out (by decide)).mono ?_
 rintro e w2 ⟨rfl,m,s⟩
 rw[h1] at m ⊢
 have ac:=zc m
 have ai:Hid (IS o S w S w2):=ag.out.trans s
 clear m s
 go_wp2_with fail
 refine (zH C A n j o S q 4 zv _ ac.out (by decide)).mono ?_
 rintro e w3 ⟨rfl,m,s⟩
 rw[h2] at m ⊢
 have ab:=zc m
 have I:Hid (IS o S w S w3):=ai.out.trans s
 clear m s
 go_wp2_with fail
 refine (zdH C A n j o S (adv q) sAs _ ab.out).mono ?_
 cases X:zd C 1 sAs (adv q) with
 |error p=>
  rintro e w4 ⟨rfl,z⟩
  have H:Hid (Below j w w4):=(J.out.back I.out).trans z
  have L:Hid (zaE C q= .error p):=bdE HY.out X
  unfold Pan
  go_wp2
  refine⟨rfl,?_⟩
  rw[L.out]
  exact⟨rfl,H.out⟩
 |ok a4=>
  rintro e w4 ⟨rfl,S4,m,s⟩
  have af:=zc m
  have O:Hid (IS o S w S4 w4):=I.out.trans s
  clear m s
  have E:=zc (bdO HY.out X)
  go_wp2_with fail
  refine (zcM C A n j o S4 a4 _ af.out).mono ?_
  cases U:zh C false a4 with
  |error p=>
   rintro e Y ⟨rfl,z⟩
   have H:Hid (Below j w Y):=(J.out.back O.out).trans z
   have L:Hid (zaE C q= .error p):=bdE E.out U
   unfold Pan
   go_wp2
   refine⟨rfl,?_⟩
   rw[L.out]
   exact⟨rfl,H.out⟩
  |ok N=>
   rintro e Y ⟨rfl,S5,m,s⟩
   have V:=zc m
   have M:Hid (IS o S w S5 Y):=O.out.trans s
   clear m s
   have K:=zc (bdO E.out U)
   go_wp2_with fail
   refine (zgj C A n j o _ ⟨some ⟨Y.heap.size,0,none⟩,1⟩ S5 N.1 [⟨0,N.2,zv,sNone⟩] _ (V.out.alloc _) hC (by simp) (by simp) (ziz V.out 100 (imL (zaN ⟨0,N.2,zv,sNone⟩)))).mono ?_
   cases D:impFromI C [⟨0,N.2,zv,sNone⟩] N.1 with
   |error p=>
    rintro e Z ⟨rfl,z⟩
    have H:Hid (Below j w Z):=(J.out.back (M.out.alloc _)).trans z
    have L:Hid (zaE C q= .error p):=K.out.trans D
    unfold Pan
    go_wp2
    refine⟨rfl,?_⟩
    rw[L.out]
    exact⟨rfl,H.out⟩
   |ok a6=>
    rintro e Z ⟨rfl,S6,m,s⟩
    have ah:=zc m
    have aa:Hid (IS o S w S6 Z):=(M.out.alloc _).trans s
    clear m s
    have ad:=zc (K.out.trans D)
    go_wp2
    go_end0
    rw[ad.out]
    exact⟨rfl,S6,ah.out,aa.out⟩
theorem zmT (C:Cx) (z n j o:Nat) (S:Sv) (q:PS) (w:World) (h:IM C z n j o S q w) (hC:zaV C) (hk:((ze C q.pos).kind==3)=false) (h1:isT C q.pos 4 zF=false) (h2:isT C q.pos 4 zv=false):
  Calls Tryz.prog 149 #[.pointer (some ⟨o,0,none⟩)] w (zN C z n j o (zaE C q) id (fun _=>.tuple #[]) S w):=by
 have M:=zc h
 have ae:=zc1
 have HY:Hid (zaE C q=bd (zh C false q) fun b=>impFromI C [⟨0,b.2,sDefault,sNone⟩] b.1):=by show _=_;rw[zaE,hk,h1,h2];rfl
 clear h
 go_enter Tryz.func149,Tryz.ntmps149
 go_wp2_with fail
 refine (zbk C z n j o S q _ M.out).mono ?_
 rintro e w1 ⟨rfl,A⟩
 unfold tkV
 have Y:Hid (IM C z n j o S q w1):=M.out.later A
 have ab:Hid (IS o S w S w1):=IS.below A
 clear A
 go_wp2_with fail
 refine (zH C z n j o S q 4 zF _ Y.out (by decide)).mono ?_
 rintro e w2 ⟨rfl,m,s⟩
 rw[h1] at m ⊢
 have V:=zc m
 have ac:Hid (IS o S w S w2):=ab.out.trans s
 clear m s
 go_wp2_with fail
 refine (zH C z n j o S q 4 zv _ V.out (by decide)).mono ?_
 rintro e w3 ⟨rfl,m,s⟩
 rw[h2] at m ⊢
 have U:=zc m
 have E:Hid (IS o S w S w3):=ac.out.trans s
 clear m s
 go_wp2_with fail
 refine (zcM C z n j o S q _ U.out).mono ?_
 cases L:zh C false q with
 |error p=>
  rintro e N ⟨rfl,A⟩
  have O:Hid (Below j w N):=(M.out.back E.out).trans A
  have HX:Hid (zaE C q= .error p):=bdE HY.out L
  unfold Pan
  go_wp2
  refine⟨rfl,?_⟩
  rw[HX.out]
  exact⟨rfl,O.out⟩
 |ok H=>
  rintro e N ⟨rfl,S4,m,s⟩
  have I:=zc m
  have J:Hid (IS o S w S4 N):=E.out.trans s
  clear m s
  have D:=zc (bdO HY.out L)
  go_wp2_with fail
  refine (zgj C z n j o _ ⟨some ⟨N.heap.size,0,none⟩,1⟩ S4 H.1 [⟨0,H.2,sDefault,sNone⟩] _ (I.out.alloc _) hC (by simp) (by simp) (ziz I.out 100 (imL (zaN ⟨0,H.2,sDefault,sNone⟩)))).mono ?_
  cases K:impFromI C [⟨0,H.2,sDefault,sNone⟩] H.1 with
  |error p=>
   rintro e Z ⟨rfl,A⟩
   have O:Hid (Below j w Z):=(M.out.back (J.out.alloc _)).trans A
   have HX:Hid (zaE C q= .error p):=D.out.trans K
   unfold Pan
   go_wp2
   refine⟨rfl,?_⟩
   rw[HX.out]
   exact⟨rfl,O.out⟩
  |ok a5=>
   rintro e Z ⟨rfl,S5,m,s⟩
   have ad:=zc m
   have aa:Hid (IS o S w S5 Z):=(J.out.alloc _).trans s
   clear m s
   have X:=zc (D.out.trans K)
   go_wp2
   go_end0
   rw[X.out]
   exact⟨rfl,S5,ad.out,aa.out⟩
theorem zmU (C:Cx) (z n j o:Nat) (S:Sv) (q:PS) (w:World) (h:IM C z n j o S q w) (D:zaV C):
  Calls Tryz.prog 149 #[.pointer (some ⟨o,0,none⟩)] w (zN C z n j o (zaE C q) id (fun _=>.tuple #[]) S w):=by
 cases A:((ze C q.pos).kind==3) with
 |true=>exact zmQ C z n j o S q w h D A
 |false=>
  cases E:isT C q.pos 4 zF with
  |true=>exact zmR C z n j o S q w h D A E
  |false=>
   cases H:isT C q.pos 4 zv with
   |true=>exact zmS C z n j o S q w h D A E H
   |false=>exact zmT C z n j o S q w h D A E H
end Go.Proofs.YticdggnnpjachaaGreat
