/-
  What impl's imp answers: the walk.
  What impl's exp answers: the walk.
  What impl's kind answers,and side,if expr answers so: the walks.
  What impl's stmt answers,if expr answers so: the walk.
  What impl's program of the printer answers,if expr answers so: the walk.
  What impl's sum answers,if expr answers so,and what expr answers,kind by kind: the walks.
  What impl's expr answers,whole. No walk is zq.
  What impl.Print answers: the walk.
  What importList of impl's parser answers: the walk.
  What importFrom of impl's parser answers: the walk.
  What importItem of impl's parser answers: the walks.
-/
import Derived.Deep.CutBlock
import Derived.Deep.RegionWith
import Derived.Test.YticdggnnpjachaaGreatCcImplBuilderToImplPrintB
namespace Go.Proofs.YticdggnnpjachaaGreat
set_option maxRecDepth 100000
set_option maxHeartbeats 12800000
open Go.RowKit Go.PlainAid Go.Sort
theorem zbU (c:PC) (t:ByteArray) (j:List ByteArray) (w:World) (h:PP c t w) (n:(zr t j).size≤140737488355328) (z:j.length≤4294967296):
  Calls Tryz.prog 57 #[.slice (some ⟨w.heap.size,0,none⟩) j.length j.length,.pointer (some ⟨c.b,0,none⟩)] (w.alloc (.cells (j.map Value.string).toArray 9)).drew (PO c (zr t j) w):=by
 have o:Below w.heap.size w (w.alloc (.cells (j.map Value.string).toArray 9)).drew:=((Below.refl _ _).alloc (Nat.le_refl _) _).drew
 refine (zib c t j w.heap.size _ (h.later o) (heap_alloc_new w _) n z).mono ?_
 rintro e H ⟨q,D,E,A⟩
 exact⟨q,D,(o.mono h.1.2).trans E,(KeepB.of_below o).trans A⟩
def zbV (x:Im):ByteArray:=
 if x.first.toList==[42] then ({data:=#[105,109,112,111,114,116,32]}:ByteArray)++({data:=#[42,32,97,115,32]}:ByteArray)++x.loc
 else if x.first.toList==[100,101,102,97,117,108,116] then ({data:=#[105,109,112,111,114,116,32]}:ByteArray)++x.loc
 else ({data:=#[105,109,112,111,114,116,32]}:ByteArray)++zb7 x.first x.loc
theorem zmv {x:Im} (e:(x.first.toList==[42])=true):zbV x=({data:=#[105,109,112,111,114,116,32]}:ByteArray)++({data:=#[42,32,97,115,32]}:ByteArray)++x.loc:=by rw[zbV,e];rfl
theorem zmw {x:Im} (e:(x.first.toList==[42])=false) (h:(x.first.toList==[100,101,102,97,117,108,116])=true):zbV x=({data:=#[105,109,112,111,114,116,32]}:ByteArray)++x.loc:=by rw[zbV,e,h];rfl
theorem zmx {x:Im} (e:(x.first.toList==[42])=false) (h:(x.first.toList==[100,101,102,97,117,108,116])=false):zbV x=({data:=#[105,109,112,111,114,116,32]}:ByteArray)++zb7 x.first x.loc:=by rw[zbV,e,h];rfl
theorem zbD (a b:Array UInt8):(⟨a++b⟩:ByteArray)=⟨a⟩++⟨b⟩:=by
 apply ByteArray.ext
 simp
theorem zdR (x:Im):zV x=zbV x++({data:=#[32,102,114,111,109,32]}:ByteArray)++zar x.spec++({data:=#[59]}:ByteArray)++({data:=#[10]}:ByteArray):=by
 have o:({data:=#[59,10]}:ByteArray)={data:=#[59]}++{data:=#[10]}:=zbD #[59] #[10]
 have n:({data:=#[105,109,112,111,114,116,32,42,32,97,115,32]}:ByteArray)={data:=#[105,109,112,111,114,116,32]}++{data:=#[42,32,97,115,32]}:=zbD #[105,109,112,111,114,116,32] #[42,32,97,115,32]
 have j:({data:=#[105,109,112,111,114,116,32,123,32]}:ByteArray)={data:=#[105,109,112,111,114,116,32]}++{data:=#[123,32]}:=zbD #[105,109,112,111,114,116,32] #[123,32]
 have h:({data:=#[32,125,32,102,114,111,109,32]}:ByteArray)={data:=#[32,125]}++{data:=#[32,102,114,111,109,32]}:=zbD #[32,125] #[32,102,114,111,109,32]
 unfold zV zbV zb7
 rw[o,n,j,h]
 split
 ·simp only[ByteArray.append_assoc]
 ·split<;>simp only[ByteArray.append_assoc]
theorem zmy (x:Im):(({data:=#[105,109,112,111,114,116,32]}:ByteArray)).size≤(zV x).size:=by
 rw[zdR,zbV]
 split
 ·simp only[ByteArray.size_append];omega
 ·split<;>(simp only[ByteArray.size_append];omega)
theorem zmz (c:PC) (t:ByteArray) (x:Im) (w:World) (h:PP c t w) (z:(t++zV x).size≤140737488355328) (h1:x.spec.size≤1099511627776):
  Calls Tryz.prog 118 #[.pointer (some ⟨c.gp,0,none⟩),imV x] w (PO c (t++zV x) w):=by
 have HP:=zc h
 have J:=zc z
 clear h z
 have HZ:Hid (t.size+(zV x).size≤140737488355328∧(({data:=#[105,109,112,111,114,116,32]}:ByteArray)).size≤(zV x).size):=⟨by have:=J.out;rw[ByteArray.size_append] at this;exact this,zmy x⟩
 unfold imV
 go_enter Tryz.func118,Tryz.ntmps118
 go_upto_region 1 with fail
 have HW:Hid (Below w.heap.size w (w.alloc (.cells #[.string x.spec,.string x.first,.string x.loc] 100))):=(Below.refl _ _).alloc (Nat.le_refl _) _
 refine zah (R:=fun W=>W.heap[w.heap.size]? =some (.cells #[.string x.spec,.string x.first,.string x.loc] 100 (0,0))∧PP c t W∧Below c.B w W∧KeepB c.b w W) ⟨heap_alloc_new w _,HP.out.later HW.out,HW.out.mono HP.out.1.2,KeepB.of_below HW.out⟩ ?_
 obtain⟨gx,E⟩: ∃gx,gx=w.heap.size:=⟨_,rfl⟩
 have M:gx≠c.b:=by
  rw[E]
  obtain⟨ag,hc⟩:=zbC HP.out.1.1
  have:=(Array.getElem?_eq_some_iff.1 hc).1
  omega
 rw[←E]
 rintro W ⟨hx,hp,hb,hk⟩
 clear E HW
 have X:=zc hx
 have H:=zc hp
 have V:=zc hb
 have N:=zc hk
 clear hx hp hb hk
 obtain⟨x0,x1,x2,xf⟩:=zbt X.out
 obtain⟨p0,p1,p2,p3,p4,p5,pf⟩:=zu H.out.2.2.1
 go_wp2_with fail
 refine (zbu c t [{data:=#[105,109,112,111,114,116,32]}] W H.out (by have:=HZ.out;simp only[zr,List.foldl_cons,List.foldl_nil,ByteArray.size_append] at this ⊢;omega) (by simp)).mono ?_
 rintro e U ⟨rfl,K,Y,D⟩
 have q:=zc K
 have ab:=zc (V.out.trans Y)
 have aa:=zc (N.out.trans D)
 have X1:=zc ((D _ _ _ _ X.out M (by decide)).trans X.out)
 clear K Y D p0 p1 p2 p3 p4 p5 pf x0 x1 x2 xf H V N X
 obtain⟨x0,x1,x2,xf⟩:=zbt X1.out
 obtain⟨p0,p1,p2,p3,p4,p5,pf⟩:=zu q.out.2.2.1
 have Z:=(Array.getElem?_eq_some_iff.1 q.out.2.2.1).1
 have L:=(Array.getElem?_eq_some_iff.1 X1.out).1
 have z:=J.out
 go_upto_block 0 with fail
 go_cut [] from 12 to 37 (fun wx=>PP c (t++zbV x) wx∧Below c.B U wx∧KeepB c.b U wx)
 case first=>
  cases e1:(x.first.toList==[42]) with
  |true=>
   have A:Hid (zbV x=({data:=#[105,109,112,111,114,116,32]}:ByteArray)++({data:=#[42,32,97,115,32]}:ByteArray)++x.loc):=zmv e1
   go_wp2_with fail
   go_region_with (go_at_call 57;refine (zbU c _ [{data:=#[42,32,97,115,32]},x.loc] U q.out (by have:=J.out;rw[zdR,A.out] at this;simp only[zr,List.foldl_cons,List.foldl_nil,ByteArray.size_append] at this ⊢;omega) (by simp)).mono ?_;rintro e w2 ⟨rfl,j,o,n⟩)
   all_goals (go_wp2_with fail;go_meet;exact⟨by rw[A.out];simp only[zr,List.foldl_cons,List.foldl_nil,←ByteArray.append_assoc] at j ⊢;exact j,o,n⟩)
  |false=>
   cases e2:(x.first.toList==[100,101,102,97,117,108,116]) with
   |true=>
    have A:Hid (zbV x=({data:=#[105,109,112,111,114,116,32]}:ByteArray)++x.loc):=zmw e1 e2
    go_wp2_with fail
    go_region_with (go_at_call 57;refine (zbU c _ [x.loc] U q.out (by have:=J.out;rw[zdR,A.out] at this;simp only[zr,List.foldl_cons,List.foldl_nil,ByteArray.size_append] at this ⊢;omega) (by simp)).mono ?_;rintro e w2 ⟨rfl,j,o,n⟩)
    all_goals (go_wp2_with fail;go_meet;exact⟨by rw[A.out];simp only[zr,List.foldl_cons,List.foldl_nil,←ByteArray.append_assoc] at j ⊢;exact j,o,n⟩)
   |false=>
    have A:Hid (zbV x=({data:=#[105,109,112,111,114,116,32]}:ByteArray)++zb7 x.first x.loc):=zmx e1 e2
    go_wp2_with fail
    refine (zgf c _ x.first x.loc U q.out (by have:=J.out;rw[zdR,A.out] at this;simp only[zr,List.foldl_cons,List.foldl_nil,ByteArray.size_append] at this ⊢;omega)).mono ?_
    rintro e w2 ⟨rfl,j,o,n⟩
    go_wp2_with fail
    go_meet
    exact⟨by rw[A.out];simp only[zr,List.foldl_cons,List.foldl_nil,←ByteArray.append_assoc] at j ⊢;exact j,o,n⟩
 case rest=>
 obtain⟨j,o,n⟩:=hcut
 rename_i w2
 have I:=zc j
 have ac:=zc (ab.out.trans o)
 have ad:=zc (aa.out.trans n)
 have X2:=zc ((n _ _ _ _ X1.out M (by decide)).trans X1.out)
 clear j o n p0 p1 p2 p3 p4 p5 pf x0 x1 x2 xf Z L
 obtain⟨p0,p1,p2,p3,p4,p5,pf⟩:=zu I.out.2.2.1
 obtain⟨x0,x1,x2,xf⟩:=zbt X2.out
 have Z:=(Array.getElem?_eq_some_iff.1 I.out.2.2.1).1
 have L:=(Array.getElem?_eq_some_iff.1 X2.out).1
 go_wp2_with fail
 go_region_with (first|(go_at_call 117;refine (zfo x.spec _ h1).mono ?_;rintro e w' ⟨rfl,rfl⟩)|(go_at_call 57;refine (zbU c _ [{data:=#[32,102,114,111,109,32]},zar x.spec,{data:=#[59]},{data:=#[10]}] _ I.out (by have:=J.out;rw[zdR] at this;simp only[zr,List.foldl_cons,List.foldl_nil,ByteArray.size_append] at this ⊢;omega) (by simp)).mono ?_;rintro e w3 ⟨rfl,O,af,ae⟩))
 all_goals (go_wp2;go_end0;exact⟨rfl,(by rw[zdR];simp only[zr,List.foldl_cons,List.foldl_nil,←ByteArray.append_assoc] at O ⊢;exact O),ac.out.trans af,ad.out.trans ae⟩)
def zbW (x:Ep):ByteArray:=
 if x.kind==3 then ({data:=#[101,120,112,111,114,116,32]}:ByteArray)++({data:=#[42,32,102,114,111,109,32]}:ByteArray)++zar x.spec
 else if x.kind==2 then ({data:=#[101,120,112,111,114,116,32]}:ByteArray)++zb7 x.loc x.name++({data:=#[32,102,114,111,109,32]}:ByteArray)++zar x.spec
 else ({data:=#[101,120,112,111,114,116,32]}:ByteArray)++zb7 x.loc x.name
theorem zm0 {x:Ep} (e:(x.kind==3)=true):zbW x=({data:=#[101,120,112,111,114,116,32]}:ByteArray)++({data:=#[42,32,102,114,111,109,32]}:ByteArray)++zar x.spec:=by rw[zbW,e];rfl
theorem zm1 {x:Ep} (e:(x.kind==3)=false) (h:(x.kind==2)=true):zbW x=({data:=#[101,120,112,111,114,116,32]}:ByteArray)++zb7 x.loc x.name++({data:=#[32,102,114,111,109,32]}:ByteArray)++zar x.spec:=by rw[zbW,e,h];rfl
theorem zm2 {x:Ep} (e:(x.kind==3)=false) (h:(x.kind==2)=false):zbW x=({data:=#[101,120,112,111,114,116,32]}:ByteArray)++zb7 x.loc x.name:=by rw[zbW,e,h];rfl
theorem zdr (x:Ep):zaY x=zbW x++({data:=#[59]}:ByteArray)++({data:=#[10]}:ByteArray):=by
 have j:({data:=#[59,10]}:ByteArray)={data:=#[59]}++{data:=#[10]}:=zbD #[59] #[10]
 have q:({data:=#[101,120,112,111,114,116,32,42,32,102,114,111,109,32]}:ByteArray)={data:=#[101,120,112,111,114,116,32]}++{data:=#[42,32,102,114,111,109,32]}:=zbD #[101,120,112,111,114,116,32] #[42,32,102,114,111,109,32]
 have h:({data:=#[101,120,112,111,114,116,32,123,32]}:ByteArray)={data:=#[101,120,112,111,114,116,32]}++{data:=#[123,32]}:=zbD #[101,120,112,111,114,116,32] #[123,32]
 have o:({data:=#[32,125,32,102,114,111,109,32]}:ByteArray)={data:=#[32,125]}++{data:=#[32,102,114,111,109,32]}:=zbD #[32,125] #[32,102,114,111,109,32]
 have n:({data:=#[32,125,59,10]}:ByteArray)={data:=#[32,125]}++{data:=#[59,10]}:=zbD #[32,125] #[59,10]
 unfold zaY zbW zb7
 rw[n,j,q,h,o]
 split
 ·simp only[ByteArray.append_assoc]
 ·split<;>simp only[ByteArray.append_assoc]
theorem zm3 (x:Ep):(({data:=#[101,120,112,111,114,116,32]}:ByteArray)).size≤(zaY x).size:=by
 rw[zdr,zbW]
 split
 ·simp only[ByteArray.size_append];omega
 ·split<;>(simp only[ByteArray.size_append];omega)
theorem zm4 (c:PC) (t:ByteArray) (x:Ep) (w:World) (h:PP c t w) (E:(t++zaY x).size≤140737488355328) (h1:x.spec.size≤1099511627776):
  Calls Tryz.prog 119 #[.pointer (some ⟨c.gp,0,none⟩),epV x] w (PO c (t++zaY x) w):=by
 have HP:=zc h
 have N:=zc E
 clear h E
 have HZ:Hid (t.size+(zaY x).size≤140737488355328∧(({data:=#[101,120,112,111,114,116,32]}:ByteArray)).size≤(zaY x).size):=⟨by have:=N.out;rw[ByteArray.size_append] at this;exact this,zm3 x⟩
 unfold epV
 go_enter Tryz.func119,Tryz.ntmps119
 go_upto_region 1 with fail
 have HW:Hid (Below w.heap.size w (w.alloc (.cells #[.int .i64 x.kind,.string x.name,.string x.loc,.string x.spec] 102))):=(Below.refl _ _).alloc (Nat.le_refl _) _
 refine zah (R:=fun W=>W.heap[w.heap.size]? =some (.cells #[.int .i64 x.kind,.string x.name,.string x.loc,.string x.spec] 102 (0,0))∧PP c t W∧Below c.B w W∧KeepB c.b w W) ⟨heap_alloc_new w _,HP.out.later HW.out,HW.out.mono HP.out.1.2,KeepB.of_below HW.out⟩ ?_
 obtain⟨gx,M⟩: ∃gx,gx=w.heap.size:=⟨_,rfl⟩
 have ae:gx≠c.b:=by
  rw[M]
  obtain⟨am,hc⟩:=zbC HP.out.1.1
  have:=(Array.getElem?_eq_some_iff.1 hc).1
  omega
 rw[←M]
 rintro W ⟨hx,hp,hb,hk⟩
 clear M HW
 have X:=zc hx
 have U:=zc hp
 have ag:=zc hb
 have af:=zc hk
 clear hx hp hb hk
 obtain⟨x0,x1,x2,x3,xf⟩:=zcV X.out
 obtain⟨p0,Y,p2,L,p4,Z,K⟩:=zu U.out.2.2.1
 go_wp2_with fail
 refine (zbu c t [{data:=#[101,120,112,111,114,116,32]}] W U.out (by have:=HZ.out;simp only[zr,List.foldl_cons,List.foldl_nil,ByteArray.size_append] at this ⊢;omega) (by simp)).mono ?_
 rintro e w1 ⟨rfl,ac,ah,J⟩
 have A:=zc ac
 have aj:=zc (ag.out.trans ah)
 have ai:=zc (af.out.trans J)
 have X1:=zc ((J _ _ _ _ X.out ae (by decide)).trans X.out)
 clear ac ah J p0 Y p2 L p4 Z K x0 x1 x2 x3 xf U ag af X
 obtain⟨x0,x1,x2,x3,xf⟩:=zcV X1.out
 obtain⟨p0,Y,p2,L,p4,Z,K⟩:=zu A.out.2.2.1
 have ab:=(Array.getElem?_eq_some_iff.1 A.out.2.2.1).1
 have V:=(Array.getElem?_eq_some_iff.1 X1.out).1
 have E:=N.out
 go_upto_block 0 with fail
 go_cut [] from 12 to 45 (fun wx=>PP c (t++zbW x) wx∧Below c.B w1 wx∧KeepB c.b w1 wx)
 case first=>
  cases e1:(x.kind==3) with
  |true=>
   have I:Hid (zbW x=({data:=#[101,120,112,111,114,116,32]}:ByteArray)++({data:=#[42,32,102,114,111,109,32]}:ByteArray)++zar x.spec):=zm0 e1
   go_wp2_with fail
   go_region_with (first|(go_at_call 117;refine (zfo x.spec _ h1).mono ?_;rintro e w' ⟨rfl,rfl⟩)|(go_at_call 57;refine (zbU c _ [{data:=#[42,32,102,114,111,109,32]},zar x.spec] w1 A.out (by have:=N.out;rw[zdr,I.out] at this;simp only[zr,List.foldl_cons,List.foldl_nil,ByteArray.size_append] at this ⊢;omega) (by simp)).mono ?_;rintro e w2 ⟨rfl,j,n,q⟩))
   all_goals (go_wp2_with fail;go_meet;exact⟨by rw[I.out];simp only[zr,List.foldl_cons,List.foldl_nil,←ByteArray.append_assoc] at j ⊢;exact j,n,q⟩)
  |false=>
   cases e2:(x.kind==2) with
   |true=>
    have I:Hid (zbW x=({data:=#[101,120,112,111,114,116,32]}:ByteArray)++zb7 x.loc x.name++({data:=#[32,102,114,111,109,32]}:ByteArray)++zar x.spec):=zm1 e1 e2
    go_wp2_with fail
    refine (zgf c _ x.loc x.name w1 A.out (by have:=N.out;rw[zdr,I.out] at this;simp only[zr,List.foldl_cons,List.foldl_nil,ByteArray.size_append] at this ⊢;omega)).mono ?_
    rintro e w3 ⟨rfl,o,H,z⟩
    have D:=zc o
    have X3:=zc ((z _ _ _ _ X1.out ae (by decide)).trans X1.out)
    have aa:=zc H
    have O:=zc z
    clear o H z p0 Y p2 L p4 Z K x0 x1 x2 x3 xf ab V
    obtain⟨p0,Y,p2,L,p4,Z,K⟩:=zu D.out.2.2.1
    obtain⟨x0,x1,x2,x3,xf⟩:=zcV X3.out
    have ab:=(Array.getElem?_eq_some_iff.1 D.out.2.2.1).1
    have V:=(Array.getElem?_eq_some_iff.1 X3.out).1
    go_wp2_with fail
    go_region_with (first|(go_at_call 117;refine (zfo x.spec _ h1).mono ?_;rintro e w' ⟨rfl,rfl⟩)|(go_at_call 57;refine (zbU c _ [{data:=#[32,102,114,111,109,32]},zar x.spec] w3 D.out (by have:=N.out;rw[zdr,I.out] at this;simp only[zr,List.foldl_cons,List.foldl_nil,ByteArray.size_append] at this ⊢;omega) (by simp)).mono ?_;rintro e w2 ⟨rfl,j,n,q⟩))
    all_goals (go_wp2_with fail;go_meet;exact⟨by rw[I.out];simp only[zr,List.foldl_cons,List.foldl_nil,←ByteArray.append_assoc] at j ⊢;exact j,aa.out.trans n,O.out.trans q⟩)
   |false=>
    have I:Hid (zbW x=({data:=#[101,120,112,111,114,116,32]}:ByteArray)++zb7 x.loc x.name):=zm2 e1 e2
    go_wp2_with fail
    refine (zgf c _ x.loc x.name w1 A.out (by have:=N.out;rw[zdr,I.out] at this;simp only[zr,List.foldl_cons,List.foldl_nil,ByteArray.size_append] at this ⊢;omega)).mono ?_
    rintro e w2 ⟨rfl,j,n,q⟩
    go_wp2_with fail
    go_meet
    exact⟨by rw[I.out];simp only[zr,List.foldl_cons,List.foldl_nil,←ByteArray.append_assoc] at j ⊢;exact j,n,q⟩
 case rest=>
 obtain⟨j,n,q⟩:=hcut
 rename_i w2
 have ad:=zc j
 have ak:=zc (aj.out.trans n)
 have al:=zc (ai.out.trans q)
 clear j n q p0 Y p2 L p4 Z K x0 x1 x2 x3 xf ab V
 obtain⟨p0,Y,p2,L,p4,Z,K⟩:=zu ad.out.2.2.1
 go_wp2_with fail
 refine (zbu c _ [{data:=#[59]},{data:=#[10]}] _ ad.out (by have:=N.out;rw[zdr] at this;simp only[zr,List.foldl_cons,List.foldl_nil,ByteArray.size_append] at this ⊢;omega) (by simp)).mono ?_
 rintro e w3 ⟨rfl,o,H,z⟩
 have D:=zc o
 have aa:=zc (ak.out.trans H)
 have O:=zc (al.out.trans z)
 clear o H z p0 Y p2 L p4 Z K
 go_wp2
 go_end0
 exact⟨rfl,(by have o:=D.out;rw[zdr];simp only[zr,List.foldl_cons,List.foldl_nil,←ByteArray.append_assoc] at o ⊢;exact o),aa.out,O.out⟩
theorem zgg (c:PC) (t:ByteArray) (i:Nat) (w:World) (h:PP c t w) (q:i<c.m.ex.length):
  Calls Tryz.prog 190 #[.pointer (some ⟨c.gp,0,none⟩),.int .i64 (i:Int)] w fun e A=>e= .returned (.int .i64 (c.m.ex.getD i zf).kind)∧A=w:=by
 obtain⟨N,L,Y,J,D,M,I⟩:=zu h.2.2.1
 obtain⟨g,n,H,E,V,U,X,O,K⟩:=h.2.1.expr q
 rw[n] at D
 have z:(i:Int)<(c.m.ex.length:Int):=by omega
 obtain⟨o,j⟩: ∃o,(c.m.ex.getD i zf).kind=o:=⟨_,rfl⟩
 rw[j] at E
 rw[j]
 clear h n j
 go_enter Tryz.func190,Tryz.ntmps190
 go_wp2
 go_ret
 exact⟨rfl,rfl⟩
def zbX (c:PC) (i:Nat):Prop:=∀(t:ByteArray) (w:World),PP c t w→(t++prX c.m.ex i).size≤140737488355328→Calls Tryz.prog 162 #[.pointer (some ⟨c.gp,0,none⟩),.int .i64 (i:Int)] w (PO c (t++prX c.m.ex i) w)
theorem zfp (c:PC) (t:ByteArray) (i:Nat) (o:Bool) (w:World) (ok:zbX c i) (h:PP c t w) (j:(t++zC o (prX c.m.ex i)).size≤140737488355328):
  Calls Tryz.prog 189 #[.pointer (some ⟨c.gp,0,none⟩),.int .i64 (i:Int),.bool o] w (PO c (t++zC o (prX c.m.ex i)) w):=by
 have OK:=zc ok
 have HP:=zc h
 clear ok h
 obtain⟨Z,X,p2,V,p4,Y,U⟩:=zu HP.out.2.2.1
 cases o with
 |false=>
  have I:Hid ((t++prX c.m.ex i).size≤140737488355328):=j
  clear j
  go_enter Tryz.func189,Tryz.ntmps189
  go_wp2_with fail
  refine (OK.out t w HP.out I.out).mono ?_
  rintro e w1 ⟨rfl,q,A,n⟩
  have D:=zc q
  have H:=zc A
  have E:=zc n
  clear q A n Z X p2 V p4 Y U
  go_wp2
  refine bodyPost_ret (results_none rfl _ _ _) rfl ?_
  exact⟨rfl,D.out,H.out,E.out⟩
 |true=>
  have I:Hid ((t++(zm++prX c.m.ex i++zay)).size≤140737488355328):=j
  clear j
  go_enter Tryz.func189,Tryz.ntmps189
  go_wp2_with fail
  refine (zbu c t [zm] w HP.out (by have:=I.out;simp only[zr,List.foldl_cons,List.foldl_nil,ByteArray.size_append] at this ⊢;omega) (by simp)).mono ?_
  rintro e w1 ⟨rfl,q,A,n⟩
  have D:=zc q
  have H:=zc A
  have E:=zc n
  clear q A n Z X p2 V p4 Y U
  go_wp2_with fail
  refine (OK.out _ w1 D.out (by have:=I.out;simp only[zr,List.foldl_cons,List.foldl_nil,ByteArray.size_append] at this ⊢;omega)).mono ?_
  rintro e w2 ⟨rfl,N,J,M⟩
  have K:=zc N
  have ab:=zc (H.out.trans J)
  have ac:=zc (E.out.trans M)
  clear N J M
  obtain⟨Z,X,p2,V,p4,Y,U⟩:=zu K.out.2.2.1
  go_wp2_with fail
  refine (zbu c _ [zay] w2 K.out (by have:=I.out;simp only[zr,List.foldl_cons,List.foldl_nil,ByteArray.size_append] at this ⊢;omega) (by simp)).mono ?_
  rintro e w3 ⟨rfl,z,O,L⟩
  have ad:=zc z
  have ae:=zc (ab.out.trans O)
  have aa:=zc (ac.out.trans L)
  clear z O L Z X p2 V p4 Y U
  go_wp2
  go_end0
  exact⟨rfl,(by have z:=ad.out;unfold zC;rw[if_pos rfl];simp only[zr,List.foldl_cons,List.foldl_nil,←ByteArray.append_assoc] at z ⊢;exact z),ae.out,aa.out⟩
def zaI (k:Int) (n:ByteArray):ByteArray:=
 if n.toList==[42,100,101,102,97,117,108,116] then ({data:=#[101,120,112,111,114,116,32]}:ByteArray)++({data:=#[100,101,102,97,117,108,116]}:ByteArray)++({data:=#[32]}:ByteArray)
 else if k==1 then ({data:=#[108,101,116,32]}:ByteArray)++n++({data:=#[32,61,32]}:ByteArray)
 else if k==2 then ({data:=#[102,117,110,99,116,105,111,110,32]}:ByteArray)++n++({data:=#[40,41,32,123,32,114,101,116,117,114,110,32]}:ByteArray)
 else if k==3 then n++({data:=#[32,61,32]}:ByteArray)
 else if k==4 then ({data:=#[112,114,105,110,116,40]}:ByteArray)
 else if k==5 then ({data:=#[116,104,114,111,119,32]}:ByteArray)
 else ({data:=#[102,97,105,108,32]}:ByteArray)
def zaD (k:Int) (n:ByteArray):ByteArray:=
 if n.toList==[42,100,101,102,97,117,108,116] then ({data:=#[59]}:ByteArray) else if k==2 then ({data:=#[59,32,125]}:ByteArray) else if k==4 then ({data:=#[41,59]}:ByteArray) else ({data:=#[59]}:ByteArray)
theorem zic {k:Int} {n:ByteArray} (e:(n.toList==[42,100,101,102,97,117,108,116])=true):zaI k n=({data:=#[101,120,112,111,114,116,32]}:ByteArray)++({data:=#[100,101,102,97,117,108,116]}:ByteArray)++({data:=#[32]}:ByteArray):=by rw[zaI,e];rfl
theorem zid {k:Int} {n:ByteArray} (e:(n.toList==[42,100,101,102,97,117,108,116])=true):zaD k n=({data:=#[59]}:ByteArray):=by rw[zaD,e];rfl
theorem zie {k:Int} {n:ByteArray} (e:(n.toList==[42,100,101,102,97,117,108,116])=false) (h:(k==1)=true):zaI k n=({data:=#[108,101,116,32]}:ByteArray)++n++({data:=#[32,61,32]}:ByteArray):=by rw[zaI,e,h];rfl
theorem zif {k:Int} {n:ByteArray} (e:(n.toList==[42,100,101,102,97,117,108,116])=false) (h:(k==1)=true):zaD k n=({data:=#[59]}:ByteArray):=by have q:=eq_of_beq h;subst q;rw[zaD,e];rfl
theorem zig {k:Int} {n:ByteArray} (e:(n.toList==[42,100,101,102,97,117,108,116])=false) (j:(k==1)=false) (h:(k==2)=true):zaI k n=({data:=#[102,117,110,99,116,105,111,110,32]}:ByteArray)++n++({data:=#[40,41,32,123,32,114,101,116,117,114,110,32]}:ByteArray):=by rw[zaI,e,j,h];rfl
theorem zih {k:Int} {n:ByteArray} (e:(n.toList==[42,100,101,102,97,117,108,116])=false) (h:(k==2)=true):zaD k n=({data:=#[59,32,125]}:ByteArray):=by rw[zaD,e,h];rfl
theorem zii {k:Int} {n:ByteArray} (e:(n.toList==[42,100,101,102,97,117,108,116])=false) (o:(k==1)=false) (j:(k==2)=false) (h:(k==3)=true):zaI k n=n++({data:=#[32,61,32]}:ByteArray):=by rw[zaI,e,o,j,h];rfl
theorem zij {k:Int} {n:ByteArray} (e:(n.toList==[42,100,101,102,97,117,108,116])=false) (h:(k==3)=true):zaD k n=({data:=#[59]}:ByteArray):=by have q:=eq_of_beq h;subst q;rw[zaD,e];rfl
theorem zik {k:Int} {n:ByteArray} (e:(n.toList==[42,100,101,102,97,117,108,116])=false) (q:(k==1)=false) (o:(k==2)=false) (h:(k==3)=false) (j:(k==4)=true):zaI k n=({data:=#[112,114,105,110,116,40]}:ByteArray):=by rw[zaI,e,q,o,h,j];rfl
theorem zil {k:Int} {n:ByteArray} (e:(n.toList==[42,100,101,102,97,117,108,116])=false) (j:(k==2)=false) (h:(k==4)=true):zaD k n=({data:=#[41,59]}:ByteArray):=by rw[zaD,e,j,h];rfl
theorem zim {k:Int} {n:ByteArray} (e:(n.toList==[42,100,101,102,97,117,108,116])=false) (h:(k==1)=false) (q:(k==2)=false) (w:(k==3)=false) (o:(k==4)=false) (j:(k==5)=true):zaI k n=({data:=#[116,104,114,111,119,32]}:ByteArray):=by rw[zaI,e,h,q,w,o,j];rfl
theorem zin {k:Int} {n:ByteArray} (e:(n.toList==[42,100,101,102,97,117,108,116])=false) (j:(k==2)=false) (h:(k==4)=false):zaD k n=({data:=#[59]}:ByteArray):=by rw[zaD,e,j,h];rfl
theorem zio {k:Int} {n:ByteArray} (e:(n.toList==[42,100,101,102,97,117,108,116])=false) (h:(k==1)=false) (q:(k==2)=false) (w:(k==3)=false) (o:(k==4)=false) (j:(k==5)=false):zaI k n=({data:=#[102,97,105,108,32]}:ByteArray):=by rw[zaI,e,h,q,w,o,j];rfl
theorem zip {k:Int} {n:ByteArray} (e:(n.toList==[42,100,101,102,97,117,108,116])=false) (j:(k==2)=false) (h:(k==4)=false):zaD k n=({data:=#[59]}:ByteArray):=by rw[zaD,e,j,h];rfl
theorem ziq (k:Int) (n e:ByteArray):zcB k n e=zaI k n++e++zaD k n++({data:=#[10]}:ByteArray):=by
 have D:({data:=#[59,10]}:ByteArray)=({data:=#[59]}:ByteArray)++({data:=#[10]}:ByteArray):=zbD #[59] #[10]
 have I:({data:=#[59,32,125,10]}:ByteArray)=({data:=#[59,32,125]}:ByteArray)++({data:=#[10]}:ByteArray):=zbD #[59,32,125] #[10]
 have A:({data:=#[41,59,10]}:ByteArray)=({data:=#[41,59]}:ByteArray)++({data:=#[10]}:ByteArray):=zbD #[41,59] #[10]
 have H:({data:=#[101,120,112,111,114,116,32,100,101,102,97,117,108,116,32]}:ByteArray)=({data:=#[101,120,112,111,114,116,32,100,101,102,97,117,108,116]}:ByteArray)++({data:=#[32]}:ByteArray):=zbD #[101,120,112,111,114,116,32,100,101,102,97,117,108,116] #[32]
 have E:({data:=#[101,120,112,111,114,116,32,100,101,102,97,117,108,116]}:ByteArray)=({data:=#[101,120,112,111,114,116,32]}:ByteArray)++({data:=#[100,101,102,97,117,108,116]}:ByteArray):=zbD #[101,120,112,111,114,116,32] #[100,101,102,97,117,108,116]
 unfold zcB zax
 rw[D,I,A,H,E]
 cases h:(n.toList==[42,100,101,102,97,117,108,116]) with
 |true=>rw[zic h,zid h];simp only[↓reduceIte,ByteArray.append_assoc]
 |false=>
  cases o:(k==1) with
  |true=>rw[zie h o,zif h o];simp only[↓reduceIte,Bool.false_eq_true,ByteArray.append_assoc]
  |false=>
   cases j:(k==2) with
   |true=>rw[zig h o j,zih h j];simp only[↓reduceIte,Bool.false_eq_true,ByteArray.append_assoc]
   |false=>
    cases w:(k==3) with
    |true=>rw[zii h o j w,zij h w];simp only[↓reduceIte,Bool.false_eq_true,ByteArray.append_assoc]
    |false=>
     cases q:(k==4) with
     |true=>rw[zik h o j w q,zil h j q];simp only[↓reduceIte,Bool.false_eq_true,ByteArray.append_assoc]
     |false=>
      cases z:(k==5) with
      |true=>rw[zim h o j w q z,zin h j q];simp only[↓reduceIte,Bool.false_eq_true,ByteArray.append_assoc]
      |false=>
       rw[zio h o j w q z,zip h j q];simp only[↓reduceIte,Bool.false_eq_true,ByteArray.append_assoc]
theorem zm5 (k:Int) (n e:ByteArray):(zcB k n e).size=(zaI k n).size+e.size+(zaD k n).size+1:=by
 rw[ziq,ByteArray.size_append,ByteArray.size_append,ByteArray.size_append]
 rfl
theorem zm6 (c:PC) (t:ByteArray) (k:Int) (n:ByteArray) (i:Nat) (w:World) (ok:zbX c i) (h:PP c t w) (K:(t++zcB k n (prX c.m.ex i)).size≤140737488355328):
  Calls Tryz.prog 120 #[.pointer (some ⟨c.gp,0,none⟩),.agg #[.int .i64 k,.string n,.int .i64 (i:Int)]] w (PO c (t++zcB k n (prX c.m.ex i)) w):=by
 have HP:=zc h
 have OK:=zc ok
 have L:Hid (t.size+((zaI k n).size+(prX c.m.ex i).size+(zaD k n).size+1)≤140737488355328):=by show _≤_;rw[ByteArray.size_append,zm5] at K;exact K
 clear h K ok
 go_enter Tryz.func120,Tryz.ntmps120
 go_upto_region 1 with fail
 have HW:Hid (Below w.heap.size w (w.alloc (.cells #[.int .i64 k,.string n,.int .i64 (i:Int)] 106))):=(Below.refl _ _).alloc (Nat.le_refl _) _
 refine zah (R:=fun W=>W.heap[w.heap.size]? =some (.cells #[.int .i64 k,.string n,.int .i64 (i:Int)] 106 (0,0))∧PP c t W∧Below c.B w W∧KeepB c.b w W) ⟨heap_alloc_new w _,HP.out.later HW.out,HW.out.mono HP.out.1.2,KeepB.of_below HW.out⟩ ?_
 obtain⟨gx,O⟩: ∃gx,gx=w.heap.size:=⟨_,rfl⟩
 have ah:gx≠c.b:=by
  rw[O]
  obtain⟨ar,hc⟩:=zbC HP.out.1.1
  have:=(Array.getElem?_eq_some_iff.1 hc).1
  omega
 rw[←O]
 rintro N ⟨hx,hp,hb,hk⟩
 clear O HW
 have X1:=zc hx
 have D:=zc hp
 have ak:=zc hb
 have aj:=zc hk
 clear hx hp hb hk
 obtain⟨x0,x1,x2,xf⟩:=zbt X1.out
 obtain⟨p0,p1,p2,p3,p4,p5,pf⟩:=zu D.out.2.2.1
 have ap:=(Array.getElem?_eq_some_iff.1 D.out.2.2.1).1
 have ag:=(Array.getElem?_eq_some_iff.1 X1.out).1
 go_upto_block 0 with fail
 go_cut [4] from 5 to 76 (fun s4 wx=>s4= .string (zaD k n)∧PP c (t++zaI k n) wx∧Below c.B N wx∧KeepB c.b N wx)
 case first=>
  cases E:(n.toList==[42,100,101,102,97,117,108,116]) with
  |true=>
   have A:Hid (zaI k n=({data:=#[101,120,112,111,114,116,32]}:ByteArray)++({data:=#[100,101,102,97,117,108,116]}:ByteArray)++({data:=#[32]}:ByteArray)):=zic E
   have I:Hid (zaD k n=({data:=#[59]}:ByteArray)):=zid E
   have H:Hid ((zr t [{data:=#[101,120,112,111,114,116,32]},{data:=#[100,101,102,97,117,108,116]},{data:=#[32]}]).size≤140737488355328):=by show _≤_;have:=L.out;rw[A.out] at this;simp only[zr,List.foldl_cons,List.foldl_nil,ByteArray.size_append] at this ⊢;omega
   go_wp2_with fail
   refine (zbu c t [{data:=#[101,120,112,111,114,116,32]},{data:=#[100,101,102,97,117,108,116]},{data:=#[32]}] N D.out H.out (by simp)).mono ?_
   rintro e V ⟨rfl,j,q,o⟩
   go_wp2_with fail
   go_meet
   exact⟨by rw[I.out],by rw[A.out];simp only[zr,List.foldl_cons,List.foldl_nil,←ByteArray.append_assoc] at j ⊢;exact j,q,o⟩
  |false=>
   cases U:(k==1) with
   |true=>
    have A:Hid (zaI k n=({data:=#[108,101,116,32]}:ByteArray)++n++({data:=#[32,61,32]}:ByteArray)):=zie E U
    have I:Hid (zaD k n=({data:=#[59]}:ByteArray)):=zif E U
    have H:Hid ((zr t [{data:=#[108,101,116,32]},n,{data:=#[32,61,32]}]).size≤140737488355328):=by show _≤_;have:=L.out;rw[A.out] at this;simp only[zr,List.foldl_cons,List.foldl_nil,ByteArray.size_append] at this ⊢;omega
    go_wp2_with fail
    go_region_with (go_at_call 57;refine (zbU c t [{data:=#[108,101,116,32]},n,{data:=#[32,61,32]}] N D.out H.out (by simp)).mono ?_;rintro e V ⟨rfl,j,q,o⟩)
    all_goals (go_wp2_with fail;go_meet;exact⟨by rw[I.out],by rw[A.out];simp only[zr,List.foldl_cons,List.foldl_nil,←ByteArray.append_assoc] at j ⊢;exact j,q,o⟩)
   |false=>
    cases M:(k==2) with
    |true=>
     have A:Hid (zaI k n=({data:=#[102,117,110,99,116,105,111,110,32]}:ByteArray)++n++({data:=#[40,41,32,123,32,114,101,116,117,114,110,32]}:ByteArray)):=zig E U M
     have I:Hid (zaD k n=({data:=#[59,32,125]}:ByteArray)):=zih E M
     have H:Hid ((zr t [{data:=#[102,117,110,99,116,105,111,110,32]},n,{data:=#[40,41,32,123,32,114,101,116,117,114,110,32]}]).size≤140737488355328):=by show _≤_;have:=L.out;rw[A.out] at this;simp only[zr,List.foldl_cons,List.foldl_nil,ByteArray.size_append] at this ⊢;omega
     go_wp2_with fail
     go_region_with (go_at_call 57;refine (zbU c t [{data:=#[102,117,110,99,116,105,111,110,32]},n,{data:=#[40,41,32,123,32,114,101,116,117,114,110,32]}] N D.out H.out (by simp)).mono ?_;rintro e V ⟨rfl,j,q,o⟩)
     all_goals (go_wp2_with fail;go_meet;exact⟨by rw[I.out],by rw[A.out];simp only[zr,List.foldl_cons,List.foldl_nil,←ByteArray.append_assoc] at j ⊢;exact j,q,o⟩)
    |false=>
     cases h3:(k==3) with
     |true=>
      have A:Hid (zaI k n=n++({data:=#[32,61,32]}:ByteArray)):=zii E U M h3
      have I:Hid (zaD k n=({data:=#[59]}:ByteArray)):=zij E h3
      have H:Hid ((zr t [n,{data:=#[32,61,32]}]).size≤140737488355328):=by show _≤_;have:=L.out;rw[A.out] at this;simp only[zr,List.foldl_cons,List.foldl_nil,ByteArray.size_append] at this ⊢;omega
      go_wp2_with fail
      go_region_with (go_at_call 57;refine (zbU c t [n,{data:=#[32,61,32]}] N D.out H.out (by simp)).mono ?_;rintro e V ⟨rfl,j,q,o⟩)
      all_goals (go_wp2_with fail;go_meet;exact⟨by rw[I.out],by rw[A.out];simp only[zr,List.foldl_cons,List.foldl_nil,←ByteArray.append_assoc] at j ⊢;exact j,q,o⟩)
     |false=>
      cases X:(k==4) with
      |true=>
       have A:Hid (zaI k n=({data:=#[112,114,105,110,116,40]}:ByteArray)):=zik E U M h3 X
       have I:Hid (zaD k n=({data:=#[41,59]}:ByteArray)):=zil E M X
       have H:Hid ((zr t [{data:=#[112,114,105,110,116,40]}]).size≤140737488355328):=by show _≤_;have:=L.out;rw[A.out] at this;simp only[zr,List.foldl_cons,List.foldl_nil,ByteArray.size_append] at this ⊢;omega
       go_wp2_with fail
       refine (zbu c t [{data:=#[112,114,105,110,116,40]}] N D.out H.out (by simp)).mono ?_
       rintro e V ⟨rfl,j,q,o⟩
       go_wp2_with fail
       go_meet
       exact⟨by rw[I.out],by rw[A.out];exact j,q,o⟩
      |false=>
       cases h5:(k==5) with
       |true=>
        have A:Hid (zaI k n=({data:=#[116,104,114,111,119,32]}:ByteArray)):=zim E U M h3 X h5
        have I:Hid (zaD k n=({data:=#[59]}:ByteArray)):=zin E M X
        have H:Hid ((zr t [{data:=#[116,104,114,111,119,32]}]).size≤140737488355328):=by show _≤_;have:=L.out;rw[A.out] at this;simp only[zr,List.foldl_cons,List.foldl_nil,ByteArray.size_append] at this ⊢;omega
        go_wp2_with fail
        refine (zbu c t [{data:=#[116,104,114,111,119,32]}] N D.out H.out (by simp)).mono ?_
        rintro e V ⟨rfl,j,q,o⟩
        go_wp2_with fail
        go_meet
        exact⟨by rw[I.out],by rw[A.out];exact j,q,o⟩
       |false=>
        have A:Hid (zaI k n=({data:=#[102,97,105,108,32]}:ByteArray)):=zio E U M h3 X h5
        have I:Hid (zaD k n=({data:=#[59]}:ByteArray)):=zip E M X
        have H:Hid ((zr t [{data:=#[102,97,105,108,32]}]).size≤140737488355328):=by show _≤_;have:=L.out;rw[A.out] at this;simp only[zr,List.foldl_cons,List.foldl_nil,ByteArray.size_append] at this ⊢;omega
        go_wp2_with fail
        refine (zbu c t [{data:=#[102,97,105,108,32]}] N D.out H.out (by simp)).mono ?_
        rintro e V ⟨rfl,j,q,o⟩
        go_wp2_with fail
        go_meet
        exact⟨by rw[I.out],by rw[A.out];exact j,q,o⟩
 case rest=>
 rename_i s4 V
 obtain⟨rfl,j,q,o⟩:=hcut
 have af:=zc j
 have an:=zc (ak.out.trans q)
 have ao:=zc (aj.out.trans o)
 have X2:=zc ((o _ _ _ _ X1.out ah (by decide)).trans X1.out)
 clear j q o p0 p1 p2 p3 p4 p5 pf x0 x1 x2 xf ap ag
 obtain⟨x0,x1,x2,xf⟩:=zbt X2.out
 go_wp2_with fail
 refine (OK.out _ _ af.out (by have:=L.out;simp only[ByteArray.size_append] at this ⊢;omega)).mono ?_
 rintro e w3 ⟨rfl,J,ad,ab⟩
 have aa:=zc J
 have aq:=zc (an.out.trans ad)
 have ae:=zc (ao.out.trans ab)
 clear J ad ab x0 x1 x2 xf
 obtain⟨p0,p1,p2,p3,p4,p5,pf⟩:=zu aa.out.2.2.1
 go_wp2_with fail
 refine (zbu c _ [zaD k n,{data:=#[10]}] _ aa.out (by have:=L.out;have z:(({data:=#[10]}:ByteArray)).size=1:=rfl;simp only[zr,List.foldl_cons,List.foldl_nil,ByteArray.size_append,z] at this ⊢;omega) (by simp)).mono ?_
 rintro e w4 ⟨rfl,Y,Z,ac⟩
 have al:=zc Y
 have ai:=zc (aq.out.trans Z)
 have am:=zc (ae.out.trans ac)
 clear Y Z ac p0 p1 p2 p3 p4 p5 pf
 go_wp2
 go_end0
 exact⟨rfl,(by have J:=al.out;rw[ziq];simp only[zr,List.foldl_cons,List.foldl_nil,←ByteArray.append_assoc] at J ⊢;exact J),ai.out,am.out⟩
theorem zfq {α:Type} {l:List α} {j:Nat} (h:j<l.length): ∃x,l[j]? =some x:=⟨_,List.getElem?_eq_getElem h⟩
theorem zm7 (l:List ByteArray):l.map Value.string=l.flatMap (fun x=>[Value.string x]):=by
 induction l with
 |nil=>rfl
 |cons x l h=>rw[List.map_cons,List.flatMap_cons,h];rfl
theorem zm8 (t:ByteArray):t++sNone=t:=by
 cases t with
 |mk d=>
  show ByteArray.append _ _=_
  simp[ByteArray.append]
theorem zir (m:Md):(acc epF m.ep (acc zV m.im (acc rqT m.rq sNone))).size≤(zb6 m).size:=zdp _ _ _
theorem zis (m:Md):(acc zV m.im (acc rqT m.rq sNone)).size≤(zb6 m).size:=Nat.le_trans (zdp _ _ _) (zir m)
theorem zm9 (m:Md):(acc rqT m.rq sNone).size≤(zb6 m).size:=Nat.le_trans (zdp _ _ _) (zis m)
theorem zit (s:ByteArray):rqT s=({data:=#[105,109,112,111,114,116,32]}:ByteArray)++zar s++({data:=#[59]}:ByteArray)++({data:=#[10]}:ByteArray):=by
 have h:({data:=#[59,10]}:ByteArray)={data:=#[59]}++{data:=#[10]}:=zbD #[59] #[10]
 rw[rqT,h]
 simp only[ByteArray.append_assoc]
theorem ziu {x:Ep} (h:(x.loc.toList==[42,100,101,102,97,117,108,116])=false):epF x=zaY x:=by rw[epF,h];rfl
theorem zmA {x:Ep} (h:(x.loc.toList==[42,100,101,102,97,117,108,116])=true):epF x=sNone:=by rw[epF,h];rfl
theorem zmB (c:PC) (w:World) (ok: ∀i,i<c.m.ex.length→zbX c i) (hs: ∀s∈c.m.st,0≤s.expr∧s.expr<(c.m.ex.length:Int)) (hm:Small c.m) (h:PP c sNone w) (ae:(zb6 c.m).size≤140737488355328):
  Calls Tryz.prog 59 #[.pointer (some ⟨c.gp,0,none⟩)] w (PO c (zb6 c.m) w):=by
 have ai:=zc h
 have SM:=zc hm
 have OK:=zc ok
 have HS:=zc hs
 have HL:=zc ae
 obtain⟨f1,f2,f3,f4,f5⟩:=hm.few
 clear h hm ok hs ae
 obtain⟨p0,p1,p2,Y,Z,p5,pf⟩:=zu ai.out.2.2.1
 go_enter Tryz.func59,Tryz.ntmps59
 go_wp2
 go_loopg [16] c.m.rq.length (fun k i wr=>∃j:Nat,i= .int .i64 j∧j+k=c.m.rq.length∧PP c (acc rqT (c.m.rq.take j) sNone) wr∧Below c.B w wr∧KeepB c.b w wr)
 case atStart=>exact⟨0,rfl,by omega,ai.out,Below.refl _ _,fun _ _ _ _ _ _ _=>rfl⟩
 case round=>
  obtain⟨j,rfl,hj,J,M,L⟩:=hrel
  have q:=zc J
  have D:=zc M
  have E:=zc L
  clear J M L p0 p1 p2 Y Z p5 pf
  obtain⟨p0,p1,p2,Y,Z,p5,pf⟩:=zu q.out.2.2.1
  by_cases X:j<c.m.rq.length
  ·have I:(j:Int)<(c.m.rq.length:Int):=by omega
   obtain⟨x,o⟩:=zfq X
   have A:=List.mem_of_getElem? o
   have HZ:Hid ((acc rqT (c.m.rq.take j) sNone++rqT x).size≤140737488355328):=by show _≤_;rw[←zbS rqT o];exact Nat.le_trans (zcX rqT c.m.rq (j+1) sNone) (Nat.le_trans (zm9 c.m) HL.out)
   have HX:=zc o
   obtain⟨K,H⟩: ∃K,K=j+1:=⟨_,rfl⟩
   have ej:(j:Int)+1=(K:Int):=by omega
   have HJ:=zc H
   clear H
   obtain⟨g,hg,k0⟩: ∃g,c.S.rq.a=some ⟨g,0,none⟩∧wr.cell? ⟨g,j,none⟩=some (.string x):=by
    obtain⟨g,hg,hc⟩:=OwnR.elem (f:=fun x=>[Value.string x]) (m:=1) (fun _=>rfl) (show OwnR wr c.base 9 1 c.S.rq c.m.rq.length (c.m.rq.flatMap fun x=>[Value.string x]) by rw[←zm7];exact q.out.2.1.rq) o
    have k0:=hc 0 (by omega)
    simp only[Nat.mul_one,Nat.add_zero,List.getElem?_cons_zero] at k0
    exact⟨g,hg,k0⟩
   have ag:=SM.out.rq x A
   have HG:Hid (Value.slice c.S.rq.a c.m.rq.length c.S.rq.cap=Value.slice (some ⟨g,0,none⟩) c.m.rq.length c.S.rq.cap):=by show _=_;rw[hg]
   clear hg o A p0 p1 p2 Y Z p5 pf
   rw[HG.out]
   obtain⟨p0,p1,p2,Y,Z,p5,pf⟩:=zu q.out.2.2.1
   have ao:=(Array.getElem?_eq_some_iff.1 q.out.2.2.1).1
   go_wp2_with fail
   go_region_with (first|(go_at_call 117;refine (zfo x _ (by omega)).mono ?_;rintro e w' ⟨rfl,rfl⟩)|(go_at_call 57;refine (zbU c _ [{data:=#[105,109,112,111,114,116,32]},zar x,{data:=#[59]},{data:=#[10]}] wr q.out (by have:=HZ.out;rw[zit] at this;simp only[zr,List.foldl_cons,List.foldl_nil,ByteArray.size_append] at this ⊢;omega) (by simp)).mono ?_;rintro e w3 ⟨rfl,ab,ah,aj⟩))
   all_goals
    have al:=zc ab
    have an:=zc (D.out.trans ah)
    have am:=zc (E.out.trans aj)
    clear ab ah aj p0 p1 p2 Y Z p5 pf ao k0
    go_wp2
    rw[←HG.out]
    go_roundg (gk-1)
    case rel=>exact⟨K,rfl,by have:=HJ.out;omega,by rw[HJ.out,zbS rqT HX.out];exact (by have ab:=al.out;rw[zit];simp only[zr,List.foldl_cons,List.foldl_nil,←ByteArray.append_assoc] at ab ⊢;exact ab),an.out,am.out⟩
    case measure=>omega
  ·have I: ¬(j:Int)<(c.m.rq.length:Int):=by omega
   obtain rfl:j=c.m.rq.length:=by omega
   have HN:Hid (PP c (acc zV (c.m.im.take 0) (acc rqT c.m.rq sNone)) wr):=by have:=q.out;rw[List.take_length] at this;exact this
   go_wp2
   go_loopg [35] c.m.im.length (fun k i wr=>∃j:Nat,i= .int .i64 j∧j+k=c.m.im.length∧PP c (acc zV (c.m.im.take j) (acc rqT c.m.rq sNone)) wr∧Below c.B w wr∧KeepB c.b w wr)
   case atStart=>exact⟨0,rfl,by omega,HN.out,D.out,E.out⟩
   case round=>
    obtain⟨j,rfl,hj,J,M,L⟩:=hrel
    clear q D E HN
    have q:=zc J
    have D:=zc M
    have E:=zc L
    clear J M L p0 p1 p2 Y Z p5 pf
    obtain⟨p0,p1,p2,Y,Z,p5,pf⟩:=zu q.out.2.2.1
    by_cases X:j<c.m.im.length
    ·have I:(j:Int)<(c.m.im.length:Int):=by omega
     obtain⟨x,o⟩:=zfq X
     have A:=List.mem_of_getElem? o
     have HZ:Hid ((acc zV (c.m.im.take j) (acc rqT c.m.rq sNone)++zV x).size≤140737488355328):=by show _≤_;rw[←zbS zV o];exact Nat.le_trans (zcX zV c.m.im (j+1) (acc rqT c.m.rq sNone)) (Nat.le_trans (zis c.m) HL.out)
     have HX:=zc o
     obtain⟨K,H⟩: ∃K,K=j+1:=⟨_,rfl⟩
     have ej:(j:Int)+1=(K:Int):=by omega
     have HJ:=zc H
     clear H
     obtain⟨g,hg,z⟩:=OwnR.elem (f:=imL) (m:=3) (fun _=>rfl) q.out.2.1.im o
     have k0:=z 0 (by omega)
     have k1:=z 1 (by omega)
     have k2:=z 2 (by omega)
     simp only[imL,Nat.add_zero,List.getElem?_cons_zero,List.getElem?_cons_succ] at k0 k1 k2
     clear z
     have ag:=(SM.out.im x A).1
     have HG:Hid (Value.slice c.S.im.a c.m.im.length c.S.im.cap=Value.slice (some ⟨g,0,none⟩) c.m.im.length c.S.im.cap):=by show _=_;rw[hg]
     clear hg o A p0 p1 p2 Y Z p5 pf
     rw[HG.out]
     go_upto_region 8 with fail
     have HW:Hid (Below wr.heap.size wr (wr.alloc (.cells #[.string x.spec,.string x.first,.string x.loc] 100))):=(Below.refl _ _).alloc (Nat.le_refl _) _
     refine zah (R:=fun W=>W.heap[wr.heap.size]? =some (.cells #[.string x.spec,.string x.first,.string x.loc] 100 (0,0))∧PP c (acc zV (c.m.im.take j) (acc rqT c.m.rq sNone)) W∧Below c.B w W∧KeepB c.b w W) ⟨heap_alloc_new wr _,q.out.later HW.out,D.out.trans (HW.out.mono q.out.1.2),E.out.trans (KeepB.of_below HW.out)⟩ ?_
     obtain⟨gx,U⟩: ∃gx,gx=wr.heap.size:=⟨_,rfl⟩
     rw[←U]
     clear k0 k1 k2 HW
     rintro W ⟨xb,J,M,L⟩
     clear U q D E
     have XB:=zc xb
     have q:=zc J
     have D:=zc M
     have E:=zc L
     clear xb J M L
     obtain⟨x0,x1,x2,xf⟩:=zbt XB.out
     go_wp2_with fail
     refine (zmz c _ x W q.out HZ.out (by omega)).mono ?_
     rintro e W2 ⟨rfl,O,N,V⟩
     have ac:=zc O
     have ad:=zc (D.out.trans N)
     have aa:=zc (E.out.trans V)
     clear O N V x0 x1 x2 xf
     go_wp2
     rw[←HG.out]
     go_roundg (gk-1)
     case rel=>exact⟨K,rfl,by have:=HJ.out;omega,by rw[HJ.out,zbS zV HX.out];exact ac.out,ad.out,aa.out⟩
     case measure=>omega
    ·have I: ¬(j:Int)<(c.m.im.length:Int):=by omega
     obtain rfl:j=c.m.im.length:=by omega
     have HN:Hid (PP c (acc epF (c.m.ep.take 0) (acc zV c.m.im (acc rqT c.m.rq sNone))) wr):=by have:=q.out;rw[List.take_length] at this;exact this
     go_wp2
     go_loopg [49] c.m.ep.length (fun k i wr=>∃j:Nat,i= .int .i64 j∧j+k=c.m.ep.length∧PP c (acc epF (c.m.ep.take j) (acc zV c.m.im (acc rqT c.m.rq sNone))) wr∧Below c.B w wr∧KeepB c.b w wr)
     case atStart=>exact⟨0,rfl,by omega,HN.out,D.out,E.out⟩
     case round=>
      obtain⟨j,rfl,hj,J,M,L⟩:=hrel
      clear q D E HN
      have q:=zc J
      have D:=zc M
      have E:=zc L
      clear J M L p0 p1 p2 Y Z p5 pf
      obtain⟨p0,p1,p2,Y,Z,p5,pf⟩:=zu q.out.2.2.1
      by_cases X:j<c.m.ep.length
      ·have I:(j:Int)<(c.m.ep.length:Int):=by omega
       obtain⟨x,o⟩:=zfq X
       have A:=List.mem_of_getElem? o
       have HZ:Hid ((acc epF (c.m.ep.take j) (acc zV c.m.im (acc rqT c.m.rq sNone))++epF x).size≤140737488355328):=by show _≤_;rw[←zbS epF o];exact Nat.le_trans (zcX epF c.m.ep (j+1) (acc zV c.m.im (acc rqT c.m.rq sNone))) (Nat.le_trans (zir c.m) HL.out)
       have HX:=zc o
       obtain⟨K,H⟩: ∃K,K=j+1:=⟨_,rfl⟩
       have ej:(j:Int)+1=(K:Int):=by omega
       have HJ:=zc H
       clear H
       obtain⟨g,hg,z⟩:=OwnR.elem (f:=epL) (m:=4) (fun _=>rfl) q.out.2.1.ep o
       have k0:=z 0 (by omega)
       have k1:=z 1 (by omega)
       have k2:=z 2 (by omega)
       have k3:=z 3 (by omega)
       simp only[epL,Nat.add_zero,List.getElem?_cons_zero,List.getElem?_cons_succ] at k0 k1 k2 k3
       clear z
       have ag:=(SM.out.ep x A).1
       have HG:Hid (Value.slice c.S.ep.a c.m.ep.length c.S.ep.cap=Value.slice (some ⟨g,0,none⟩) c.m.ep.length c.S.ep.cap):=by show _=_;rw[hg]
       clear hg o A p0 p1 p2 Y Z p5 pf
       rw[HG.out]
       go_upto_region 13 with fail
       have HW:Hid (Below wr.heap.size wr (wr.alloc (.cells #[.int .i64 x.kind,.string x.name,.string x.loc,.string x.spec] 102))):=(Below.refl _ _).alloc (Nat.le_refl _) _
       refine zah (R:=fun W=>W.heap[wr.heap.size]? =some (.cells #[.int .i64 x.kind,.string x.name,.string x.loc,.string x.spec] 102 (0,0))∧PP c (acc epF (c.m.ep.take j) (acc zV c.m.im (acc rqT c.m.rq sNone))) W∧Below c.B w W∧KeepB c.b w W) ⟨heap_alloc_new wr _,q.out.later HW.out,D.out.trans (HW.out.mono q.out.1.2),E.out.trans (KeepB.of_below HW.out)⟩ ?_
       obtain⟨gx,U⟩: ∃gx,gx=wr.heap.size:=⟨_,rfl⟩
       rw[←U]
       clear k0 k1 k2 k3 HW
       rintro W ⟨xb,J,M,L⟩
       clear U q D E
       have XB:=zc xb
       have q:=zc J
       have D:=zc M
       have E:=zc L
       clear xb J M L
       obtain⟨x0,x1,x2,x3,xf⟩:=zcV XB.out
       cases e1:(x.loc.toList==[42,100,101,102,97,117,108,116]) with
       |false=>
        go_wp2_with fail
        refine (zm4 c _ x W q.out (by have:=HZ.out;rw[ziu e1] at this;exact this) (by omega)).mono ?_
        rintro e W2 ⟨rfl,O,N,V⟩
        have ac:=zc O
        have ad:=zc (D.out.trans N)
        have aa:=zc (E.out.trans V)
        clear O N V x0 x1 x2 x3 xf
        go_wp2
        rw[←HG.out]
        go_roundg (gk-1)
        case rel=>exact⟨K,rfl,by have:=HJ.out;omega,by rw[HJ.out,zbS epF HX.out];exact (by rw[ziu e1];exact ac.out),ad.out,aa.out⟩
        case measure=>omega
       |true=>
        go_wp2
        rw[←HG.out]
        go_roundg (gk-1)
        case rel=>exact⟨K,rfl,by have:=HJ.out;omega,by rw[HJ.out,zbS epF HX.out];exact (by rw[zmA e1,zm8];exact q.out),D.out,E.out⟩
        case measure=>omega
      ·have I: ¬(j:Int)<(c.m.ep.length:Int):=by omega
       obtain rfl:j=c.m.ep.length:=by omega
       have HN:Hid (PP c (acc (zch c.m.ex) (c.m.st.take 0) (zbB c.m)) wr):=by have:=q.out;rw[List.take_length] at this;exact this
       go_wp2
       go_loopg [66] c.m.st.length (fun k i wr=>∃j:Nat,i= .int .i64 j∧j+k=c.m.st.length∧PP c (acc (zch c.m.ex) (c.m.st.take j) (zbB c.m)) wr∧Below c.B w wr∧KeepB c.b w wr)
       case atStart=>exact⟨0,rfl,by omega,HN.out,D.out,E.out⟩
       case round=>
        obtain⟨j,rfl,hj,J,M,L⟩:=hrel
        clear q D E HN
        have q:=zc J
        have D:=zc M
        have E:=zc L
        clear J M L p0 p1 p2 Y Z p5 pf
        obtain⟨p0,p1,p2,Y,Z,p5,pf⟩:=zu q.out.2.2.1
        by_cases X:j<c.m.st.length
        ·have I:(j:Int)<(c.m.st.length:Int):=by omega
         obtain⟨x,o⟩:=zfq X
         have A:=List.mem_of_getElem? o
         have HZ:Hid ((acc (zch c.m.ex) (c.m.st.take j) (zbB c.m)++(zch c.m.ex) x).size≤140737488355328):=by show _≤_;rw[←zbS (zch c.m.ex) o];exact Nat.le_trans (zcX (zch c.m.ex) c.m.st (j+1) (zbB c.m)) HL.out
         have HX:=zc o
         obtain⟨K,H⟩: ∃K,K=j+1:=⟨_,rfl⟩
         have ej:(j:Int)+1=(K:Int):=by omega
         have HJ:=zc H
         clear H
         obtain⟨ei,af⟩: ∃n:Nat,x.expr=(n:Int):=⟨x.expr.toNat,by have:=HS.out x A;omega⟩
         have ak:ei<c.m.ex.length:=by have:=HS.out x A;omega
         obtain⟨g,hg,z⟩:=OwnR.elem (f:=smL) (m:=3) (fun _=>rfl) q.out.2.1.st o
         have k0:=z 0 (by omega)
         have k1:=z 1 (by omega)
         have k2:=z 2 (by omega)
         simp only[smL,Nat.add_zero,List.getElem?_cons_zero,List.getElem?_cons_succ,af] at k0 k1 k2
         clear z
         have HG:Hid (Value.slice c.S.st.a c.m.st.length c.S.st.cap=Value.slice (some ⟨g,0,none⟩) c.m.st.length c.S.st.cap):=by show _=_;rw[hg]
         clear hg o A p0 p1 p2 Y Z p5 pf
         rw[HG.out]
         go_upto_region 19 with fail
         have HW:Hid (Below wr.heap.size wr (wr.alloc (.cells #[.int .i64 x.kind,.string x.name,.int .i64 (ei:Int)] 106))):=(Below.refl _ _).alloc (Nat.le_refl _) _
         refine zah (R:=fun W=>W.heap[wr.heap.size]? =some (.cells #[.int .i64 x.kind,.string x.name,.int .i64 (ei:Int)] 106 (0,0))∧PP c (acc (zch c.m.ex) (c.m.st.take j) (zbB c.m)) W∧Below c.B w W∧KeepB c.b w W) ⟨heap_alloc_new wr _,q.out.later HW.out,D.out.trans (HW.out.mono q.out.1.2),E.out.trans (KeepB.of_below HW.out)⟩ ?_
         obtain⟨gx,U⟩: ∃gx,gx=wr.heap.size:=⟨_,rfl⟩
         rw[←U]
         clear k0 k1 k2 HW
         rintro W ⟨xb,J,M,L⟩
         clear U q D E
         have XB:=zc xb
         have q:=zc J
         have D:=zc M
         have E:=zc L
         clear xb J M L
         obtain⟨x0,x1,x2,xf⟩:=zbt XB.out
         go_wp2_with fail
         refine (zm6 c _ x.kind x.name ei W (OK.out ei ak) q.out (by have:=HZ.out;rw[zch,af,Int.toNat_natCast] at this;exact this)).mono ?_
         rintro e W2 ⟨rfl,O,N,V⟩
         have ac:=zc O
         have ad:=zc (D.out.trans N)
         have aa:=zc (E.out.trans V)
         clear O N V x0 x1 x2 xf
         go_wp2
         rw[←HG.out]
         go_roundg (gk-1)
         case rel=>exact⟨K,rfl,by have:=HJ.out;omega,by rw[HJ.out,zbS (zch c.m.ex) HX.out];exact (by rw[zch,af,Int.toNat_natCast];exact ac.out),ad.out,aa.out⟩
         case measure=>omega
        ·have I: ¬(j:Int)<(c.m.st.length:Int):=by omega
         obtain rfl:j=c.m.st.length:=by omega
         have HN:Hid (PP c (zb6 c.m) wr):=by have:=q.out;rw[List.take_length] at this;exact this
         go_wp2
         go_end0
         exact⟨rfl,HN.out,D.out,E.out⟩
theorem ziv (c:PC) (t:ByteArray) (k K:Int) (z j U:ByteArray) (l r:Nat) (w:World) (Z:zbX c l) (aa:zbX c r) (hr:r<c.m.ex.length) (h:PP c t w) (n:(t++(prX c.m.ex l++U++zC (zL (c.m.ex.getD r zf).kind) (prX c.m.ex r))).size≤140737488355328):
  Calls Tryz.prog 188 #[.pointer (some ⟨c.gp,0,none⟩),.agg #[.int .i64 k,.int .i64 K,.string z,.string j,.int .i64 (l:Int),.int .i64 (r:Int)],.string U] w (PO c (t++(prX c.m.ex l++U++zC (zL (c.m.ex.getD r zf).kind) (prX c.m.ex r))) w):=by
 have HP:=zc h
 obtain⟨V,J⟩: ∃V,(c.m.ex.getD r zf).kind=V:=⟨_,rfl⟩
 rw[J] at n ⊢
 have KK:=zc J
 have HL:Hid (t.size+((prX c.m.ex l).size+U.size+(zC (zL V) (prX c.m.ex r)).size)≤140737488355328):=by show _≤_;simp only[ByteArray.size_append] at n;exact n
 obtain⟨T,hT⟩: ∃T,T=prX c.m.ex l++U++zC (zL V) (prX c.m.ex r):=⟨_,rfl⟩
 rw[←hT]
 have HT:=zc hT
 have ad:=zc Z
 have ab:=zc aa
 have HR:=zc hr
 clear h n Z aa hr J hT
 go_enter Tryz.func188,Tryz.ntmps188
 go_upto_region 1 with fail
 have HW:Hid (Below w.heap.size w (w.alloc (.cells #[.int .i64 k,.int .i64 K,.string z,.string j,.int .i64 (l:Int),.int .i64 (r:Int)] 108))):=(Below.refl _ _).alloc (Nat.le_refl _) _
 refine zah (R:=fun W=>W.heap[w.heap.size]? =some (.cells #[.int .i64 k,.int .i64 K,.string z,.string j,.int .i64 (l:Int),.int .i64 (r:Int)] 108 (0,0))∧PP c t W∧Below c.B w W∧KeepB c.b w W) ⟨heap_alloc_new w _,HP.out.later HW.out,HW.out.mono HP.out.1.2,KeepB.of_below HW.out⟩ ?_
 obtain⟨gx,L⟩: ∃gx,gx=w.heap.size:=⟨_,rfl⟩
 have Y:gx≠c.b:=by
  rw[L]
  obtain⟨aj,hc⟩:=zbC HP.out.1.1
  have:=(Array.getElem?_eq_some_iff.1 hc).1
  omega
 rw[←L]
 rintro w1 ⟨hx,A,D,o⟩
 clear L HW
 have X1:=zc hx
 have N:=zc A
 have af:=zc D
 have ae:=zc o
 clear hx A D o
 obtain⟨x0,x1,x2,x3,x4,x5,xf⟩:=zu X1.out
 obtain⟨p0,p1,p2,p3,p4,p5,pf⟩:=zu N.out.2.2.1
 have I:=(Array.getElem?_eq_some_iff.1 N.out.2.2.1).1
 have E:=(Array.getElem?_eq_some_iff.1 X1.out).1
 go_wp2_with fail
 refine (zfp c t l false w1 ad.out N.out (by have:=HL.out;simp only[zC,Bool.false_eq_true,↓reduceIte,ByteArray.size_append] at this ⊢;omega)).mono ?_
 rintro e w2 ⟨rfl,A,D,o⟩
 have M:=zc A
 have ag:=zc (af.out.trans D)
 have ah:=zc (ae.out.trans o)
 have X2:=zc ((o _ _ _ _ X1.out Y (by decide)).trans X1.out)
 clear A D o p0 p1 p2 p3 p4 p5 pf x0 x1 x2 x3 x4 x5 xf I E
 obtain⟨x0,x1,x2,x3,x4,x5,xf⟩:=zu X2.out
 obtain⟨p0,p1,p2,p3,p4,p5,pf⟩:=zu M.out.2.2.1
 have I:=(Array.getElem?_eq_some_iff.1 M.out.2.2.1).1
 have E:=(Array.getElem?_eq_some_iff.1 X2.out).1
 go_wp2_with fail
 refine (zbu c _ [U] w2 M.out (by have:=HL.out;simp only[zr,zC,Bool.false_eq_true,↓reduceIte,List.foldl_cons,List.foldl_nil,ByteArray.size_append] at this ⊢;omega) (by simp)).mono ?_
 rintro e O ⟨rfl,A,D,o⟩
 have H:=zc A
 have ai:=zc (ag.out.trans D)
 have ac:=zc (ah.out.trans o)
 have X3:=zc ((o _ _ _ _ X2.out Y (by decide)).trans X2.out)
 clear A D o p0 p1 p2 p3 p4 p5 pf x0 x1 x2 x3 x4 x5 xf I E
 obtain⟨x0,x1,x2,x3,x4,x5,xf⟩:=zu X3.out
 obtain⟨p0,p1,p2,p3,p4,p5,pf⟩:=zu H.out.2.2.1
 have I:=(Array.getElem?_eq_some_iff.1 H.out.2.2.1).1
 have E:=(Array.getElem?_eq_some_iff.1 X3.out).1
 go_wp2_with fail
 have X:=zc (H.out.later ((Below.refl O.heap.size O).drew))
 go_region_with (first|(go_at_call 190;refine (zgg c _ r _ X.out HR.out).mono ?_;rintro e w' ⟨rfl,rfl⟩;rw[KK.out])|(go_at_call 158;refine (ze0 _ _).mono ?_;rintro e w' ⟨rfl,rfl⟩)|(go_at_call 189;refine (zfp c _ r (zL V) _ ab.out X.out (by have:=HL.out;simp only[zr,show ∀q,zC false q=q from fun _=>rfl,List.foldl_cons,List.foldl_nil,ByteArray.size_append] at this ⊢;omega)).mono ?_;rintro e w4 ⟨rfl,A,D,o⟩))
 all_goals (go_wp2;go_end0;exact⟨rfl,(by rw[HT.out];simp only[zr,show ∀q,zC false q=q from fun _=>rfl,List.foldl_cons,List.foldl_nil,←ByteArray.append_assoc] at A ⊢;exact A),ai.out.trans ((((Below.refl O.heap.size O).drew).mono H.out.1.2).trans D),ac.out.trans ((KeepB.of_below ((Below.refl O.heap.size O).drew)).trans o)⟩)
theorem zmC (c:PC) (t:ByteArray) (i:Nat) (j:Int) (o n:ByteArray) (l r:Int) (w:World) (h:PP c t w) (hi:i<c.m.ex.length) (J:c.m.ex.getD i zf=⟨1,j,o,n,l,r⟩) (hn: -9223372036854775808≤j∧j≤9223372036854775807) (q:(t++(strOfNums (zb2 j))).size≤140737488355328):
  Calls Tryz.prog 162 #[.pointer (some ⟨c.gp,0,none⟩),.int .i64 (i:Int)] w (PO c (t++(strOfNums (zb2 j))) w):=by
 have I:=zc h
 obtain⟨T,hT⟩: ∃T,T=strOfNums (zb2 j):=⟨_,rfl⟩
 rw[←hT] at q ⊢
 have HT:=zc hT
 have HL:=zc q
 clear h q hT
 obtain⟨p0,p1,p2,p3,p4,p5,pf⟩:=zu I.out.2.2.1
 obtain⟨g,hg,K,X,x1,Z,x3,U,M⟩:=I.out.2.1.expr hi
 rw[J] at X x1 Z x3 U M
 dsimp only at X x1 Z x3 U M
 rw[hg] at p4
 have aa:(i:Int)<(c.m.ex.length:Int):=by omega
 clear hg J
 go_enter Tryz.func162,Tryz.ntmps162
 go_upto_region 1 with fail
 have V:Hid (Below w.heap.size w (w.alloc (.cells #[.int .i64 1,.int .i64 j,.string o,.string n,.int .i64 l,.int .i64 r] 108))):=(Below.refl _ _).alloc (Nat.le_refl _) _
 refine zah (R:=fun W=>W.heap[w.heap.size]? =some (.cells #[.int .i64 1,.int .i64 j,.string o,.string n,.int .i64 l,.int .i64 r] 108 (0,0))∧PP c t W∧Below c.B w W∧KeepB c.b w W) ⟨heap_alloc_new w _,I.out.later V.out,V.out.mono I.out.1.2,KeepB.of_below V.out⟩ ?_
 obtain⟨gx,D⟩: ∃gx,gx=w.heap.size:=⟨_,rfl⟩
 have ai:gx≠c.b:=by
  rw[D]
  obtain⟨aj,hc⟩:=zbC I.out.1.1
  have:=(Array.getElem?_eq_some_iff.1 hc).1
  omega
 rw[←D]
 rintro w1 ⟨J,O,Y,L⟩
 clear D V K X x1 Z x3 U M p0 p1 p2 p3 p4 p5 pf aa
 have N:=zc J
 have z:=zc O
 have ac:=zc Y
 have ab:=zc L
 clear J O Y L
 obtain⟨X,x1,Z,x3,U,M,xf⟩:=zu N.out
 obtain⟨p0,p1,p2,p3,p4,p5,pf⟩:=zu z.out.2.2.1
 have K:=(Array.getElem?_eq_some_iff.1 z.out.2.2.1).1
 have ah:=(Array.getElem?_eq_some_iff.1 N.out).1
 have HN:=zc hn
 go_wp2_with fail
 go_region_with (first|(go_at_call 187;refine (zlO j _ HN.out).mono ?_;rintro e w2 ⟨rfl,H⟩;have A:=zc (((Below.refl w1.heap.size w1).drew).trans H);have E:=zc (z.out.later A.out);have X2:=zc ((A.out.block _ (Array.getElem?_eq_some_iff.1 N.out).1).trans N.out);clear H;obtain⟨y0,y1,y2,y3,y4,y5,yf⟩:=zu X2.out;obtain⟨q0,q1,q2,q3,q4,q5,qf⟩:=zu E.out.2.2.1;have ag:=(Array.getElem?_eq_some_iff.1 E.out.2.2.1).1;have af:=(Array.getElem?_eq_some_iff.1 X2.out).1)|(go_at_call 57;refine (zbu c t [strOfNums (zb2 j)] _ E.out (by have:=HL.out;rw[HT.out] at this;simp only[zr,List.foldl_cons,List.foldl_nil,ByteArray.size_append] at this ⊢;omega) (by simp)).mono ?_;rintro e w3 ⟨rfl,O,ae,ad⟩))
 all_goals (have Y:=(A.out.mono z.out.1.2).trans ae;have L:=(KeepB.of_below (b:=c.b) A.out).trans ad;go_wp2;go_end0;exact⟨rfl,(by rw[HT.out];exact O),ac.out.trans Y,ab.out.trans L⟩)
theorem zmD (c:PC) (t:ByteArray) (i:Nat) (q:Int) (j n:ByteArray) (l r:Int) (w:World) (h:PP c t w) (hi:i<c.m.ex.length) (E:c.m.ex.getD i zf=⟨2,q,j,n,l,r⟩) (o:(t++(j)).size≤140737488355328):
  Calls Tryz.prog 162 #[.pointer (some ⟨c.gp,0,none⟩),.int .i64 (i:Int)] w (PO c (t++(j)) w):=by
 have D:=zc h
 obtain⟨T,hT⟩: ∃T,T=j:=⟨_,rfl⟩
 rw[←hT] at o ⊢
 have HT:=zc hT
 have HL:=zc o
 clear h o hT
 obtain⟨p0,p1,p2,p3,p4,p5,pf⟩:=zu D.out.2.2.1
 obtain⟨g,hg,H,N,V,U,X,L,J⟩:=D.out.2.1.expr hi
 rw[E] at N V U X L J
 dsimp only at N V U X L J
 rw[hg] at p4
 have Y:(i:Int)<(c.m.ex.length:Int):=by omega
 clear hg E
 go_enter Tryz.func162,Tryz.ntmps162
 go_upto_region 1 with fail
 have M:Hid (Below w.heap.size w (w.alloc (.cells #[.int .i64 2,.int .i64 q,.string j,.string n,.int .i64 l,.int .i64 r] 108))):=(Below.refl _ _).alloc (Nat.le_refl _) _
 refine zah (R:=fun W=>W.heap[w.heap.size]? =some (.cells #[.int .i64 2,.int .i64 q,.string j,.string n,.int .i64 l,.int .i64 r] 108 (0,0))∧PP c t W∧Below c.B w W∧KeepB c.b w W) ⟨heap_alloc_new w _,D.out.later M.out,M.out.mono D.out.1.2,KeepB.of_below M.out⟩ ?_
 obtain⟨gx,z⟩: ∃gx,gx=w.heap.size:=⟨_,rfl⟩
 have ac:gx≠c.b:=by
  rw[z]
  obtain⟨ad,hc⟩:=zbC D.out.1.1
  have:=(Array.getElem?_eq_some_iff.1 hc).1
  omega
 rw[←z]
 rintro w1 ⟨E,K,O,I⟩
 clear z M H N V U X L J p0 p1 p2 p3 p4 p5 pf Y
 have X1:=zc E
 have A:=zc K
 have aa:=zc O
 have Z:=zc I
 clear E K O I
 obtain⟨N,V,U,X,L,J,xf⟩:=zu X1.out
 obtain⟨p0,p1,p2,p3,p4,p5,pf⟩:=zu A.out.2.2.1
 have H:=(Array.getElem?_eq_some_iff.1 A.out.2.2.1).1
 have ab:=(Array.getElem?_eq_some_iff.1 X1.out).1
 go_wp2_with fail
 go_region_with (go_at_call 57;refine (zbU c t [j] w1 A.out (by have:=HL.out;rw[HT.out] at this;simp only[zr,List.foldl_cons,List.foldl_nil,ByteArray.size_append] at this ⊢;omega) (by simp)).mono ?_;rintro e w2 ⟨rfl,K,O,I⟩)
 all_goals (go_wp2;go_end0;exact⟨rfl,(by rw[HT.out];exact K),aa.out.trans O,Z.out.trans I⟩)
theorem zmE (c:PC) (t:ByteArray) (i:Nat) (q:Int) (j n:ByteArray) (l r:Int) (w:World) (h:PP c t w) (hi:i<c.m.ex.length) (E:c.m.ex.getD i zf=⟨3,q,j,n,l,r⟩) (o:(t++(j++cParens)).size≤140737488355328):
  Calls Tryz.prog 162 #[.pointer (some ⟨c.gp,0,none⟩),.int .i64 (i:Int)] w (PO c (t++(j++cParens)) w):=by
 have D:=zc h
 obtain⟨T,hT⟩: ∃T,T=j++cParens:=⟨_,rfl⟩
 rw[←hT] at o ⊢
 have HT:=zc hT
 have HL:=zc o
 clear h o hT
 obtain⟨p0,p1,p2,p3,p4,p5,pf⟩:=zu D.out.2.2.1
 obtain⟨g,hg,I,N,V,U,X,L,K⟩:=D.out.2.1.expr hi
 rw[E] at N V U X L K
 dsimp only at N V U X L K
 rw[hg] at p4
 have Y:(i:Int)<(c.m.ex.length:Int):=by omega
 clear hg E
 go_enter Tryz.func162,Tryz.ntmps162
 go_upto_region 1 with fail
 have M:Hid (Below w.heap.size w (w.alloc (.cells #[.int .i64 3,.int .i64 q,.string j,.string n,.int .i64 l,.int .i64 r] 108))):=(Below.refl _ _).alloc (Nat.le_refl _) _
 refine zah (R:=fun W=>W.heap[w.heap.size]? =some (.cells #[.int .i64 3,.int .i64 q,.string j,.string n,.int .i64 l,.int .i64 r] 108 (0,0))∧PP c t W∧Below c.B w W∧KeepB c.b w W) ⟨heap_alloc_new w _,D.out.later M.out,M.out.mono D.out.1.2,KeepB.of_below M.out⟩ ?_
 obtain⟨gx,z⟩: ∃gx,gx=w.heap.size:=⟨_,rfl⟩
 have ac:gx≠c.b:=by
  rw[z]
  obtain⟨ad,hc⟩:=zbC D.out.1.1
  have:=(Array.getElem?_eq_some_iff.1 hc).1
  omega
 rw[←z]
 rintro w1 ⟨E,H,O,J⟩
 clear z M I N V U X L K p0 p1 p2 p3 p4 p5 pf Y
 have X1:=zc E
 have A:=zc H
 have aa:=zc O
 have Z:=zc J
 clear E H O J
 obtain⟨N,V,U,X,L,K,xf⟩:=zu X1.out
 obtain⟨p0,p1,p2,p3,p4,p5,pf⟩:=zu A.out.2.2.1
 have I:=(Array.getElem?_eq_some_iff.1 A.out.2.2.1).1
 have ab:=(Array.getElem?_eq_some_iff.1 X1.out).1
 go_wp2_with fail
 go_region_with (go_at_call 57;refine (zbU c t [j,cParens] w1 A.out (by have:=HL.out;rw[HT.out] at this;simp only[zr,List.foldl_cons,List.foldl_nil,ByteArray.size_append] at this ⊢;omega) (by simp)).mono ?_;rintro e w2 ⟨rfl,H,O,J⟩)
 all_goals (go_wp2;go_end0;exact⟨rfl,(by rw[HT.out];simp only[zr,List.foldl_cons,List.foldl_nil,←ByteArray.append_assoc] at H ⊢;exact H),aa.out.trans O,Z.out.trans J⟩)
theorem zmF (c:PC) (t:ByteArray) (i:Nat) (q:Int) (n j:ByteArray) (l r:Int) (w:World) (h:PP c t w) (hi:i<c.m.ex.length) (E:c.m.ex.getD i zf=⟨4,q,n,j,l,r⟩) (o:(t++(n++cPoint++j)).size≤140737488355328):
  Calls Tryz.prog 162 #[.pointer (some ⟨c.gp,0,none⟩),.int .i64 (i:Int)] w (PO c (t++(n++cPoint++j)) w):=by
 have D:=zc h
 obtain⟨T,hT⟩: ∃T,T=n++cPoint++j:=⟨_,rfl⟩
 rw[←hT] at o ⊢
 have HT:=zc hT
 have HL:=zc o
 clear h o hT
 obtain⟨p0,p1,p2,p3,p4,p5,pf⟩:=zu D.out.2.2.1
 obtain⟨g,hg,I,N,V,U,X,L,K⟩:=D.out.2.1.expr hi
 rw[E] at N V U X L K
 dsimp only at N V U X L K
 rw[hg] at p4
 have Y:(i:Int)<(c.m.ex.length:Int):=by omega
 clear hg E
 go_enter Tryz.func162,Tryz.ntmps162
 go_upto_region 1 with fail
 have M:Hid (Below w.heap.size w (w.alloc (.cells #[.int .i64 4,.int .i64 q,.string n,.string j,.int .i64 l,.int .i64 r] 108))):=(Below.refl _ _).alloc (Nat.le_refl _) _
 refine zah (R:=fun W=>W.heap[w.heap.size]? =some (.cells #[.int .i64 4,.int .i64 q,.string n,.string j,.int .i64 l,.int .i64 r] 108 (0,0))∧PP c t W∧Below c.B w W∧KeepB c.b w W) ⟨heap_alloc_new w _,D.out.later M.out,M.out.mono D.out.1.2,KeepB.of_below M.out⟩ ?_
 obtain⟨gx,z⟩: ∃gx,gx=w.heap.size:=⟨_,rfl⟩
 have ac:gx≠c.b:=by
  rw[z]
  obtain⟨ad,hc⟩:=zbC D.out.1.1
  have:=(Array.getElem?_eq_some_iff.1 hc).1
  omega
 rw[←z]
 rintro w1 ⟨E,H,O,J⟩
 clear z M I N V U X L K p0 p1 p2 p3 p4 p5 pf Y
 have X1:=zc E
 have A:=zc H
 have aa:=zc O
 have Z:=zc J
 clear E H O J
 obtain⟨N,V,U,X,L,K,xf⟩:=zu X1.out
 obtain⟨p0,p1,p2,p3,p4,p5,pf⟩:=zu A.out.2.2.1
 have I:=(Array.getElem?_eq_some_iff.1 A.out.2.2.1).1
 have ab:=(Array.getElem?_eq_some_iff.1 X1.out).1
 go_wp2_with fail
 go_region_with (go_at_call 57;refine (zbU c t [n,cPoint,j] w1 A.out (by have:=HL.out;rw[HT.out] at this;simp only[zr,List.foldl_cons,List.foldl_nil,ByteArray.size_append] at this ⊢;omega) (by simp)).mono ?_;rintro e w2 ⟨rfl,H,O,J⟩)
 all_goals (go_wp2;go_end0;exact⟨rfl,(by rw[HT.out];simp only[zr,List.foldl_cons,List.foldl_nil,←ByteArray.append_assoc] at H ⊢;exact H),aa.out.trans O,Z.out.trans J⟩)
theorem zmG (c:PC) (t:ByteArray) (i:Nat) (q:Int) (n j:ByteArray) (l r:Int) (w:World) (h:PP c t w) (hi:i<c.m.ex.length) (E:c.m.ex.getD i zf=⟨5,q,n,j,l,r⟩) (o:(t++(n++cPoint++j++cParens)).size≤140737488355328):
  Calls Tryz.prog 162 #[.pointer (some ⟨c.gp,0,none⟩),.int .i64 (i:Int)] w (PO c (t++(n++cPoint++j++cParens)) w):=by
 have D:=zc h
 obtain⟨T,hT⟩: ∃T,T=n++cPoint++j++cParens:=⟨_,rfl⟩
 rw[←hT] at o ⊢
 have HT:=zc hT
 have HL:=zc o
 clear h o hT
 obtain⟨p0,p1,p2,p3,p4,p5,pf⟩:=zu D.out.2.2.1
 obtain⟨g,hg,I,N,V,U,X,L,K⟩:=D.out.2.1.expr hi
 rw[E] at N V U X L K
 dsimp only at N V U X L K
 rw[hg] at p4
 have Y:(i:Int)<(c.m.ex.length:Int):=by omega
 clear hg E
 go_enter Tryz.func162,Tryz.ntmps162
 go_upto_region 1 with fail
 have M:Hid (Below w.heap.size w (w.alloc (.cells #[.int .i64 5,.int .i64 q,.string n,.string j,.int .i64 l,.int .i64 r] 108))):=(Below.refl _ _).alloc (Nat.le_refl _) _
 refine zah (R:=fun W=>W.heap[w.heap.size]? =some (.cells #[.int .i64 5,.int .i64 q,.string n,.string j,.int .i64 l,.int .i64 r] 108 (0,0))∧PP c t W∧Below c.B w W∧KeepB c.b w W) ⟨heap_alloc_new w _,D.out.later M.out,M.out.mono D.out.1.2,KeepB.of_below M.out⟩ ?_
 obtain⟨gx,z⟩: ∃gx,gx=w.heap.size:=⟨_,rfl⟩
 have ac:gx≠c.b:=by
  rw[z]
  obtain⟨ad,hc⟩:=zbC D.out.1.1
  have:=(Array.getElem?_eq_some_iff.1 hc).1
  omega
 rw[←z]
 rintro w1 ⟨E,H,O,J⟩
 clear z M I N V U X L K p0 p1 p2 p3 p4 p5 pf Y
 have X1:=zc E
 have A:=zc H
 have aa:=zc O
 have Z:=zc J
 clear E H O J
 obtain⟨N,V,U,X,L,K,xf⟩:=zu X1.out
 obtain⟨p0,p1,p2,p3,p4,p5,pf⟩:=zu A.out.2.2.1
 have I:=(Array.getElem?_eq_some_iff.1 A.out.2.2.1).1
 have ab:=(Array.getElem?_eq_some_iff.1 X1.out).1
 go_wp2_with fail
 go_region_with (go_at_call 57;refine (zbU c t [n,cPoint,j,cParens] w1 A.out (by have:=HL.out;rw[HT.out] at this;simp only[zr,List.foldl_cons,List.foldl_nil,ByteArray.size_append] at this ⊢;omega) (by simp)).mono ?_;rintro e w2 ⟨rfl,H,O,J⟩)
 all_goals (go_wp2;go_end0;exact⟨rfl,(by rw[HT.out];simp only[zr,List.foldl_cons,List.foldl_nil,←ByteArray.append_assoc] at H ⊢;exact H),aa.out.trans O,Z.out.trans J⟩)
theorem zmH (c:PC) (t:ByteArray) (i:Nat) (q:Int) (n j:ByteArray) (l r:Nat) (w:World) (h:PP c t w) (hi:i<c.m.ex.length) (E:c.m.ex.getD i zf=⟨6,q,n,j,(l:Int),(r:Int)⟩) (ac:zbX c l) (ad:zbX c r) (hr:r<c.m.ex.length) (o:(t++(prX c.m.ex l++tPlus++zC (zL (c.m.ex.getD r zf).kind) (prX c.m.ex r))).size≤140737488355328):
  Calls Tryz.prog 162 #[.pointer (some ⟨c.gp,0,none⟩),.int .i64 (i:Int)] w (PO c (t++(prX c.m.ex l++tPlus++zC (zL (c.m.ex.getD r zf).kind) (prX c.m.ex r))) w):=by
 have D:=zc h
 obtain⟨T,hT⟩: ∃T,T=prX c.m.ex l++tPlus++zC (zL (c.m.ex.getD r zf).kind) (prX c.m.ex r):=⟨_,rfl⟩
 rw[←hT] at o ⊢
 have HT:=zc hT
 have HL:=zc o
 clear h o hT
 obtain⟨p0,p1,p2,p3,p4,p5,pf⟩:=zu D.out.2.2.1
 obtain⟨g,hg,I,N,V,U,X,L,K⟩:=D.out.2.1.expr hi
 rw[E] at N V U X L K
 dsimp only at N V U X L K
 rw[hg] at p4
 have Y:(i:Int)<(c.m.ex.length:Int):=by omega
 clear hg E
 go_enter Tryz.func162,Tryz.ntmps162
 go_upto_region 1 with fail
 have M:Hid (Below w.heap.size w (w.alloc (.cells #[.int .i64 6,.int .i64 q,.string n,.string j,.int .i64 (l:Int),.int .i64 (r:Int)] 108))):=(Below.refl _ _).alloc (Nat.le_refl _) _
 refine zah (R:=fun W=>W.heap[w.heap.size]? =some (.cells #[.int .i64 6,.int .i64 q,.string n,.string j,.int .i64 (l:Int),.int .i64 (r:Int)] 108 (0,0))∧PP c t W∧Below c.B w W∧KeepB c.b w W) ⟨heap_alloc_new w _,D.out.later M.out,M.out.mono D.out.1.2,KeepB.of_below M.out⟩ ?_
 obtain⟨gx,z⟩: ∃gx,gx=w.heap.size:=⟨_,rfl⟩
 have af:gx≠c.b:=by
  rw[z]
  obtain⟨ag,hc⟩:=zbC D.out.1.1
  have:=(Array.getElem?_eq_some_iff.1 hc).1
  omega
 rw[←z]
 rintro w1 ⟨E,H,O,J⟩
 clear z M I N V U X L K p0 p1 p2 p3 p4 p5 pf Y
 have X1:=zc E
 have A:=zc H
 have ab:=zc O
 have aa:=zc J
 clear E H O J
 obtain⟨N,V,U,X,L,K,xf⟩:=zu X1.out
 obtain⟨p0,p1,p2,p3,p4,p5,pf⟩:=zu A.out.2.2.1
 have I:=(Array.getElem?_eq_some_iff.1 A.out.2.2.1).1
 have ae:=(Array.getElem?_eq_some_iff.1 X1.out).1
 go_wp2_with fail
 refine (ziv c t 6 q n j tPlus l r w1 ac ad hr A.out (by rw[←HT.out];exact HL.out)).mono ?_
 rw[←HT.out]
 rintro e w2 ⟨rfl,H,O,J⟩
 have Z:=zc H
 clear H
 go_wp2
 go_end0
 exact⟨rfl,Z.out,ab.out.trans O,aa.out.trans J⟩
theorem zmI (c:PC) (t:ByteArray) (i:Nat) (q:Int) (n j:ByteArray) (l r:Nat) (w:World) (h:PP c t w) (hi:i<c.m.ex.length) (E:c.m.ex.getD i zf=⟨7,q,n,j,(l:Int),(r:Int)⟩) (ac:zbX c l) (ad:zbX c r) (hr:r<c.m.ex.length) (o:(t++(prX c.m.ex l++tMinus++zC (zL (c.m.ex.getD r zf).kind) (prX c.m.ex r))).size≤140737488355328):
  Calls Tryz.prog 162 #[.pointer (some ⟨c.gp,0,none⟩),.int .i64 (i:Int)] w (PO c (t++(prX c.m.ex l++tMinus++zC (zL (c.m.ex.getD r zf).kind) (prX c.m.ex r))) w):=by
 have D:=zc h
 obtain⟨T,hT⟩: ∃T,T=prX c.m.ex l++tMinus++zC (zL (c.m.ex.getD r zf).kind) (prX c.m.ex r):=⟨_,rfl⟩
 rw[←hT] at o ⊢
 have HT:=zc hT
 have HL:=zc o
 clear h o hT
 obtain⟨p0,p1,p2,p3,p4,p5,pf⟩:=zu D.out.2.2.1
 obtain⟨g,hg,I,N,V,U,X,L,K⟩:=D.out.2.1.expr hi
 rw[E] at N V U X L K
 dsimp only at N V U X L K
 rw[hg] at p4
 have Y:(i:Int)<(c.m.ex.length:Int):=by omega
 clear hg E
 go_enter Tryz.func162,Tryz.ntmps162
 go_upto_region 1 with fail
 have M:Hid (Below w.heap.size w (w.alloc (.cells #[.int .i64 7,.int .i64 q,.string n,.string j,.int .i64 (l:Int),.int .i64 (r:Int)] 108))):=(Below.refl _ _).alloc (Nat.le_refl _) _
 refine zah (R:=fun W=>W.heap[w.heap.size]? =some (.cells #[.int .i64 7,.int .i64 q,.string n,.string j,.int .i64 (l:Int),.int .i64 (r:Int)] 108 (0,0))∧PP c t W∧Below c.B w W∧KeepB c.b w W) ⟨heap_alloc_new w _,D.out.later M.out,M.out.mono D.out.1.2,KeepB.of_below M.out⟩ ?_
 obtain⟨gx,z⟩: ∃gx,gx=w.heap.size:=⟨_,rfl⟩
 have af:gx≠c.b:=by
  rw[z]
  obtain⟨ag,hc⟩:=zbC D.out.1.1
  have:=(Array.getElem?_eq_some_iff.1 hc).1
  omega
 rw[←z]
 rintro w1 ⟨E,H,O,J⟩
 clear z M I N V U X L K p0 p1 p2 p3 p4 p5 pf Y
 have X1:=zc E
 have A:=zc H
 have ab:=zc O
 have aa:=zc J
 clear E H O J
 obtain⟨N,V,U,X,L,K,xf⟩:=zu X1.out
 obtain⟨p0,p1,p2,p3,p4,p5,pf⟩:=zu A.out.2.2.1
 have I:=(Array.getElem?_eq_some_iff.1 A.out.2.2.1).1
 have ae:=(Array.getElem?_eq_some_iff.1 X1.out).1
 go_wp2_with fail
 refine (ziv c t 7 q n j tMinus l r w1 ac ad hr A.out (by rw[←HT.out];exact HL.out)).mono ?_
 rw[←HT.out]
 rintro e w2 ⟨rfl,H,O,J⟩
 have Z:=zc H
 clear H
 go_wp2
 go_end0
 exact⟨rfl,Z.out,ab.out.trans O,aa.out.trans J⟩
theorem zmJ (c:PC) (t:ByteArray) (i:Nat) (Z:Int) (A j:ByteArray) (l r:Nat) (w:World) (h:PP c t w) (hi:i<c.m.ex.length) (hx:c.m.ex.getD i zf=⟨8,Z,A,j,(l:Int),(r:Int)⟩) (ad:zbX c l) (ae:zbX c r) (hl:l<c.m.ex.length) (hr:r<c.m.ex.length) (E:(t++(zC (zL (c.m.ex.getD l zf).kind) (prX c.m.ex l)++tStar++zC (zT (c.m.ex.getD r zf).kind) (prX c.m.ex r))).size≤140737488355328):
  Calls Tryz.prog 162 #[.pointer (some ⟨c.gp,0,none⟩),.int .i64 (i:Int)] w (PO c (t++(zC (zL (c.m.ex.getD l zf).kind) (prX c.m.ex l)++tStar++zC (zT (c.m.ex.getD r zf).kind) (prX c.m.ex r))) w):=by
 have HP:=zc h
 obtain⟨T,hT⟩: ∃T,T=zC (zL (c.m.ex.getD l zf).kind) (prX c.m.ex l)++tStar++zC (zT (c.m.ex.getD r zf).kind) (prX c.m.ex r):=⟨_,rfl⟩
 rw[←hT] at E ⊢
 have HT:=zc hT
 have HL:=zc E
 clear h E hT
 obtain⟨p0,p1,p2,p3,p4,p5,pf⟩:=zu HP.out.2.2.1
 obtain⟨g,hg,q,N,U,O,V,M,K⟩:=HP.out.2.1.expr hi
 rw[hx] at N U O V M K
 dsimp only at N U O V M K
 rw[hg] at p4
 have ah:(i:Int)<(c.m.ex.length:Int):=by omega
 clear hg hx
 go_enter Tryz.func162,Tryz.ntmps162
 go_upto_region 1 with fail
 have HW:Hid (Below w.heap.size w (w.alloc (.cells #[.int .i64 8,.int .i64 Z,.string A,.string j,.int .i64 (l:Int),.int .i64 (r:Int)] 108))):=(Below.refl _ _).alloc (Nat.le_refl _) _
 refine zah (R:=fun W=>W.heap[w.heap.size]? =some (.cells #[.int .i64 8,.int .i64 Z,.string A,.string j,.int .i64 (l:Int),.int .i64 (r:Int)] 108 (0,0))∧PP c t W∧Below c.B w W∧KeepB c.b w W) ⟨heap_alloc_new w _,HP.out.later HW.out,HW.out.mono HP.out.1.2,KeepB.of_below HW.out⟩ ?_
 obtain⟨gx,aa⟩: ∃gx,gx=w.heap.size:=⟨_,rfl⟩
 have ac:gx≠c.b:=by
  rw[aa]
  obtain⟨ap,hc⟩:=zbC HP.out.1.1
  have:=(Array.getElem?_eq_some_iff.1 hc).1
  omega
 rw[←aa]
 rintro L ⟨hx,o,z,n⟩
 clear aa HW q N U O V M K p0 p1 p2 p3 p4 p5 pf ah
 have X1:=zc hx
 have I:=zc o
 have ak:=zc z
 have aj:=zc n
 clear hx o z n
 obtain⟨N,U,O,V,M,K,xf⟩:=zu X1.out
 obtain⟨p0,p1,p2,p3,p4,p5,pf⟩:=zu I.out.2.2.1
 have q:=(Array.getElem?_eq_some_iff.1 I.out.2.2.1).1
 have H:=(Array.getElem?_eq_some_iff.1 X1.out).1
 have ai:=zc ad
 have af:=zc ae
 have HR:=zc hr
 have an:=zc hl
 obtain⟨kk,Y⟩: ∃kk,(c.m.ex.getD r zf).kind=kk:=⟨_,rfl⟩
 obtain⟨kl,X⟩: ∃kl,(c.m.ex.getD l zf).kind=kl:=⟨_,rfl⟩
 have HU:Hid (T=zC (zL kl) (prX c.m.ex l)++tStar++zC (zT kk) (prX c.m.ex r)):=by show _=_;rw[←Y,←X];exact HT.out
 have KK:=zc Y
 have KL:=zc X
 clear ad ae hr hl Y X HT
 go_upto_region 17 with fail
 go_cut [] from 82 to 90 (fun wx=>PP c (t++zC (zL kl) (prX c.m.ex l)) wx∧Below c.B L wx∧KeepB c.b L wx)
 case first=>
  go_wp2_with fail
  have D:=zc (I.out.later ((Below.refl L.heap.size L).drew))
  go_region_with (first|(go_at_call 190;refine (zgg c _ l _ D.out an.out).mono ?_;rintro e w' ⟨rfl,rfl⟩;rw[KL.out])|(go_at_call 158;refine (ze0 _ _).mono ?_;rintro e w' ⟨rfl,rfl⟩)|(go_at_call 189;refine (zfp c _ l (zL kl) _ ai.out D.out (by have:=HL.out;rw[HU.out] at this;simp only[ByteArray.size_append] at this ⊢;omega)).mono ?_;rintro e w2 ⟨rfl,o,z,n⟩))
  all_goals (go_wp2_with fail;go_meet;exact⟨o,(((Below.refl L.heap.size L).drew).mono I.out.1.2).trans z,(KeepB.of_below ((Below.refl L.heap.size L).drew)).trans n⟩)
 case rest=>
 obtain⟨o,z,n⟩:=hcut
 rename_i w2
 have ab:=zc o
 have al:=zc (ak.out.trans z)
 have am:=zc (aj.out.trans n)
 have X2:=zc ((n _ _ _ _ X1.out ac (by decide)).trans X1.out)
 clear o z n p0 p1 p2 p3 p4 p5 pf N U O V M K xf q H
 obtain⟨N,U,O,V,M,K,xf⟩:=zu X2.out
 obtain⟨p0,p1,p2,p3,p4,p5,pf⟩:=zu ab.out.2.2.1
 have q:=(Array.getElem?_eq_some_iff.1 ab.out.2.2.1).1
 have H:=(Array.getElem?_eq_some_iff.1 X2.out).1
 go_wp2_with fail
 refine (zbu c _ [tStar] _ ab.out (by have:=HL.out;rw[HU.out] at this;simp only[zr,List.foldl_cons,List.foldl_nil,ByteArray.size_append] at this ⊢;omega) (by simp)).mono ?_
 rintro e w3 ⟨rfl,o,z,n⟩
 have J:=zc o
 have ao:=zc (al.out.trans z)
 have ag:=zc (am.out.trans n)
 have X3:=zc ((n _ _ _ _ X2.out ac (by decide)).trans X2.out)
 clear o z n p0 p1 p2 p3 p4 p5 pf N U O V M K xf q H
 obtain⟨N,U,O,V,M,K,xf⟩:=zu X3.out
 obtain⟨p0,p1,p2,p3,p4,p5,pf⟩:=zu J.out.2.2.1
 have q:=(Array.getElem?_eq_some_iff.1 J.out.2.2.1).1
 have H:=(Array.getElem?_eq_some_iff.1 X3.out).1
 go_wp2_with fail
 have D:=zc (J.out.later ((Below.refl w3.heap.size w3).drew))
 go_region_with (first|(go_at_call 190;refine (zgg c _ r _ D.out HR.out).mono ?_;rintro e w' ⟨rfl,rfl⟩;rw[KK.out])|(go_at_call 113;refine (zhU _ _).mono ?_;rintro e w' ⟨rfl,rfl⟩)|(go_at_call 189;refine (zfp c _ r (zT kk) _ af.out D.out (by have:=HL.out;rw[HU.out] at this;simp only[zr,List.foldl_cons,List.foldl_nil,ByteArray.size_append] at this ⊢;omega)).mono ?_;rintro e w4 ⟨rfl,o,z,n⟩))
 all_goals (go_wp2;go_end0;exact⟨rfl,(by rw[HU.out];simp only[zr,List.foldl_cons,List.foldl_nil,←ByteArray.append_assoc] at o ⊢;exact o),ao.out.trans ((((Below.refl w3.heap.size w3).drew).mono J.out.1.2).trans z),ag.out.trans ((KeepB.of_below ((Below.refl w3.heap.size w3).drew)).trans n)⟩)
theorem zmK (c:PC) (t:ByteArray) (i:Nat) (k q:Int) (n j:ByteArray) (l r:Int) (w:World) (h:PP c t w) (hi:i<c.m.ex.length) (E:c.m.ex.getD i zf=⟨k,q,n,j,l,r⟩) (k1:(k==1)=false) (k2:(k==2)=false) (k3:(k==3)=false) (k4:(k==4)=false) (k5:(k==5)=false) (k6:(k==6)=false) (k7:(k==7)=false) (k8:(k==8)=false) (o:(t++(sNone)).size≤140737488355328):
  Calls Tryz.prog 162 #[.pointer (some ⟨c.gp,0,none⟩),.int .i64 (i:Int)] w (PO c (t++(sNone)) w):=by
 have D:=zc h
 obtain⟨T,Y⟩: ∃T,T=sNone:=⟨_,rfl⟩
 rw[←Y] at o ⊢
 have HT:=zc Y
 have HL:=zc o
 clear h o Y
 obtain⟨p0,p1,p2,p3,Z,p5,pf⟩:=zu D.out.2.2.1
 obtain⟨g,hg,H,L,N,M,O,J,I⟩:=D.out.2.1.expr hi
 rw[E] at L N M O J I
 dsimp only at L N M O J I
 rw[hg] at Z
 have U:(i:Int)<(c.m.ex.length:Int):=by omega
 clear hg E
 go_enter Tryz.func162,Tryz.ntmps162
 go_upto_region 1 with fail
 have K:Hid (Below w.heap.size w (w.alloc (.cells #[.int .i64 k,.int .i64 q,.string n,.string j,.int .i64 l,.int .i64 r] 108))):=(Below.refl _ _).alloc (Nat.le_refl _) _
 refine zah (R:=fun W=>W.heap[w.heap.size]? =some (.cells #[.int .i64 k,.int .i64 q,.string n,.string j,.int .i64 l,.int .i64 r] 108 (0,0))∧PP c t W∧Below c.B w W∧KeepB c.b w W) ⟨heap_alloc_new w _,D.out.later K.out,K.out.mono D.out.1.2,KeepB.of_below K.out⟩ ?_
 obtain⟨gx,z⟩: ∃gx,gx=w.heap.size:=⟨_,rfl⟩
 have ab:gx≠c.b:=by
  rw[z]
  obtain⟨ac,hc⟩:=zbC D.out.1.1
  have:=(Array.getElem?_eq_some_iff.1 hc).1
  omega
 rw[←z]
 rintro w1 ⟨E,hp,hb,hk⟩
 clear z K H L N M O J I p0 p1 p2 p3 Z p5 pf U
 have X1:=zc E
 have A:=zc hp
 have X:=zc hb
 have V:=zc hk
 clear E hp hb hk
 obtain⟨L,N,M,O,J,I,xf⟩:=zu X1.out
 obtain⟨p0,p1,p2,p3,Z,p5,pf⟩:=zu A.out.2.2.1
 have H:=(Array.getElem?_eq_some_iff.1 A.out.2.2.1).1
 have aa:=(Array.getElem?_eq_some_iff.1 X1.out).1
 go_wp2
 go_end0
 exact⟨rfl,(by rw[HT.out,show t++sNone=t from ByteArray.append_empty];exact A.out),X.out,V.out⟩
theorem zmL (c:PC) (hn:zbg c.m.ex) (ha:zbf c.m.ex) (n:Nat): ∀i,i<n→i<c.m.ex.length→zbX c i:=by
 induction n with
 |zero=>intro i E;omega
 |succ n Z=>
  intro i aa E t w h q
  by_cases Y:i<n
  ·exact Z i Y E t w h q
  ·have J: ∀j,j<i→zbX c j:=fun j hj=>Z j (by omega) (by omega)
   have I:=hn (c.m.ex.getD i zf) (by rw[zdf E];exact List.getElem_mem E)
   have D:=zeL ha (i:=i)
   rw[zfC ha] at q ⊢
   obtain⟨x,H⟩: ∃x,c.m.ex.getD i zf=x:=⟨_,rfl⟩
   rw[H] at q I D ⊢
   obtain⟨k,A,z,o,l,r⟩:=x
   simp only at q I D ⊢
   by_cases V:(k==1)=true
   ·rw[if_pos V] at q ⊢
    have e:=eq_of_beq V
    subst e
    exact zmC c t i A z o l r w h E H I q
   rw[if_neg V] at q ⊢
   by_cases U:(k==2)=true
   ·rw[if_pos U] at q ⊢
    have e:=eq_of_beq U
    subst e
    exact zmD c t i A z o l r w h E H q
   rw[if_neg U] at q ⊢
   by_cases L:(k==3)=true
   ·rw[if_pos L] at q ⊢
    have e:=eq_of_beq L
    subst e
    exact zmE c t i A z o l r w h E H q
   rw[if_neg L] at q ⊢
   by_cases K:(k==4)=true
   ·rw[if_pos K] at q ⊢
    have e:=eq_of_beq K
    subst e
    exact zmF c t i A z o l r w h E H q
   rw[if_neg K] at q ⊢
   by_cases M:(k==5)=true
   ·rw[if_pos M] at q ⊢
    have e:=eq_of_beq M
    subst e
    exact zmG c t i A z o l r w h E H q
   rw[if_neg M] at q ⊢
   by_cases X:(k==6)=true
   ·rw[if_pos X] at q ⊢
    have e:=eq_of_beq X
    subst e
    have D:=D (by decide)
    obtain⟨l,rfl⟩: ∃n:Nat,l=(n:Int):=⟨l.toNat,by omega⟩
    obtain⟨r,rfl⟩: ∃n:Nat,r=(n:Int):=⟨r.toNat,by omega⟩
    simp only[Int.toNat_natCast] at q ⊢
    exact zmH c t i A z o l r w h E H (J l (by omega)) (J r (by omega)) (by omega) q
   rw[if_neg X] at q ⊢
   by_cases N:(k==7)=true
   ·rw[if_pos N] at q ⊢
    have e:=eq_of_beq N
    subst e
    have D:=D (by decide)
    obtain⟨l,rfl⟩: ∃n:Nat,l=(n:Int):=⟨l.toNat,by omega⟩
    obtain⟨r,rfl⟩: ∃n:Nat,r=(n:Int):=⟨r.toNat,by omega⟩
    simp only[Int.toNat_natCast] at q ⊢
    exact zmI c t i A z o l r w h E H (J l (by omega)) (J r (by omega)) (by omega) q
   rw[if_neg N] at q ⊢
   by_cases O:(k==8)=true
   ·rw[if_pos O] at q ⊢
    have e:=eq_of_beq O
    subst e
    have D:=D (by decide)
    obtain⟨l,rfl⟩: ∃n:Nat,l=(n:Int):=⟨l.toNat,by omega⟩
    obtain⟨r,rfl⟩: ∃n:Nat,r=(n:Int):=⟨r.toNat,by omega⟩
    simp only[Int.toNat_natCast] at q ⊢
    exact zmJ c t i A z o l r w h E H (J l (by omega)) (J r (by omega)) (by omega) (by omega) q
   rw[if_neg O] at q ⊢
   exact zmK c t i k A z o l r w h E H (Bool.eq_false_iff.2 V) (Bool.eq_false_iff.2 U) (Bool.eq_false_iff.2 L) (Bool.eq_false_iff.2 K) (Bool.eq_false_iff.2 M) (Bool.eq_false_iff.2 X) (Bool.eq_false_iff.2 N) (Bool.eq_false_iff.2 O) q
theorem zmM (j:Nat) (S:Sv) (m:Md) (ad:Bool) (w:World) (h:OwnMd w j S m) (U:Small m) (H:Tree m→(zb6 m).size≤140737488355328):
  Calls Tryz.prog 17 #[zt S m,.bool ad] w fun e w'=>PrintOut (zb6 m) m e∧Below w.heap.size w w':=by
 have Z:=zc h
 have SM:=zc U
 have HU:=zc H
 obtain⟨f1,f2,f3,f4,f5⟩:=U.few
 clear h U H
 unfold zt
 go_enter Tryz.func17,Tryz.ntmps17
 go_wp2_with fail
 refine (zml j S m _ (Z.out.alloc _) f5 f4).mono ?_
 rintro e o ⟨⟨b,rfl,L⟩,D⟩
 have HT:=zc L
 have n:Hid (Below w.heap.size w o):=((Below.refl _ _).alloc (Nat.le_refl _) _).trans (D.mono (by rw[zj];omega))
 have z:Hid (o.heap[w.heap.size]? =some (.cells #[.slice S.rq.a m.rq.length S.rq.cap,.slice S.im.a m.im.length S.im.cap,.slice S.ep.a m.ep.length S.ep.cap,.slice S.st.a m.st.length S.st.cap,.slice S.ex.a m.ex.length S.ex.cap] 28 (0,0))):=(D.block _ (by rw[zj];omega)).trans (heap_alloc_new w _)
 have K:=zc (Z.out.later n.out)
 clear L D
 cases b with
 |false=>
  go_wp2
  go_ret
  exact⟨.inr ⟨(fun t=>by have:=HT.out.2 t;cases this),rfl⟩,n.out⟩
 |true=>
  have O:=zc (HT.out.1 rfl)
  have HZ:=zc (HU.out O.out)
  go_upto_region 4 with fail
  have q:Hid (Below o.heap.size o (o.alloc (.cells #[.pointer none,.slice none 0 0] 87))):=(Below.refl _ _).alloc (Nat.le_refl _) _
  have hz:=(Array.getElem?_eq_some_iff.1 z.out).1
  refine zah (R:=fun W=>(Lib.IsBuilder 87 5 o.heap.size o.heap.size [] W∧o.heap.size≤W.heap.size)∧OwnMd W j S m∧W.heap[w.heap.size]? =some (.cells #[.slice S.rq.a m.rq.length S.rq.cap,.slice S.im.a m.im.length S.im.cap,.slice S.ep.a m.ep.length S.ep.cap,.slice S.st.a m.st.length S.st.cap,.slice S.ex.a m.ex.length S.ex.cap] 28 (0,0))∧Below w.heap.size w W) ⟨⟨Lib.fresh_isBuilder _ _ o,q.out.size⟩,K.out.later q.out,(q.out.block _ hz).trans z.out,n.out.trans (q.out.mono n.out.size)⟩ ?_
  obtain⟨b,A⟩: ∃b,b=o.heap.size:=⟨_,rfl⟩
  have E:w.heap.size≤b:=by rw[A];exact n.out.size
  rw[←A]
  rintro W ⟨⟨M,Y⟩,ho,hx,L⟩
  clear hz q z K n Z A o
  have BL:=zc M
  have HO:=zc ho
  have HX:=zc hx
  have HB:=zc L
  clear M ho hx L
  obtain⟨c0,c1,c2,c3,c4,cf⟩:=zk HX.out
  go_upto_region 6 with fail
  have q:Hid (Below W.heap.size W (W.alloc (.cells #[.slice S.rq.a m.rq.length S.rq.cap,.slice S.im.a m.im.length S.im.cap,.slice S.ep.a m.ep.length S.ep.cap,.slice S.st.a m.st.length S.st.cap,.slice S.ex.a m.ex.length S.ex.cap,.func (.func 57) #[] #[.pointer (some ⟨b,0,none⟩)]] 95))):=(Below.refl _ _).alloc (Nat.le_refl _) _
  have ab:Hid (PP ⟨b,b,W.heap.size,j,S,m⟩ sNone (W.alloc (.cells #[.slice S.rq.a m.rq.length S.rq.cap,.slice S.im.a m.im.length S.im.cap,.slice S.ep.a m.ep.length S.ep.cap,.slice S.st.a m.st.length S.st.cap,.slice S.ex.a m.ex.length S.ex.cap,.func (.func 57) #[] #[.pointer (some ⟨b,0,none⟩)]] 95))):=by
   refine⟨⟨zia BL.out q.out,Nat.le_trans Y q.out.size⟩,HO.out.later q.out,heap_alloc_new W _,?_⟩
   obtain⟨ae,hc⟩:=zbC BL.out
   have:=(Array.getElem?_eq_some_iff.1 hc).1
   show W.heap.size≠b
   omega
  have V:=zc (HB.out.trans (q.out.mono HB.out.size))
  go_wp2_with fail
  refine (zmB ⟨b,b,W.heap.size,j,S,m⟩ _ (fun i hi=>zmL _ SM.out.nums O.out.ahead _ i hi hi) O.out.stm SM.out ab.out HZ.out).mono ?_
  rintro e w3 ⟨rfl,hp,N,aa⟩
  have J:=zc hp
  have ac:=zc (V.out.trans (N.mono E))
  clear hp N aa c0 c1 c2 c3 c4 cf
  go_wp2_with fail
  refine (Tryz.Builder_String_any b b (zb6 m).data.toList w3 J.out.1.1 J.out.1.2).mono ?_
  rintro e w4 ⟨rfl,I⟩
  have X:=zc (ac.out.trans (I.mono E))
  clear I
  go_wp2
  go_ret
  exact⟨.inl ⟨O.out,rfl⟩,X.out⟩
theorem zgh {C:Cx} {j:Bool} {q:PS} {x:PS×Ep} (h:zbl C j q= .ok x):q.pos<x.1.pos:=by
 obtain⟨a,z,A⟩:=zi h
 obtain⟨b,o,w⟩:=zi A
 have n:=zej o
 rw[(zbe z).1] at n
 cases w
 exact n
def ziw (C:Cx) (gt cap base gp:Nat) (t:TypeId) (size:Nat) (f:Ep→List Value) (y:PRL) (S:Sv) (w:World) (e:Ending) (w':World):Prop:=
 match y with
 | .ok a=>∃r S',e= .returned (.slice r.a a.2.length r.cap)∧IM C gt cap base gp S' a.1 w'∧IS gp S w S' w'∧Fr t size w' w.heap.size r a.2.length (a.2.flatMap f) S'∧0<a.2.length∧a.2.length≤4000
 | .error p=>e=Pan p∧Below base w w'
theorem zix {C:Cx} {A n j z:Nat} {S:Sv} {q:PS} {w:World} (h:IM C A n j z S q w) (t:TypeId) (size:Nat):Fr t size (w.alloc (.cells #[] t)) w.heap.size ⟨some ⟨w.heap.size,0,none⟩,0⟩ 0 [] S:=by
 refine⟨World.ownsRow_lit w #[] 0 (Nat.le_refl _) (by unfold maxLen;omega) (Nat.zero_mul _).symm,fun k g o=>?_⟩
 have D:w.heap.size=k:=by simpa [Rw.blk,Value.ownBlock] using g
 have:=(h.mem.own.has o).2
 omega
theorem zmN (C:Cx) (M o j z:Nat) (S:Sv) (q:PS) (w:World) (h:IM C M o j z S q w):
  Calls Tryz.prog 175 #[.pointer (some ⟨z,0,none⟩)] w (ziw C M o j z 100 3 (fun e=>imL (zaN e)) (zav C false q []) S w):=by
 obtain⟨i0,hi,ar,au,an⟩:=info_parts Tryz.infoImp
 have HH:=zc h
 clear h
 go_enter Tryz.func175,Tryz.ntmps175
 go_wp2
 go_loopg [3] (C.ts.length+1) (fun k v wr=>∃(V:Sv) (J:PS) (r:Rw) (l:List Ep),v= .slice r.a l.length r.cap∧zav C false q []=zav C false J l∧C.ts.length-J.pos<k∧l.length+(C.ts.length-J.pos)≤C.ts.length∧IM C M o j z V J wr∧IS z S w V wr∧Fr 100 3 wr w.heap.size r l.length (l.flatMap (fun e=>imL (zaN e))) V)
 case atStart=>exact⟨S,q,⟨some ⟨w.heap.size,0,none⟩,0⟩,[],rfl,rfl,by omega,by simp,HH.out.alloc _,(IS.refl _ _ _).alloc _,zix HH.out _ _⟩
 case round=>
  obtain⟨V,J,r,l,rfl,hy,hk,hl,m',s',f'⟩:=hrel
  have HY:=zc hy
  have HZ:=zc (HY.out.trans (zhQ C false J l))
  have ak:Hid (IM C M o j z V J wr):=m'
  have ab:Hid (IS z S w V wr):=s'
  have ap:Hid (Fr 100 3 wr w.heap.size r l.length (l.flatMap (fun e=>imL (zaN e))) V):=f'
  have av:=m'.mem.few
  clear hy m' s' f'
  go_wp2_with fail
  refine (zmd C M o j z V J _ ak.out).mono ?_
  cases X:zbl C false J with
  |error p=>
   rintro e N ⟨rfl,hb⟩
   have HB:Hid (Below j w N):=(HH.out.back ab.out).trans hb
   have HX:Hid (zav C false q []= .error p):=bdE HZ.out X
   unfold Pan
   go_wp2
   refine⟨rfl,?_⟩
   rw[HX.out]
   exact⟨rfl,HB.out⟩
  |ok n=>
   rintro e N ⟨rfl,A,m,s⟩
   have D:Hid (Fr 100 3 N w.heap.size r l.length (l.flatMap (fun e=>imL (zaN e))) A):=ap.out.step ak.out (by decide) s
   have E:=zc m
   have ac:Hid (IS z S w A N):=ab.out.trans s
   clear m s
   have ag:=zc (bdO HZ.out X)
   have aw:=zgh X
   have ax:=E.out.mem.inv.pos
   unfold imV
   have O:=fun o1=>(D.out.later ((Below.refl N.heap.size N).alloc (Nat.le_refl _) o1)).1
   have ad:=fun o1=>(ac.out.alloc o1).size
   go_wp2_with (at_builtin;refine zcl _ rfl _ _ 23 rfl w.heap.size 100 i0 _ 3 48 Tryz.underlying23 hi ar au an rfl (by decide) (by decide) r l.length _ (by rfl) (O _) N.heap.size (imL (zaN n.2)) (by rfl) (by exact heap_alloc_new N _) rfl (zhk _) (by omega) (ad _) ?_;intro U w2 hr Y ai;have HR:Hid (OwnR w2 w.heap.size 100 3 U (l.length+1) _):=hr;have K:Hid (IM C M o j z A n.1 w2):=(E.out.alloc _).aside Y (fun k g=>⟨D.out.2 k g,D.out.ngp E.out (by decide) g,D.out.ngt E.out (by decide) g⟩);have ah:Hid (IS z S w A w2):=(ac.out.alloc _).aside Y (fun k g=>(D.out.1.typed g).1);have aj:Hid (Fr 100 3 w2 w.heap.size U (l.length+1) _ A):=(D.out.later ((Below.refl _ _).alloc (Nat.le_refl _) _)).grown (E.out.alloc _) hr ai;clear hr Y ai O ad)
   have el:(l++[n.2]).length=l.length+1:=by simp
   have aa:Hid (Fr 100 3 w2 w.heap.size U (l++[n.2]).length ((l++[n.2]).flatMap (fun e=>imL (zaN e))) A):=by
    show Fr ..
    rw[el,List.flatMap_append]
    simpa using aj.out
   have H:=zc el
   clear el aj HR
   go_wp2_with fail
   cases hc:isT C n.1.pos 4 zbp with
   |true=>
    have ay:=zaz hc (by decide)
    have HC:=zc (ag.out.trans (if_pos hc))
    refine (zH C M o j z A (n.1) 4 zbp _ K.out (by decide)).mono ?_
    rintro e w3 ⟨rfl,m,s⟩
    rw[hc] at m ⊢
    have I:=zc m
    have L:Hid (IS z S w A w3):=ah.out.trans s
    have ae:=s
    clear m s
    have Z:Hid (Fr 100 3 w3 w.heap.size U (l++[n.2]).length ((l++[n.2]).flatMap (fun e=>imL (zaN e))) A):=aa.out.step K.out (by decide) ae
    clear ae
    go_wp2
    go_roundg (gk-1)
    case rel=>exact⟨A,adv n.1,U,l++[n.2],by rw[H.out],HC.out,by rw[zw];omega,by rw[zw,H.out];omega,I.out,L.out,Z.out⟩
    case measure=>omega
   |false=>
    have HC:=zc (ag.out.trans (if_neg (by rw[hc];decide)))
    refine (zH C M o j z A (n.1) 4 zbp _ K.out (by decide)).mono ?_
    rintro e w3 ⟨rfl,m,s⟩
    rw[hc] at m ⊢
    have I:=zc m
    have L:Hid (IS z S w A w3):=ah.out.trans s
    have Z:Hid (Fr 100 3 w3 w.heap.size U (l++[n.2]).length ((l++[n.2]).flatMap (fun e=>imL (zaN e))) A):=aa.out.step K.out (by decide) s
    clear m s
    go_wp2_with fail
    refine (zbQ C M o j z A n.1 125 _ I.out).mono ?_
    cases af:zd C 4 zbd n.1 with
    |error p=>
     rintro e w4 ⟨rfl,hb⟩
     have HB:Hid (Below j w w4):=(HH.out.back L.out).trans hb
     have HX:Hid (zav C false q []= .error p):=bdE HC.out af
     unfold Pan
     go_wp2
     refine⟨rfl,?_⟩
     rw[HX.out]
     exact⟨rfl,HB.out⟩
    |ok a4=>
     rintro e w4 ⟨rfl,S4,m,s⟩
     have am:Hid (Fr 100 3 w4 w.heap.size U (l++[n.2]).length ((l++[n.2]).flatMap (fun e=>imL (zaN e))) S4):=Z.out.step I.out (by decide) s
     have aq:=zc m
     have ao:Hid (IS z S w S4 w4):=L.out.trans s
     clear m s
     have al:=zc (bdO HC.out af)
     go_wp2
     go_ret
     rw[al.out]
     exact⟨U,S4,by rw[H.out];rfl,aq.out,ao.out,am.out,by show 0<(l++[n.2]).length;rw[H.out];omega,by show (l++[n.2]).length≤4000;rw[H.out];omega⟩
def impFromI (C:Cx) (l:List Ep) (q:PS):PR:=bd (zd C 1 zP q) fun a=>bd (zG C a) fun b=>bd (zd C 4 cSemi b.1) fun c=>zR (fun e=>zao C (zb8 b.2 e)) l (.ok c)
theorem zfr {α:Type} (f:α→PS→PR) (p:Nat): ∀l:List α,zR f l (.error p)= .error p
 |[]=>rfl
 |_::l=>zfr f p l
theorem zgi {α:Type} (f:α→PS→PR) {l:List α} {j:Nat} {x:α} (h:l[j]? =some x) (q:PS):zR f (l.drop j) (.ok q)=zR f (l.drop (j+1)) (f x q):=by
 obtain⟨n,rfl⟩:=List.getElem?_eq_some_iff.1 h
 rw[List.drop_eq_getElem_cons n]
 rfl
theorem zmO {C:Cx} {x:Im} {q a:PS} (h:zao C x q= .ok a):a.pos=q.pos:=by
 unfold zao at h
 split at h
 ·cases h
 ·cases h
  rfl
theorem ziy {C:Cx} {x:Ep} {q a:PS} (h:zn C x q= .ok a):a.pos=q.pos:=by
 unfold zn at h
 split at h
 ·cases h
 ·split at h
  ·cases h
   rfl
  ·cases h
   rfl
theorem ze1 {α:Type} {l:List α} {j:Nat} (h:j<l.length): ∃x,l[j]? =some x:=⟨_,List.getElem?_eq_getElem h⟩
theorem zmP (C:Cx) (I o n z b0 g:Nat) (r:Rw) (S:Sv) (q:PS) (l:List Ep) (w:World) (h:IM C I o n z S q w) (hC:zaV C) (hl:l.length≤4000) (hf:Fr 100 3 w b0 r l.length (l.flatMap (fun e=>imL (zaN e))) S) (hg:r.a=some ⟨g,0,none⟩):
  Calls Tryz.prog 174 #[.pointer (some ⟨z,0,none⟩),.slice (some ⟨g,0,none⟩) l.length r.cap] w (zN C I o n z (impFromI C l q) id (fun _=>.tuple #[]) S w):=by
 have V:=zc h
 have HF:=zc hf
 have HG:=zc hg
 have HY:=zc (impFromI.eq_1 C l q)
 clear h hf hg
 go_enter Tryz.func174,Tryz.ntmps174
 go_wp2_with fail
 refine (zdH C I o n z S q zP _ V.out).mono ?_
 cases ab:zd C 1 zP q with
 |error p=>
  rintro e w1 ⟨rfl,U⟩
  have L:Hid (Below n w w1):=(V.out.back (IS.refl _ _ _)).trans U
  have N:Hid (impFromI C l q= .error p):=bdE HY.out ab
  unfold Pan
  go_wp2
  refine⟨rfl,?_⟩
  rw[N.out]
  exact⟨rfl,L.out⟩
 |ok a1=>
  rintro e w1 ⟨rfl,S1,m,s⟩
  have ao:Hid (Fr 100 3 w1 b0 r l.length (l.flatMap (fun e=>imL (zaN e))) S1):=HF.out.step V.out (by decide) s
  have af:=zc m
  have ad:=zc s
  clear m s
  have Y:=zc (bdO HY.out ab)
  go_wp2_with fail
  refine (zfa C I o n z S1 a1 _ af.out hC).mono ?_
  cases X:zG C a1 with
  |error p=>
   rintro e w2 ⟨rfl,U⟩
   have L:Hid (Below n w w2):=(V.out.back ad.out).trans U
   have N:Hid (impFromI C l q= .error p):=bdE Y.out X
   unfold Pan
   go_wp2
   refine⟨rfl,?_⟩
   rw[N.out]
   exact⟨rfl,L.out⟩
  |ok a2=>
   rintro e w2 ⟨rfl,S2,m,s⟩
   have am:Hid (Fr 100 3 w2 b0 r l.length (l.flatMap (fun e=>imL (zaN e))) S2):=ao.out.step af.out (by decide) s
   have aa:=zc m
   have ai:Hid (IS z S w S2 w2):=ad.out.trans s
   clear m s
   have ag:=zc (bdO Y.out X)
   go_wp2_with fail
   refine (zbQ C I o n z S2 a2.1 59 _ aa.out).mono ?_
   cases K:zd C 4 cSemi (a2.1) with
   |error p=>
    rintro e w3 ⟨rfl,U⟩
    have L:Hid (Below n w w3):=(V.out.back ai.out).trans U
    have N:Hid (impFromI C l q= .error p):=bdE ag.out K
    unfold Pan
    go_wp2
    refine⟨rfl,?_⟩
    rw[N.out]
    exact⟨rfl,L.out⟩
   |ok a3=>
    rintro e w3 ⟨rfl,S3,m,s⟩
    have ak:Hid (Fr 100 3 w3 b0 r l.length (l.flatMap (fun e=>imL (zaN e))) S3):=am.out.step aa.out (by decide) s
    have ar:=zc m
    have al:Hid (IS z S w S3 w3):=ai.out.trans s
    clear m s
    have ap:=zc (bdO ag.out K)
    have Z:0<a3.pos:=by rw[(zb0 K).1];exact Nat.succ_pos _
    generalize av:a2.2=sp at*
    clear av
    go_wp2
    go_loopg [15] l.length (fun k i wr=>∃(j:Nat) (A:Sv) (D:PS),i= .int .i64 j∧j+k=l.length∧impFromI C l q=zR (fun e=>zao C (zb8 sp e)) (l.drop j) (.ok D)∧0<D.pos∧IM C I o n z A D wr∧IS z S w A wr∧Fr 100 3 wr b0 r l.length (l.flatMap (fun e=>imL (zaN e))) A)
    case atStart=>exact⟨0,S3,a3,rfl,by omega,ap.out,Z,ar.out,al.out,ak.out⟩
    case round=>
     obtain⟨j,A,D,rfl,hj,hy,aj,m',s',f'⟩:=hrel
     have ac:=zc hy
     have H:Hid (IM C I o n z A D wr):=m'
     have M:Hid (IS z S w A wr):=s'
     have O:Hid (Fr 100 3 wr b0 r l.length (l.flatMap (fun e=>imL (zaN e))) A):=f'
     clear hy m' s' f'
     by_cases au:j<l.length
     ·have ah:(j:Int)<(l.length:Int):=by omega
      obtain⟨x,hx⟩:=ze1 au
      obtain⟨g',ae,E⟩:=OwnR.elem (f:=fun e=>imL (zaN e)) (m:=3) (fun _=>rfl) O.out.1 hx
      have eg:g'=g:=by have:=ae.symm.trans HG.out;simpa using this
      subst eg
      have k0:=E 0 (by omega)
      have k1:=E 1 (by omega)
      have k2:=E 2 (by omega)
      simp only[imL,zaN,Nat.add_zero,List.getElem?_cons_zero,List.getElem?_cons_succ] at k0 k1 k2
      have HZ:=zc (ac.out.trans (zgi (fun e=>zao C (zb8 sp e)) hx D))
      clear E ae hx
      obtain⟨j1,J⟩: ∃j1,j1=j+1:=⟨_,rfl⟩
      have ej:(j:Int)+1=(j1:Int):=by omega
      rw[←J] at HZ
      have aA:=(Array.getElem?_eq_some_iff.1 (O.out.1.typed (by rw[Rw.blk,HG.out];rfl)).2.2.choose_spec).1
      have az:=H.out.lt
      have HJ:=zc J
      clear J
      go_wp2_with fail
      refine (zk1 C I o n z A D (zb8 sp x) _ (H.out.alloc _) aj).mono ?_
      cases hn:zao C (zb8 sp x) D with
      |error p=>
       rintro e w5 ⟨rfl,U⟩
       have L:Hid (Below n w w5):=(V.out.back (M.out.alloc _)).trans U
       have N:Hid (impFromI C l q= .error p):=by show _=_;rw[HZ.out,hn];exact zfr _ _ _
       unfold Pan
       go_wp2
       refine⟨rfl,?_⟩
       rw[N.out]
       exact⟨rfl,L.out⟩
      |ok a5=>
       rintro e w5 ⟨rfl,S5,m,s⟩
       have ay:=zc m
       have an:Hid (IS z S w S5 w5):=(M.out.alloc _).trans s
       have ax:Hid (Fr 100 3 w5 b0 r l.length (l.flatMap (fun e=>imL (zaN e))) S5):=(O.out.later ((Below.refl _ _).alloc (Nat.le_refl _) _)).step (H.out.alloc _) (by decide) s
       have aq:Hid (impFromI C l q=zR (fun e=>zao C (zb8 sp e)) (l.drop j1) (.ok a5)):=by show _=_;rw[HZ.out,hn]
       have aw:Hid (0<a5.pos):=by show 0<a5.pos;rw[zmO hn];exact aj
       clear m s
       go_wp2
       go_roundg (gk-1)
       case rel=>exact⟨j1,S5,a5,rfl,by have:=HJ.out;omega,aq.out,aw.out,ay.out,an.out,ax.out⟩
       case measure=>omega
     ·have ah: ¬(j:Int)<(l.length:Int):=by omega
      have HZ:Hid (impFromI C l q= .ok D):=by show _=_;rw[ac.out,List.drop_eq_nil_of_le (by omega)];rfl
      go_wp2
      go_end0
      rw[HZ.out]
      exact⟨rfl,A,H.out,M.out⟩
theorem zgj (C:Cx) (z n j o b0:Nat) (r:Rw) (S:Sv) (q:PS) (l:List Ep) (w:World) (h:IM C z n j o S q w) (H:zaV C) (I:l.length≤4000) (E:l.length≠0) (D:Fr 100 3 w b0 r l.length (l.flatMap (fun e=>imL (zaN e))) S):
  Calls Tryz.prog 174 #[.pointer (some ⟨o,0,none⟩),.slice r.a l.length r.cap] w (zN C z n j o (impFromI C l q) id (fun _=>.tuple #[]) S w):=by
 rcases D.1.nil_or with ⟨_,_,e⟩|⟨g,A⟩
 ·exact absurd e E
 ·rw[A]
  exact zmP C z n j o b0 g r S q l w h H I D A
theorem ziz {C:Cx} {A n j z:Nat} {S:Sv} {q:PS} {w:World} (h:IM C A n j z S q w) (t:TypeId) (xs:List Value):Fr t xs.length (w.alloc (.cells xs.toArray t)) w.heap.size ⟨some ⟨w.heap.size,0,none⟩,1⟩ 1 xs S:=by
 refine⟨?_,fun k g o=>?_⟩
 ·have:=World.ownsRow_lit (e:=t) (size:=xs.length) w xs.toArray 1 (Nat.le_refl _) (by unfold maxLen;omega) (by simp)
  simpa [OwnR] using this
 ·have D:w.heap.size=k:=by simpa [Rw.blk,Value.ownBlock] using g
  have:=(h.mem.own.has o).2
  omega
def zaE (C:Cx) (q:PS):PR:=
 if (ze C q.pos).kind==3 then bd (zG C q) fun a=>zd C 4 cSemi a.1
 else if isT C q.pos 4 zF then bd (zav C false (adv q) []) fun a=>impFromI C a.2 a.1
 else if isT C q.pos 4 zv then bd (zd C 1 sAs (adv q)) fun a=>bd (zh C false a) fun b=>impFromI C [⟨0,b.2,zv,sNone⟩] b.1
 else bd (zh C false q) fun b=>impFromI C [⟨0,b.2,sDefault,sNone⟩] b.1
theorem zmQ (C:Cx) (A n j o:Nat) (S:Sv) (q:PS) (w:World) (h:IM C A n j o S q w) (hC:zaV C) (hk:((ze C q.pos).kind==3)=true):
  Calls Tryz.prog 149 #[.pointer (some ⟨o,0,none⟩)] w (zN C A n j o (zaE C q) id (fun _=>.tuple #[]) S w):=by
 have K:=zc h
 have aa:=zc1
 have HY:Hid (zaE C q=bd (zG C q) fun a=>zd C 4 cSemi a.1):=if_pos hk
 clear h
 go_enter Tryz.func149,Tryz.ntmps149
 go_wp2_with fail
 refine (zbk C A n j o S q _ K.out).mono ?_
 rintro e w1 ⟨rfl,z⟩
 unfold tkV
 have X:Hid (IM C A n j o S q w1):=K.out.later z
 have J:Hid (IS o S w S w1):=IS.below z
 clear z
 go_wp2_with fail
 refine (zfa C A n j o S q _ X.out hC).mono ?_
 cases E:zG C q with
 |error p=>
  rintro e Y ⟨rfl,z⟩
  have V:Hid (Below j w Y):=(K.out.back J.out).trans z
  have M:Hid (zaE C q= .error p):=bdE HY.out E
  unfold Pan
  go_wp2
  refine⟨rfl,?_⟩
  rw[M.out]
  exact⟨rfl,V.out⟩
 |ok a2=>
  rintro e Y ⟨rfl,S2,m,s⟩
  have U:=zc m
  have I:Hid (IS o S w S2 Y):=J.out.trans s
  clear m s
  have H:=zc (bdO HY.out E)
  go_wp2_with fail
  refine (zbQ C A n j o S2 a2.1 59 _ U.out).mono ?_
  cases D:zd C 4 cSemi a2.1 with
  |error p=>
   rintro e N ⟨rfl,z⟩
   have V:Hid (Below j w N):=(K.out.back I.out).trans z
   have M:Hid (zaE C q= .error p):=H.out.trans D
   unfold Pan
   go_wp2
   refine⟨rfl,?_⟩
   rw[M.out]
   exact⟨rfl,V.out⟩
  |ok a3=>
   rintro e N ⟨rfl,S3,m,s⟩
   have L:=zc m
   have Z:Hid (IS o S w S3 N):=I.out.trans s
   clear m s
   have O:=zc (H.out.trans D)
   go_wp2
   go_end0
   rw[O.out]
   exact⟨rfl,S3,L.out,Z.out⟩
theorem zmR (C:Cx) (z n j o:Nat) (S:Sv) (q:PS) (w:World) (h:IM C z n j o S q w) (hC:zaV C) (hk:((ze C q.pos).kind==3)=false) (h1:isT C q.pos 4 zF=true):
  Calls Tryz.prog 149 #[.pointer (some ⟨o,0,none⟩)] w (zN C z n j o (zaE C q) id (fun _=>.tuple #[]) S w):=by
 have L:=zc h
 have ac:=zc1
 have HY:Hid (zaE C q=bd (zav C false (adv q) []) fun a=>impFromI C a.2 a.1):=by show _=_;rw[zaE,hk,h1];rfl
 clear h
 go_enter Tryz.func149,Tryz.ntmps149
 go_wp2_with fail
 refine (zbk C z n j o S q _ L.out).mono ?_
 rintro e w1 ⟨rfl,A⟩
 unfold tkV
 have Y:Hid (IM C z n j o S q w1):=L.out.later A
 have ab:Hid (IS o S w S w1):=IS.below A
 clear A
 go_wp2_with fail
 refine (zH C z n j o S q 4 zF _ Y.out (by decide)).mono ?_
 rintro e w2 ⟨rfl,m,s⟩
 rw[h1] at m ⊢
 have X:=zc m
 have I:Hid (IS o S w S w2):=ab.out.trans s
 clear m s
 go_wp2_with fail
 refine (zmN C z n j o S (adv q) _ X.out).mono ?_
 cases D:zav C false (adv q) [] with
 |error p=>
  rintro e V ⟨rfl,A⟩
  have HB:Hid (Below j w V):=(L.out.back I.out).trans A
  have O:Hid (zaE C q= .error p):=bdE HY.out D
  unfold Pan
  go_wp2
  refine⟨rfl,?_⟩
  rw[O.out]
  exact⟨rfl,HB.out⟩
 |ok K=>
  rintro e V ⟨r,S3,rfl,m,s,f,l0,l1⟩
  have M:=zc m
  have J:Hid (IS o S w S3 V):=I.out.trans s
  have N:=zc f
  clear m s f
  have E:=zc (bdO HY.out D)
  go_wp2_with fail
  refine (zgj C z n j o _ r S3 K.1 K.2 _ M.out hC l1 (by omega) N.out).mono ?_
  cases H:impFromI C K.2 K.1 with
  |error p=>
   rintro e w4 ⟨rfl,A⟩
   have HB:Hid (Below j w w4):=(L.out.back J.out).trans A
   have O:Hid (zaE C q= .error p):=E.out.trans H
   unfold Pan
   go_wp2
   refine⟨rfl,?_⟩
   rw[O.out]
   exact⟨rfl,HB.out⟩
  |ok a4=>
   rintro e w4 ⟨rfl,S4,m,s⟩
   have aa:=zc m
   have Z:Hid (IS o S w S4 w4):=J.out.trans s
   clear m s
   have U:=zc (E.out.trans H)
   go_wp2
   go_end0
   rw[U.out]
   exact⟨rfl,S4,aa.out,Z.out⟩
theorem zmS (C:Cx) (z n j o:Nat) (S:Sv) (q:PS) (w:World) (h:IM C z n j o S q w) (hC:zaV C) (hk:((ze C q.pos).kind==3)=false) (h1:isT C q.pos 4 zF=false) (h2:isT C q.pos 4 zv=true):
  Calls Tryz.prog 149 #[.pointer (some ⟨o,0,none⟩)] w (zN C z n j o (zaE C q) id (fun _=>.tuple #[]) S w):=by
 have L:=zc h
 have ai:=zc1
 have HY:Hid (zaE C q=bd (zd C 1 sAs (adv q)) fun a=>bd (zh C false a) fun b=>impFromI C [⟨0,b.2,zv,sNone⟩] b.1):=by show _=_;rw[zaE,hk,h1,h2];rfl
 clear h
 go_enter Tryz.func149,Tryz.ntmps149
 go_wp2_with fail
 refine (zbk C z n j o S q _ L.out).mono ?_
 rintro e w1 ⟨rfl,A⟩
 unfold tkV
 have ab:Hid (IM C z n j o S q w1):=L.out.later A
 have ah:Hid (IS o S w S w1):=IS.below A
 clear A
 go_wp2_with fail
 refine (zH C z n j o S q 4 zF _ ab.out (by decide)).mono ?_
 rintro e w2 ⟨rfl,m,s⟩
 rw[h1] at m ⊢
 have aa:=zc m
 have ag:Hid (IS o S w S w2):=ah.out.trans s
 clear m s
 go_wp2_with fail
 refine (zH C z n j o S q 4 zv _ aa.out (by decide)).mono ?_
 rintro e w3 ⟨rfl,m,s⟩
 rw[h2] at m ⊢
 have Z:=zc m
 have U:Hid (IS o S w S w3):=ag.out.trans s
 clear m s
 go_wp2_with fail
 refine (zdH C z n j o S (adv q) sAs _ Z.out).mono ?_
 cases M:zd C 1 sAs (adv q) with
 |error p=>
  rintro e w4 ⟨rfl,A⟩
  have X:Hid (Below j w w4):=(L.out.back U.out).trans A
  have E:Hid (zaE C q= .error p):=bdE HY.out M
  unfold Pan
  go_wp2
  refine⟨rfl,?_⟩
  rw[E.out]
  exact⟨rfl,X.out⟩
 |ok a4=>
  rintro e w4 ⟨rfl,S4,m,s⟩
  have af:=zc m
  have J:Hid (IS o S w S4 w4):=U.out.trans s
  clear m s
  have H:=zc (bdO HY.out M)
  go_wp2_with fail
  refine (zcM C z n j o S4 a4 _ af.out).mono ?_
  cases O:zh C false a4 with
  |error p=>
   rintro e Y ⟨rfl,A⟩
   have X:Hid (Below j w Y):=(L.out.back J.out).trans A
   have E:Hid (zaE C q= .error p):=bdE H.out O
   unfold Pan
   go_wp2
   refine⟨rfl,?_⟩
   rw[E.out]
   exact⟨rfl,X.out⟩
  |ok V=>
   rintro e Y ⟨rfl,S5,m,s⟩
   have I:=zc m
   have D:Hid (IS o S w S5 Y):=J.out.trans s
   clear m s
   have N:=zc (bdO H.out O)
   go_wp2_with fail
   refine (zgj C z n j o _ ⟨some ⟨Y.heap.size,0,none⟩,1⟩ S5 V.1 [⟨0,V.2,zv,sNone⟩] _ (I.out.alloc _) hC (by simp) (by simp) (ziz I.out 100 (imL (zaN ⟨0,V.2,zv,sNone⟩)))).mono ?_
   cases K:impFromI C [⟨0,V.2,zv,sNone⟩] V.1 with
   |error p=>
    rintro e w6 ⟨rfl,A⟩
    have X:Hid (Below j w w6):=(L.out.back (D.out.alloc _)).trans A
    have E:Hid (zaE C q= .error p):=N.out.trans K
    unfold Pan
    go_wp2
    refine⟨rfl,?_⟩
    rw[E.out]
    exact⟨rfl,X.out⟩
   |ok a6=>
    rintro e w6 ⟨rfl,S6,m,s⟩
    have ac:=zc m
    have ae:Hid (IS o S w S6 w6):=(D.out.alloc _).trans s
    clear m s
    have ad:=zc (N.out.trans K)
    go_wp2
    go_end0
    rw[ad.out]
    exact⟨rfl,S6,ac.out,ae.out⟩
theorem zmT (C:Cx) (z n j o:Nat) (S:Sv) (q:PS) (w:World) (h:IM C z n j o S q w) (hC:zaV C) (hk:((ze C q.pos).kind==3)=false) (h1:isT C q.pos 4 zF=false) (h2:isT C q.pos 4 zv=false):
  Calls Tryz.prog 149 #[.pointer (some ⟨o,0,none⟩)] w (zN C z n j o (zaE C q) id (fun _=>.tuple #[]) S w):=by
 have M:=zc h
 have ad:=zc1
 have HY:Hid (zaE C q=bd (zh C false q) fun b=>impFromI C [⟨0,b.2,sDefault,sNone⟩] b.1):=by show _=_;rw[zaE,hk,h1,h2];rfl
 clear h
 go_enter Tryz.func149,Tryz.ntmps149
 go_wp2_with fail
 refine (zbk C z n j o S q _ M.out).mono ?_
 rintro e w1 ⟨rfl,A⟩
 unfold tkV
 have Z:Hid (IM C z n j o S q w1):=M.out.later A
 have ac:Hid (IS o S w S w1):=IS.below A
 clear A
 go_wp2_with fail
 refine (zH C z n j o S q 4 zF _ Z.out (by decide)).mono ?_
 rintro e w2 ⟨rfl,m,s⟩
 rw[h1] at m ⊢
 have X:=zc m
 have aa:Hid (IS o S w S w2):=ac.out.trans s
 clear m s
 go_wp2_with fail
 refine (zH C z n j o S q 4 zv _ X.out (by decide)).mono ?_
 rintro e w3 ⟨rfl,m,s⟩
 rw[h2] at m ⊢
 have U:=zc m
 have L:Hid (IS o S w S w3):=aa.out.trans s
 clear m s
 go_wp2_with fail
 refine (zcM C z n j o S q _ U.out).mono ?_
 cases I:zh C false q with
 |error p=>
  rintro e N ⟨rfl,A⟩
  have HB:Hid (Below j w N):=(M.out.back L.out).trans A
  have V:Hid (zaE C q= .error p):=bdE HY.out I
  unfold Pan
  go_wp2
  refine⟨rfl,?_⟩
  rw[V.out]
  exact⟨rfl,HB.out⟩
 |ok D=>
  rintro e N ⟨rfl,S4,m,s⟩
  have J:=zc m
  have H:Hid (IS o S w S4 N):=L.out.trans s
  clear m s
  have E:=zc (bdO HY.out I)
  go_wp2_with fail
  refine (zgj C z n j o _ ⟨some ⟨N.heap.size,0,none⟩,1⟩ S4 D.1 [⟨0,D.2,sDefault,sNone⟩] _ (J.out.alloc _) hC (by simp) (by simp) (ziz J.out 100 (imL (zaN ⟨0,D.2,sDefault,sNone⟩)))).mono ?_
  cases K:impFromI C [⟨0,D.2,sDefault,sNone⟩] D.1 with
  |error p=>
   rintro e w5 ⟨rfl,A⟩
   have HB:Hid (Below j w w5):=(M.out.back (H.out.alloc _)).trans A
   have V:Hid (zaE C q= .error p):=E.out.trans K
   unfold Pan
   go_wp2
   refine⟨rfl,?_⟩
   rw[V.out]
   exact⟨rfl,HB.out⟩
  |ok a5=>
   rintro e w5 ⟨rfl,S5,m,s⟩
   have Y:=zc m
   have O:Hid (IS o S w S5 w5):=(H.out.alloc _).trans s
   clear m s
   have ab:=zc (E.out.trans K)
   go_wp2
   go_end0
   rw[ab.out]
   exact⟨rfl,S5,Y.out,O.out⟩
theorem zmU (C:Cx) (z n j o:Nat) (S:Sv) (q:PS) (w:World) (h:IM C z n j o S q w) (A:zaV C):
  Calls Tryz.prog 149 #[.pointer (some ⟨o,0,none⟩)] w (zN C z n j o (zaE C q) id (fun _=>.tuple #[]) S w):=by
 cases D:((ze C q.pos).kind==3) with
 |true=>exact zmQ C z n j o S q w h A D
 |false=>
  cases E:isT C q.pos 4 zF with
  |true=>exact zmR C z n j o S q w h A D E
  |false=>
   cases H:isT C q.pos 4 zv with
   |true=>exact zmS C z n j o S q w h A D E H
   |false=>exact zmT C z n j o S q w h A D E H
end Go.Proofs.YticdggnnpjachaaGreat
