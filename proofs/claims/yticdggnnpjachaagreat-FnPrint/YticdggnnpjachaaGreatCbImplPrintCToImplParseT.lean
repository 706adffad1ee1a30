/-
  What impl's imp answers: the walk.
  What impl's exp answers: the walk.
  What impl's kind answers,and side,if expr answers so: the walks.
  What impl's stmt answers,if expr answers so: the walk.
  What impl's program of the printer answers,if expr answers so: the walk.
  What impl's sum answers,if expr answers so,and what expr answers,kind by kind: the walks.
  What impl's expr answers,whole. No walk is zr.
  What impl.Print answers: the walk.
  What importList of impl's parser answers: the walk.
  What importFrom of impl's parser answers: the walk.
  What importItem of impl's parser answers: the walks.
-/
import Derived.Deep.CutBlock
import Derived.Test.YticdggnnpjachaaGreatCbImplBuilderToImplPrintB
namespace Go.Proofs.YticdggnnpjachaaGreat
set_option maxRecDepth 100000
set_option maxHeartbeats 12800000
open Go.RowKit Go.PlainAid Go.Sort
theorem zca (c:PC) (t:ByteArray) (j:List ByteArray) (w:World) (h:PP c t w) (n:(zt t j).size≤140737488355328) (z:j.length≤4294967296):
  Calls Tryz.prog 57 #[.slice (some ⟨w.heap.size,0,none⟩) j.length j.length,.pointer (some ⟨c.b,0,none⟩)] (w.alloc (.cells (j.map Value.string).toArray 9)).drew (PO c (zt t j) w):=by
 have o:Below w.heap.size w (w.alloc (.cells (j.map Value.string).toArray 9)).drew:=((Below.refl _ _).alloc (Nat.le_refl _) _).drew
 refine (zjs c t j w.heap.size _ (h.later o) (heap_alloc_new w _) n z).mono ?_
 rintro e H ⟨D,E,A,q⟩
 exact⟨D,E,(o.mono h.1.2).trans A,(KeepB.of_below o).trans q⟩
def zcb (x:Im):ByteArray:=
 if x.first.toList==[42] then ({data:=#[105,109,112,111,114,116,32]}:ByteArray)++({data:=#[42,32,97,115,32]}:ByteArray)++x.loc
 else if x.first.toList==[100,101,102,97,117,108,116] then ({data:=#[105,109,112,111,114,116,32]}:ByteArray)++x.loc
 else ({data:=#[105,109,112,111,114,116,32]}:ByteArray)++zbE x.first x.loc
theorem zpp {x:Im} (e:(x.first.toList==[42])=true):zcb x=({data:=#[105,109,112,111,114,116,32]}:ByteArray)++({data:=#[42,32,97,115,32]}:ByteArray)++x.loc:=by rw[zcb,e];rfl
theorem zpq {x:Im} (e:(x.first.toList==[42])=false) (j:(x.first.toList==[100,101,102,97,117,108,116])=true):zcb x=({data:=#[105,109,112,111,114,116,32]}:ByteArray)++x.loc:=by rw[zcb,e,j];rfl
theorem zpr {x:Im} (e:(x.first.toList==[42])=false) (j:(x.first.toList==[100,101,102,97,117,108,116])=false):zcb x=({data:=#[105,109,112,111,114,116,32]}:ByteArray)++zbE x.first x.loc:=by rw[zcb,e,j];rfl
theorem zbL (a b:Array UInt8):(⟨a++b⟩:ByteArray)=⟨a⟩++⟨b⟩:=by
 apply ByteArray.ext
 simp
theorem zeq (x:Im):zZ x=zcb x++({data:=#[32,102,114,111,109,32]}:ByteArray)++zat x.spec++({data:=#[59]}:ByteArray)++({data:=#[10]}:ByteArray):=by
 have j:({data:=#[59,10]}:ByteArray)={data:=#[59]}++{data:=#[10]}:=zbL #[59] #[10]
 have q:({data:=#[105,109,112,111,114,116,32,42,32,97,115,32]}:ByteArray)={data:=#[105,109,112,111,114,116,32]}++{data:=#[42,32,97,115,32]}:=zbL #[105,109,112,111,114,116,32] #[42,32,97,115,32]
 have o:({data:=#[105,109,112,111,114,116,32,123,32]}:ByteArray)={data:=#[105,109,112,111,114,116,32]}++{data:=#[123,32]}:=zbL #[105,109,112,111,114,116,32] #[123,32]
 have n:({data:=#[32,125,32,102,114,111,109,32]}:ByteArray)={data:=#[32,125]}++{data:=#[32,102,114,111,109,32]}:=zbL #[32,125] #[32,102,114,111,109,32]
 unfold zZ zcb zbE
 rw[j,q,o,n]
 split
 ·simp only[ByteArray.append_assoc]
 ·split<;>simp only[ByteArray.append_assoc]
theorem zps (x:Im):(({data:=#[105,109,112,111,114,116,32]}:ByteArray)).size≤(zZ x).size:=by
 rw[zeq,zcb]
 split
 ·simp only[ByteArray.size_append];omega
 ·split<;>(simp only[ByteArray.size_append];omega)
theorem zpt (c:PC) (t:ByteArray) (x:Im) (w:World) (h:PP c t w) (z:(t++zZ x).size≤140737488355328) (h1:x.spec.size≤1099511627776):
  Calls Tryz.prog 118 #[.pointer (some ⟨c.gp,0,none⟩),imV x] w (PO c (t++zZ x) w):=by
 have HP:=zc h
 have J:=zc z
 clear h z
 have HZ:Hid (t.size+(zZ x).size≤140737488355328∧(({data:=#[105,109,112,111,114,116,32]}:ByteArray)).size≤(zZ x).size):=⟨by have:=J.out;rw[ByteArray.size_append] at this;exact this,zps x⟩
 unfold imV
 go_enter Tryz.func118,Tryz.ntmps118
 go_upto_region 1 with fail
 have Z:Hid (Below w.heap.size w (w.alloc (.cells #[.string x.spec,.string x.first,.string x.loc] 100))):=(Below.refl _ _).alloc (Nat.le_refl _) _
 refine zau (R:=fun W=>W.heap[w.heap.size]? =some (.cells #[.string x.spec,.string x.first,.string x.loc] 100 (0,0))∧PP c t W∧Below c.B w W∧KeepB c.b w W) ⟨heap_alloc_new w _,HP.out.later Z.out,Z.out.mono HP.out.1.2,KeepB.of_below Z.out⟩ ?_
 obtain⟨gx,I⟩: ∃gx,gx=w.heap.size:=⟨_,rfl⟩
 have V:gx≠c.b:=by
  rw[I]
  obtain⟨ag,hc⟩:=zbK HP.out.1.1
  have:=(Array.getElem?_eq_some_iff.1 hc).1
  omega
 rw[←I]
 rintro W ⟨hx,hp,hb,hk⟩
 clear I Z
 have X:=zc hx
 have D:=zc hp
 have U:=zc hb
 have M:=zc hk
 clear hx hp hb hk
 obtain⟨x0,x1,x2,xf⟩:=zb2 X.out
 obtain⟨p0,p1,p2,p3,p4,p5,pf⟩:=zv D.out.2.2.1
 go_wp2_with fail
 refine (zb3 c t [{data:=#[105,109,112,111,114,116,32]}] W D.out (by have:=HZ.out;simp only[zt,List.foldl_cons,List.foldl_nil,ByteArray.size_append] at this ⊢;omega) (by simp)).mono ?_
 rintro e K ⟨rfl,Y,Q,E⟩
 have q:=zc Y
 have ae:=zc (U.out.trans Q)
 have af:=zc (M.out.trans E)
 have X1:=zc ((E _ _ _ _ X.out V (by decide)).trans X.out)
 clear Y Q E p0 p1 p2 p3 p4 p5 pf x0 x1 x2 xf D U M X
 obtain⟨x0,x1,x2,xf⟩:=zb2 X1.out
 obtain⟨p0,p1,p2,p3,p4,p5,pf⟩:=zv q.out.2.2.1
 have L:=(Array.getElem?_eq_some_iff.1 q.out.2.2.1).1
 have O:=(Array.getElem?_eq_some_iff.1 X1.out).1
 have z:=J.out
 go_upto_block 0 with fail
 go_cut [] from 12 to 37 (fun wx=>PP c (t++zcb x) wx∧Below c.B K wx∧KeepB c.b K wx)
 case first=>
  cases e1:(x.first.toList==[42]) with
  |true=>
   have A:Hid (zcb x=({data:=#[105,109,112,111,114,116,32]}:ByteArray)++({data:=#[42,32,97,115,32]}:ByteArray)++x.loc):=zpp e1
   go_wp2_with fail
   go_region_with (go_at_call 57;refine (zca c _ [{data:=#[42,32,97,115,32]},x.loc] K q.out (by have:=J.out;rw[zeq,A.out] at this;simp only[zt,List.foldl_cons,List.foldl_nil,ByteArray.size_append] at this ⊢;omega) (by simp)).mono ?_;rintro e w2 ⟨rfl,j,o,n⟩)
   all_goals (go_wp2_with fail;go_meet;exact⟨by rw[A.out];simp only[zt,List.foldl_cons,List.foldl_nil,←ByteArray.append_assoc] at j ⊢;exact j,o,n⟩)
  |false=>
   cases e2:(x.first.toList==[100,101,102,97,117,108,116]) with
   |true=>
    have A:Hid (zcb x=({data:=#[105,109,112,111,114,116,32]}:ByteArray)++x.loc):=zpq e1 e2
    go_wp2_with fail
    go_region_with (go_at_call 57;refine (zca c _ [x.loc] K q.out (by have:=J.out;rw[zeq,A.out] at this;simp only[zt,List.foldl_cons,List.foldl_nil,ByteArray.size_append] at this ⊢;omega) (by simp)).mono ?_;rintro e w2 ⟨rfl,j,o,n⟩)
    all_goals (go_wp2_with fail;go_meet;exact⟨by rw[A.out];simp only[zt,List.foldl_cons,List.foldl_nil,←ByteArray.append_assoc] at j ⊢;exact j,o,n⟩)
   |false=>
    have A:Hid (zcb x=({data:=#[105,109,112,111,114,116,32]}:ByteArray)++zbE x.first x.loc):=zpr e1 e2
    go_wp2_with fail
    refine (zhc c _ x.first x.loc K q.out (by have:=J.out;rw[zeq,A.out] at this;simp only[zt,List.foldl_cons,List.foldl_nil,ByteArray.size_append] at this ⊢;omega)).mono ?_
    rintro e w2 ⟨rfl,j,o,n⟩
    go_wp2_with fail
    go_meet
    exact⟨by rw[A.out];simp only[zt,List.foldl_cons,List.foldl_nil,←ByteArray.append_assoc] at j ⊢;exact j,o,n⟩
 case rest=>
 obtain⟨j,o,n⟩:=hcut
 rename_i w2
 have H:=zc j
 have ac:=zc (ae.out.trans o)
 have ab:=zc (af.out.trans n)
 have X2:=zc ((n _ _ _ _ X1.out V (by decide)).trans X1.out)
 clear j o n p0 p1 p2 p3 p4 p5 pf x0 x1 x2 xf L O
 obtain⟨p0,p1,p2,p3,p4,p5,pf⟩:=zv H.out.2.2.1
 obtain⟨x0,x1,x2,xf⟩:=zb2 X2.out
 have L:=(Array.getElem?_eq_some_iff.1 H.out.2.2.1).1
 have O:=(Array.getElem?_eq_some_iff.1 X2.out).1
 go_wp2_with fail
 go_region_with (first|(go_at_call 117;refine (zfI x.spec _ h1).mono ?_;rintro e w' ⟨rfl,rfl⟩)|(go_at_call 57;refine (zca c _ [{data:=#[32,102,114,111,109,32]},zat x.spec,{data:=#[59]},{data:=#[10]}] _ H.out (by have:=J.out;rw[zeq] at this;simp only[zt,List.foldl_cons,List.foldl_nil,ByteArray.size_append] at this ⊢;omega) (by simp)).mono ?_;rintro e w3 ⟨rfl,N,ad,aa⟩))
 all_goals (go_wp2;go_end0;exact⟨rfl,(by rw[zeq];simp only[zt,List.foldl_cons,List.foldl_nil,←ByteArray.append_assoc] at N ⊢;exact N),ac.out.trans ad,ab.out.trans aa⟩)
def zcc (x:Ep):ByteArray:=
 if x.kind==3 then ({data:=#[101,120,112,111,114,116,32]}:ByteArray)++({data:=#[42,32,102,114,111,109,32]}:ByteArray)++zat x.spec
 else if x.kind==2 then ({data:=#[101,120,112,111,114,116,32]}:ByteArray)++zbE x.loc x.name++({data:=#[32,102,114,111,109,32]}:ByteArray)++zat x.spec
 else ({data:=#[101,120,112,111,114,116,32]}:ByteArray)++zbE x.loc x.name
theorem zpu {x:Ep} (e:(x.kind==3)=true):zcc x=({data:=#[101,120,112,111,114,116,32]}:ByteArray)++({data:=#[42,32,102,114,111,109,32]}:ByteArray)++zat x.spec:=by rw[zcc,e];rfl
theorem zpv {x:Ep} (e:(x.kind==3)=false) (j:(x.kind==2)=true):zcc x=({data:=#[101,120,112,111,114,116,32]}:ByteArray)++zbE x.loc x.name++({data:=#[32,102,114,111,109,32]}:ByteArray)++zat x.spec:=by rw[zcc,e,j];rfl
theorem zpw {x:Ep} (e:(x.kind==3)=false) (j:(x.kind==2)=false):zcc x=({data:=#[101,120,112,111,114,116,32]}:ByteArray)++zbE x.loc x.name:=by rw[zcc,e,j];rfl
theorem zdF (x:Ep):zbi x=zcc x++({data:=#[59]}:ByteArray)++({data:=#[10]}:ByteArray):=by
 have z:({data:=#[59,10]}:ByteArray)={data:=#[59]}++{data:=#[10]}:=zbL #[59] #[10]
 have n:({data:=#[101,120,112,111,114,116,32,42,32,102,114,111,109,32]}:ByteArray)={data:=#[101,120,112,111,114,116,32]}++{data:=#[42,32,102,114,111,109,32]}:=zbL #[101,120,112,111,114,116,32] #[42,32,102,114,111,109,32]
 have q:({data:=#[101,120,112,111,114,116,32,123,32]}:ByteArray)={data:=#[101,120,112,111,114,116,32]}++{data:=#[123,32]}:=zbL #[101,120,112,111,114,116,32] #[123,32]
 have o:({data:=#[32,125,32,102,114,111,109,32]}:ByteArray)={data:=#[32,125]}++{data:=#[32,102,114,111,109,32]}:=zbL #[32,125] #[32,102,114,111,109,32]
 have j:({data:=#[32,125,59,10]}:ByteArray)={data:=#[32,125]}++{data:=#[59,10]}:=zbL #[32,125] #[59,10]
 unfold zbi zcc zbE
 rw[j,z,n,q,o]
 split
 ·simp only[ByteArray.append_assoc]
 ·split<;>simp only[ByteArray.append_assoc]
theorem zpx (x:Ep):(({data:=#[101,120,112,111,114,116,32]}:ByteArray)).size≤(zbi x).size:=by
 rw[zdF,zcc]
 split
 ·simp only[ByteArray.size_append];omega
 ·split<;>(simp only[ByteArray.size_append];omega)
theorem zpy (c:PC) (t:ByteArray) (x:Ep) (w:World) (h:PP c t w) (E:(t++zbi x).size≤140737488355328) (h1:x.spec.size≤1099511627776):
  Calls Tryz.prog 119 #[.pointer (some ⟨c.gp,0,none⟩),epV x] w (PO c (t++zbi x) w):=by
 have HP:=zc h
 have Q:=zc E
 clear h E
 have HZ:Hid (t.size+(zbi x).size≤140737488355328∧(({data:=#[101,120,112,111,114,116,32]}:ByteArray)).size≤(zbi x).size):=⟨by have:=Q.out;rw[ByteArray.size_append] at this;exact this,zpx x⟩
 unfold epV
 go_enter Tryz.func119,Tryz.ntmps119
 go_upto_region 1 with fail
 have HW:Hid (Below w.heap.size w (w.alloc (.cells #[.int .i64 x.kind,.string x.name,.string x.loc,.string x.spec] 102))):=(Below.refl _ _).alloc (Nat.le_refl _) _
 refine zau (R:=fun W=>W.heap[w.heap.size]? =some (.cells #[.int .i64 x.kind,.string x.name,.string x.loc,.string x.spec] 102 (0,0))∧PP c t W∧Below c.B w W∧KeepB c.b w W) ⟨heap_alloc_new w _,HP.out.later HW.out,HW.out.mono HP.out.1.2,KeepB.of_below HW.out⟩ ?_
 obtain⟨gx,aa⟩: ∃gx,gx=w.heap.size:=⟨_,rfl⟩
 have af:gx≠c.b:=by
  rw[aa]
  obtain⟨al,hc⟩:=zbK HP.out.1.1
  have:=(Array.getElem?_eq_some_iff.1 hc).1
  omega
 rw[←aa]
 rintro W ⟨hx,hp,hb,hk⟩
 clear aa HW
 have X:=zc hx
 have K:=zc hp
 have ae:=zc hb
 have ab:=zc hk
 clear hx hp hb hk
 obtain⟨x0,x1,x2,x3,xf⟩:=zdn X.out
 obtain⟨p0,p1,U,O,J,p5,Y⟩:=zv K.out.2.2.1
 go_wp2_with fail
 refine (zb3 c t [{data:=#[101,120,112,111,114,116,32]}] W K.out (by have:=HZ.out;simp only[zt,List.foldl_cons,List.foldl_nil,ByteArray.size_append] at this ⊢;omega) (by simp)).mono ?_
 rintro e w1 ⟨rfl,ag,ad,N⟩
 have A:=zc ag
 have aj:=zc (ae.out.trans ad)
 have ak:=zc (ab.out.trans N)
 have X1:=zc ((N _ _ _ _ X.out af (by decide)).trans X.out)
 clear ag ad N p0 p1 U O J p5 Y x0 x1 x2 x3 xf K ae ab X
 obtain⟨x0,x1,x2,x3,xf⟩:=zdn X1.out
 obtain⟨p0,p1,U,O,J,p5,Y⟩:=zv A.out.2.2.1
 have L:=(Array.getElem?_eq_some_iff.1 A.out.2.2.1).1
 have Z:=(Array.getElem?_eq_some_iff.1 X1.out).1
 have E:=Q.out
 go_upto_block 0 with fail
 go_cut [] from 12 to 45 (fun wx=>PP c (t++zcc x) wx∧Below c.B w1 wx∧KeepB c.b w1 wx)
 case first=>
  cases e1:(x.kind==3) with
  |true=>
   have I:Hid (zcc x=({data:=#[101,120,112,111,114,116,32]}:ByteArray)++({data:=#[42,32,102,114,111,109,32]}:ByteArray)++zat x.spec):=zpu e1
   go_wp2_with fail
   go_region_with (first|(go_at_call 117;refine (zfI x.spec _ h1).mono ?_;rintro e w' ⟨rfl,rfl⟩)|(go_at_call 57;refine (zca c _ [{data:=#[42,32,102,114,111,109,32]},zat x.spec] w1 A.out (by have:=Q.out;rw[zdF,I.out] at this;simp only[zt,List.foldl_cons,List.foldl_nil,ByteArray.size_append] at this ⊢;omega) (by simp)).mono ?_;rintro e w2 ⟨rfl,j,o,n⟩))
   all_goals (go_wp2_with fail;go_meet;exact⟨by rw[I.out];simp only[zt,List.foldl_cons,List.foldl_nil,←ByteArray.append_assoc] at j ⊢;exact j,o,n⟩)
  |false=>
   cases e2:(x.kind==2) with
   |true=>
    have I:Hid (zcc x=({data:=#[101,120,112,111,114,116,32]}:ByteArray)++zbE x.loc x.name++({data:=#[32,102,114,111,109,32]}:ByteArray)++zat x.spec):=zpv e1 e2
    go_wp2_with fail
    refine (zhc c _ x.loc x.name w1 A.out (by have:=Q.out;rw[zdF,I.out] at this;simp only[zt,List.foldl_cons,List.foldl_nil,ByteArray.size_append] at this ⊢;omega)).mono ?_
    rintro e w3 ⟨rfl,q,H,z⟩
    have D:=zc q
    have X3:=zc ((z _ _ _ _ X1.out af (by decide)).trans X1.out)
    have M:=zc H
    have V:=zc z
    clear q H z p0 p1 U O J p5 Y x0 x1 x2 x3 xf L Z
    obtain⟨p0,p1,U,O,J,p5,Y⟩:=zv D.out.2.2.1
    obtain⟨x0,x1,x2,x3,xf⟩:=zdn X3.out
    have L:=(Array.getElem?_eq_some_iff.1 D.out.2.2.1).1
    have Z:=(Array.getElem?_eq_some_iff.1 X3.out).1
    go_wp2_with fail
    go_region_with (first|(go_at_call 117;refine (zfI x.spec _ h1).mono ?_;rintro e w' ⟨rfl,rfl⟩)|(go_at_call 57;refine (zca c _ [{data:=#[32,102,114,111,109,32]},zat x.spec] w3 D.out (by have:=Q.out;rw[zdF,I.out] at this;simp only[zt,List.foldl_cons,List.foldl_nil,ByteArray.size_append] at this ⊢;omega) (by simp)).mono ?_;rintro e w2 ⟨rfl,j,o,n⟩))
    all_goals (go_wp2_with fail;go_meet;exact⟨by rw[I.out];simp only[zt,List.foldl_cons,List.foldl_nil,←ByteArray.append_assoc] at j ⊢;exact j,M.out.trans o,V.out.trans n⟩)
   |false=>
    have I:Hid (zcc x=({data:=#[101,120,112,111,114,116,32]}:ByteArray)++zbE x.loc x.name):=zpw e1 e2
    go_wp2_with fail
    refine (zhc c _ x.loc x.name w1 A.out (by have:=Q.out;rw[zdF,I.out] at this;simp only[zt,List.foldl_cons,List.foldl_nil,ByteArray.size_append] at this ⊢;omega)).mono ?_
    rintro e w2 ⟨rfl,j,o,n⟩
    go_wp2_with fail
    go_meet
    exact⟨by rw[I.out];simp only[zt,List.foldl_cons,List.foldl_nil,←ByteArray.append_assoc] at j ⊢;exact j,o,n⟩
 case rest=>
 obtain⟨j,o,n⟩:=hcut
 rename_i w2
 have ac:=zc j
 have ai:=zc (aj.out.trans o)
 have ah:=zc (ak.out.trans n)
 clear j o n p0 p1 U O J p5 Y x0 x1 x2 x3 xf L Z
 obtain⟨p0,p1,U,O,J,p5,Y⟩:=zv ac.out.2.2.1
 go_wp2_with fail
 refine (zb3 c _ [{data:=#[59]},{data:=#[10]}] _ ac.out (by have:=Q.out;rw[zdF] at this;simp only[zt,List.foldl_cons,List.foldl_nil,ByteArray.size_append] at this ⊢;omega) (by simp)).mono ?_
 rintro e w3 ⟨rfl,q,H,z⟩
 have D:=zc q
 have M:=zc (ai.out.trans H)
 have V:=zc (ah.out.trans z)
 clear q H z p0 p1 U O J p5 Y
 go_wp2
 go_end0
 exact⟨rfl,(by have q:=D.out;rw[zdF];simp only[zt,List.foldl_cons,List.foldl_nil,←ByteArray.append_assoc] at q ⊢;exact q),M.out,V.out⟩
theorem zhd (c:PC) (t:ByteArray) (i:Nat) (w:World) (h:PP c t w) (D:i<c.m.ex.length):
  Calls Tryz.prog 190 #[.pointer (some ⟨c.gp,0,none⟩),.int .i64 (i:Int)] w fun e H=>e= .returned (.int .i64 (c.m.ex.getD i zg).kind)∧H=w:=by
 obtain⟨Q,X,L,K,q,U,M⟩:=zv h.2.2.1
 obtain⟨g,n,A,E,N,J,O,V,I⟩:=h.2.1.expr D
 rw[n] at q
 have z:(i:Int)<(c.m.ex.length:Int):=by omega
 obtain⟨o,j⟩: ∃o,(c.m.ex.getD i zg).kind=o:=⟨_,rfl⟩
 rw[j] at E
 rw[j]
 clear h n j
 go_enter Tryz.func190,Tryz.ntmps190
 go_wp2
 go_ret
 exact⟨rfl,rfl⟩
def zcd (c:PC) (i:Nat):Prop:=∀(t:ByteArray) (w:World),PP c t w→(t++prX c.m.ex i).size≤140737488355328→Calls Tryz.prog 162 #[.pointer (some ⟨c.gp,0,none⟩),.int .i64 (i:Int)] w (PO c (t++prX c.m.ex i) w)
theorem zfJ (c:PC) (t:ByteArray) (i:Nat) (o:Bool) (w:World) (ok:zcd c i) (h:PP c t w) (j:(t++zE o (prX c.m.ex i)).size≤140737488355328):
  Calls Tryz.prog 189 #[.pointer (some ⟨c.gp,0,none⟩),.int .i64 (i:Int),.bool o] w (PO c (t++zE o (prX c.m.ex i)) w):=by
 have OK:=zc ok
 have HP:=zc h
 clear ok h
 obtain⟨Y,p1,V,U,Q,Z,X⟩:=zv HP.out.2.2.1
 cases o with
 |false=>
  have M:Hid ((t++prX c.m.ex i).size≤140737488355328):=j
  clear j
  go_enter Tryz.func189,Tryz.ntmps189
  go_wp2_with fail
  refine (OK.out t w HP.out M.out).mono ?_
  rintro e w1 ⟨rfl,A,z,n⟩
  have D:=zc A
  have E:=zc z
  have H:=zc n
  clear A z n Y p1 V U Q Z X
  go_wp2
  refine bodyPost_ret (results_none rfl _ _ _) rfl ?_
  exact⟨rfl,D.out,E.out,H.out⟩
 |true=>
  have M:Hid ((t++(zn++prX c.m.ex i++za0)).size≤140737488355328):=j
  clear j
  go_enter Tryz.func189,Tryz.ntmps189
  go_wp2_with fail
  refine (zb3 c t [zn] w HP.out (by have:=M.out;simp only[zt,List.foldl_cons,List.foldl_nil,ByteArray.size_append] at this ⊢;omega) (by simp)).mono ?_
  rintro e w1 ⟨rfl,A,z,n⟩
  have D:=zc A
  have E:=zc z
  have H:=zc n
  clear A z n Y p1 V U Q Z X
  go_wp2_with fail
  refine (OK.out _ w1 D.out (by have:=M.out;simp only[zt,List.foldl_cons,List.foldl_nil,ByteArray.size_append] at this ⊢;omega)).mono ?_
  rintro e w2 ⟨rfl,L,K,J⟩
  have N:=zc L
  have ad:=zc (E.out.trans K)
  have aa:=zc (H.out.trans J)
  clear L K J
  obtain⟨Y,p1,V,U,Q,Z,X⟩:=zv N.out.2.2.1
  go_wp2_with fail
  refine (zb3 c _ [za0] w2 N.out (by have:=M.out;simp only[zt,List.foldl_cons,List.foldl_nil,ByteArray.size_append] at this ⊢;omega) (by simp)).mono ?_
  rintro e w3 ⟨rfl,q,O,I⟩
  have ac:=zc q
  have ab:=zc (ad.out.trans O)
  have ae:=zc (aa.out.trans I)
  clear q O I Y p1 V U Q Z X
  go_wp2
  go_end0
  exact⟨rfl,(by have q:=ac.out;unfold zE;rw[if_pos rfl];simp only[zt,List.foldl_cons,List.foldl_nil,←ByteArray.append_assoc] at q ⊢;exact q),ab.out,ae.out⟩
def zaO (k:Int) (n:ByteArray):ByteArray:=
 if n.toList==[42,100,101,102,97,117,108,116] then ({data:=#[101,120,112,111,114,116,32]}:ByteArray)++({data:=#[100,101,102,97,117,108,116]}:ByteArray)++({data:=#[32]}:ByteArray)
 else if k==1 then ({data:=#[108,101,116,32]}:ByteArray)++n++({data:=#[32,61,32]}:ByteArray)
 else if k==2 then ({data:=#[102,117,110,99,116,105,111,110,32]}:ByteArray)++n++({data:=#[40,41,32,123,32,114,101,116,117,114,110,32]}:ByteArray)
 else if k==3 then n++({data:=#[32,61,32]}:ByteArray)
 else if k==4 then ({data:=#[112,114,105,110,116,40]}:ByteArray)
 else if k==5 then ({data:=#[116,104,114,111,119,32]}:ByteArray)
 else ({data:=#[102,97,105,108,32]}:ByteArray)
def zaI (k:Int) (n:ByteArray):ByteArray:=
 if n.toList==[42,100,101,102,97,117,108,116] then ({data:=#[59]}:ByteArray) else if k==2 then ({data:=#[59,32,125]}:ByteArray) else if k==4 then ({data:=#[41,59]}:ByteArray) else ({data:=#[59]}:ByteArray)
theorem zjt {k:Int} {n:ByteArray} (e:(n.toList==[42,100,101,102,97,117,108,116])=true):zaO k n=({data:=#[101,120,112,111,114,116,32]}:ByteArray)++({data:=#[100,101,102,97,117,108,116]}:ByteArray)++({data:=#[32]}:ByteArray):=by rw[zaO,e];rfl
theorem zju {k:Int} {n:ByteArray} (e:(n.toList==[42,100,101,102,97,117,108,116])=true):zaI k n=({data:=#[59]}:ByteArray):=by rw[zaI,e];rfl
theorem zjv {k:Int} {n:ByteArray} (e:(n.toList==[42,100,101,102,97,117,108,116])=false) (j:(k==1)=true):zaO k n=({data:=#[108,101,116,32]}:ByteArray)++n++({data:=#[32,61,32]}:ByteArray):=by rw[zaO,e,j];rfl
theorem zjw {k:Int} {n:ByteArray} (e:(n.toList==[42,100,101,102,97,117,108,116])=false) (j:(k==1)=true):zaI k n=({data:=#[59]}:ByteArray):=by have q:=eq_of_beq j;subst q;rw[zaI,e];rfl
theorem zjx {k:Int} {n:ByteArray} (e:(n.toList==[42,100,101,102,97,117,108,116])=false) (o:(k==1)=false) (j:(k==2)=true):zaO k n=({data:=#[102,117,110,99,116,105,111,110,32]}:ByteArray)++n++({data:=#[40,41,32,123,32,114,101,116,117,114,110,32]}:ByteArray):=by rw[zaO,e,o,j];rfl
theorem zjy {k:Int} {n:ByteArray} (e:(n.toList==[42,100,101,102,97,117,108,116])=false) (j:(k==2)=true):zaI k n=({data:=#[59,32,125]}:ByteArray):=by rw[zaI,e,j];rfl
theorem zjz {k:Int} {n:ByteArray} (e:(n.toList==[42,100,101,102,97,117,108,116])=false) (o:(k==1)=false) (q:(k==2)=false) (j:(k==3)=true):zaO k n=n++({data:=#[32,61,32]}:ByteArray):=by rw[zaO,e,o,q,j];rfl
theorem zj0 {k:Int} {n:ByteArray} (e:(n.toList==[42,100,101,102,97,117,108,116])=false) (j:(k==3)=true):zaI k n=({data:=#[59]}:ByteArray):=by have q:=eq_of_beq j;subst q;rw[zaI,e];rfl
theorem zj1 {k:Int} {n:ByteArray} (e:(n.toList==[42,100,101,102,97,117,108,116])=false) (o:(k==1)=false) (z:(k==2)=false) (j:(k==3)=false) (q:(k==4)=true):zaO k n=({data:=#[112,114,105,110,116,40]}:ByteArray):=by rw[zaO,e,o,z,j,q];rfl
theorem zj2 {k:Int} {n:ByteArray} (e:(n.toList==[42,100,101,102,97,117,108,116])=false) (j:(k==2)=false) (o:(k==4)=true):zaI k n=({data:=#[41,59]}:ByteArray):=by rw[zaI,e,j,o];rfl
theorem zj3 {k:Int} {n:ByteArray} (e:(n.toList==[42,100,101,102,97,117,108,116])=false) (q:(k==1)=false) (A:(k==2)=false) (o:(k==3)=false) (j:(k==4)=false) (z:(k==5)=true):zaO k n=({data:=#[116,104,114,111,119,32]}:ByteArray):=by rw[zaO,e,q,A,o,j,z];rfl
theorem zj4 {k:Int} {n:ByteArray} (e:(n.toList==[42,100,101,102,97,117,108,116])=false) (j:(k==2)=false) (o:(k==4)=false):zaI k n=({data:=#[59]}:ByteArray):=by rw[zaI,e,j,o];rfl
theorem zj5 {k:Int} {n:ByteArray} (e:(n.toList==[42,100,101,102,97,117,108,116])=false) (q:(k==1)=false) (A:(k==2)=false) (o:(k==3)=false) (j:(k==4)=false) (z:(k==5)=false):zaO k n=({data:=#[102,97,105,108,32]}:ByteArray):=by rw[zaO,e,q,A,o,j,z];rfl
theorem zj6 {k:Int} {n:ByteArray} (e:(n.toList==[42,100,101,102,97,117,108,116])=false) (j:(k==2)=false) (o:(k==4)=false):zaI k n=({data:=#[59]}:ByteArray):=by rw[zaI,e,j,o];rfl
theorem zj7 (k:Int) (n e:ByteArray):zcP k n e=zaO k n++e++zaI k n++({data:=#[10]}:ByteArray):=by
 have J:({data:=#[59,10]}:ByteArray)=({data:=#[59]}:ByteArray)++({data:=#[10]}:ByteArray):=zbL #[59] #[10]
 have E:({data:=#[59,32,125,10]}:ByteArray)=({data:=#[59,32,125]}:ByteArray)++({data:=#[10]}:ByteArray):=zbL #[59,32,125] #[10]
 have I:({data:=#[41,59,10]}:ByteArray)=({data:=#[41,59]}:ByteArray)++({data:=#[10]}:ByteArray):=zbL #[41,59] #[10]
 have H:({data:=#[101,120,112,111,114,116,32,100,101,102,97,117,108,116,32]}:ByteArray)=({data:=#[101,120,112,111,114,116,32,100,101,102,97,117,108,116]}:ByteArray)++({data:=#[32]}:ByteArray):=zbL #[101,120,112,111,114,116,32,100,101,102,97,117,108,116] #[32]
 have D:({data:=#[101,120,112,111,114,116,32,100,101,102,97,117,108,116]}:ByteArray)=({data:=#[101,120,112,111,114,116,32]}:ByteArray)++({data:=#[100,101,102,97,117,108,116]}:ByteArray):=zbL #[101,120,112,111,114,116,32] #[100,101,102,97,117,108,116]
 unfold zcP zaz
 rw[J,E,I,H,D]
 cases h:(n.toList==[42,100,101,102,97,117,108,116]) with
 |true=>rw[zjt h,zju h];simp only[↓reduceIte,ByteArray.append_assoc]
 |false=>
  cases o:(k==1) with
  |true=>rw[zjv h o,zjw h o];simp only[↓reduceIte,Bool.false_eq_true,ByteArray.append_assoc]
  |false=>
   cases j:(k==2) with
   |true=>rw[zjx h o j,zjy h j];simp only[↓reduceIte,Bool.false_eq_true,ByteArray.append_assoc]
   |false=>
    cases z:(k==3) with
    |true=>rw[zjz h o j z,zj0 h z];simp only[↓reduceIte,Bool.false_eq_true,ByteArray.append_assoc]
    |false=>
     cases q:(k==4) with
     |true=>rw[zj1 h o j z q,zj2 h j q];simp only[↓reduceIte,Bool.false_eq_true,ByteArray.append_assoc]
     |false=>
      cases A:(k==5) with
      |true=>rw[zj3 h o j z q A,zj4 h j q];simp only[↓reduceIte,Bool.false_eq_true,ByteArray.append_assoc]
      |false=>
       rw[zj5 h o j z q A,zj6 h j q];simp only[↓reduceIte,Bool.false_eq_true,ByteArray.append_assoc]
theorem zpz (k:Int) (n e:ByteArray):(zcP k n e).size=(zaO k n).size+e.size+(zaI k n).size+1:=by
 rw[zj7,ByteArray.size_append,ByteArray.size_append,ByteArray.size_append]
 rfl
theorem zp0 (c:PC) (t:ByteArray) (k:Int) (n:ByteArray) (i:Nat) (w:World) (ok:zcd c i) (h:PP c t w) (J:(t++zcP k n (prX c.m.ex i)).size≤140737488355328):
  Calls Tryz.prog 120 #[.pointer (some ⟨c.gp,0,none⟩),.agg #[.int .i64 k,.string n,.int .i64 (i:Int)]] w (PO c (t++zcP k n (prX c.m.ex i)) w):=by
 have HP:=zc h
 have OK:=zc ok
 have N:Hid (t.size+((zaO k n).size+(prX c.m.ex i).size+(zaI k n).size+1)≤140737488355328):=by show _≤_;rw[ByteArray.size_append,zpz] at J;exact J
 clear h J ok
 go_enter Tryz.func120,Tryz.ntmps120
 go_upto_region 1 with fail
 have HW:Hid (Below w.heap.size w (w.alloc (.cells #[.int .i64 k,.string n,.int .i64 (i:Int)] 106))):=(Below.refl _ _).alloc (Nat.le_refl _) _
 refine zau (R:=fun W=>W.heap[w.heap.size]? =some (.cells #[.int .i64 k,.string n,.int .i64 (i:Int)] 106 (0,0))∧PP c t W∧Below c.B w W∧KeepB c.b w W) ⟨heap_alloc_new w _,HP.out.later HW.out,HW.out.mono HP.out.1.2,KeepB.of_below HW.out⟩ ?_
 obtain⟨gx,U⟩: ∃gx,gx=w.heap.size:=⟨_,rfl⟩
 have ap:gx≠c.b:=by
  rw[U]
  obtain⟨aq,hc⟩:=zbK HP.out.1.1
  have:=(Array.getElem?_eq_some_iff.1 hc).1
  omega
 rw[←U]
 rintro L ⟨hx,hp,hb,hk⟩
 clear U HW
 have X1:=zc hx
 have D:=zc hp
 have ao:=zc hb
 have am:=zc hk
 clear hx hp hb hk
 obtain⟨x0,x1,x2,xf⟩:=zb2 X1.out
 obtain⟨p0,p1,p2,p3,p4,p5,pf⟩:=zv D.out.2.2.1
 have ae:=(Array.getElem?_eq_some_iff.1 D.out.2.2.1).1
 have an:=(Array.getElem?_eq_some_iff.1 X1.out).1
 go_upto_block 0 with fail
 go_cut [4] from 5 to 76 (fun s4 wx=>s4= .string (zaI k n)∧PP c (t++zaO k n) wx∧Below c.B L wx∧KeepB c.b L wx)
 case first=>
  cases E:(n.toList==[42,100,101,102,97,117,108,116]) with
  |true=>
   have A:Hid (zaO k n=({data:=#[101,120,112,111,114,116,32]}:ByteArray)++({data:=#[100,101,102,97,117,108,116]}:ByteArray)++({data:=#[32]}:ByteArray)):=zjt E
   have I:Hid (zaI k n=({data:=#[59]}:ByteArray)):=zju E
   have H:Hid ((zt t [{data:=#[101,120,112,111,114,116,32]},{data:=#[100,101,102,97,117,108,116]},{data:=#[32]}]).size≤140737488355328):=by show _≤_;have:=N.out;rw[A.out] at this;simp only[zt,List.foldl_cons,List.foldl_nil,ByteArray.size_append] at this ⊢;omega
   go_wp2_with fail
   refine (zb3 c t [{data:=#[101,120,112,111,114,116,32]},{data:=#[100,101,102,97,117,108,116]},{data:=#[32]}] L D.out H.out (by simp)).mono ?_
   rintro e O ⟨rfl,j,q,o⟩
   go_wp2_with fail
   go_meet
   exact⟨by rw[I.out],by rw[A.out];simp only[zt,List.foldl_cons,List.foldl_nil,←ByteArray.append_assoc] at j ⊢;exact j,q,o⟩
  |false=>
   cases Q:(k==1) with
   |true=>
    have A:Hid (zaO k n=({data:=#[108,101,116,32]}:ByteArray)++n++({data:=#[32,61,32]}:ByteArray)):=zjv E Q
    have I:Hid (zaI k n=({data:=#[59]}:ByteArray)):=zjw E Q
    have H:Hid ((zt t [{data:=#[108,101,116,32]},n,{data:=#[32,61,32]}]).size≤140737488355328):=by show _≤_;have:=N.out;rw[A.out] at this;simp only[zt,List.foldl_cons,List.foldl_nil,ByteArray.size_append] at this ⊢;omega
    go_wp2_with fail
    go_region_with (go_at_call 57;refine (zca c t [{data:=#[108,101,116,32]},n,{data:=#[32,61,32]}] L D.out H.out (by simp)).mono ?_;rintro e O ⟨rfl,j,q,o⟩)
    all_goals (go_wp2_with fail;go_meet;exact⟨by rw[I.out],by rw[A.out];simp only[zt,List.foldl_cons,List.foldl_nil,←ByteArray.append_assoc] at j ⊢;exact j,q,o⟩)
   |false=>
    cases M:(k==2) with
    |true=>
     have A:Hid (zaO k n=({data:=#[102,117,110,99,116,105,111,110,32]}:ByteArray)++n++({data:=#[40,41,32,123,32,114,101,116,117,114,110,32]}:ByteArray)):=zjx E Q M
     have I:Hid (zaI k n=({data:=#[59,32,125]}:ByteArray)):=zjy E M
     have H:Hid ((zt t [{data:=#[102,117,110,99,116,105,111,110,32]},n,{data:=#[40,41,32,123,32,114,101,116,117,114,110,32]}]).size≤140737488355328):=by show _≤_;have:=N.out;rw[A.out] at this;simp only[zt,List.foldl_cons,List.foldl_nil,ByteArray.size_append] at this ⊢;omega
     go_wp2_with fail
     go_region_with (go_at_call 57;refine (zca c t [{data:=#[102,117,110,99,116,105,111,110,32]},n,{data:=#[40,41,32,123,32,114,101,116,117,114,110,32]}] L D.out H.out (by simp)).mono ?_;rintro e O ⟨rfl,j,q,o⟩)
     all_goals (go_wp2_with fail;go_meet;exact⟨by rw[I.out],by rw[A.out];simp only[zt,List.foldl_cons,List.foldl_nil,←ByteArray.append_assoc] at j ⊢;exact j,q,o⟩)
    |false=>
     cases h3:(k==3) with
     |true=>
      have A:Hid (zaO k n=n++({data:=#[32,61,32]}:ByteArray)):=zjz E Q M h3
      have I:Hid (zaI k n=({data:=#[59]}:ByteArray)):=zj0 E h3
      have H:Hid ((zt t [n,{data:=#[32,61,32]}]).size≤140737488355328):=by show _≤_;have:=N.out;rw[A.out] at this;simp only[zt,List.foldl_cons,List.foldl_nil,ByteArray.size_append] at this ⊢;omega
      go_wp2_with fail
      go_region_with (go_at_call 57;refine (zca c t [n,{data:=#[32,61,32]}] L D.out H.out (by simp)).mono ?_;rintro e O ⟨rfl,j,q,o⟩)
      all_goals (go_wp2_with fail;go_meet;exact⟨by rw[I.out],by rw[A.out];simp only[zt,List.foldl_cons,List.foldl_nil,←ByteArray.append_assoc] at j ⊢;exact j,q,o⟩)
     |false=>
      cases V:(k==4) with
      |true=>
       have A:Hid (zaO k n=({data:=#[112,114,105,110,116,40]}:ByteArray)):=zj1 E Q M h3 V
       have I:Hid (zaI k n=({data:=#[41,59]}:ByteArray)):=zj2 E M V
       have H:Hid ((zt t [{data:=#[112,114,105,110,116,40]}]).size≤140737488355328):=by show _≤_;have:=N.out;rw[A.out] at this;simp only[zt,List.foldl_cons,List.foldl_nil,ByteArray.size_append] at this ⊢;omega
       go_wp2_with fail
       refine (zb3 c t [{data:=#[112,114,105,110,116,40]}] L D.out H.out (by simp)).mono ?_
       rintro e O ⟨rfl,j,q,o⟩
       go_wp2_with fail
       go_meet
       exact⟨by rw[I.out],by rw[A.out];exact j,q,o⟩
      |false=>
       cases h5:(k==5) with
       |true=>
        have A:Hid (zaO k n=({data:=#[116,104,114,111,119,32]}:ByteArray)):=zj3 E Q M h3 V h5
        have I:Hid (zaI k n=({data:=#[59]}:ByteArray)):=zj4 E M V
        have H:Hid ((zt t [{data:=#[116,104,114,111,119,32]}]).size≤140737488355328):=by show _≤_;have:=N.out;rw[A.out] at this;simp only[zt,List.foldl_cons,List.foldl_nil,ByteArray.size_append] at this ⊢;omega
        go_wp2_with fail
        refine (zb3 c t [{data:=#[116,104,114,111,119,32]}] L D.out H.out (by simp)).mono ?_
        rintro e O ⟨rfl,j,q,o⟩
        go_wp2_with fail
        go_meet
        exact⟨by rw[I.out],by rw[A.out];exact j,q,o⟩
       |false=>
        have A:Hid (zaO k n=({data:=#[102,97,105,108,32]}:ByteArray)):=zj5 E Q M h3 V h5
        have I:Hid (zaI k n=({data:=#[59]}:ByteArray)):=zj6 E M V
        have H:Hid ((zt t [{data:=#[102,97,105,108,32]}]).size≤140737488355328):=by show _≤_;have:=N.out;rw[A.out] at this;simp only[zt,List.foldl_cons,List.foldl_nil,ByteArray.size_append] at this ⊢;omega
        go_wp2_with fail
        refine (zb3 c t [{data:=#[102,97,105,108,32]}] L D.out H.out (by simp)).mono ?_
        rintro e O ⟨rfl,j,q,o⟩
        go_wp2_with fail
        go_meet
        exact⟨by rw[I.out],by rw[A.out];exact j,q,o⟩
 case rest=>
 rename_i s4 O
 obtain⟨rfl,j,q,o⟩:=hcut
 have al:=zc j
 have aj:=zc (ao.out.trans q)
 have ad:=zc (am.out.trans o)
 have X2:=zc ((o _ _ _ _ X1.out ap (by decide)).trans X1.out)
 clear j q o p0 p1 p2 p3 p4 p5 pf x0 x1 x2 xf ae an
 obtain⟨x0,x1,x2,xf⟩:=zb2 X2.out
 go_wp2_with fail
 refine (OK.out _ _ al.out (by have:=N.out;simp only[ByteArray.size_append] at this ⊢;omega)).mono ?_
 rintro e w3 ⟨rfl,K,ab,X⟩
 have ac:=zc K
 have ag:=zc (aj.out.trans ab)
 have ak:=zc (ad.out.trans X)
 clear K ab X x0 x1 x2 xf
 obtain⟨p0,p1,p2,p3,p4,p5,pf⟩:=zv ac.out.2.2.1
 go_wp2_with fail
 refine (zb3 c _ [zaI k n,{data:=#[10]}] _ ac.out (by have:=N.out;have z:(({data:=#[10]}:ByteArray)).size=1:=rfl;simp only[zt,List.foldl_cons,List.foldl_nil,ByteArray.size_append,z] at this ⊢;omega) (by simp)).mono ?_
 rintro e w4 ⟨rfl,Z,Y,aa⟩
 have af:=zc Z
 have ai:=zc (ag.out.trans Y)
 have ah:=zc (ak.out.trans aa)
 clear Z Y aa p0 p1 p2 p3 p4 p5 pf
 go_wp2
 go_end0
 exact⟨rfl,(by have K:=af.out;rw[zj7];simp only[zt,List.foldl_cons,List.foldl_nil,←ByteArray.append_assoc] at K ⊢;exact K),ai.out,ah.out⟩
theorem zfK {α:Type} {l:List α} {j:Nat} (h:j<l.length): ∃x,l[j]? =some x:=⟨_,List.getElem?_eq_getElem h⟩
theorem zp1 (l:List ByteArray):l.map Value.string=l.flatMap (fun x=>[Value.string x]):=by
 induction l with
 |nil=>rfl
 |cons x l j=>rw[List.map_cons,List.flatMap_cons,j];rfl
theorem zp2 (t:ByteArray):t++sNone=t:=by
 cases t with
 |mk d=>
  show ByteArray.append _ _=_
  simp[ByteArray.append]
theorem zj8 (m:Md):(acc epF m.ep (acc zZ m.im (acc rqT m.rq sNone))).size≤(zb1 m).size:=zdD _ _ _
theorem zj9 (m:Md):(acc zZ m.im (acc rqT m.rq sNone)).size≤(zb1 m).size:=Nat.le_trans (zdD _ _ _) (zj8 m)
theorem zp3 (m:Md):(acc rqT m.rq sNone).size≤(zb1 m).size:=Nat.le_trans (zdD _ _ _) (zj9 m)
theorem zjA (s:ByteArray):rqT s=({data:=#[105,109,112,111,114,116,32]}:ByteArray)++zat s++({data:=#[59]}:ByteArray)++({data:=#[10]}:ByteArray):=by
 have j:({data:=#[59,10]}:ByteArray)={data:=#[59]}++{data:=#[10]}:=zbL #[59] #[10]
 rw[rqT,j]
 simp only[ByteArray.append_assoc]
theorem zjB {x:Ep} (h:(x.loc.toList==[42,100,101,102,97,117,108,116])=false):epF x=zbi x:=by rw[epF,h];rfl
theorem zp4 {x:Ep} (h:(x.loc.toList==[42,100,101,102,97,117,108,116])=true):epF x=sNone:=by rw[epF,h];rfl
theorem zp5 (c:PC) (w:World) (ok: ∀i,i<c.m.ex.length→zcd c i) (hs: ∀s∈c.m.st,0≤s.expr∧s.expr<(c.m.ex.length:Int)) (hm:Small c.m) (h:PP c sNone w) (ae:(zb1 c.m).size≤140737488355328):
  Calls Tryz.prog 59 #[.pointer (some ⟨c.gp,0,none⟩)] w (PO c (zb1 c.m) w):=by
 have ah:=zc h
 have SM:=zc hm
 have OK:=zc ok
 have HS:=zc hs
 have HL:=zc ae
 obtain⟨f1,f2,f3,f4,f5⟩:=hm.few
 clear h hm ok hs ae
 obtain⟨Z,p1,p2,Y,p4,p5,pf⟩:=zv ah.out.2.2.1
 go_enter Tryz.func59,Tryz.ntmps59
 go_wp2
 go_loopg [16] c.m.rq.length (fun k i wr=>∃j:Nat,i= .int .i64 j∧j+k=c.m.rq.length∧PP c (acc rqT (c.m.rq.take j) sNone) wr∧Below c.B w wr∧KeepB c.b w wr)
 case atStart=>exact⟨0,rfl,by omega,ah.out,Below.refl _ _,fun _ _ _ _ _ _ _=>rfl⟩
 case round=>
  obtain⟨j,rfl,hj,K,M,L⟩:=hrel
  have q:=zc K
  have E:=zc M
  have D:=zc L
  clear K M L Z p1 p2 Y p4 p5 pf
  obtain⟨Z,p1,p2,Y,p4,p5,pf⟩:=zv q.out.2.2.1
  by_cases V:j<c.m.rq.length
  ·have I:(j:Int)<(c.m.rq.length:Int):=by omega
   obtain⟨x,o⟩:=zfK V
   have A:=List.mem_of_getElem? o
   have HZ:Hid ((acc rqT (c.m.rq.take j) sNone++rqT x).size≤140737488355328):=by show _≤_;rw[←zbY rqT o];exact Nat.le_trans (zdr rqT c.m.rq (j+1) sNone) (Nat.le_trans (zp3 c.m) HL.out)
   have HX:=zc o
   obtain⟨J,H⟩: ∃J,J=j+1:=⟨_,rfl⟩
   have ej:(j:Int)+1=(J:Int):=by omega
   have HJ:=zc H
   clear H
   obtain⟨g,hg,k0⟩: ∃g,c.S.rq.a=some ⟨g,0,none⟩∧wr.cell? ⟨g,j,none⟩=some (.string x):=by
    obtain⟨g,hg,hc⟩:=OwnR.elem (f:=fun x=>[Value.string x]) (m:=1) (fun _=>rfl) (show OwnR wr c.base 9 1 c.S.rq c.m.rq.length (c.m.rq.flatMap fun x=>[Value.string x]) by rw[←zp1];exact q.out.2.1.rq) o
    have k0:=hc 0 (by omega)
    simp only[Nat.mul_one,Nat.add_zero,List.getElem?_cons_zero] at k0
    exact⟨g,hg,k0⟩
   have ag:=SM.out.rq x A
   have HG:Hid (Value.slice c.S.rq.a c.m.rq.length c.S.rq.cap=Value.slice (some ⟨g,0,none⟩) c.m.rq.length c.S.rq.cap):=by show _=_;rw[hg]
   clear hg o A Z p1 p2 Y p4 p5 pf
   rw[HG.out]
   obtain⟨Z,p1,p2,Y,p4,p5,pf⟩:=zv q.out.2.2.1
   have ao:=(Array.getElem?_eq_some_iff.1 q.out.2.2.1).1
   go_wp2_with fail
   go_region_with (first|(go_at_call 117;refine (zfI x _ (by omega)).mono ?_;rintro e w' ⟨rfl,rfl⟩)|(go_at_call 57;refine (zca c _ [{data:=#[105,109,112,111,114,116,32]},zat x,{data:=#[59]},{data:=#[10]}] wr q.out (by have:=HZ.out;rw[zjA] at this;simp only[zt,List.foldl_cons,List.foldl_nil,ByteArray.size_append] at this ⊢;omega) (by simp)).mono ?_;rintro e w3 ⟨rfl,ad,aj,ai⟩))
   all_goals
    have al:=zc ad
    have ak:=zc (E.out.trans aj)
    have am:=zc (D.out.trans ai)
    clear ad aj ai Z p1 p2 Y p4 p5 pf ao k0
    go_wp2
    rw[←HG.out]
    go_roundg (gk-1)
    case rel=>exact⟨J,rfl,by have:=HJ.out;omega,by rw[HJ.out,zbY rqT HX.out];exact (by have ad:=al.out;rw[zjA];simp only[zt,List.foldl_cons,List.foldl_nil,←ByteArray.append_assoc] at ad ⊢;exact ad),ak.out,am.out⟩
    case measure=>omega
  ·have I: ¬(j:Int)<(c.m.rq.length:Int):=by omega
   obtain rfl:j=c.m.rq.length:=by omega
   have HN:Hid (PP c (acc zZ (c.m.im.take 0) (acc rqT c.m.rq sNone)) wr):=by have:=q.out;rw[List.take_length] at this;exact this
   go_wp2
   go_loopg [35] c.m.im.length (fun k i wr=>∃j:Nat,i= .int .i64 j∧j+k=c.m.im.length∧PP c (acc zZ (c.m.im.take j) (acc rqT c.m.rq sNone)) wr∧Below c.B w wr∧KeepB c.b w wr)
   case atStart=>exact⟨0,rfl,by omega,HN.out,E.out,D.out⟩
   case round=>
    obtain⟨j,rfl,hj,K,M,L⟩:=hrel
    clear q E D HN
    have q:=zc K
    have E:=zc M
    have D:=zc L
    clear K M L Z p1 p2 Y p4 p5 pf
    obtain⟨Z,p1,p2,Y,p4,p5,pf⟩:=zv q.out.2.2.1
    by_cases V:j<c.m.im.length
    ·have I:(j:Int)<(c.m.im.length:Int):=by omega
     obtain⟨x,o⟩:=zfK V
     have A:=List.mem_of_getElem? o
     have HZ:Hid ((acc zZ (c.m.im.take j) (acc rqT c.m.rq sNone)++zZ x).size≤140737488355328):=by show _≤_;rw[←zbY zZ o];exact Nat.le_trans (zdr zZ c.m.im (j+1) (acc rqT c.m.rq sNone)) (Nat.le_trans (zj9 c.m) HL.out)
     have HX:=zc o
     obtain⟨J,H⟩: ∃J,J=j+1:=⟨_,rfl⟩
     have ej:(j:Int)+1=(J:Int):=by omega
     have HJ:=zc H
     clear H
     obtain⟨g,hg,z⟩:=OwnR.elem (f:=imL) (m:=3) (fun _=>rfl) q.out.2.1.im o
     have k0:=z 0 (by omega)
     have k1:=z 1 (by omega)
     have k2:=z 2 (by omega)
     simp only[imL,Nat.add_zero,List.getElem?_cons_zero,List.getElem?_cons_succ] at k0 k1 k2
     clear z
     have ag:=(SM.out.im x A).1
     have HG:Hid (Value.slice c.S.im.a c.m.im.length c.S.im.cap=Value.slice (some ⟨g,0,none⟩) c.m.im.length c.S.im.cap):=by show _=_;rw[hg]
     clear hg o A Z p1 p2 Y p4 p5 pf
     rw[HG.out]
     go_upto_region 8 with fail
     have X:Hid (Below wr.heap.size wr (wr.alloc (.cells #[.string x.spec,.string x.first,.string x.loc] 100))):=(Below.refl _ _).alloc (Nat.le_refl _) _
     refine zau (R:=fun W=>W.heap[wr.heap.size]? =some (.cells #[.string x.spec,.string x.first,.string x.loc] 100 (0,0))∧PP c (acc zZ (c.m.im.take j) (acc rqT c.m.rq sNone)) W∧Below c.B w W∧KeepB c.b w W) ⟨heap_alloc_new wr _,q.out.later X.out,E.out.trans (X.out.mono q.out.1.2),D.out.trans (KeepB.of_below X.out)⟩ ?_
     obtain⟨gx,Q⟩: ∃gx,gx=wr.heap.size:=⟨_,rfl⟩
     rw[←Q]
     clear k0 k1 k2 X
     rintro W ⟨xb,K,M,L⟩
     clear Q q E D
     have XB:=zc xb
     have q:=zc K
     have E:=zc M
     have D:=zc L
     clear xb K M L
     obtain⟨x0,x1,x2,xf⟩:=zb2 XB.out
     go_wp2_with fail
     refine (zpt c _ x W q.out HZ.out (by omega)).mono ?_
     rintro e W2 ⟨rfl,U,N,O⟩
     have ac:=zc U
     have aa:=zc (E.out.trans N)
     have ab:=zc (D.out.trans O)
     clear U N O x0 x1 x2 xf
     go_wp2
     rw[←HG.out]
     go_roundg (gk-1)
     case rel=>exact⟨J,rfl,by have:=HJ.out;omega,by rw[HJ.out,zbY zZ HX.out];exact ac.out,aa.out,ab.out⟩
     case measure=>omega
    ·have I: ¬(j:Int)<(c.m.im.length:Int):=by omega
     obtain rfl:j=c.m.im.length:=by omega
     have HN:Hid (PP c (acc epF (c.m.ep.take 0) (acc zZ c.m.im (acc rqT c.m.rq sNone))) wr):=by have:=q.out;rw[List.take_length] at this;exact this
     go_wp2
     go_loopg [49] c.m.ep.length (fun k i wr=>∃j:Nat,i= .int .i64 j∧j+k=c.m.ep.length∧PP c (acc epF (c.m.ep.take j) (acc zZ c.m.im (acc rqT c.m.rq sNone))) wr∧Below c.B w wr∧KeepB c.b w wr)
     case atStart=>exact⟨0,rfl,by omega,HN.out,E.out,D.out⟩
     case round=>
      obtain⟨j,rfl,hj,K,M,L⟩:=hrel
      clear q E D HN
      have q:=zc K
      have E:=zc M
      have D:=zc L
      clear K M L Z p1 p2 Y p4 p5 pf
      obtain⟨Z,p1,p2,Y,p4,p5,pf⟩:=zv q.out.2.2.1
      by_cases V:j<c.m.ep.length
      ·have I:(j:Int)<(c.m.ep.length:Int):=by omega
       obtain⟨x,o⟩:=zfK V
       have A:=List.mem_of_getElem? o
       have HZ:Hid ((acc epF (c.m.ep.take j) (acc zZ c.m.im (acc rqT c.m.rq sNone))++epF x).size≤140737488355328):=by show _≤_;rw[←zbY epF o];exact Nat.le_trans (zdr epF c.m.ep (j+1) (acc zZ c.m.im (acc rqT c.m.rq sNone))) (Nat.le_trans (zj8 c.m) HL.out)
       have HX:=zc o
       obtain⟨J,H⟩: ∃J,J=j+1:=⟨_,rfl⟩
       have ej:(j:Int)+1=(J:Int):=by omega
       have HJ:=zc H
       clear H
       obtain⟨g,hg,z⟩:=OwnR.elem (f:=epL) (m:=4) (fun _=>rfl) q.out.2.1.ep o
       have k0:=z 0 (by omega)
       have k1:=z 1 (by omega)
       have k2:=z 2 (by omega)
       have k3:=z 3 (by omega)
       simp only[epL,Nat.add_zero,List.getElem?_cons_zero,List.getElem?_cons_succ] at k0 k1 k2 k3
       clear z
       have ag:=(SM.out.ep x A).1
       have HG:Hid (Value.slice c.S.ep.a c.m.ep.length c.S.ep.cap=Value.slice (some ⟨g,0,none⟩) c.m.ep.length c.S.ep.cap):=by show _=_;rw[hg]
       clear hg o A Z p1 p2 Y p4 p5 pf
       rw[HG.out]
       go_upto_region 13 with fail
       have X:Hid (Below wr.heap.size wr (wr.alloc (.cells #[.int .i64 x.kind,.string x.name,.string x.loc,.string x.spec] 102))):=(Below.refl _ _).alloc (Nat.le_refl _) _
       refine zau (R:=fun W=>W.heap[wr.heap.size]? =some (.cells #[.int .i64 x.kind,.string x.name,.string x.loc,.string x.spec] 102 (0,0))∧PP c (acc epF (c.m.ep.take j) (acc zZ c.m.im (acc rqT c.m.rq sNone))) W∧Below c.B w W∧KeepB c.b w W) ⟨heap_alloc_new wr _,q.out.later X.out,E.out.trans (X.out.mono q.out.1.2),D.out.trans (KeepB.of_below X.out)⟩ ?_
       obtain⟨gx,Q⟩: ∃gx,gx=wr.heap.size:=⟨_,rfl⟩
       rw[←Q]
       clear k0 k1 k2 k3 X
       rintro W ⟨xb,K,M,L⟩
       clear Q q E D
       have XB:=zc xb
       have q:=zc K
       have E:=zc M
       have D:=zc L
       clear xb K M L
       obtain⟨x0,x1,x2,x3,xf⟩:=zdn XB.out
       cases e1:(x.loc.toList==[42,100,101,102,97,117,108,116]) with
       |false=>
        go_wp2_with fail
        refine (zpy c _ x W q.out (by have:=HZ.out;rw[zjB e1] at this;exact this) (by omega)).mono ?_
        rintro e W2 ⟨rfl,U,N,O⟩
        have ac:=zc U
        have aa:=zc (E.out.trans N)
        have ab:=zc (D.out.trans O)
        clear U N O x0 x1 x2 x3 xf
        go_wp2
        rw[←HG.out]
        go_roundg (gk-1)
        case rel=>exact⟨J,rfl,by have:=HJ.out;omega,by rw[HJ.out,zbY epF HX.out];exact (by rw[zjB e1];exact ac.out),aa.out,ab.out⟩
        case measure=>omega
       |true=>
        go_wp2
        rw[←HG.out]
        go_roundg (gk-1)
        case rel=>exact⟨J,rfl,by have:=HJ.out;omega,by rw[HJ.out,zbY epF HX.out];exact (by rw[zp4 e1,zp2];exact q.out),E.out,D.out⟩
        case measure=>omega
      ·have I: ¬(j:Int)<(c.m.ep.length:Int):=by omega
       obtain rfl:j=c.m.ep.length:=by omega
       have HN:Hid (PP c (acc (zcn c.m.ex) (c.m.st.take 0) (zbI c.m)) wr):=by have:=q.out;rw[List.take_length] at this;exact this
       go_wp2
       go_loopg [66] c.m.st.length (fun k i wr=>∃j:Nat,i= .int .i64 j∧j+k=c.m.st.length∧PP c (acc (zcn c.m.ex) (c.m.st.take j) (zbI c.m)) wr∧Below c.B w wr∧KeepB c.b w wr)
       case atStart=>exact⟨0,rfl,by omega,HN.out,E.out,D.out⟩
       case round=>
        obtain⟨j,rfl,hj,K,M,L⟩:=hrel
        clear q E D HN
        have q:=zc K
        have E:=zc M
        have D:=zc L
        clear K M L Z p1 p2 Y p4 p5 pf
        obtain⟨Z,p1,p2,Y,p4,p5,pf⟩:=zv q.out.2.2.1
        by_cases V:j<c.m.st.length
        ·have I:(j:Int)<(c.m.st.length:Int):=by omega
         obtain⟨x,o⟩:=zfK V
         have A:=List.mem_of_getElem? o
         have HZ:Hid ((acc (zcn c.m.ex) (c.m.st.take j) (zbI c.m)++(zcn c.m.ex) x).size≤140737488355328):=by show _≤_;rw[←zbY (zcn c.m.ex) o];exact Nat.le_trans (zdr (zcn c.m.ex) c.m.st (j+1) (zbI c.m)) HL.out
         have HX:=zc o
         obtain⟨J,H⟩: ∃J,J=j+1:=⟨_,rfl⟩
         have ej:(j:Int)+1=(J:Int):=by omega
         have HJ:=zc H
         clear H
         obtain⟨ei,af⟩: ∃n:Nat,x.expr=(n:Int):=⟨x.expr.toNat,by have:=HS.out x A;omega⟩
         have an:ei<c.m.ex.length:=by have:=HS.out x A;omega
         obtain⟨g,hg,z⟩:=OwnR.elem (f:=smL) (m:=3) (fun _=>rfl) q.out.2.1.st o
         have k0:=z 0 (by omega)
         have k1:=z 1 (by omega)
         have k2:=z 2 (by omega)
         simp only[smL,Nat.add_zero,List.getElem?_cons_zero,List.getElem?_cons_succ,af] at k0 k1 k2
         clear z
         have HG:Hid (Value.slice c.S.st.a c.m.st.length c.S.st.cap=Value.slice (some ⟨g,0,none⟩) c.m.st.length c.S.st.cap):=by show _=_;rw[hg]
         clear hg o A Z p1 p2 Y p4 p5 pf
         rw[HG.out]
         go_upto_region 19 with fail
         have X:Hid (Below wr.heap.size wr (wr.alloc (.cells #[.int .i64 x.kind,.string x.name,.int .i64 (ei:Int)] 106))):=(Below.refl _ _).alloc (Nat.le_refl _) _
         refine zau (R:=fun W=>W.heap[wr.heap.size]? =some (.cells #[.int .i64 x.kind,.string x.name,.int .i64 (ei:Int)] 106 (0,0))∧PP c (acc (zcn c.m.ex) (c.m.st.take j) (zbI c.m)) W∧Below c.B w W∧KeepB c.b w W) ⟨heap_alloc_new wr _,q.out.later X.out,E.out.trans (X.out.mono q.out.1.2),D.out.trans (KeepB.of_below X.out)⟩ ?_
         obtain⟨gx,Q⟩: ∃gx,gx=wr.heap.size:=⟨_,rfl⟩
         rw[←Q]
         clear k0 k1 k2 X
         rintro W ⟨xb,K,M,L⟩
         clear Q q E D
         have XB:=zc xb
         have q:=zc K
         have E:=zc M
         have D:=zc L
         clear xb K M L
         obtain⟨x0,x1,x2,xf⟩:=zb2 XB.out
         go_wp2_with fail
         refine (zp0 c _ x.kind x.name ei W (OK.out ei an) q.out (by have:=HZ.out;rw[zcn,af,Int.toNat_natCast] at this;exact this)).mono ?_
         rintro e W2 ⟨rfl,U,N,O⟩
         have ac:=zc U
         have aa:=zc (E.out.trans N)
         have ab:=zc (D.out.trans O)
         clear U N O x0 x1 x2 xf
         go_wp2
         rw[←HG.out]
         go_roundg (gk-1)
         case rel=>exact⟨J,rfl,by have:=HJ.out;omega,by rw[HJ.out,zbY (zcn c.m.ex) HX.out];exact (by rw[zcn,af,Int.toNat_natCast];exact ac.out),aa.out,ab.out⟩
         case measure=>omega
        ·have I: ¬(j:Int)<(c.m.st.length:Int):=by omega
         obtain rfl:j=c.m.st.length:=by omega
         have HN:Hid (PP c (zb1 c.m) wr):=by have:=q.out;rw[List.take_length] at this;exact this
         go_wp2
         go_end0
         exact⟨rfl,HN.out,E.out,D.out⟩
theorem zjC (c:PC) (t:ByteArray) (k M:Int) (z j O:ByteArray) (l r:Nat) (w:World) (U:zcd c l) (V:zcd c r) (hr:r<c.m.ex.length) (h:PP c t w) (n:(t++(prX c.m.ex l++O++zE (zO (c.m.ex.getD r zg).kind) (prX c.m.ex r))).size≤140737488355328):
  Calls Tryz.prog 188 #[.pointer (some ⟨c.gp,0,none⟩),.agg #[.int .i64 k,.int .i64 M,.string z,.string j,.int .i64 (l:Int),.int .i64 (r:Int)],.string O] w (PO c (t++(prX c.m.ex l++O++zE (zO (c.m.ex.getD r zg).kind) (prX c.m.ex r))) w):=by
 have HP:=zc h
 obtain⟨X,K⟩: ∃X,(c.m.ex.getD r zg).kind=X:=⟨_,rfl⟩
 rw[K] at n ⊢
 have KK:=zc K
 have HL:Hid (t.size+((prX c.m.ex l).size+O.size+(zE (zO X) (prX c.m.ex r)).size)≤140737488355328):=by show _≤_;simp only[ByteArray.size_append] at n;exact n
 obtain⟨T,hT⟩: ∃T,T=prX c.m.ex l++O++zE (zO X) (prX c.m.ex r):=⟨_,rfl⟩
 rw[←hT]
 have HT:=zc hT
 have ah:=zc U
 have af:=zc V
 have HR:=zc hr
 clear h n U V hr K hT
 go_enter Tryz.func188,Tryz.ntmps188
 go_upto_region 1 with fail
 have HW:Hid (Below w.heap.size w (w.alloc (.cells #[.int .i64 k,.int .i64 M,.string z,.string j,.int .i64 (l:Int),.int .i64 (r:Int)] 108))):=(Below.refl _ _).alloc (Nat.le_refl _) _
 refine zau (R:=fun W=>W.heap[w.heap.size]? =some (.cells #[.int .i64 k,.int .i64 M,.string z,.string j,.int .i64 (l:Int),.int .i64 (r:Int)] 108 (0,0))∧PP c t W∧Below c.B w W∧KeepB c.b w W) ⟨heap_alloc_new w _,HP.out.later HW.out,HW.out.mono HP.out.1.2,KeepB.of_below HW.out⟩ ?_
 obtain⟨gx,N⟩: ∃gx,gx=w.heap.size:=⟨_,rfl⟩
 have Z:gx≠c.b:=by
  rw[N]
  obtain⟨ai,hc⟩:=zbK HP.out.1.1
  have:=(Array.getElem?_eq_some_iff.1 hc).1
  omega
 rw[←N]
 rintro w1 ⟨hx,A,D,o⟩
 clear N HW
 have X1:=zc hx
 have J:=zc A
 have ag:=zc D
 have ae:=zc o
 clear hx A D o
 obtain⟨x0,x1,x2,x3,x4,x5,xf⟩:=zv X1.out
 obtain⟨p0,p1,p2,p3,p4,p5,pf⟩:=zv J.out.2.2.1
 have E:=(Array.getElem?_eq_some_iff.1 J.out.2.2.1).1
 have H:=(Array.getElem?_eq_some_iff.1 X1.out).1
 go_wp2_with fail
 refine (zfJ c t l false w1 ah.out J.out (by have:=HL.out;simp only[zE,Bool.false_eq_true,↓reduceIte,ByteArray.size_append] at this ⊢;omega)).mono ?_
 rintro e w2 ⟨rfl,A,D,o⟩
 have L:=zc A
 have ac:=zc (ag.out.trans D)
 have aa:=zc (ae.out.trans o)
 have X2:=zc ((o _ _ _ _ X1.out Z (by decide)).trans X1.out)
 clear A D o p0 p1 p2 p3 p4 p5 pf x0 x1 x2 x3 x4 x5 xf E H
 obtain⟨x0,x1,x2,x3,x4,x5,xf⟩:=zv X2.out
 obtain⟨p0,p1,p2,p3,p4,p5,pf⟩:=zv L.out.2.2.1
 have E:=(Array.getElem?_eq_some_iff.1 L.out.2.2.1).1
 have H:=(Array.getElem?_eq_some_iff.1 X2.out).1
 go_wp2_with fail
 refine (zb3 c _ [O] w2 L.out (by have:=HL.out;simp only[zt,zE,Bool.false_eq_true,↓reduceIte,List.foldl_cons,List.foldl_nil,ByteArray.size_append] at this ⊢;omega) (by simp)).mono ?_
 rintro e Q ⟨rfl,A,D,o⟩
 have I:=zc A
 have ab:=zc (ac.out.trans D)
 have ad:=zc (aa.out.trans o)
 have X3:=zc ((o _ _ _ _ X2.out Z (by decide)).trans X2.out)
 clear A D o p0 p1 p2 p3 p4 p5 pf x0 x1 x2 x3 x4 x5 xf E H
 obtain⟨x0,x1,x2,x3,x4,x5,xf⟩:=zv X3.out
 obtain⟨p0,p1,p2,p3,p4,p5,pf⟩:=zv I.out.2.2.1
 have E:=(Array.getElem?_eq_some_iff.1 I.out.2.2.1).1
 have H:=(Array.getElem?_eq_some_iff.1 X3.out).1
 go_wp2_with fail
 have Y:=zc (I.out.later ((Below.refl Q.heap.size Q).drew))
 go_region_with (first|(go_at_call 190;refine (zhd c _ r _ Y.out HR.out).mono ?_;rintro e w' ⟨rfl,rfl⟩;rw[KK.out])|(go_at_call 158;refine (zfc _ _).mono ?_;rintro e w' ⟨rfl,rfl⟩)|(go_at_call 189;refine (zfJ c _ r (zO X) _ af.out Y.out (by have:=HL.out;simp only[zt,show ∀q,zE false q=q from fun _=>rfl,List.foldl_cons,List.foldl_nil,ByteArray.size_append] at this ⊢;omega)).mono ?_;rintro e w4 ⟨rfl,A,D,o⟩))
 all_goals (go_wp2;go_end0;exact⟨rfl,(by rw[HT.out];simp only[zt,show ∀q,zE false q=q from fun _=>rfl,List.foldl_cons,List.foldl_nil,←ByteArray.append_assoc] at A ⊢;exact A),ab.out.trans ((((Below.refl Q.heap.size Q).drew).mono I.out.1.2).trans D),ad.out.trans ((KeepB.of_below ((Below.refl Q.heap.size Q).drew)).trans o)⟩)
theorem zp6 (c:PC) (t:ByteArray) (i:Nat) (j:Int) (o n:ByteArray) (l r:Int) (w:World) (h:PP c t w) (hi:i<c.m.ex.length) (K:c.m.ex.getD i zg=⟨1,j,o,n,l,r⟩) (hn: -9223372036854775808≤j∧j≤9223372036854775807) (q:(t++(strOfNums (zb9 j))).size≤140737488355328):
  Calls Tryz.prog 162 #[.pointer (some ⟨c.gp,0,none⟩),.int .i64 (i:Int)] w (PO c (t++(strOfNums (zb9 j))) w):=by
 have J:=zc h
 obtain⟨T,hT⟩: ∃T,T=strOfNums (zb9 j):=⟨_,rfl⟩
 rw[←hT] at q ⊢
 have HT:=zc hT
 have HL:=zc q
 clear h q hT
 obtain⟨p0,p1,p2,p3,p4,p5,pf⟩:=zv J.out.2.2.1
 obtain⟨g,hg,H,x0,U,N,V,Y,L⟩:=J.out.2.1.expr hi
 rw[K] at x0 U N V Y L
 dsimp only at x0 U N V Y L
 rw[hg] at p4
 have aa:(i:Int)<(c.m.ex.length:Int):=by omega
 clear hg K
 go_enter Tryz.func162,Tryz.ntmps162
 go_upto_region 1 with fail
 have M:Hid (Below w.heap.size w (w.alloc (.cells #[.int .i64 1,.int .i64 j,.string o,.string n,.int .i64 l,.int .i64 r] 108))):=(Below.refl _ _).alloc (Nat.le_refl _) _
 refine zau (R:=fun W=>W.heap[w.heap.size]? =some (.cells #[.int .i64 1,.int .i64 j,.string o,.string n,.int .i64 l,.int .i64 r] 108 (0,0))∧PP c t W∧Below c.B w W∧KeepB c.b w W) ⟨heap_alloc_new w _,J.out.later M.out,M.out.mono J.out.1.2,KeepB.of_below M.out⟩ ?_
 obtain⟨gx,E⟩: ∃gx,gx=w.heap.size:=⟨_,rfl⟩
 have aj:gx≠c.b:=by
  rw[E]
  obtain⟨ah,hc⟩:=zbK J.out.1.1
  have:=(Array.getElem?_eq_some_iff.1 hc).1
  omega
 rw[←E]
 rintro w1 ⟨K,Z,Q,O⟩
 clear E M H x0 U N V Y L p0 p1 p2 p3 p4 p5 pf aa
 have X:=zc K
 have z:=zc Z
 have ad:=zc Q
 have ae:=zc O
 clear K Z Q O
 obtain⟨x0,U,N,V,Y,L,xf⟩:=zv X.out
 obtain⟨p0,p1,p2,p3,p4,p5,pf⟩:=zv z.out.2.2.1
 have H:=(Array.getElem?_eq_some_iff.1 z.out.2.2.1).1
 have ai:=(Array.getElem?_eq_some_iff.1 X.out).1
 have HN:=zc hn
 go_wp2_with fail
 go_region_with (first|(go_at_call 187;refine (zkS j _ HN.out).mono ?_;rintro e w2 ⟨rfl,I⟩;have A:=zc (((Below.refl w1.heap.size w1).drew).trans I);have D:=zc (z.out.later A.out);have X2:=zc ((A.out.block _ (Array.getElem?_eq_some_iff.1 X.out).1).trans X.out);clear I;obtain⟨y0,y1,y2,y3,y4,y5,yf⟩:=zv X2.out;obtain⟨q0,q1,q2,q3,q4,q5,qf⟩:=zv D.out.2.2.1;have af:=(Array.getElem?_eq_some_iff.1 D.out.2.2.1).1;have ag:=(Array.getElem?_eq_some_iff.1 X2.out).1)|(go_at_call 57;refine (zb3 c t [strOfNums (zb9 j)] _ D.out (by have:=HL.out;rw[HT.out] at this;simp only[zt,List.foldl_cons,List.foldl_nil,ByteArray.size_append] at this ⊢;omega) (by simp)).mono ?_;rintro e w3 ⟨rfl,Z,ac,ab⟩))
 all_goals (have Q:=(A.out.mono z.out.1.2).trans ac;have O:=(KeepB.of_below (b:=c.b) A.out).trans ab;go_wp2;go_end0;exact⟨rfl,(by rw[HT.out];exact Z),ad.out.trans Q,ae.out.trans O⟩)
theorem zp7 (c:PC) (t:ByteArray) (i:Nat) (z:Int) (j n:ByteArray) (l r:Int) (w:World) (h:PP c t w) (hi:i<c.m.ex.length) (H:c.m.ex.getD i zg=⟨2,z,j,n,l,r⟩) (o:(t++(j)).size≤140737488355328):
  Calls Tryz.prog 162 #[.pointer (some ⟨c.gp,0,none⟩),.int .i64 (i:Int)] w (PO c (t++(j)) w):=by
 have E:=zc h
 obtain⟨T,hT⟩: ∃T,T=j:=⟨_,rfl⟩
 rw[←hT] at o ⊢
 have HT:=zc hT
 have HL:=zc o
 clear h o hT
 obtain⟨p0,p1,p2,p3,X,p5,pf⟩:=zv E.out.2.2.1
 obtain⟨g,hg,D,V,N,K,O,Q,I⟩:=E.out.2.1.expr hi
 rw[H] at V N K O Q I
 dsimp only at V N K O Q I
 rw[hg] at X
 have Y:(i:Int)<(c.m.ex.length:Int):=by omega
 clear hg H
 go_enter Tryz.func162,Tryz.ntmps162
 go_upto_region 1 with fail
 have J:Hid (Below w.heap.size w (w.alloc (.cells #[.int .i64 2,.int .i64 z,.string j,.string n,.int .i64 l,.int .i64 r] 108))):=(Below.refl _ _).alloc (Nat.le_refl _) _
 refine zau (R:=fun W=>W.heap[w.heap.size]? =some (.cells #[.int .i64 2,.int .i64 z,.string j,.string n,.int .i64 l,.int .i64 r] 108 (0,0))∧PP c t W∧Below c.B w W∧KeepB c.b w W) ⟨heap_alloc_new w _,E.out.later J.out,J.out.mono E.out.1.2,KeepB.of_below J.out⟩ ?_
 obtain⟨Z,A⟩: ∃Z,Z=w.heap.size:=⟨_,rfl⟩
 have ae:Z≠c.b:=by
  rw[A]
  obtain⟨ac,hc⟩:=zbK E.out.1.1
  have:=(Array.getElem?_eq_some_iff.1 hc).1
  omega
 rw[←A]
 rintro w1 ⟨H,U,M,L⟩
 clear A J D V N K O Q I p0 p1 p2 p3 X p5 pf Y
 have X1:=zc H
 have q:=zc U
 have aa:=zc M
 have ab:=zc L
 clear H U M L
 obtain⟨V,N,K,O,Q,I,xf⟩:=zv X1.out
 obtain⟨p0,p1,p2,p3,X,p5,pf⟩:=zv q.out.2.2.1
 have D:=(Array.getElem?_eq_some_iff.1 q.out.2.2.1).1
 have ad:=(Array.getElem?_eq_some_iff.1 X1.out).1
 go_wp2_with fail
 go_region_with (go_at_call 57;refine (zca c t [j] w1 q.out (by have:=HL.out;rw[HT.out] at this;simp only[zt,List.foldl_cons,List.foldl_nil,ByteArray.size_append] at this ⊢;omega) (by simp)).mono ?_;rintro e w2 ⟨rfl,U,M,L⟩)
 all_goals (go_wp2;go_end0;exact⟨rfl,(by rw[HT.out];exact U),aa.out.trans M,ab.out.trans L⟩)
theorem zp8 (c:PC) (t:ByteArray) (i:Nat) (z:Int) (j n:ByteArray) (l r:Int) (w:World) (h:PP c t w) (hi:i<c.m.ex.length) (H:c.m.ex.getD i zg=⟨3,z,j,n,l,r⟩) (o:(t++(j++cParens)).size≤140737488355328):
  Calls Tryz.prog 162 #[.pointer (some ⟨c.gp,0,none⟩),.int .i64 (i:Int)] w (PO c (t++(j++cParens)) w):=by
 have E:=zc h
 obtain⟨T,hT⟩: ∃T,T=j++cParens:=⟨_,rfl⟩
 rw[←hT] at o ⊢
 have HT:=zc hT
 have HL:=zc o
 clear h o hT
 obtain⟨p0,p1,p2,p3,X,p5,pf⟩:=zv E.out.2.2.1
 obtain⟨g,hg,D,V,O,L,Q,U,J⟩:=E.out.2.1.expr hi
 rw[H] at V O L Q U J
 dsimp only at V O L Q U J
 rw[hg] at X
 have Y:(i:Int)<(c.m.ex.length:Int):=by omega
 clear hg H
 go_enter Tryz.func162,Tryz.ntmps162
 go_upto_region 1 with fail
 have K:Hid (Below w.heap.size w (w.alloc (.cells #[.int .i64 3,.int .i64 z,.string j,.string n,.int .i64 l,.int .i64 r] 108))):=(Below.refl _ _).alloc (Nat.le_refl _) _
 refine zau (R:=fun W=>W.heap[w.heap.size]? =some (.cells #[.int .i64 3,.int .i64 z,.string j,.string n,.int .i64 l,.int .i64 r] 108 (0,0))∧PP c t W∧Below c.B w W∧KeepB c.b w W) ⟨heap_alloc_new w _,E.out.later K.out,K.out.mono E.out.1.2,KeepB.of_below K.out⟩ ?_
 obtain⟨Z,A⟩: ∃Z,Z=w.heap.size:=⟨_,rfl⟩
 have ae:Z≠c.b:=by
  rw[A]
  obtain⟨ac,hc⟩:=zbK E.out.1.1
  have:=(Array.getElem?_eq_some_iff.1 hc).1
  omega
 rw[←A]
 rintro w1 ⟨H,I,N,M⟩
 clear A K D V O L Q U J p0 p1 p2 p3 X p5 pf Y
 have X1:=zc H
 have q:=zc I
 have aa:=zc N
 have ab:=zc M
 clear H I N M
 obtain⟨V,O,L,Q,U,J,xf⟩:=zv X1.out
 obtain⟨p0,p1,p2,p3,X,p5,pf⟩:=zv q.out.2.2.1
 have D:=(Array.getElem?_eq_some_iff.1 q.out.2.2.1).1
 have ad:=(Array.getElem?_eq_some_iff.1 X1.out).1
 go_wp2_with fail
 go_region_with (go_at_call 57;refine (zca c t [j,cParens] w1 q.out (by have:=HL.out;rw[HT.out] at this;simp only[zt,List.foldl_cons,List.foldl_nil,ByteArray.size_append] at this ⊢;omega) (by simp)).mono ?_;rintro e w2 ⟨rfl,I,N,M⟩)
 all_goals (go_wp2;go_end0;exact⟨rfl,(by rw[HT.out];simp only[zt,List.foldl_cons,List.foldl_nil,←ByteArray.append_assoc] at I ⊢;exact I),aa.out.trans N,ab.out.trans M⟩)
theorem zp9 (c:PC) (t:ByteArray) (i:Nat) (z:Int) (n j:ByteArray) (l r:Int) (w:World) (h:PP c t w) (hi:i<c.m.ex.length) (H:c.m.ex.getD i zg=⟨4,z,n,j,l,r⟩) (o:(t++(n++cPoint++j)).size≤140737488355328):
  Calls Tryz.prog 162 #[.pointer (some ⟨c.gp,0,none⟩),.int .i64 (i:Int)] w (PO c (t++(n++cPoint++j)) w):=by
 have E:=zc h
 obtain⟨T,hT⟩: ∃T,T=n++cPoint++j:=⟨_,rfl⟩
 rw[←hT] at o ⊢
 have HT:=zc hT
 have HL:=zc o
 clear h o hT
 obtain⟨p0,p1,p2,p3,X,p5,pf⟩:=zv E.out.2.2.1
 obtain⟨g,hg,D,V,O,L,Q,U,J⟩:=E.out.2.1.expr hi
 rw[H] at V O L Q U J
 dsimp only at V O L Q U J
 rw[hg] at X
 have Y:(i:Int)<(c.m.ex.length:Int):=by omega
 clear hg H
 go_enter Tryz.func162,Tryz.ntmps162
 go_upto_region 1 with fail
 have K:Hid (Below w.heap.size w (w.alloc (.cells #[.int .i64 4,.int .i64 z,.string n,.string j,.int .i64 l,.int .i64 r] 108))):=(Below.refl _ _).alloc (Nat.le_refl _) _
 refine zau (R:=fun W=>W.heap[w.heap.size]? =some (.cells #[.int .i64 4,.int .i64 z,.string n,.string j,.int .i64 l,.int .i64 r] 108 (0,0))∧PP c t W∧Below c.B w W∧KeepB c.b w W) ⟨heap_alloc_new w _,E.out.later K.out,K.out.mono E.out.1.2,KeepB.of_below K.out⟩ ?_
 obtain⟨Z,A⟩: ∃Z,Z=w.heap.size:=⟨_,rfl⟩
 have ae:Z≠c.b:=by
  rw[A]
  obtain⟨ac,hc⟩:=zbK E.out.1.1
  have:=(Array.getElem?_eq_some_iff.1 hc).1
  omega
 rw[←A]
 rintro w1 ⟨H,I,N,M⟩
 clear A K D V O L Q U J p0 p1 p2 p3 X p5 pf Y
 have X1:=zc H
 have q:=zc I
 have aa:=zc N
 have ab:=zc M
 clear H I N M
 obtain⟨V,O,L,Q,U,J,xf⟩:=zv X1.out
 obtain⟨p0,p1,p2,p3,X,p5,pf⟩:=zv q.out.2.2.1
 have D:=(Array.getElem?_eq_some_iff.1 q.out.2.2.1).1
 have ad:=(Array.getElem?_eq_some_iff.1 X1.out).1
 go_wp2_with fail
 go_region_with (go_at_call 57;refine (zca c t [n,cPoint,j] w1 q.out (by have:=HL.out;rw[HT.out] at this;simp only[zt,List.foldl_cons,List.foldl_nil,ByteArray.size_append] at this ⊢;omega) (by simp)).mono ?_;rintro e w2 ⟨rfl,I,N,M⟩)
 all_goals (go_wp2;go_end0;exact⟨rfl,(by rw[HT.out];simp only[zt,List.foldl_cons,List.foldl_nil,←ByteArray.append_assoc] at I ⊢;exact I),aa.out.trans N,ab.out.trans M⟩)
theorem zpA (c:PC) (t:ByteArray) (i:Nat) (z:Int) (n j:ByteArray) (l r:Int) (w:World) (h:PP c t w) (hi:i<c.m.ex.length) (H:c.m.ex.getD i zg=⟨5,z,n,j,l,r⟩) (o:(t++(n++cPoint++j++cParens)).size≤140737488355328):
  Calls Tryz.prog 162 #[.pointer (some ⟨c.gp,0,none⟩),.int .i64 (i:Int)] w (PO c (t++(n++cPoint++j++cParens)) w):=by
 have E:=zc h
 obtain⟨T,hT⟩: ∃T,T=n++cPoint++j++cParens:=⟨_,rfl⟩
 rw[←hT] at o ⊢
 have HT:=zc hT
 have HL:=zc o
 clear h o hT
 obtain⟨p0,p1,p2,p3,X,p5,pf⟩:=zv E.out.2.2.1
 obtain⟨g,hg,D,V,O,L,Q,U,J⟩:=E.out.2.1.expr hi
 rw[H] at V O L Q U J
 dsimp only at V O L Q U J
 rw[hg] at X
 have Y:(i:Int)<(c.m.ex.length:Int):=by omega
 clear hg H
 go_enter Tryz.func162,Tryz.ntmps162
 go_upto_region 1 with fail
 have K:Hid (Below w.heap.size w (w.alloc (.cells #[.int .i64 5,.int .i64 z,.string n,.string j,.int .i64 l,.int .i64 r] 108))):=(Below.refl _ _).alloc (Nat.le_refl _) _
 refine zau (R:=fun W=>W.heap[w.heap.size]? =some (.cells #[.int .i64 5,.int .i64 z,.string n,.string j,.int .i64 l,.int .i64 r] 108 (0,0))∧PP c t W∧Below c.B w W∧KeepB c.b w W) ⟨heap_alloc_new w _,E.out.later K.out,K.out.mono E.out.1.2,KeepB.of_below K.out⟩ ?_
 obtain⟨Z,A⟩: ∃Z,Z=w.heap.size:=⟨_,rfl⟩
 have ae:Z≠c.b:=by
  rw[A]
  obtain⟨ac,hc⟩:=zbK E.out.1.1
  have:=(Array.getElem?_eq_some_iff.1 hc).1
  omega
 rw[←A]
 rintro w1 ⟨H,I,N,M⟩
 clear A K D V O L Q U J p0 p1 p2 p3 X p5 pf Y
 have X1:=zc H
 have q:=zc I
 have aa:=zc N
 have ab:=zc M
 clear H I N M
 obtain⟨V,O,L,Q,U,J,xf⟩:=zv X1.out
 obtain⟨p0,p1,p2,p3,X,p5,pf⟩:=zv q.out.2.2.1
 have D:=(Array.getElem?_eq_some_iff.1 q.out.2.2.1).1
 have ad:=(Array.getElem?_eq_some_iff.1 X1.out).1
 go_wp2_with fail
 go_region_with (go_at_call 57;refine (zca c t [n,cPoint,j,cParens] w1 q.out (by have:=HL.out;rw[HT.out] at this;simp only[zt,List.foldl_cons,List.foldl_nil,ByteArray.size_append] at this ⊢;omega) (by simp)).mono ?_;rintro e w2 ⟨rfl,I,N,M⟩)
 all_goals (go_wp2;go_end0;exact⟨rfl,(by rw[HT.out];simp only[zt,List.foldl_cons,List.foldl_nil,←ByteArray.append_assoc] at I ⊢;exact I),aa.out.trans N,ab.out.trans M⟩)
theorem zpB (c:PC) (t:ByteArray) (i:Nat) (q:Int) (n j:ByteArray) (l r:Nat) (w:World) (h:PP c t w) (hi:i<c.m.ex.length) (H:c.m.ex.getD i zg=⟨6,q,n,j,(l:Int),(r:Int)⟩) (aa:zcd c l) (ac:zcd c r) (hr:r<c.m.ex.length) (o:(t++(prX c.m.ex l++tPlus++zE (zO (c.m.ex.getD r zg).kind) (prX c.m.ex r))).size≤140737488355328):
  Calls Tryz.prog 162 #[.pointer (some ⟨c.gp,0,none⟩),.int .i64 (i:Int)] w (PO c (t++(prX c.m.ex l++tPlus++zE (zO (c.m.ex.getD r zg).kind) (prX c.m.ex r))) w):=by
 have E:=zc h
 obtain⟨T,hT⟩: ∃T,T=prX c.m.ex l++tPlus++zE (zO (c.m.ex.getD r zg).kind) (prX c.m.ex r):=⟨_,rfl⟩
 rw[←hT] at o ⊢
 have HT:=zc hT
 have HL:=zc o
 clear h o hT
 obtain⟨p0,p1,p2,p3,X,p5,pf⟩:=zv E.out.2.2.1
 obtain⟨g,hg,D,V,O,L,Q,U,J⟩:=E.out.2.1.expr hi
 rw[H] at V O L Q U J
 dsimp only at V O L Q U J
 rw[hg] at X
 have Y:(i:Int)<(c.m.ex.length:Int):=by omega
 clear hg H
 go_enter Tryz.func162,Tryz.ntmps162
 go_upto_region 1 with fail
 have K:Hid (Below w.heap.size w (w.alloc (.cells #[.int .i64 6,.int .i64 q,.string n,.string j,.int .i64 (l:Int),.int .i64 (r:Int)] 108))):=(Below.refl _ _).alloc (Nat.le_refl _) _
 refine zau (R:=fun W=>W.heap[w.heap.size]? =some (.cells #[.int .i64 6,.int .i64 q,.string n,.string j,.int .i64 (l:Int),.int .i64 (r:Int)] 108 (0,0))∧PP c t W∧Below c.B w W∧KeepB c.b w W) ⟨heap_alloc_new w _,E.out.later K.out,K.out.mono E.out.1.2,KeepB.of_below K.out⟩ ?_
 obtain⟨Z,A⟩: ∃Z,Z=w.heap.size:=⟨_,rfl⟩
 have ah:Z≠c.b:=by
  rw[A]
  obtain⟨af,hc⟩:=zbK E.out.1.1
  have:=(Array.getElem?_eq_some_iff.1 hc).1
  omega
 rw[←A]
 rintro w1 ⟨H,I,N,M⟩
 clear A K D V O L Q U J p0 p1 p2 p3 X p5 pf Y
 have X1:=zc H
 have z:=zc I
 have ad:=zc N
 have ae:=zc M
 clear H I N M
 obtain⟨V,O,L,Q,U,J,xf⟩:=zv X1.out
 obtain⟨p0,p1,p2,p3,X,p5,pf⟩:=zv z.out.2.2.1
 have D:=(Array.getElem?_eq_some_iff.1 z.out.2.2.1).1
 have ag:=(Array.getElem?_eq_some_iff.1 X1.out).1
 go_wp2_with fail
 refine (zjC c t 6 q n j tPlus l r w1 aa ac hr z.out (by rw[←HT.out];exact HL.out)).mono ?_
 rw[←HT.out]
 rintro e w2 ⟨rfl,I,N,M⟩
 have ab:=zc I
 clear I
 go_wp2
 go_end0
 exact⟨rfl,ab.out,ad.out.trans N,ae.out.trans M⟩
theorem zpC (c:PC) (t:ByteArray) (i:Nat) (q:Int) (n j:ByteArray) (l r:Nat) (w:World) (h:PP c t w) (hi:i<c.m.ex.length) (H:c.m.ex.getD i zg=⟨7,q,n,j,(l:Int),(r:Int)⟩) (aa:zcd c l) (ac:zcd c r) (hr:r<c.m.ex.length) (o:(t++(prX c.m.ex l++tMinus++zE (zO (c.m.ex.getD r zg).kind) (prX c.m.ex r))).size≤140737488355328):
  Calls Tryz.prog 162 #[.pointer (some ⟨c.gp,0,none⟩),.int .i64 (i:Int)] w (PO c (t++(prX c.m.ex l++tMinus++zE (zO (c.m.ex.getD r zg).kind) (prX c.m.ex r))) w):=by
 have E:=zc h
 obtain⟨T,hT⟩: ∃T,T=prX c.m.ex l++tMinus++zE (zO (c.m.ex.getD r zg).kind) (prX c.m.ex r):=⟨_,rfl⟩
 rw[←hT] at o ⊢
 have HT:=zc hT
 have HL:=zc o
 clear h o hT
 obtain⟨p0,p1,p2,p3,X,p5,pf⟩:=zv E.out.2.2.1
 obtain⟨g,hg,D,V,O,L,Q,U,J⟩:=E.out.2.1.expr hi
 rw[H] at V O L Q U J
 dsimp only at V O L Q U J
 rw[hg] at X
 have Y:(i:Int)<(c.m.ex.length:Int):=by omega
 clear hg H
 go_enter Tryz.func162,Tryz.ntmps162
 go_upto_region 1 with fail
 have K:Hid (Below w.heap.size w (w.alloc (.cells #[.int .i64 7,.int .i64 q,.string n,.string j,.int .i64 (l:Int),.int .i64 (r:Int)] 108))):=(Below.refl _ _).alloc (Nat.le_refl _) _
 refine zau (R:=fun W=>W.heap[w.heap.size]? =some (.cells #[.int .i64 7,.int .i64 q,.string n,.string j,.int .i64 (l:Int),.int .i64 (r:Int)] 108 (0,0))∧PP c t W∧Below c.B w W∧KeepB c.b w W) ⟨heap_alloc_new w _,E.out.later K.out,K.out.mono E.out.1.2,KeepB.of_below K.out⟩ ?_
 obtain⟨Z,A⟩: ∃Z,Z=w.heap.size:=⟨_,rfl⟩
 have ah:Z≠c.b:=by
  rw[A]
  obtain⟨af,hc⟩:=zbK E.out.1.1
  have:=(Array.getElem?_eq_some_iff.1 hc).1
  omega
 rw[←A]
 rintro w1 ⟨H,I,N,M⟩
 clear A K D V O L Q U J p0 p1 p2 p3 X p5 pf Y
 have X1:=zc H
 have z:=zc I
 have ad:=zc N
 have ae:=zc M
 clear H I N M
 obtain⟨V,O,L,Q,U,J,xf⟩:=zv X1.out
 obtain⟨p0,p1,p2,p3,X,p5,pf⟩:=zv z.out.2.2.1
 have D:=(Array.getElem?_eq_some_iff.1 z.out.2.2.1).1
 have ag:=(Array.getElem?_eq_some_iff.1 X1.out).1
 go_wp2_with fail
 refine (zjC c t 7 q n j tMinus l r w1 aa ac hr z.out (by rw[←HT.out];exact HL.out)).mono ?_
 rw[←HT.out]
 rintro e w2 ⟨rfl,I,N,M⟩
 have ab:=zc I
 clear I
 go_wp2
 go_end0
 exact⟨rfl,ab.out,ad.out.trans N,ae.out.trans M⟩
theorem zpD (c:PC) (t:ByteArray) (i:Nat) (aa:Int) (A j:ByteArray) (l r:Nat) (w:World) (h:PP c t w) (hi:i<c.m.ex.length) (hx:c.m.ex.getD i zg=⟨8,aa,A,j,(l:Int),(r:Int)⟩) (ac:zcd c l) (ad:zcd c r) (hl:l<c.m.ex.length) (hr:r<c.m.ex.length) (D:(t++(zE (zO (c.m.ex.getD l zg).kind) (prX c.m.ex l)++tStar++zE (zW (c.m.ex.getD r zg).kind) (prX c.m.ex r))).size≤140737488355328):
  Calls Tryz.prog 162 #[.pointer (some ⟨c.gp,0,none⟩),.int .i64 (i:Int)] w (PO c (t++(zE (zO (c.m.ex.getD l zg).kind) (prX c.m.ex l)++tStar++zE (zW (c.m.ex.getD r zg).kind) (prX c.m.ex r))) w):=by
 have HP:=zc h
 obtain⟨T,hT⟩: ∃T,T=zE (zO (c.m.ex.getD l zg).kind) (prX c.m.ex l)++tStar++zE (zW (c.m.ex.getD r zg).kind) (prX c.m.ex r):=⟨_,rfl⟩
 rw[←hT] at D ⊢
 have HT:=zc hT
 have HL:=zc D
 clear h D hT
 obtain⟨p0,p1,p2,p3,V,p5,pf⟩:=zv HP.out.2.2.1
 obtain⟨g,hg,o,U,N,M,O,Q,K⟩:=HP.out.2.1.expr hi
 rw[hx] at U N M O Q K
 dsimp only at U N M O Q K
 rw[hg] at V
 have af:(i:Int)<(c.m.ex.length:Int):=by omega
 clear hg hx
 go_enter Tryz.func162,Tryz.ntmps162
 go_upto_region 1 with fail
 have HW:Hid (Below w.heap.size w (w.alloc (.cells #[.int .i64 8,.int .i64 aa,.string A,.string j,.int .i64 (l:Int),.int .i64 (r:Int)] 108))):=(Below.refl _ _).alloc (Nat.le_refl _) _
 refine zau (R:=fun W=>W.heap[w.heap.size]? =some (.cells #[.int .i64 8,.int .i64 aa,.string A,.string j,.int .i64 (l:Int),.int .i64 (r:Int)] 108 (0,0))∧PP c t W∧Below c.B w W∧KeepB c.b w W) ⟨heap_alloc_new w _,HP.out.later HW.out,HW.out.mono HP.out.1.2,KeepB.of_below HW.out⟩ ?_
 obtain⟨gx,ab⟩: ∃gx,gx=w.heap.size:=⟨_,rfl⟩
 have ae:gx≠c.b:=by
  rw[ab]
  obtain⟨ap,hc⟩:=zbK HP.out.1.1
  have:=(Array.getElem?_eq_some_iff.1 hc).1
  omega
 rw[←ab]
 rintro L ⟨hx,q,z,n⟩
 clear ab HW o U N M O Q K p0 p1 p2 p3 V p5 pf af
 have X1:=zc hx
 have H:=zc q
 have an:=zc z
 have ak:=zc n
 clear hx q z n
 obtain⟨U,N,M,O,Q,K,xf⟩:=zv X1.out
 obtain⟨p0,p1,p2,p3,V,p5,pf⟩:=zv H.out.2.2.1
 have o:=(Array.getElem?_eq_some_iff.1 H.out.2.2.1).1
 have I:=(Array.getElem?_eq_some_iff.1 X1.out).1
 have ao:=zc ac
 have am:=zc ad
 have HR:=zc hr
 have al:=zc hl
 obtain⟨kk,X⟩: ∃kk,(c.m.ex.getD r zg).kind=kk:=⟨_,rfl⟩
 obtain⟨kl,Y⟩: ∃kl,(c.m.ex.getD l zg).kind=kl:=⟨_,rfl⟩
 have HU:Hid (T=zE (zO kl) (prX c.m.ex l)++tStar++zE (zW kk) (prX c.m.ex r)):=by show _=_;rw[←X,←Y];exact HT.out
 have KK:=zc X
 have KL:=zc Y
 clear ac ad hr hl X Y HT
 go_upto_region 17 with fail
 go_cut [] from 82 to 90 (fun wx=>PP c (t++zE (zO kl) (prX c.m.ex l)) wx∧Below c.B L wx∧KeepB c.b L wx)
 case first=>
  go_wp2_with fail
  have E:=zc (H.out.later ((Below.refl L.heap.size L).drew))
  go_region_with (first|(go_at_call 190;refine (zhd c _ l _ E.out al.out).mono ?_;rintro e w' ⟨rfl,rfl⟩;rw[KL.out])|(go_at_call 158;refine (zfc _ _).mono ?_;rintro e w' ⟨rfl,rfl⟩)|(go_at_call 189;refine (zfJ c _ l (zO kl) _ ao.out E.out (by have:=HL.out;rw[HU.out] at this;simp only[ByteArray.size_append] at this ⊢;omega)).mono ?_;rintro e w2 ⟨rfl,q,z,n⟩))
  all_goals (go_wp2_with fail;go_meet;exact⟨q,(((Below.refl L.heap.size L).drew).mono H.out.1.2).trans z,(KeepB.of_below ((Below.refl L.heap.size L).drew)).trans n⟩)
 case rest=>
 obtain⟨q,z,n⟩:=hcut
 rename_i w2
 have Z:=zc q
 have ai:=zc (an.out.trans z)
 have ag:=zc (ak.out.trans n)
 have X2:=zc ((n _ _ _ _ X1.out ae (by decide)).trans X1.out)
 clear q z n p0 p1 p2 p3 V p5 pf U N M O Q K xf o I
 obtain⟨U,N,M,O,Q,K,xf⟩:=zv X2.out
 obtain⟨p0,p1,p2,p3,V,p5,pf⟩:=zv Z.out.2.2.1
 have o:=(Array.getElem?_eq_some_iff.1 Z.out.2.2.1).1
 have I:=(Array.getElem?_eq_some_iff.1 X2.out).1
 go_wp2_with fail
 refine (zb3 c _ [tStar] _ Z.out (by have:=HL.out;rw[HU.out] at this;simp only[zt,List.foldl_cons,List.foldl_nil,ByteArray.size_append] at this ⊢;omega) (by simp)).mono ?_
 rintro e w3 ⟨rfl,q,z,n⟩
 have J:=zc q
 have ah:=zc (ai.out.trans z)
 have aj:=zc (ag.out.trans n)
 have X3:=zc ((n _ _ _ _ X2.out ae (by decide)).trans X2.out)
 clear q z n p0 p1 p2 p3 V p5 pf U N M O Q K xf o I
 obtain⟨U,N,M,O,Q,K,xf⟩:=zv X3.out
 obtain⟨p0,p1,p2,p3,V,p5,pf⟩:=zv J.out.2.2.1
 have o:=(Array.getElem?_eq_some_iff.1 J.out.2.2.1).1
 have I:=(Array.getElem?_eq_some_iff.1 X3.out).1
 go_wp2_with fail
 have E:=zc (J.out.later ((Below.refl w3.heap.size w3).drew))
 go_region_with (first|(go_at_call 190;refine (zhd c _ r _ E.out HR.out).mono ?_;rintro e w' ⟨rfl,rfl⟩;rw[KK.out])|(go_at_call 113;refine (zjl _ _).mono ?_;rintro e w' ⟨rfl,rfl⟩)|(go_at_call 189;refine (zfJ c _ r (zW kk) _ am.out E.out (by have:=HL.out;rw[HU.out] at this;simp only[zt,List.foldl_cons,List.foldl_nil,ByteArray.size_append] at this ⊢;omega)).mono ?_;rintro e w4 ⟨rfl,q,z,n⟩))
 all_goals (go_wp2;go_end0;exact⟨rfl,(by rw[HU.out];simp only[zt,List.foldl_cons,List.foldl_nil,←ByteArray.append_assoc] at q ⊢;exact q),ah.out.trans ((((Below.refl w3.heap.size w3).drew).mono J.out.1.2).trans z),aj.out.trans ((KeepB.of_below ((Below.refl w3.heap.size w3).drew)).trans n)⟩)
theorem zpE (c:PC) (t:ByteArray) (i:Nat) (k z:Int) (n j:ByteArray) (l r:Int) (w:World) (h:PP c t w) (hi:i<c.m.ex.length) (H:c.m.ex.getD i zg=⟨k,z,n,j,l,r⟩) (k1:(k==1)=false) (k2:(k==2)=false) (k3:(k==3)=false) (k4:(k==4)=false) (k5:(k==5)=false) (k6:(k==6)=false) (k7:(k==7)=false) (k8:(k==8)=false) (o:(t++(sNone)).size≤140737488355328):
  Calls Tryz.prog 162 #[.pointer (some ⟨c.gp,0,none⟩),.int .i64 (i:Int)] w (PO c (t++(sNone)) w):=by
 have E:=zc h
 obtain⟨T,X⟩: ∃T,T=sNone:=⟨_,rfl⟩
 rw[←X] at o ⊢
 have HT:=zc X
 have HL:=zc o
 clear h o X
 obtain⟨p0,p1,p2,p3,Q,p5,pf⟩:=zv E.out.2.2.1
 obtain⟨g,hg,D,O,L,K,M,N,I⟩:=E.out.2.1.expr hi
 rw[H] at O L K M N I
 dsimp only at O L K M N I
 rw[hg] at Q
 have U:(i:Int)<(c.m.ex.length:Int):=by omega
 clear hg H
 go_enter Tryz.func162,Tryz.ntmps162
 go_upto_region 1 with fail
 have J:Hid (Below w.heap.size w (w.alloc (.cells #[.int .i64 k,.int .i64 z,.string n,.string j,.int .i64 l,.int .i64 r] 108))):=(Below.refl _ _).alloc (Nat.le_refl _) _
 refine zau (R:=fun W=>W.heap[w.heap.size]? =some (.cells #[.int .i64 k,.int .i64 z,.string n,.string j,.int .i64 l,.int .i64 r] 108 (0,0))∧PP c t W∧Below c.B w W∧KeepB c.b w W) ⟨heap_alloc_new w _,E.out.later J.out,J.out.mono E.out.1.2,KeepB.of_below J.out⟩ ?_
 obtain⟨V,A⟩: ∃V,V=w.heap.size:=⟨_,rfl⟩
 have ac:V≠c.b:=by
  rw[A]
  obtain⟨aa,hc⟩:=zbK E.out.1.1
  have:=(Array.getElem?_eq_some_iff.1 hc).1
  omega
 rw[←A]
 rintro w1 ⟨H,hp,hb,hk⟩
 clear A J D O L K M N I p0 p1 p2 p3 Q p5 pf U
 have X1:=zc H
 have q:=zc hp
 have Y:=zc hb
 have Z:=zc hk
 clear H hp hb hk
 obtain⟨O,L,K,M,N,I,xf⟩:=zv X1.out
 obtain⟨p0,p1,p2,p3,Q,p5,pf⟩:=zv q.out.2.2.1
 have D:=(Array.getElem?_eq_some_iff.1 q.out.2.2.1).1
 have ab:=(Array.getElem?_eq_some_iff.1 X1.out).1
 go_wp2
 go_end0
 exact⟨rfl,(by rw[HT.out,show t++sNone=t from ByteArray.append_empty];exact q.out),Y.out,Z.out⟩
theorem zpF (c:PC) (hn:zbB c.m.ex) (Z:zbn c.m.ex) (n:Nat): ∀i,i<n→i<c.m.ex.length→zcd c i:=by
 induction n with
 |zero=>intro i E;omega
 |succ n Y=>
  intro i aa E t w h q
  by_cases X:i<n
  ·exact Y i X E t w h q
  ·have J: ∀j,j<i→zcd c j:=fun j hj=>Y j (by omega) (by omega)
   have I:=hn (c.m.ex.getD i zg) (by rw[zdz E];exact List.getElem_mem E)
   have D:=zfp Z (i:=i)
   rw[zgk Z] at q ⊢
   obtain⟨x,H⟩: ∃x,c.m.ex.getD i zg=x:=⟨_,rfl⟩
   rw[H] at q I D ⊢
   obtain⟨k,A,z,o,l,r⟩:=x
   simp only at q I D ⊢
   by_cases V:(k==1)=true
   ·rw[if_pos V] at q ⊢
    have e:=eq_of_beq V
    subst e
    exact zp6 c t i A z o l r w h E H I q
   rw[if_neg V] at q ⊢
   by_cases M:(k==2)=true
   ·rw[if_pos M] at q ⊢
    have e:=eq_of_beq M
    subst e
    exact zp7 c t i A z o l r w h E H q
   rw[if_neg M] at q ⊢
   by_cases L:(k==3)=true
   ·rw[if_pos L] at q ⊢
    have e:=eq_of_beq L
    subst e
    exact zp8 c t i A z o l r w h E H q
   rw[if_neg L] at q ⊢
   by_cases U:(k==4)=true
   ·rw[if_pos U] at q ⊢
    have e:=eq_of_beq U
    subst e
    exact zp9 c t i A z o l r w h E H q
   rw[if_neg U] at q ⊢
   by_cases N:(k==5)=true
   ·rw[if_pos N] at q ⊢
    have e:=eq_of_beq N
    subst e
    exact zpA c t i A z o l r w h E H q
   rw[if_neg N] at q ⊢
   by_cases K:(k==6)=true
   ·rw[if_pos K] at q ⊢
    have e:=eq_of_beq K
    subst e
    have D:=D (by decide)
    obtain⟨l,rfl⟩: ∃n:Nat,l=(n:Int):=⟨l.toNat,by omega⟩
    obtain⟨r,rfl⟩: ∃n:Nat,r=(n:Int):=⟨r.toNat,by omega⟩
    simp only[Int.toNat_natCast] at q ⊢
    exact zpB c t i A z o l r w h E H (J l (by omega)) (J r (by omega)) (by omega) q
   rw[if_neg K] at q ⊢
   by_cases Q:(k==7)=true
   ·rw[if_pos Q] at q ⊢
    have e:=eq_of_beq Q
    subst e
    have D:=D (by decide)
    obtain⟨l,rfl⟩: ∃n:Nat,l=(n:Int):=⟨l.toNat,by omega⟩
    obtain⟨r,rfl⟩: ∃n:Nat,r=(n:Int):=⟨r.toNat,by omega⟩
    simp only[Int.toNat_natCast] at q ⊢
    exact zpC c t i A z o l r w h E H (J l (by omega)) (J r (by omega)) (by omega) q
   rw[if_neg Q] at q ⊢
   by_cases O:(k==8)=true
   ·rw[if_pos O] at q ⊢
    have e:=eq_of_beq O
    subst e
    have D:=D (by decide)
    obtain⟨l,rfl⟩: ∃n:Nat,l=(n:Int):=⟨l.toNat,by omega⟩
    obtain⟨r,rfl⟩: ∃n:Nat,r=(n:Int):=⟨r.toNat,by omega⟩
    simp only[Int.toNat_natCast] at q ⊢
    exact zpD c t i A z o l r w h E H (J l (by omega)) (J r (by omega)) (by omega) (by omega) q
   rw[if_neg O] at q ⊢
   exact zpE c t i k A z o l r w h E H (Bool.eq_false_iff.2 V) (Bool.eq_false_iff.2 M) (Bool.eq_false_iff.2 L) (Bool.eq_false_iff.2 U) (Bool.eq_false_iff.2 N) (Bool.eq_false_iff.2 K) (Bool.eq_false_iff.2 Q) (Bool.eq_false_iff.2 O) q
theorem zhe (j:Nat) (S:Sv) (m:Md) (V:Bool) (w:World) (h:OwnMd w j S m) (Z:Small m) (K:Tree m→(zb1 m).size≤140737488355328):
  Calls Tryz.prog 17 #[zp S m,.bool V] w fun e w'=>PrintOut (zb1 m) m e∧Below w.heap.size w w':=by
 have Y:=zc h
 have SM:=zc Z
 have HU:=zc K
 obtain⟨f1,f2,f3,f4,f5⟩:=Z.few
 clear h Z K
 unfold zp
 go_enter Tryz.func17,Tryz.ntmps17
 go_wp2_with fail
 refine (zpf j S m _ (Y.out.alloc _) f5 f4).mono ?_
 rintro e o ⟨⟨b,rfl,I⟩,D⟩
 have HT:=zc I
 have n:Hid (Below w.heap.size w o):=((Below.refl _ _).alloc (Nat.le_refl _) _).trans (D.mono (by rw[zk];omega))
 have A:Hid (o.heap[w.heap.size]? =some (.cells #[.slice S.rq.a m.rq.length S.rq.cap,.slice S.im.a m.im.length S.im.cap,.slice S.ep.a m.ep.length S.ep.cap,.slice S.st.a m.st.length S.st.cap,.slice S.ex.a m.ex.length S.ex.cap] 28 (0,0))):=(D.block _ (by rw[zk];omega)).trans (heap_alloc_new w _)
 have E:=zc (Y.out.later n.out)
 clear I D
 cases b with
 |false=>
  go_wp2
  go_ret
  exact⟨.inr ⟨(fun t=>by have:=HT.out.2 t;cases this),rfl⟩,n.out⟩
 |true=>
  have O:=zc (HT.out.1 rfl)
  have HZ:=zc (HU.out O.out)
  go_upto_region 4 with fail
  have q:Hid (Below o.heap.size o (o.alloc (.cells #[.pointer none,.slice none 0 0] 87))):=(Below.refl _ _).alloc (Nat.le_refl _) _
  have hz:=(Array.getElem?_eq_some_iff.1 A.out).1
  refine zau (R:=fun W=>(Lib.IsBuilder 87 5 o.heap.size o.heap.size [] W∧o.heap.size≤W.heap.size)∧OwnMd W j S m∧W.heap[w.heap.size]? =some (.cells #[.slice S.rq.a m.rq.length S.rq.cap,.slice S.im.a m.im.length S.im.cap,.slice S.ep.a m.ep.length S.ep.cap,.slice S.st.a m.st.length S.st.cap,.slice S.ex.a m.ex.length S.ex.cap] 28 (0,0))∧Below w.heap.size w W) ⟨⟨Lib.fresh_isBuilder _ _ o,q.out.size⟩,E.out.later q.out,(q.out.block _ hz).trans A.out,n.out.trans (q.out.mono n.out.size)⟩ ?_
  obtain⟨b,z⟩: ∃b,b=o.heap.size:=⟨_,rfl⟩
  have J:w.heap.size≤b:=by rw[z];exact n.out.size
  rw[←z]
  rintro W ⟨⟨M,ac⟩,ho,hx,I⟩
  clear hz q A E n Y z o
  have BL:=zc M
  have HO:=zc ho
  have HX:=zc hx
  have HB:=zc I
  clear M ho hx I
  obtain⟨c0,c1,c2,c3,c4,cf⟩:=zl HX.out
  go_upto_region 6 with fail
  have q:Hid (Below W.heap.size W (W.alloc (.cells #[.slice S.rq.a m.rq.length S.rq.cap,.slice S.im.a m.im.length S.im.cap,.slice S.ep.a m.ep.length S.ep.cap,.slice S.st.a m.st.length S.st.cap,.slice S.ex.a m.ex.length S.ex.cap,.func (.func 57) #[] #[.pointer (some ⟨b,0,none⟩)]] 95))):=(Below.refl _ _).alloc (Nat.le_refl _) _
  have Q:Hid (PP ⟨b,b,W.heap.size,j,S,m⟩ sNone (W.alloc (.cells #[.slice S.rq.a m.rq.length S.rq.cap,.slice S.im.a m.im.length S.im.cap,.slice S.ep.a m.ep.length S.ep.cap,.slice S.st.a m.st.length S.st.cap,.slice S.ex.a m.ex.length S.ex.cap,.func (.func 57) #[] #[.pointer (some ⟨b,0,none⟩)]] 95))):=by
   refine⟨⟨zjr BL.out q.out,Nat.le_trans ac q.out.size⟩,HO.out.later q.out,heap_alloc_new W _,?_⟩
   obtain⟨ad,hc⟩:=zbK BL.out
   have:=(Array.getElem?_eq_some_iff.1 hc).1
   show W.heap.size≠b
   omega
  have ab:=zc (HB.out.trans (q.out.mono HB.out.size))
  go_wp2_with fail
  refine (zp5 ⟨b,b,W.heap.size,j,S,m⟩ _ (fun i hi=>zpF _ SM.out.nums O.out.ahead _ i hi hi) O.out.stm SM.out Q.out HZ.out).mono ?_
  rintro e w3 ⟨rfl,hp,L,U⟩
  have N:=zc hp
  have X:=zc (ab.out.trans (L.mono J))
  clear hp L U c0 c1 c2 c3 c4 cf
  go_wp2_with fail
  refine (Tryz.Builder_String_any b b (zb1 m).data.toList w3 N.out.1.1 N.out.1.2).mono ?_
  rintro e w4 ⟨rfl,H⟩
  have aa:=zc (X.out.trans (H.mono J))
  clear H
  go_wp2
  go_ret
  exact⟨.inl ⟨O.out,rfl⟩,aa.out⟩
theorem zhf {C:Cx} {j:Bool} {q:PS} {x:PS×Ep} (h:zbs C j q= .ok x):q.pos<x.1.pos:=by
 obtain⟨a,D,z⟩:=zf h
 obtain⟨b,o,A⟩:=zf z
 have n:=zeA o
 rw[(zbd D).1] at n
 cases A
 exact n
def zjD (C:Cx) (gt cap base gp:Nat) (t:TypeId) (size:Nat) (f:Ep→List Value) (y:PRL) (S:Sv) (w:World) (e:Ending) (w':World):Prop:=
 match y with
 | .ok a=>∃r S',e= .returned (.slice r.a a.2.length r.cap)∧IM C gt cap base gp S' a.1 w'∧IS gp S w S' w'∧Fr t size w' w.heap.size r a.2.length (a.2.flatMap f) S'∧0<a.2.length∧a.2.length≤4000
 | .error p=>e=Pan p∧Below base w w'
theorem zjE {C:Cx} {o n j A:Nat} {S:Sv} {q:PS} {w:World} (h:IM C o n j A S q w) (t:TypeId) (size:Nat):Fr t size (w.alloc (.cells #[] t)) w.heap.size ⟨some ⟨w.heap.size,0,none⟩,0⟩ 0 [] S:=by
 refine⟨World.ownsRow_lit w #[] 0 (Nat.le_refl _) (by unfold maxLen;omega) (Nat.zero_mul _).symm,fun k g z=>?_⟩
 have D:w.heap.size=k:=by simpa [Rw.blk,Value.ownBlock] using g
 have:=(h.mem.own.has z).2
 omega
theorem zpG (C:Cx) (J o j z:Nat) (S:Sv) (q:PS) (w:World) (h:IM C J o j z S q w):
  Calls Tryz.prog 175 #[.pointer (some ⟨z,0,none⟩)] w (zjD C J o j z 100 3 (fun e=>imL (zaU e)) (zax C false q []) S w):=by
 obtain⟨i0,hi,ap,ak,ar⟩:=info_parts Tryz.infoImp
 have HH:=zc h
 clear h
 go_enter Tryz.func175,Tryz.ntmps175
 go_wp2
 go_loopg [3] (C.ts.length+1) (fun k v wr=>∃(Q:Sv) (I:PS) (r:Rw) (l:List Ep),v= .slice r.a l.length r.cap∧zax C false q []=zax C false I l∧C.ts.length-I.pos<k∧l.length+(C.ts.length-I.pos)≤C.ts.length∧IM C J o j z Q I wr∧IS z S w Q wr∧Fr 100 3 wr w.heap.size r l.length (l.flatMap (fun e=>imL (zaU e))) Q)
 case atStart=>exact⟨S,q,⟨some ⟨w.heap.size,0,none⟩,0⟩,[],rfl,rfl,by omega,by simp,HH.out.alloc _,(IS.refl _ _ _).alloc _,zjE HH.out _ _⟩
 case round=>
  obtain⟨Q,I,r,l,rfl,hy,hk,hl,m',s',f'⟩:=hrel
  have HY:=zc hy
  have HZ:=zc (HY.out.trans (zjh C false I l))
  have aa:Hid (IM C J o j z Q I wr):=m'
  have af:Hid (IS z S w Q wr):=s'
  have ao:Hid (Fr 100 3 wr w.heap.size r l.length (l.flatMap (fun e=>imL (zaU e))) Q):=f'
  have au:=m'.mem.few
  clear hy m' s' f'
  go_wp2_with fail
  refine (zoX C J o j z Q I _ aa.out).mono ?_
  cases Y:zbs C false I with
  |error p=>
   rintro e N ⟨rfl,hb⟩
   have HB:Hid (Below j w N):=(HH.out.back af.out).trans hb
   have HX:Hid (zax C false q []= .error p):=bdE HZ.out Y
   unfold Pan
   go_wp2
   refine⟨rfl,?_⟩
   rw[HX.out]
   exact⟨rfl,HB.out⟩
  |ok n=>
   rintro e N ⟨rfl,A,m,s⟩
   have D:Hid (Fr 100 3 N w.heap.size r l.length (l.flatMap (fun e=>imL (zaU e))) A):=ao.out.step aa.out (by decide) s
   have H:=zc m
   have Z:Hid (IS z S w A N):=af.out.trans s
   clear m s
   have ag:=zc (bdO HZ.out Y)
   have aw:=zhf Y
   have av:=H.out.mem.inv.pos
   unfold imV
   have O:=fun o1=>(D.out.later ((Below.refl N.heap.size N).alloc (Nat.le_refl _) o1)).1
   have ah:=fun o1=>(Z.out.alloc o1).size
   go_wp2_with (at_builtin;refine zcu _ rfl _ _ 23 rfl w.heap.size 100 i0 _ 3 48 Tryz.underlying23 hi ap ak ar rfl (by decide) (by decide) r l.length _ (by rfl) (O _) N.heap.size (imL (zaU n.2)) (by rfl) (by exact heap_alloc_new N _) rfl (zg3 _) (by omega) (ah _) ?_;intro U w2 hr X ae;have HR:Hid (OwnR w2 w.heap.size 100 3 U (l.length+1) _):=hr;have K:Hid (IM C J o j z A n.1 w2):=(H.out.alloc _).aside X (fun k g=>⟨D.out.2 k g,D.out.ngp H.out (by decide) g,D.out.ngt H.out (by decide) g⟩);have ad:Hid (IS z S w A w2):=(Z.out.alloc _).aside X (fun k g=>(D.out.1.typed g).1);have ab:Hid (Fr 100 3 w2 w.heap.size U (l.length+1) _ A):=(D.out.later ((Below.refl _ _).alloc (Nat.le_refl _) _)).grown (H.out.alloc _) hr ae;clear hr X ae O ah)
   have el:(l++[n.2]).length=l.length+1:=by simp
   have ai:Hid (Fr 100 3 w2 w.heap.size U (l++[n.2]).length ((l++[n.2]).flatMap (fun e=>imL (zaU e))) A):=by
    show Fr ..
    rw[el,List.flatMap_append]
    simpa using ab.out
   have E:=zc el
   clear el ab HR
   go_wp2_with fail
   cases hc:isT C n.1.pos 4 zbw with
   |true=>
    have ax:=za1 hc (by decide)
    have HC:=zc (ag.out.trans (if_pos hc))
    refine (zK C J o j z A (n.1) 4 zbw _ K.out (by decide)).mono ?_
    rintro e w3 ⟨rfl,m,s⟩
    rw[hc] at m ⊢
    have M:=zc m
    have L:Hid (IS z S w A w3):=ad.out.trans s
    have ac:=s
    clear m s
    have V:Hid (Fr 100 3 w3 w.heap.size U (l++[n.2]).length ((l++[n.2]).flatMap (fun e=>imL (zaU e))) A):=ai.out.step K.out (by decide) ac
    clear ac
    go_wp2
    go_roundg (gk-1)
    case rel=>exact⟨A,adv n.1,U,l++[n.2],by rw[E.out],HC.out,by rw[zx];omega,by rw[zx,E.out];omega,M.out,L.out,V.out⟩
    case measure=>omega
   |false=>
    have HC:=zc (ag.out.trans (if_neg (by rw[hc];decide)))
    refine (zK C J o j z A (n.1) 4 zbw _ K.out (by decide)).mono ?_
    rintro e w3 ⟨rfl,m,s⟩
    rw[hc] at m ⊢
    have M:=zc m
    have L:Hid (IS z S w A w3):=ad.out.trans s
    have V:Hid (Fr 100 3 w3 w.heap.size U (l++[n.2]).length ((l++[n.2]).flatMap (fun e=>imL (zaU e))) A):=ai.out.step K.out (by decide) s
    clear m s
    go_wp2_with fail
    refine (zbX C J o j z A n.1 125 _ M.out).mono ?_
    cases aj:zd C 4 zbm n.1 with
    |error p=>
     rintro e w4 ⟨rfl,hb⟩
     have HB:Hid (Below j w w4):=(HH.out.back L.out).trans hb
     have HX:Hid (zax C false q []= .error p):=bdE HC.out aj
     unfold Pan
     go_wp2
     refine⟨rfl,?_⟩
     rw[HX.out]
     exact⟨rfl,HB.out⟩
    |ok a4=>
     rintro e w4 ⟨rfl,S4,m,s⟩
     have an:Hid (Fr 100 3 w4 w.heap.size U (l++[n.2]).length ((l++[n.2]).flatMap (fun e=>imL (zaU e))) S4):=V.out.step M.out (by decide) s
     have am:=zc m
     have aq:Hid (IS z S w S4 w4):=L.out.trans s
     clear m s
     have al:=zc (bdO HC.out aj)
     go_wp2
     go_ret
     rw[al.out]
     exact⟨U,S4,by rw[E.out];rfl,am.out,aq.out,an.out,by show 0<(l++[n.2]).length;rw[E.out];omega,by show (l++[n.2]).length≤4000;rw[E.out];omega⟩
def impFromI (C:Cx) (l:List Ep) (q:PS):PR:=bd (zd C 1 zU q) fun a=>bd (zH C a) fun b=>bd (zd C 4 cSemi b.1) fun c=>zP (fun e=>zak C (zbF b.2 e)) l (.ok c)
theorem zfL {α:Type} (f:α→PS→PR) (p:Nat): ∀l:List α,zP f l (.error p)= .error p
 |[]=>rfl
 |_::l=>zfL f p l
theorem zhg {α:Type} (f:α→PS→PR) {l:List α} {j:Nat} {x:α} (h:l[j]? =some x) (q:PS):zP f (l.drop j) (.ok q)=zP f (l.drop (j+1)) (f x q):=by
 obtain⟨n,rfl⟩:=List.getElem?_eq_some_iff.1 h
 rw[List.drop_eq_getElem_cons n]
 rfl
theorem zpH {C:Cx} {x:Im} {q a:PS} (h:zak C x q= .ok a):a.pos=q.pos:=by
 unfold zak at h
 split at h
 ·cases h
 ·cases h
  rfl
theorem zjF {C:Cx} {x:Ep} {q a:PS} (h:zo C x q= .ok a):a.pos=q.pos:=by
 unfold zo at h
 split at h
 ·cases h
 ·split at h
  ·cases h
   rfl
  ·cases h
   rfl
theorem zfd {α:Type} {l:List α} {j:Nat} (h:j<l.length): ∃x,l[j]? =some x:=⟨_,List.getElem?_eq_getElem h⟩
theorem zpI (C:Cx) (I o n z b0 g:Nat) (r:Rw) (S:Sv) (q:PS) (l:List Ep) (w:World) (h:IM C I o n z S q w) (hC:zbf C) (hl:l.length≤4000) (hf:Fr 100 3 w b0 r l.length (l.flatMap (fun e=>imL (zaU e))) S) (hg:r.a=some ⟨g,0,none⟩):
  Calls Tryz.prog 174 #[.pointer (some ⟨z,0,none⟩),.slice (some ⟨g,0,none⟩) l.length r.cap] w (zQ C I o n z (impFromI C l q) id (fun _=>.tuple #[]) S w):=by
 have U:=zc h
 have HF:=zc hf
 have HG:=zc hg
 have HY:=zc (impFromI.eq_1 C l q)
 clear h hf hg
 go_enter Tryz.func174,Tryz.ntmps174
 go_wp2_with fail
 refine (zea C I o n z S q zU _ U.out).mono ?_
 cases Y:zd C 1 zU q with
 |error p=>
  rintro e w1 ⟨rfl,Q⟩
  have M:Hid (Below n w w1):=(U.out.back (IS.refl _ _ _)).trans Q
  have O:Hid (impFromI C l q= .error p):=bdE HY.out Y
  unfold Pan
  go_wp2
  refine⟨rfl,?_⟩
  rw[O.out]
  exact⟨rfl,M.out⟩
 |ok a1=>
  rintro e w1 ⟨rfl,S1,m,s⟩
  have ar:Hid (Fr 100 3 w1 b0 r l.length (l.flatMap (fun e=>imL (zaU e))) S1):=HF.out.step U.out (by decide) s
  have Z:=zc m
  have V:=zc s
  clear m s
  have ac:=zc (bdO HY.out Y)
  go_wp2_with fail
  refine (zf3 C I o n z S1 a1 _ Z.out hC).mono ?_
  cases X:zH C a1 with
  |error p=>
   rintro e w2 ⟨rfl,Q⟩
   have M:Hid (Below n w w2):=(U.out.back V.out).trans Q
   have O:Hid (impFromI C l q= .error p):=bdE ac.out X
   unfold Pan
   go_wp2
   refine⟨rfl,?_⟩
   rw[O.out]
   exact⟨rfl,M.out⟩
  |ok a2=>
   rintro e w2 ⟨rfl,S2,m,s⟩
   have an:Hid (Fr 100 3 w2 b0 r l.length (l.flatMap (fun e=>imL (zaU e))) S2):=ar.out.step Z.out (by decide) s
   have ag:=zc m
   have ah:Hid (IS z S w S2 w2):=V.out.trans s
   clear m s
   have af:=zc (bdO ac.out X)
   go_wp2_with fail
   refine (zbX C I o n z S2 a2.1 59 _ ag.out).mono ?_
   cases K:zd C 4 cSemi (a2.1) with
   |error p=>
    rintro e w3 ⟨rfl,Q⟩
    have M:Hid (Below n w w3):=(U.out.back ah.out).trans Q
    have O:Hid (impFromI C l q= .error p):=bdE af.out K
    unfold Pan
    go_wp2
    refine⟨rfl,?_⟩
    rw[O.out]
    exact⟨rfl,M.out⟩
   |ok a3=>
    rintro e w3 ⟨rfl,S3,m,s⟩
    have ax:Hid (Fr 100 3 w3 b0 r l.length (l.flatMap (fun e=>imL (zaU e))) S3):=an.out.step ag.out (by decide) s
    have al:=zc m
    have av:Hid (IS z S w S3 w3):=ah.out.trans s
    clear m s
    have aw:=zc (bdO af.out K)
    have ae:0<a3.pos:=by rw[(zb4 K).1];exact Nat.succ_pos _
    generalize am:a2.2=sp at*
    clear am
    go_wp2
    go_loopg [15] l.length (fun k i wr=>∃(j:Nat) (H:Sv) (D:PS),i= .int .i64 j∧j+k=l.length∧impFromI C l q=zP (fun e=>zak C (zbF sp e)) (l.drop j) (.ok D)∧0<D.pos∧IM C I o n z H D wr∧IS z S w H wr∧Fr 100 3 wr b0 r l.length (l.flatMap (fun e=>imL (zaU e))) H)
    case atStart=>exact⟨0,S3,a3,rfl,by omega,aw.out,ae,al.out,av.out,ax.out⟩
    case round=>
     obtain⟨j,H,D,rfl,hj,hy,ab,m',s',f'⟩:=hrel
     have ai:=zc hy
     have A:Hid (IM C I o n z H D wr):=m'
     have L:Hid (IS z S w H wr):=s'
     have N:Hid (Fr 100 3 wr b0 r l.length (l.flatMap (fun e=>imL (zaU e))) H):=f'
     clear hy m' s' f'
     by_cases au:j<l.length
     ·have ad:(j:Int)<(l.length:Int):=by omega
      obtain⟨x,hx⟩:=zfd au
      obtain⟨g',aa,E⟩:=OwnR.elem (f:=fun e=>imL (zaU e)) (m:=3) (fun _=>rfl) N.out.1 hx
      have eg:g'=g:=by have:=aa.symm.trans HG.out;simpa using this
      subst eg
      have k0:=E 0 (by omega)
      have k1:=E 1 (by omega)
      have k2:=E 2 (by omega)
      simp only[imL,zaU,Nat.add_zero,List.getElem?_cons_zero,List.getElem?_cons_succ] at k0 k1 k2
      have HZ:=zc (ai.out.trans (zhg (fun e=>zak C (zbF sp e)) hx D))
      clear E aa hx
      obtain⟨j1,J⟩: ∃j1,j1=j+1:=⟨_,rfl⟩
      have ej:(j:Int)+1=(j1:Int):=by omega
      rw[←J] at HZ
      have ay:=(Array.getElem?_eq_some_iff.1 (N.out.1.typed (by rw[Rw.blk,HG.out];rfl)).2.2.choose_spec).1
      have az:=A.out.lt
      have HJ:=zc J
      clear J
      go_wp2_with fail
      refine (zlN C I o n z H D (zbF sp x) _ (A.out.alloc _) ab).mono ?_
      cases hn:zak C (zbF sp x) D with
      |error p=>
       rintro e w5 ⟨rfl,Q⟩
       have M:Hid (Below n w w5):=(U.out.back (L.out.alloc _)).trans Q
       have O:Hid (impFromI C l q= .error p):=by show _=_;rw[HZ.out,hn];exact zfL _ _ _
       unfold Pan
       go_wp2
       refine⟨rfl,?_⟩
       rw[O.out]
       exact⟨rfl,M.out⟩
      |ok a5=>
       rintro e w5 ⟨rfl,S5,m,s⟩
       have ap:=zc m
       have ak:Hid (IS z S w S5 w5):=(L.out.alloc _).trans s
       have ao:Hid (Fr 100 3 w5 b0 r l.length (l.flatMap (fun e=>imL (zaU e))) S5):=(N.out.later ((Below.refl _ _).alloc (Nat.le_refl _) _)).step (A.out.alloc _) (by decide) s
       have aq:Hid (impFromI C l q=zP (fun e=>zak C (zbF sp e)) (l.drop j1) (.ok a5)):=by show _=_;rw[HZ.out,hn]
       have aj:Hid (0<a5.pos):=by show 0<a5.pos;rw[zpH hn];exact ab
       clear m s
       go_wp2
       go_roundg (gk-1)
       case rel=>exact⟨j1,S5,a5,rfl,by have:=HJ.out;omega,aq.out,aj.out,ap.out,ak.out,ao.out⟩
       case measure=>omega
     ·have ad: ¬(j:Int)<(l.length:Int):=by omega
      have HZ:Hid (impFromI C l q= .ok D):=by show _=_;rw[ai.out,List.drop_eq_nil_of_le (by omega)];rfl
      go_wp2
      go_end0
      rw[HZ.out]
      exact⟨rfl,H,A.out,L.out⟩
theorem zhh (C:Cx) (z n j o b0:Nat) (r:Rw) (S:Sv) (q:PS) (l:List Ep) (w:World) (h:IM C z n j o S q w) (H:zbf C) (I:l.length≤4000) (E:l.length≠0) (D:Fr 100 3 w b0 r l.length (l.flatMap (fun e=>imL (zaU e))) S):
  Calls Tryz.prog 174 #[.pointer (some ⟨o,0,none⟩),.slice r.a l.length r.cap] w (zQ C z n j o (impFromI C l q) id (fun _=>.tuple #[]) S w):=by
 rcases D.1.nil_or with ⟨_,_,e⟩|⟨g,A⟩
 ·exact absurd e E
 ·rw[A]
  exact zpI C z n j o b0 g r S q l w h H I D A
theorem zjG {C:Cx} {o n j A:Nat} {S:Sv} {q:PS} {w:World} (h:IM C o n j A S q w) (t:TypeId) (xs:List Value):Fr t xs.length (w.alloc (.cells xs.toArray t)) w.heap.size ⟨some ⟨w.heap.size,0,none⟩,1⟩ 1 xs S:=by
 refine⟨?_,fun k g z=>?_⟩
 ·have:=World.ownsRow_lit (e:=t) (size:=xs.length) w xs.toArray 1 (Nat.le_refl _) (by unfold maxLen;omega) (by simp)
  simpa [OwnR] using this
 ·have D:w.heap.size=k:=by simpa [Rw.blk,Value.ownBlock] using g
  have:=(h.mem.own.has z).2
  omega
def zaJ (C:Cx) (q:PS):PR:=
 if (ze C q.pos).kind==3 then bd (zH C q) fun a=>zd C 4 cSemi a.1
 else if isT C q.pos 4 zJ then bd (zax C false (adv q) []) fun a=>impFromI C a.2 a.1
 else if isT C q.pos 4 zw then bd (zd C 1 sAs (adv q)) fun a=>bd (zj C false a) fun b=>impFromI C [⟨0,b.2,zw,sNone⟩] b.1
 else bd (zj C false q) fun b=>impFromI C [⟨0,b.2,sDefault,sNone⟩] b.1
theorem zpJ (C:Cx) (A n j o:Nat) (S:Sv) (q:PS) (w:World) (h:IM C A n j o S q w) (hC:zbf C) (hk:((ze C q.pos).kind==3)=true):
  Calls Tryz.prog 149 #[.pointer (some ⟨o,0,none⟩)] w (zQ C A n j o (zaJ C q) id (fun _=>.tuple #[]) S w):=by
 have K:=zc h
 have aa:=zcH
 have Z:Hid (zaJ C q=bd (zH C q) fun a=>zd C 4 cSemi a.1):=if_pos hk
 clear h
 go_enter Tryz.func149,Tryz.ntmps149
 go_wp2_with fail
 refine (zbr C A n j o S q _ K.out).mono ?_
 rintro e w1 ⟨rfl,z⟩
 unfold tkV
 have Y:Hid (IM C A n j o S q w1):=K.out.later z
 have D:Hid (IS o S w S w1):=IS.below z
 clear z
 go_wp2_with fail
 refine (zf3 C A n j o S q _ Y.out hC).mono ?_
 cases H:zH C q with
 |error p=>
  rintro e Q ⟨rfl,z⟩
  have L:Hid (Below j w Q):=(K.out.back D.out).trans z
  have X:Hid (zaJ C q= .error p):=bdE Z.out H
  unfold Pan
  go_wp2
  refine⟨rfl,?_⟩
  rw[X.out]
  exact⟨rfl,L.out⟩
 |ok a2=>
  rintro e Q ⟨rfl,S2,m,s⟩
  have M:=zc m
  have E:Hid (IS o S w S2 Q):=D.out.trans s
  clear m s
  have I:=zc (bdO Z.out H)
  go_wp2_with fail
  refine (zbX C A n j o S2 a2.1 59 _ M.out).mono ?_
  cases J:zd C 4 cSemi a2.1 with
  |error p=>
   rintro e O ⟨rfl,z⟩
   have L:Hid (Below j w O):=(K.out.back E.out).trans z
   have X:Hid (zaJ C q= .error p):=I.out.trans J
   unfold Pan
   go_wp2
   refine⟨rfl,?_⟩
   rw[X.out]
   exact⟨rfl,L.out⟩
  |ok a3=>
   rintro e O ⟨rfl,S3,m,s⟩
   have U:=zc m
   have N:Hid (IS o S w S3 O):=E.out.trans s
   clear m s
   have V:=zc (I.out.trans J)
   go_wp2
   go_end0
   rw[V.out]
   exact⟨rfl,S3,U.out,N.out⟩
theorem zpK (C:Cx) (z n j o:Nat) (S:Sv) (q:PS) (w:World) (h:IM C z n j o S q w) (hC:zbf C) (hk:((ze C q.pos).kind==3)=false) (h1:isT C q.pos 4 zJ=true):
  Calls Tryz.prog 149 #[.pointer (some ⟨o,0,none⟩)] w (zQ C z n j o (zaJ C q) id (fun _=>.tuple #[]) S w):=by
 have K:=zc h
 have ac:=zcH
 have HY:Hid (zaJ C q=bd (zax C false (adv q) []) fun a=>impFromI C a.2 a.1):=by show _=_;rw[zaJ,hk,h1];rfl
 clear h
 go_enter Tryz.func149,Tryz.ntmps149
 go_wp2_with fail
 refine (zbr C z n j o S q _ K.out).mono ?_
 rintro e w1 ⟨rfl,A⟩
 unfold tkV
 have ab:Hid (IM C z n j o S q w1):=K.out.later A
 have M:Hid (IS o S w S w1):=IS.below A
 clear A
 go_wp2_with fail
 refine (zK C z n j o S q 4 zJ _ ab.out (by decide)).mono ?_
 rintro e w2 ⟨rfl,m,s⟩
 rw[h1] at m ⊢
 have U:=zc m
 have D:Hid (IS o S w S w2):=M.out.trans s
 clear m s
 go_wp2_with fail
 refine (zpG C z n j o S (adv q) _ U.out).mono ?_
 cases H:zax C false (adv q) [] with
 |error p=>
  rintro e X ⟨rfl,A⟩
  have Q:Hid (Below j w X):=(K.out.back D.out).trans A
  have HX:Hid (zaJ C q= .error p):=bdE HY.out H
  unfold Pan
  go_wp2
  refine⟨rfl,?_⟩
  rw[HX.out]
  exact⟨rfl,Q.out⟩
 |ok L=>
  rintro e X ⟨r,S3,rfl,m,s,f,l0,l1⟩
  have Y:=zc m
  have E:Hid (IS o S w S3 X):=D.out.trans s
  have Z:=zc f
  clear m s f
  have I:=zc (bdO HY.out H)
  go_wp2_with fail
  refine (zhh C z n j o _ r S3 L.1 L.2 _ Y.out hC l1 (by omega) Z.out).mono ?_
  cases J:impFromI C L.2 L.1 with
  |error p=>
   rintro e V ⟨rfl,A⟩
   have Q:Hid (Below j w V):=(K.out.back E.out).trans A
   have HX:Hid (zaJ C q= .error p):=I.out.trans J
   unfold Pan
   go_wp2
   refine⟨rfl,?_⟩
   rw[HX.out]
   exact⟨rfl,Q.out⟩
  |ok a4=>
   rintro e V ⟨rfl,S4,m,s⟩
   have O:=zc m
   have aa:Hid (IS o S w S4 V):=E.out.trans s
   clear m s
   have N:=zc (I.out.trans J)
   go_wp2
   go_end0
   rw[N.out]
   exact⟨rfl,S4,O.out,aa.out⟩
theorem zpL (C:Cx) (z n j o:Nat) (S:Sv) (q:PS) (w:World) (h:IM C z n j o S q w) (hC:zbf C) (hk:((ze C q.pos).kind==3)=false) (h1:isT C q.pos 4 zJ=false) (h2:isT C q.pos 4 zw=true):
  Calls Tryz.prog 149 #[.pointer (some ⟨o,0,none⟩)] w (zQ C z n j o (zaJ C q) id (fun _=>.tuple #[]) S w):=by
 have I:=zc h
 have ah:=zcH
 have HY:Hid (zaJ C q=bd (zd C 1 sAs (adv q)) fun a=>bd (zj C false a) fun b=>impFromI C [⟨0,b.2,zw,sNone⟩] b.1):=by show _=_;rw[zaJ,hk,h1,h2];rfl
 clear h
 go_enter Tryz.func149,Tryz.ntmps149
 go_wp2_with fail
 refine (zbr C z n j o S q _ I.out).mono ?_
 rintro e w1 ⟨rfl,A⟩
 unfold tkV
 have ag:Hid (IM C z n j o S q w1):=I.out.later A
 have Y:Hid (IS o S w S w1):=IS.below A
 clear A
 go_wp2_with fail
 refine (zK C z n j o S q 4 zJ _ ag.out (by decide)).mono ?_
 rintro e w2 ⟨rfl,m,s⟩
 rw[h1] at m ⊢
 have ac:=zc m
 have ab:Hid (IS o S w S w2):=Y.out.trans s
 clear m s
 go_wp2_with fail
 refine (zK C z n j o S q 4 zw _ ac.out (by decide)).mono ?_
 rintro e w3 ⟨rfl,m,s⟩
 rw[h2] at m ⊢
 have ae:=zc m
 have M:Hid (IS o S w S w3):=ab.out.trans s
 clear m s
 go_wp2_with fail
 refine (zea C z n j o S (adv q) sAs _ ae.out).mono ?_
 cases Q:zd C 1 sAs (adv q) with
 |error p=>
  rintro e w4 ⟨rfl,A⟩
  have K:Hid (Below j w w4):=(I.out.back M.out).trans A
  have U:Hid (zaJ C q= .error p):=bdE HY.out Q
  unfold Pan
  go_wp2
  refine⟨rfl,?_⟩
  rw[U.out]
  exact⟨rfl,K.out⟩
 |ok a4=>
  rintro e w4 ⟨rfl,S4,m,s⟩
  have Z:=zc m
  have O:Hid (IS o S w S4 w4):=M.out.trans s
  clear m s
  have H:=zc (bdO HY.out Q)
  go_wp2_with fail
  refine (zdb C z n j o S4 a4 _ Z.out).mono ?_
  cases E:zj C false a4 with
  |error p=>
   rintro e X ⟨rfl,A⟩
   have K:Hid (Below j w X):=(I.out.back O.out).trans A
   have U:Hid (zaJ C q= .error p):=bdE H.out E
   unfold Pan
   go_wp2
   refine⟨rfl,?_⟩
   rw[U.out]
   exact⟨rfl,K.out⟩
  |ok N=>
   rintro e X ⟨rfl,S5,m,s⟩
   have L:=zc m
   have J:Hid (IS o S w S5 X):=O.out.trans s
   clear m s
   have V:=zc (bdO H.out E)
   go_wp2_with fail
   refine (zhh C z n j o _ ⟨some ⟨X.heap.size,0,none⟩,1⟩ S5 N.1 [⟨0,N.2,zw,sNone⟩] _ (L.out.alloc _) hC (by simp) (by simp) (zjG L.out 100 (imL (zaU ⟨0,N.2,zw,sNone⟩)))).mono ?_
   cases D:impFromI C [⟨0,N.2,zw,sNone⟩] N.1 with
   |error p=>
    rintro e w6 ⟨rfl,A⟩
    have K:Hid (Below j w w6):=(I.out.back (J.out.alloc _)).trans A
    have U:Hid (zaJ C q= .error p):=V.out.trans D
    unfold Pan
    go_wp2
    refine⟨rfl,?_⟩
    rw[U.out]
    exact⟨rfl,K.out⟩
   |ok a6=>
    rintro e w6 ⟨rfl,S6,m,s⟩
    have af:=zc m
    have aa:Hid (IS o S w S6 w6):=(J.out.alloc _).trans s
    clear m s
    have ad:=zc (V.out.trans D)
    go_wp2
    go_end0
    rw[ad.out]
    exact⟨rfl,S6,af.out,aa.out⟩
theorem zpM (C:Cx) (z n j o:Nat) (S:Sv) (q:PS) (w:World) (h:IM C z n j o S q w) (hC:zbf C) (hk:((ze C q.pos).kind==3)=false) (h1:isT C q.pos 4 zJ=false) (h2:isT C q.pos 4 zw=false):
  Calls Tryz.prog 149 #[.pointer (some ⟨o,0,none⟩)] w (zQ C z n j o (zaJ C q) id (fun _=>.tuple #[]) S w):=by
 have M:=zc h
 have ad:=zcH
 have HY:Hid (zaJ C q=bd (zj C false q) fun b=>impFromI C [⟨0,b.2,sDefault,sNone⟩] b.1):=by show _=_;rw[zaJ,hk,h1,h2];rfl
 clear h
 go_enter Tryz.func149,Tryz.ntmps149
 go_wp2_with fail
 refine (zbr C z n j o S q _ M.out).mono ?_
 rintro e w1 ⟨rfl,A⟩
 unfold tkV
 have ac:Hid (IM C z n j o S q w1):=M.out.later A
 have O:Hid (IS o S w S w1):=IS.below A
 clear A
 go_wp2_with fail
 refine (zK C z n j o S q 4 zJ _ ac.out (by decide)).mono ?_
 rintro e w2 ⟨rfl,m,s⟩
 rw[h1] at m ⊢
 have Y:=zc m
 have V:Hid (IS o S w S w2):=O.out.trans s
 clear m s
 go_wp2_with fail
 refine (zK C z n j o S q 4 zw _ Y.out (by decide)).mono ?_
 rintro e w3 ⟨rfl,m,s⟩
 rw[h2] at m ⊢
 have aa:=zc m
 have I:Hid (IS o S w S w3):=V.out.trans s
 clear m s
 go_wp2_with fail
 refine (zdb C z n j o S q _ aa.out).mono ?_
 cases L:zj C false q with
 |error p=>
  rintro e N ⟨rfl,A⟩
  have U:Hid (Below j w N):=(M.out.back I.out).trans A
  have HX:Hid (zaJ C q= .error p):=bdE HY.out L
  unfold Pan
  go_wp2
  refine⟨rfl,?_⟩
  rw[HX.out]
  exact⟨rfl,U.out⟩
 |ok J=>
  rintro e N ⟨rfl,S4,m,s⟩
  have H:=zc m
  have K:Hid (IS o S w S4 N):=I.out.trans s
  clear m s
  have E:=zc (bdO HY.out L)
  go_wp2_with fail
  refine (zhh C z n j o _ ⟨some ⟨N.heap.size,0,none⟩,1⟩ S4 J.1 [⟨0,J.2,sDefault,sNone⟩] _ (H.out.alloc _) hC (by simp) (by simp) (zjG H.out 100 (imL (zaU ⟨0,J.2,sDefault,sNone⟩)))).mono ?_
  cases D:impFromI C [⟨0,J.2,sDefault,sNone⟩] J.1 with
  |error p=>
   rintro e Z ⟨rfl,A⟩
   have U:Hid (Below j w Z):=(M.out.back (K.out.alloc _)).trans A
   have HX:Hid (zaJ C q= .error p):=E.out.trans D
   unfold Pan
   go_wp2
   refine⟨rfl,?_⟩
   rw[HX.out]
   exact⟨rfl,U.out⟩
  |ok a5=>
   rintro e Z ⟨rfl,S5,m,s⟩
   have X:=zc m
   have Q:Hid (IS o S w S5 Z):=(K.out.alloc _).trans s
   clear m s
   have ab:=zc (E.out.trans D)
   go_wp2
   go_end0
   rw[ab.out]
   exact⟨rfl,S5,X.out,Q.out⟩
theorem zpN (C:Cx) (z n j o:Nat) (S:Sv) (q:PS) (w:World) (h:IM C z n j o S q w) (D:zbf C):
  Calls Tryz.prog 149 #[.pointer (some ⟨o,0,none⟩)] w (zQ C z n j o (zaJ C q) id (fun _=>.tuple #[]) S w):=by
 cases A:((ze C q.pos).kind==3) with
 |true=>exact zpJ C z n j o S q w h D A
 |false=>
  cases E:isT C q.pos 4 zJ with
  |true=>exact zpK C z n j o S q w h D A E
  |false=>
   cases H:isT C q.pos 4 zw with
   |true=>exact zpL C z n j o S q w h D A E H
   |false=>exact zpM C z n j o S q w h D A E H
end Go.Proofs.YticdggnnpjachaaGreat
