/-
  What impl's imp answers: the walk.
  What impl's exp answers: the walk.
  What impl's kind answers,and side,if expr answers so: the walks.
  What impl's stmt answers,if expr answers so: the walk.
  What impl's program of the printer answers,if expr answers so: the walk.
  What impl's sum answers,if expr answers so,and what expr answers,kind by kind: the walks.
  What impl's expr answers,whole. No walk is zr.
  What impl.Print answers: the walk.
  What importList of impl's parser answers: the walk.
  What importFrom of impl's parser answers: the walk.
  What importItem of impl's parser answers: the walks.
-/
import Derived.Deep.CutBlock
import Derived.Test.YticdggnnpjachaaGreatCbImplBuilderToImplPrintB
namespace Go.Proofs.YticdggnnpjachaaGreat
set_option maxRecDepth 100000
set_option maxHeartbeats 12800000
open Go.RowKit Go.PlainAid Go.Sort
theorem zca (c:PC) (t:ByteArray) (j:List ByteArray) (w:World) (h:PP c t w) (n:(zt t j).size≤140737488355328) (D:j.length≤4294967296):
  Calls Tryz.prog 57 #[.slice (some ⟨w.heap.size,0,none⟩) j.length j.length,.pointer (some ⟨c.b,0,none⟩)] (w.alloc (.cells (j.map Value.string).toArray 9)).drew (PO c (zt t j) w):=by
 have o:Below w.heap.size w (w.alloc (.cells (j.map Value.string).toArray 9)).drew:=((Below.refl _ _).alloc (Nat.le_refl _) _).drew
 refine (zjs c t j w.heap.size _ (h.later o) (heap_alloc_new w _) n D).mono ?_
 rintro e H ⟨A,z,E,q⟩
 exact⟨A,z,(o.mono h.1.2).trans E,(KeepB.of_below o).trans q⟩
def zcb (x:Im):ByteArray:=
 if x.first.toList==[42] then ({data:=#[105,109,112,111,114,116,32]}:ByteArray)++({data:=#[42,32,97,115,32]}:ByteArray)++x.loc
 else if x.first.toList==[100,101,102,97,117,108,116] then ({data:=#[105,109,112,111,114,116,32]}:ByteArray)++x.loc
 else ({data:=#[105,109,112,111,114,116,32]}:ByteArray)++zbE x.first x.loc
theorem zpp {x:Im} (e:(x.first.toList==[42])=true):zcb x=({data:=#[105,109,112,111,114,116,32]}:ByteArray)++({data:=#[42,32,97,115,32]}:ByteArray)++x.loc:=by rw[zcb,e];rfl
theorem zpq {x:Im} (e:(x.first.toList==[42])=false) (j:(x.first.toList==[100,101,102,97,117,108,116])=true):zcb x=({data:=#[105,109,112,111,114,116,32]}:ByteArray)++x.loc:=by rw[zcb,e,j];rfl
theorem zpr {x:Im} (e:(x.first.toList==[42])=false) (j:(x.first.toList==[100,101,102,97,117,108,116])=false):zcb x=({data:=#[105,109,112,111,114,116,32]}:ByteArray)++zbE x.first x.loc:=by rw[zcb,e,j];rfl
theorem zbL (a b:Array UInt8):(⟨a++b⟩:ByteArray)=⟨a⟩++⟨b⟩:=by
 apply ByteArray.ext
 simp
theorem zeq (x:Im):zZ x=zcb x++({data:=#[32,102,114,111,109,32]}:ByteArray)++zat x.spec++({data:=#[59]}:ByteArray)++({data:=#[10]}:ByteArray):=by
 have q:({data:=#[59,10]}:ByteArray)={data:=#[59]}++{data:=#[10]}:=zbL #[59] #[10]
 have j:({data:=#[105,109,112,111,114,116,32,42,32,97,115,32]}:ByteArray)={data:=#[105,109,112,111,114,116,32]}++{data:=#[42,32,97,115,32]}:=zbL #[105,109,112,111,114,116,32] #[42,32,97,115,32]
 have n:({data:=#[105,109,112,111,114,116,32,123,32]}:ByteArray)={data:=#[105,109,112,111,114,116,32]}++{data:=#[123,32]}:=zbL #[105,109,112,111,114,116,32] #[123,32]
 have o:({data:=#[32,125,32,102,114,111,109,32]}:ByteArray)={data:=#[32,125]}++{data:=#[32,102,114,111,109,32]}:=zbL #[32,125] #[32,102,114,111,109,32]
 unfold zZ zcb zbE
 rw[q,j,n,o]
 split
 ·simp only[ByteArray.append_assoc]
 ·split<;>simp only[ByteArray.append_assoc]
theorem zps (x:Im):(({data:=#[105,109,112,111,114,116,32]}:ByteArray)).size≤(zZ x).size:=by
 rw[zeq,zcb]
 split
 ·simp only[ByteArray.size_append];omega
 ·split<;>(simp only[ByteArray.size_append];omega)
theorem zpt (c:PC) (t:ByteArray) (x:Im) (w:World) (h:PP c t w) (q:(t++zZ x).size≤140737488355328) (h1:x.spec.size≤1099511627776):
  Calls Tryz.prog 118 #[.pointer (some ⟨c.gp,0,none⟩),imV x] w (PO c (t++zZ x) w):=by
 have HP:=zc h
 have J:=zc q
 clear h q
 have HZ:Hid (t.size+(zZ x).size≤140737488355328∧(({data:=#[105,109,112,111,114,116,32]}:ByteArray)).size≤(zZ x).size):=⟨by have:=J.out;rw[ByteArray.size_append] at this;exact this,zps x⟩
 unfold imV
 go_enter Tryz.func118,Tryz.ntmps118
 go_upto_region 1 with fail
 have Z:Hid (Below w.heap.size w (w.alloc (.cells #[.string x.spec,.string x.first,.string x.loc] 100))):=(Below.refl _ _).alloc (Nat.le_refl _) _
 refine zau (R:=fun W=>W.heap[w.heap.size]? =some (.cells #[.string x.spec,.string x.first,.string x.loc] 100 (0,0))∧PP c t W∧Below c.B w W∧KeepB c.b w W) ⟨heap_alloc_new w _,HP.out.later Z.out,Z.out.mono HP.out.1.2,KeepB.of_below Z.out⟩ ?_
 obtain⟨gx,E⟩: ∃gx,gx=w.heap.size:=⟨_,rfl⟩
 have L:gx≠c.b:=by
  rw[E]
  obtain⟨ag,hc⟩:=zbK HP.out.1.1
  have:=(Array.getElem?_eq_some_iff.1 hc).1
  omega
 rw[←E]
 rintro W ⟨hx,hp,hb,hk⟩
 clear E Z
 have X:=zc hx
 have H:=zc hp
 have K:=zc hb
 have Y:=zc hk
 clear hx hp hb hk
 obtain⟨x0,x1,x2,xf⟩:=zb2 X.out
 obtain⟨p0,p1,p2,p3,p4,p5,pf⟩:=zv H.out.2.2.1
 go_wp2_with fail
 refine (zb3 c t [{data:=#[105,109,112,111,114,116,32]}] W H.out (by have:=HZ.out;simp only[zt,List.foldl_cons,List.foldl_nil,ByteArray.size_append] at this ⊢;omega) (by simp)).mono ?_
 rintro e U ⟨rfl,N,V,D⟩
 have z:=zc N
 have ac:=zc (K.out.trans V)
 have ab:=zc (Y.out.trans D)
 have X1:=zc ((D _ _ _ _ X.out L (by decide)).trans X.out)
 clear N V D p0 p1 p2 p3 p4 p5 pf x0 x1 x2 xf H K Y X
 obtain⟨x0,x1,x2,xf⟩:=zb2 X1.out
 obtain⟨p0,p1,p2,p3,p4,p5,pf⟩:=zv z.out.2.2.1
 have Q:=(Array.getElem?_eq_some_iff.1 z.out.2.2.1).1
 have O:=(Array.getElem?_eq_some_iff.1 X1.out).1
 have q:=J.out
 go_upto_block 0 with fail
 go_cut [] from 12 to 37 (fun wx=>PP c (t++zcb x) wx∧Below c.B U wx∧KeepB c.b U wx)
 case first=>
  cases e1:(x.first.toList==[42]) with
  |true=>
   have A:Hid (zcb x=({data:=#[105,109,112,111,114,116,32]}:ByteArray)++({data:=#[42,32,97,115,32]}:ByteArray)++x.loc):=zpp e1
   go_wp2_with fail
   go_region_with (go_at_call 57;refine (zca c _ [{data:=#[42,32,97,115,32]},x.loc] U z.out (by have:=J.out;rw[zeq,A.out] at this;simp only[zt,List.foldl_cons,List.foldl_nil,ByteArray.size_append] at this ⊢;omega) (by simp)).mono ?_;rintro e w2 ⟨rfl,j,o,n⟩)
   all_goals (go_wp2_with fail;go_meet;exact⟨by rw[A.out];simp only[zt,List.foldl_cons,List.foldl_nil,←ByteArray.append_assoc] at j ⊢;exact j,o,n⟩)
  |false=>
   cases e2:(x.first.toList==[100,101,102,97,117,108,116]) with
   |true=>
    have A:Hid (zcb x=({data:=#[105,109,112,111,114,116,32]}:ByteArray)++x.loc):=zpq e1 e2
    go_wp2_with fail
    go_region_with (go_at_call 57;refine (zca c _ [x.loc] U z.out (by have:=J.out;rw[zeq,A.out] at this;simp only[zt,List.foldl_cons,List.foldl_nil,ByteArray.size_append] at this ⊢;omega) (by simp)).mono ?_;rintro e w2 ⟨rfl,j,o,n⟩)
    all_goals (go_wp2_with fail;go_meet;exact⟨by rw[A.out];simp only[zt,List.foldl_cons,List.foldl_nil,←ByteArray.append_assoc] at j ⊢;exact j,o,n⟩)
   |false=>
    have A:Hid (zcb x=({data:=#[105,109,112,111,114,116,32]}:ByteArray)++zbE x.first x.loc):=zpr e1 e2
    go_wp2_with fail
    refine (zhc c _ x.first x.loc U z.out (by have:=J.out;rw[zeq,A.out] at this;simp only[zt,List.foldl_cons,List.foldl_nil,ByteArray.size_append] at this ⊢;omega)).mono ?_
    rintro e w2 ⟨rfl,j,o,n⟩
    go_wp2_with fail
    go_meet
    exact⟨by rw[A.out];simp only[zt,List.foldl_cons,List.foldl_nil,←ByteArray.append_assoc] at j ⊢;exact j,o,n⟩
 case rest=>
 obtain⟨j,o,n⟩:=hcut
 rename_i w2
 have I:=zc j
 have aa:=zc (ac.out.trans o)
 have af:=zc (ab.out.trans n)
 have X2:=zc ((n _ _ _ _ X1.out L (by decide)).trans X1.out)
 clear j o n p0 p1 p2 p3 p4 p5 pf x0 x1 x2 xf Q O
 obtain⟨p0,p1,p2,p3,p4,p5,pf⟩:=zv I.out.2.2.1
 obtain⟨x0,x1,x2,xf⟩:=zb2 X2.out
 have Q:=(Array.getElem?_eq_some_iff.1 I.out.2.2.1).1
 have O:=(Array.getElem?_eq_some_iff.1 X2.out).1
 go_wp2_with fail
 go_region_with (first|(go_at_call 117;refine (zfI x.spec _ h1).mono ?_;rintro e w' ⟨rfl,rfl⟩)|(go_at_call 57;refine (zca c _ [{data:=#[32,102,114,111,109,32]},zat x.spec,{data:=#[59]},{data:=#[10]}] _ I.out (by have:=J.out;rw[zeq] at this;simp only[zt,List.foldl_cons,List.foldl_nil,ByteArray.size_append] at this ⊢;omega) (by simp)).mono ?_;rintro e w3 ⟨rfl,M,ae,ad⟩))
 all_goals (go_wp2;go_end0;exact⟨rfl,(by rw[zeq];simp only[zt,List.foldl_cons,List.foldl_nil,←ByteArray.append_assoc] at M ⊢;exact M),aa.out.trans ae,af.out.trans ad⟩)
def zcc (x:Ep):ByteArray:=
 if x.kind==3 then ({data:=#[101,120,112,111,114,116,32]}:ByteArray)++({data:=#[42,32,102,114,111,109,32]}:ByteArray)++zat x.spec
 else if x.kind==2 then ({data:=#[101,120,112,111,114,116,32]}:ByteArray)++zbE x.loc x.name++({data:=#[32,102,114,111,109,32]}:ByteArray)++zat x.spec
 else ({data:=#[101,120,112,111,114,116,32]}:ByteArray)++zbE x.loc x.name
theorem zpu {x:Ep} (e:(x.kind==3)=true):zcc x=({data:=#[101,120,112,111,114,116,32]}:ByteArray)++({data:=#[42,32,102,114,111,109,32]}:ByteArray)++zat x.spec:=by rw[zcc,e];rfl
theorem zpv {x:Ep} (e:(x.kind==3)=false) (j:(x.kind==2)=true):zcc x=({data:=#[101,120,112,111,114,116,32]}:ByteArray)++zbE x.loc x.name++({data:=#[32,102,114,111,109,32]}:ByteArray)++zat x.spec:=by rw[zcc,e,j];rfl
theorem zpw {x:Ep} (e:(x.kind==3)=false) (j:(x.kind==2)=false):zcc x=({data:=#[101,120,112,111,114,116,32]}:ByteArray)++zbE x.loc x.name:=by rw[zcc,e,j];rfl
theorem zdF (x:Ep):zbi x=zcc x++({data:=#[59]}:ByteArray)++({data:=#[10]}:ByteArray):=by
 have z:({data:=#[59,10]}:ByteArray)={data:=#[59]}++{data:=#[10]}:=zbL #[59] #[10]
 have j:({data:=#[101,120,112,111,114,116,32,42,32,102,114,111,109,32]}:ByteArray)={data:=#[101,120,112,111,114,116,32]}++{data:=#[42,32,102,114,111,109,32]}:=zbL #[101,120,112,111,114,116,32] #[42,32,102,114,111,109,32]
 have n:({data:=#[101,120,112,111,114,116,32,123,32]}:ByteArray)={data:=#[101,120,112,111,114,116,32]}++{data:=#[123,32]}:=zbL #[101,120,112,111,114,116,32] #[123,32]
 have o:({data:=#[32,125,32,102,114,111,109,32]}:ByteArray)={data:=#[32,125]}++{data:=#[32,102,114,111,109,32]}:=zbL #[32,125] #[32,102,114,111,109,32]
 have q:({data:=#[32,125,59,10]}:ByteArray)={data:=#[32,125]}++{data:=#[59,10]}:=zbL #[32,125] #[59,10]
 unfold zbi zcc zbE
 rw[q,z,j,n,o]
 split
 ·simp only[ByteArray.append_assoc]
 ·split<;>simp only[ByteArray.append_assoc]
theorem zpx (x:Ep):(({data:=#[101,120,112,111,114,116,32]}:ByteArray)).size≤(zbi x).size:=by
 rw[zdF,zcc]
 split
 ·simp only[ByteArray.size_append];omega
 ·split<;>(simp only[ByteArray.size_append];omega)
theorem zpy (c:PC) (t:ByteArray) (x:Ep) (w:World) (h:PP c t w) (D:(t++zbi x).size≤140737488355328) (h1:x.spec.size≤1099511627776):
  Calls Tryz.prog 119 #[.pointer (some ⟨c.gp,0,none⟩),epV x] w (PO c (t++zbi x) w):=by
 have HP:=zc h
 have J:=zc D
 clear h D
 have HZ:Hid (t.size+(zbi x).size≤140737488355328∧(({data:=#[101,120,112,111,114,116,32]}:ByteArray)).size≤(zbi x).size):=⟨by have:=J.out;rw[ByteArray.size_append] at this;exact this,zpx x⟩
 unfold epV
 go_enter Tryz.func119,Tryz.ntmps119
 go_upto_region 1 with fail
 have HW:Hid (Below w.heap.size w (w.alloc (.cells #[.int .i64 x.kind,.string x.name,.string x.loc,.string x.spec] 102))):=(Below.refl _ _).alloc (Nat.le_refl _) _
 refine zau (R:=fun W=>W.heap[w.heap.size]? =some (.cells #[.int .i64 x.kind,.string x.name,.string x.loc,.string x.spec] 102 (0,0))∧PP c t W∧Below c.B w W∧KeepB c.b w W) ⟨heap_alloc_new w _,HP.out.later HW.out,HW.out.mono HP.out.1.2,KeepB.of_below HW.out⟩ ?_
 obtain⟨gx,Q⟩: ∃gx,gx=w.heap.size:=⟨_,rfl⟩
 have ad:gx≠c.b:=by
  rw[Q]
  obtain⟨am,hc⟩:=zbK HP.out.1.1
  have:=(Array.getElem?_eq_some_iff.1 hc).1
  omega
 rw[←Q]
 rintro W ⟨hx,hp,hb,hk⟩
 clear Q HW
 have X:=zc hx
 have U:=zc hp
 have ac:=zc hb
 have ah:=zc hk
 clear hx hp hb hk
 obtain⟨x0,x1,x2,x3,xf⟩:=zdn X.out
 obtain⟨V,p1,L,p3,O,Z,N⟩:=zv U.out.2.2.1
 go_wp2_with fail
 refine (zb3 c t [{data:=#[101,120,112,111,114,116,32]}] W U.out (by have:=HZ.out;simp only[zt,List.foldl_cons,List.foldl_nil,ByteArray.size_append] at this ⊢;omega) (by simp)).mono ?_
 rintro e w1 ⟨rfl,ae,ag,M⟩
 have E:=zc ae
 have ak:=zc (ac.out.trans ag)
 have aj:=zc (ah.out.trans M)
 have X1:=zc ((M _ _ _ _ X.out ad (by decide)).trans X.out)
 clear ae ag M V p1 L p3 O Z N x0 x1 x2 x3 xf U ac ah X
 obtain⟨x0,x1,x2,x3,xf⟩:=zdn X1.out
 obtain⟨V,p1,L,p3,O,Z,N⟩:=zv E.out.2.2.1
 have ab:=(Array.getElem?_eq_some_iff.1 E.out.2.2.1).1
 have Y:=(Array.getElem?_eq_some_iff.1 X1.out).1
 have D:=J.out
 go_upto_block 0 with fail
 go_cut [] from 12 to 45 (fun wx=>PP c (t++zcc x) wx∧Below c.B w1 wx∧KeepB c.b w1 wx)
 case first=>
  cases e1:(x.kind==3) with
  |true=>
   have I:Hid (zcc x=({data:=#[101,120,112,111,114,116,32]}:ByteArray)++({data:=#[42,32,102,114,111,109,32]}:ByteArray)++zat x.spec):=zpu e1
   go_wp2_with fail
   go_region_with (first|(go_at_call 117;refine (zfI x.spec _ h1).mono ?_;rintro e w' ⟨rfl,rfl⟩)|(go_at_call 57;refine (zca c _ [{data:=#[42,32,102,114,111,109,32]},zat x.spec] w1 E.out (by have:=J.out;rw[zdF,I.out] at this;simp only[zt,List.foldl_cons,List.foldl_nil,ByteArray.size_append] at this ⊢;omega) (by simp)).mono ?_;rintro e w2 ⟨rfl,j,q,o⟩))
   all_goals (go_wp2_with fail;go_meet;exact⟨by rw[I.out];simp only[zt,List.foldl_cons,List.foldl_nil,←ByteArray.append_assoc] at j ⊢;exact j,q,o⟩)
  |false=>
   cases e2:(x.kind==2) with
   |true=>
    have I:Hid (zcc x=({data:=#[101,120,112,111,114,116,32]}:ByteArray)++zbE x.loc x.name++({data:=#[32,102,114,111,109,32]}:ByteArray)++zat x.spec):=zpv e1 e2
    go_wp2_with fail
    refine (zhc c _ x.loc x.name w1 E.out (by have:=J.out;rw[zdF,I.out] at this;simp only[zt,List.foldl_cons,List.foldl_nil,ByteArray.size_append] at this ⊢;omega)).mono ?_
    rintro e w3 ⟨rfl,n,A,z⟩
    have H:=zc n
    have X3:=zc ((z _ _ _ _ X1.out ad (by decide)).trans X1.out)
    have aa:=zc A
    have K:=zc z
    clear n A z V p1 L p3 O Z N x0 x1 x2 x3 xf ab Y
    obtain⟨V,p1,L,p3,O,Z,N⟩:=zv H.out.2.2.1
    obtain⟨x0,x1,x2,x3,xf⟩:=zdn X3.out
    have ab:=(Array.getElem?_eq_some_iff.1 H.out.2.2.1).1
    have Y:=(Array.getElem?_eq_some_iff.1 X3.out).1
    go_wp2_with fail
    go_region_with (first|(go_at_call 117;refine (zfI x.spec _ h1).mono ?_;rintro e w' ⟨rfl,rfl⟩)|(go_at_call 57;refine (zca c _ [{data:=#[32,102,114,111,109,32]},zat x.spec] w3 H.out (by have:=J.out;rw[zdF,I.out] at this;simp only[zt,List.foldl_cons,List.foldl_nil,ByteArray.size_append] at this ⊢;omega) (by simp)).mono ?_;rintro e w2 ⟨rfl,j,q,o⟩))
    all_goals (go_wp2_with fail;go_meet;exact⟨by rw[I.out];simp only[zt,List.foldl_cons,List.foldl_nil,←ByteArray.append_assoc] at j ⊢;exact j,aa.out.trans q,K.out.trans o⟩)
   |false=>
    have I:Hid (zcc x=({data:=#[101,120,112,111,114,116,32]}:ByteArray)++zbE x.loc x.name):=zpw e1 e2
    go_wp2_with fail
    refine (zhc c _ x.loc x.name w1 E.out (by have:=J.out;rw[zdF,I.out] at this;simp only[zt,List.foldl_cons,List.foldl_nil,ByteArray.size_append] at this ⊢;omega)).mono ?_
    rintro e w2 ⟨rfl,j,q,o⟩
    go_wp2_with fail
    go_meet
    exact⟨by rw[I.out];simp only[zt,List.foldl_cons,List.foldl_nil,←ByteArray.append_assoc] at j ⊢;exact j,q,o⟩
 case rest=>
 obtain⟨j,q,o⟩:=hcut
 rename_i w2
 have af:=zc j
 have ai:=zc (ak.out.trans q)
 have al:=zc (aj.out.trans o)
 clear j q o V p1 L p3 O Z N x0 x1 x2 x3 xf ab Y
 obtain⟨V,p1,L,p3,O,Z,N⟩:=zv af.out.2.2.1
 go_wp2_with fail
 refine (zb3 c _ [{data:=#[59]},{data:=#[10]}] _ af.out (by have:=J.out;rw[zdF] at this;simp only[zt,List.foldl_cons,List.foldl_nil,ByteArray.size_append] at this ⊢;omega) (by simp)).mono ?_
 rintro e w3 ⟨rfl,n,A,z⟩
 have H:=zc n
 have aa:=zc (ai.out.trans A)
 have K:=zc (al.out.trans z)
 clear n A z V p1 L p3 O Z N
 go_wp2
 go_end0
 exact⟨rfl,(by have n:=H.out;rw[zdF];simp only[zt,List.foldl_cons,List.foldl_nil,←ByteArray.append_assoc] at n ⊢;exact n),aa.out,K.out⟩
theorem zhd (c:PC) (t:ByteArray) (i:Nat) (w:World) (h:PP c t w) (A:i<c.m.ex.length):
  Calls Tryz.prog 190 #[.pointer (some ⟨c.gp,0,none⟩),.int .i64 (i:Int)] w fun e D=>e= .returned (.int .i64 (c.m.ex.getD i zg).kind)∧D=w:=by
 obtain⟨M,Q,J,V,z,N,K⟩:=zv h.2.2.1
 obtain⟨g,o,H,q,U,I,L,O,X⟩:=h.2.1.expr A
 rw[o] at z
 have E:(i:Int)<(c.m.ex.length:Int):=by omega
 obtain⟨n,j⟩: ∃n,(c.m.ex.getD i zg).kind=n:=⟨_,rfl⟩
 rw[j] at q
 rw[j]
 clear h o j
 go_enter Tryz.func190,Tryz.ntmps190
 go_wp2
 go_ret
 exact⟨rfl,rfl⟩
def zcd (c:PC) (i:Nat):Prop:=∀(t:ByteArray) (w:World),PP c t w→(t++prX c.m.ex i).size≤140737488355328→Calls Tryz.prog 162 #[.pointer (some ⟨c.gp,0,none⟩),.int .i64 (i:Int)] w (PO c (t++prX c.m.ex i) w)
theorem zfJ (c:PC) (t:ByteArray) (i:Nat) (o:Bool) (w:World) (ok:zcd c i) (h:PP c t w) (j:(t++zE o (prX c.m.ex i)).size≤140737488355328):
  Calls Tryz.prog 189 #[.pointer (some ⟨c.gp,0,none⟩),.int .i64 (i:Int),.bool o] w (PO c (t++zE o (prX c.m.ex i)) w):=by
 have OK:=zc ok
 have HP:=zc h
 clear ok h
 obtain⟨X,Z,Q,p3,V,Y,U⟩:=zv HP.out.2.2.1
 cases o with
 |false=>
  have I:Hid ((t++prX c.m.ex i).size≤140737488355328):=j
  clear j
  go_enter Tryz.func189,Tryz.ntmps189
  go_wp2_with fail
  refine (OK.out t w HP.out I.out).mono ?_
  rintro e w1 ⟨rfl,z,A,n⟩
  have H:=zc z
  have E:=zc A
  have D:=zc n
  clear z A n X Z Q p3 V Y U
  go_wp2
  refine bodyPost_ret (results_none rfl _ _ _) rfl ?_
  exact⟨rfl,H.out,E.out,D.out⟩
 |true=>
  have I:Hid ((t++(zn++prX c.m.ex i++za0)).size≤140737488355328):=j
  clear j
  go_enter Tryz.func189,Tryz.ntmps189
  go_wp2_with fail
  refine (zb3 c t [zn] w HP.out (by have:=I.out;simp only[zt,List.foldl_cons,List.foldl_nil,ByteArray.size_append] at this ⊢;omega) (by simp)).mono ?_
  rintro e w1 ⟨rfl,z,A,n⟩
  have H:=zc z
  have E:=zc A
  have D:=zc n
  clear z A n X Z Q p3 V Y U
  go_wp2_with fail
  refine (OK.out _ w1 H.out (by have:=I.out;simp only[zt,List.foldl_cons,List.foldl_nil,ByteArray.size_append] at this ⊢;omega)).mono ?_
  rintro e w2 ⟨rfl,L,O,N⟩
  have M:=zc L
  have aa:=zc (E.out.trans O)
  have ac:=zc (D.out.trans N)
  clear L O N
  obtain⟨X,Z,Q,p3,V,Y,U⟩:=zv M.out.2.2.1
  go_wp2_with fail
  refine (zb3 c _ [za0] w2 M.out (by have:=I.out;simp only[zt,List.foldl_cons,List.foldl_nil,ByteArray.size_append] at this ⊢;omega) (by simp)).mono ?_
  rintro e w3 ⟨rfl,q,J,K⟩
  have ad:=zc q
  have ae:=zc (aa.out.trans J)
  have ab:=zc (ac.out.trans K)
  clear q J K X Z Q p3 V Y U
  go_wp2
  go_end0
  exact⟨rfl,(by have q:=ad.out;unfold zE;rw[if_pos rfl];simp only[zt,List.foldl_cons,List.foldl_nil,←ByteArray.append_assoc] at q ⊢;exact q),ae.out,ab.out⟩
def zaO (k:Int) (n:ByteArray):ByteArray:=
 if n.toList==[42,100,101,102,97,117,108,116] then ({data:=#[101,120,112,111,114,116,32]}:ByteArray)++({data:=#[100,101,102,97,117,108,116]}:ByteArray)++({data:=#[32]}:ByteArray)
 else if k==1 then ({data:=#[108,101,116,32]}:ByteArray)++n++({data:=#[32,61,32]}:ByteArray)
 else if k==2 then ({data:=#[102,117,110,99,116,105,111,110,32]}:ByteArray)++n++({data:=#[40,41,32,123,32,114,101,116,117,114,110,32]}:ByteArray)
 else if k==3 then n++({data:=#[32,61,32]}:ByteArray)
 else if k==4 then ({data:=#[112,114,105,110,116,40]}:ByteArray)
 else if k==5 then ({data:=#[116,104,114,111,119,32]}:ByteArray)
 else ({data:=#[102,97,105,108,32]}:ByteArray)
def zaI (k:Int) (n:ByteArray):ByteArray:=
 if n.toList==[42,100,101,102,97,117,108,116] then ({data:=#[59]}:ByteArray) else if k==2 then ({data:=#[59,32,125]}:ByteArray) else if k==4 then ({data:=#[41,59]}:ByteArray) else ({data:=#[59]}:ByteArray)
theorem zjt {k:Int} {n:ByteArray} (e:(n.toList==[42,100,101,102,97,117,108,116])=true):zaO k n=({data:=#[101,120,112,111,114,116,32]}:ByteArray)++({data:=#[100,101,102,97,117,108,116]}:ByteArray)++({data:=#[32]}:ByteArray):=by rw[zaO,e];rfl
theorem zju {k:Int} {n:ByteArray} (e:(n.toList==[42,100,101,102,97,117,108,116])=true):zaI k n=({data:=#[59]}:ByteArray):=by rw[zaI,e];rfl
theorem zjv {k:Int} {n:ByteArray} (e:(n.toList==[42,100,101,102,97,117,108,116])=false) (j:(k==1)=true):zaO k n=({data:=#[108,101,116,32]}:ByteArray)++n++({data:=#[32,61,32]}:ByteArray):=by rw[zaO,e,j];rfl
theorem zjw {k:Int} {n:ByteArray} (e:(n.toList==[42,100,101,102,97,117,108,116])=false) (j:(k==1)=true):zaI k n=({data:=#[59]}:ByteArray):=by have q:=eq_of_beq j;subst q;rw[zaI,e];rfl
theorem zjx {k:Int} {n:ByteArray} (e:(n.toList==[42,100,101,102,97,117,108,116])=false) (j:(k==1)=false) (o:(k==2)=true):zaO k n=({data:=#[102,117,110,99,116,105,111,110,32]}:ByteArray)++n++({data:=#[40,41,32,123,32,114,101,116,117,114,110,32]}:ByteArray):=by rw[zaO,e,j,o];rfl
theorem zjy {k:Int} {n:ByteArray} (e:(n.toList==[42,100,101,102,97,117,108,116])=false) (j:(k==2)=true):zaI k n=({data:=#[59,32,125]}:ByteArray):=by rw[zaI,e,j];rfl
theorem zjz {k:Int} {n:ByteArray} (e:(n.toList==[42,100,101,102,97,117,108,116])=false) (j:(k==1)=false) (q:(k==2)=false) (o:(k==3)=true):zaO k n=n++({data:=#[32,61,32]}:ByteArray):=by rw[zaO,e,j,q,o];rfl
theorem zj0 {k:Int} {n:ByteArray} (e:(n.toList==[42,100,101,102,97,117,108,116])=false) (j:(k==3)=true):zaI k n=({data:=#[59]}:ByteArray):=by have q:=eq_of_beq j;subst q;rw[zaI,e];rfl
theorem zj1 {k:Int} {n:ByteArray} (e:(n.toList==[42,100,101,102,97,117,108,116])=false) (z:(k==1)=false) (q:(k==2)=false) (o:(k==3)=false) (j:(k==4)=true):zaO k n=({data:=#[112,114,105,110,116,40]}:ByteArray):=by rw[zaO,e,z,q,o,j];rfl
theorem zj2 {k:Int} {n:ByteArray} (e:(n.toList==[42,100,101,102,97,117,108,116])=false) (o:(k==2)=false) (j:(k==4)=true):zaI k n=({data:=#[41,59]}:ByteArray):=by rw[zaI,e,o,j];rfl
theorem zj3 {k:Int} {n:ByteArray} (e:(n.toList==[42,100,101,102,97,117,108,116])=false) (z:(k==1)=false) (q:(k==2)=false) (j:(k==3)=false) (o:(k==4)=false) (A:(k==5)=true):zaO k n=({data:=#[116,104,114,111,119,32]}:ByteArray):=by rw[zaO,e,z,q,j,o,A];rfl
theorem zj4 {k:Int} {n:ByteArray} (e:(n.toList==[42,100,101,102,97,117,108,116])=false) (o:(k==2)=false) (j:(k==4)=false):zaI k n=({data:=#[59]}:ByteArray):=by rw[zaI,e,o,j];rfl
theorem zj5 {k:Int} {n:ByteArray} (e:(n.toList==[42,100,101,102,97,117,108,116])=false) (z:(k==1)=false) (q:(k==2)=false) (j:(k==3)=false) (o:(k==4)=false) (A:(k==5)=false):zaO k n=({data:=#[102,97,105,108,32]}:ByteArray):=by rw[zaO,e,z,q,j,o,A];rfl
theorem zj6 {k:Int} {n:ByteArray} (e:(n.toList==[42,100,101,102,97,117,108,116])=false) (o:(k==2)=false) (j:(k==4)=false):zaI k n=({data:=#[59]}:ByteArray):=by rw[zaI,e,o,j];rfl
theorem zj7 (k:Int) (n e:ByteArray):zcP k n e=zaO k n++e++zaI k n++({data:=#[10]}:ByteArray):=by
 have J:({data:=#[59,10]}:ByteArray)=({data:=#[59]}:ByteArray)++({data:=#[10]}:ByteArray):=zbL #[59] #[10]
 have D:({data:=#[59,32,125,10]}:ByteArray)=({data:=#[59,32,125]}:ByteArray)++({data:=#[10]}:ByteArray):=zbL #[59,32,125] #[10]
 have E:({data:=#[41,59,10]}:ByteArray)=({data:=#[41,59]}:ByteArray)++({data:=#[10]}:ByteArray):=zbL #[41,59] #[10]
 have H:({data:=#[101,120,112,111,114,116,32,100,101,102,97,117,108,116,32]}:ByteArray)=({data:=#[101,120,112,111,114,116,32,100,101,102,97,117,108,116]}:ByteArray)++({data:=#[32]}:ByteArray):=zbL #[101,120,112,111,114,116,32,100,101,102,97,117,108,116] #[32]
 have I:({data:=#[101,120,112,111,114,116,32,100,101,102,97,117,108,116]}:ByteArray)=({data:=#[101,120,112,111,114,116,32]}:ByteArray)++({data:=#[100,101,102,97,117,108,116]}:ByteArray):=zbL #[101,120,112,111,114,116,32] #[100,101,102,97,117,108,116]
 unfold zcP zaz
 rw[J,D,E,H,I]
 cases h:(n.toList==[42,100,101,102,97,117,108,116]) with
 |true=>rw[zjt h,zju h];simp only[↓reduceIte,ByteArray.append_assoc]
 |false=>
  cases o:(k==1) with
  |true=>rw[zjv h o,zjw h o];simp only[↓reduceIte,Bool.false_eq_true,ByteArray.append_assoc]
  |false=>
   cases j:(k==2) with
   |true=>rw[zjx h o j,zjy h j];simp only[↓reduceIte,Bool.false_eq_true,ByteArray.append_assoc]
   |false=>
    cases z:(k==3) with
    |true=>rw[zjz h o j z,zj0 h z];simp only[↓reduceIte,Bool.false_eq_true,ByteArray.append_assoc]
    |false=>
     cases q:(k==4) with
     |true=>rw[zj1 h o j z q,zj2 h j q];simp only[↓reduceIte,Bool.false_eq_true,ByteArray.append_assoc]
     |false=>
      cases A:(k==5) with
      |true=>rw[zj3 h o j z q A,zj4 h j q];simp only[↓reduceIte,Bool.false_eq_true,ByteArray.append_assoc]
      |false=>
       rw[zj5 h o j z q A,zj6 h j q];simp only[↓reduceIte,Bool.false_eq_true,ByteArray.append_assoc]
theorem zpz (k:Int) (n e:ByteArray):(zcP k n e).size=(zaO k n).size+e.size+(zaI k n).size+1:=by
 rw[zj7,ByteArray.size_append,ByteArray.size_append,ByteArray.size_append]
 rfl
theorem zp0 (c:PC) (t:ByteArray) (k:Int) (n:ByteArray) (i:Nat) (w:World) (ok:zcd c i) (h:PP c t w) (J:(t++zcP k n (prX c.m.ex i)).size≤140737488355328):
  Calls Tryz.prog 120 #[.pointer (some ⟨c.gp,0,none⟩),.agg #[.int .i64 k,.string n,.int .i64 (i:Int)]] w (PO c (t++zcP k n (prX c.m.ex i)) w):=by
 have HP:=zc h
 have OK:=zc ok
 have L:Hid (t.size+((zaO k n).size+(prX c.m.ex i).size+(zaI k n).size+1)≤140737488355328):=by show _≤_;rw[ByteArray.size_append,zpz] at J;exact J
 clear h J ok
 go_enter Tryz.func120,Tryz.ntmps120
 go_upto_region 1 with fail
 have HW:Hid (Below w.heap.size w (w.alloc (.cells #[.int .i64 k,.string n,.int .i64 (i:Int)] 106))):=(Below.refl _ _).alloc (Nat.le_refl _) _
 refine zau (R:=fun W=>W.heap[w.heap.size]? =some (.cells #[.int .i64 k,.string n,.int .i64 (i:Int)] 106 (0,0))∧PP c t W∧Below c.B w W∧KeepB c.b w W) ⟨heap_alloc_new w _,HP.out.later HW.out,HW.out.mono HP.out.1.2,KeepB.of_below HW.out⟩ ?_
 obtain⟨gx,Q⟩: ∃gx,gx=w.heap.size:=⟨_,rfl⟩
 have ah:gx≠c.b:=by
  rw[Q]
  obtain⟨aq,hc⟩:=zbK HP.out.1.1
  have:=(Array.getElem?_eq_some_iff.1 hc).1
  omega
 rw[←Q]
 rintro N ⟨hx,hp,hb,hk⟩
 clear Q HW
 have X1:=zc hx
 have D:=zc hp
 have af:=zc hb
 have ae:=zc hk
 clear hx hp hb hk
 obtain⟨x0,x1,x2,xf⟩:=zb2 X1.out
 obtain⟨p0,p1,p2,p3,p4,p5,pf⟩:=zv D.out.2.2.1
 have an:=(Array.getElem?_eq_some_iff.1 D.out.2.2.1).1
 have ak:=(Array.getElem?_eq_some_iff.1 X1.out).1
 go_upto_block 0 with fail
 go_cut [4] from 5 to 76 (fun s4 wx=>s4= .string (zaI k n)∧PP c (t++zaO k n) wx∧Below c.B N wx∧KeepB c.b N wx)
 case first=>
  cases E:(n.toList==[42,100,101,102,97,117,108,116]) with
  |true=>
   have A:Hid (zaO k n=({data:=#[101,120,112,111,114,116,32]}:ByteArray)++({data:=#[100,101,102,97,117,108,116]}:ByteArray)++({data:=#[32]}:ByteArray)):=zjt E
   have H:Hid (zaI k n=({data:=#[59]}:ByteArray)):=zju E
   have I:Hid ((zt t [{data:=#[101,120,112,111,114,116,32]},{data:=#[100,101,102,97,117,108,116]},{data:=#[32]}]).size≤140737488355328):=by show _≤_;have:=L.out;rw[A.out] at this;simp only[zt,List.foldl_cons,List.foldl_nil,ByteArray.size_append] at this ⊢;omega
   go_wp2_with fail
   refine (zb3 c t [{data:=#[101,120,112,111,114,116,32]},{data:=#[100,101,102,97,117,108,116]},{data:=#[32]}] N D.out I.out (by simp)).mono ?_
   rintro e U ⟨rfl,j,q,o⟩
   go_wp2_with fail
   go_meet
   exact⟨by rw[H.out],by rw[A.out];simp only[zt,List.foldl_cons,List.foldl_nil,←ByteArray.append_assoc] at j ⊢;exact j,q,o⟩
  |false=>
   cases O:(k==1) with
   |true=>
    have A:Hid (zaO k n=({data:=#[108,101,116,32]}:ByteArray)++n++({data:=#[32,61,32]}:ByteArray)):=zjv E O
    have H:Hid (zaI k n=({data:=#[59]}:ByteArray)):=zjw E O
    have I:Hid ((zt t [{data:=#[108,101,116,32]},n,{data:=#[32,61,32]}]).size≤140737488355328):=by show _≤_;have:=L.out;rw[A.out] at this;simp only[zt,List.foldl_cons,List.foldl_nil,ByteArray.size_append] at this ⊢;omega
    go_wp2_with fail
    go_region_with (go_at_call 57;refine (zca c t [{data:=#[108,101,116,32]},n,{data:=#[32,61,32]}] N D.out I.out (by simp)).mono ?_;rintro e U ⟨rfl,j,q,o⟩)
    all_goals (go_wp2_with fail;go_meet;exact⟨by rw[H.out],by rw[A.out];simp only[zt,List.foldl_cons,List.foldl_nil,←ByteArray.append_assoc] at j ⊢;exact j,q,o⟩)
   |false=>
    cases M:(k==2) with
    |true=>
     have A:Hid (zaO k n=({data:=#[102,117,110,99,116,105,111,110,32]}:ByteArray)++n++({data:=#[40,41,32,123,32,114,101,116,117,114,110,32]}:ByteArray)):=zjx E O M
     have H:Hid (zaI k n=({data:=#[59,32,125]}:ByteArray)):=zjy E M
     have I:Hid ((zt t [{data:=#[102,117,110,99,116,105,111,110,32]},n,{data:=#[40,41,32,123,32,114,101,116,117,114,110,32]}]).size≤140737488355328):=by show _≤_;have:=L.out;rw[A.out] at this;simp only[zt,List.foldl_cons,List.foldl_nil,ByteArray.size_append] at this ⊢;omega
     go_wp2_with fail
     go_region_with (go_at_call 57;refine (zca c t [{data:=#[102,117,110,99,116,105,111,110,32]},n,{data:=#[40,41,32,123,32,114,101,116,117,114,110,32]}] N D.out I.out (by simp)).mono ?_;rintro e U ⟨rfl,j,q,o⟩)
     all_goals (go_wp2_with fail;go_meet;exact⟨by rw[H.out],by rw[A.out];simp only[zt,List.foldl_cons,List.foldl_nil,←ByteArray.append_assoc] at j ⊢;exact j,q,o⟩)
    |false=>
     cases h3:(k==3) with
     |true=>
      have A:Hid (zaO k n=n++({data:=#[32,61,32]}:ByteArray)):=zjz E O M h3
      have H:Hid (zaI k n=({data:=#[59]}:ByteArray)):=zj0 E h3
      have I:Hid ((zt t [n,{data:=#[32,61,32]}]).size≤140737488355328):=by show _≤_;have:=L.out;rw[A.out] at this;simp only[zt,List.foldl_cons,List.foldl_nil,ByteArray.size_append] at this ⊢;omega
      go_wp2_with fail
      go_region_with (go_at_call 57;refine (zca c t [n,{data:=#[32,61,32]}] N D.out I.out (by simp)).mono ?_;rintro e U ⟨rfl,j,q,o⟩)
      all_goals (go_wp2_with fail;go_meet;exact⟨by rw[H.out],by rw[A.out];simp only[zt,List.foldl_cons,List.foldl_nil,←ByteArray.append_assoc] at j ⊢;exact j,q,o⟩)
     |false=>
      cases V:(k==4) with
      |true=>
       have A:Hid (zaO k n=({data:=#[112,114,105,110,116,40]}:ByteArray)):=zj1 E O M h3 V
       have H:Hid (zaI k n=({data:=#[41,59]}:ByteArray)):=zj2 E M V
       have I:Hid ((zt t [{data:=#[112,114,105,110,116,40]}]).size≤140737488355328):=by show _≤_;have:=L.out;rw[A.out] at this;simp only[zt,List.foldl_cons,List.foldl_nil,ByteArray.size_append] at this ⊢;omega
       go_wp2_with fail
       refine (zb3 c t [{data:=#[112,114,105,110,116,40]}] N D.out I.out (by simp)).mono ?_
       rintro e U ⟨rfl,j,q,o⟩
       go_wp2_with fail
       go_meet
       exact⟨by rw[H.out],by rw[A.out];exact j,q,o⟩
      |false=>
       cases h5:(k==5) with
       |true=>
        have A:Hid (zaO k n=({data:=#[116,104,114,111,119,32]}:ByteArray)):=zj3 E O M h3 V h5
        have H:Hid (zaI k n=({data:=#[59]}:ByteArray)):=zj4 E M V
        have I:Hid ((zt t [{data:=#[116,104,114,111,119,32]}]).size≤140737488355328):=by show _≤_;have:=L.out;rw[A.out] at this;simp only[zt,List.foldl_cons,List.foldl_nil,ByteArray.size_append] at this ⊢;omega
        go_wp2_with fail
        refine (zb3 c t [{data:=#[116,104,114,111,119,32]}] N D.out I.out (by simp)).mono ?_
        rintro e U ⟨rfl,j,q,o⟩
        go_wp2_with fail
        go_meet
        exact⟨by rw[H.out],by rw[A.out];exact j,q,o⟩
       |false=>
        have A:Hid (zaO k n=({data:=#[102,97,105,108,32]}:ByteArray)):=zj5 E O M h3 V h5
        have H:Hid (zaI k n=({data:=#[59]}:ByteArray)):=zj6 E M V
        have I:Hid ((zt t [{data:=#[102,97,105,108,32]}]).size≤140737488355328):=by show _≤_;have:=L.out;rw[A.out] at this;simp only[zt,List.foldl_cons,List.foldl_nil,ByteArray.size_append] at this ⊢;omega
        go_wp2_with fail
        refine (zb3 c t [{data:=#[102,97,105,108,32]}] N D.out I.out (by simp)).mono ?_
        rintro e U ⟨rfl,j,q,o⟩
        go_wp2_with fail
        go_meet
        exact⟨by rw[H.out],by rw[A.out];exact j,q,o⟩
 case rest=>
 rename_i s4 U
 obtain⟨rfl,j,q,o⟩:=hcut
 have ao:=zc j
 have ad:=zc (af.out.trans q)
 have aj:=zc (ae.out.trans o)
 have X2:=zc ((o _ _ _ _ X1.out ah (by decide)).trans X1.out)
 clear j q o p0 p1 p2 p3 p4 p5 pf x0 x1 x2 xf an ak
 obtain⟨x0,x1,x2,xf⟩:=zb2 X2.out
 go_wp2_with fail
 refine (OK.out _ _ ao.out (by have:=L.out;simp only[ByteArray.size_append] at this ⊢;omega)).mono ?_
 rintro e w3 ⟨rfl,K,Y,X⟩
 have ab:=zc K
 have am:=zc (ad.out.trans Y)
 have ag:=zc (aj.out.trans X)
 clear K Y X x0 x1 x2 xf
 obtain⟨p0,p1,p2,p3,p4,p5,pf⟩:=zv ab.out.2.2.1
 go_wp2_with fail
 refine (zb3 c _ [zaI k n,{data:=#[10]}] _ ab.out (by have:=L.out;have z:(({data:=#[10]}:ByteArray)).size=1:=rfl;simp only[zt,List.foldl_cons,List.foldl_nil,ByteArray.size_append,z] at this ⊢;omega) (by simp)).mono ?_
 rintro e w4 ⟨rfl,ac,Z,aa⟩
 have ap:=zc ac
 have al:=zc (am.out.trans Z)
 have ai:=zc (ag.out.trans aa)
 clear ac Z aa p0 p1 p2 p3 p4 p5 pf
 go_wp2
 go_end0
 exact⟨rfl,(by have K:=ap.out;rw[zj7];simp only[zt,List.foldl_cons,List.foldl_nil,←ByteArray.append_assoc] at K ⊢;exact K),al.out,ai.out⟩
theorem zfK {α:Type} {l:List α} {j:Nat} (h:j<l.length): ∃x,l[j]? =some x:=⟨_,List.getElem?_eq_getElem h⟩
theorem zp1 (l:List ByteArray):l.map Value.string=l.flatMap (fun x=>[Value.string x]):=by
 induction l with
 |nil=>rfl
 |cons x l j=>rw[List.map_cons,List.flatMap_cons,j];rfl
theorem zp2 (t:ByteArray):t++sNone=t:=by
 cases t with
 |mk d=>
  show ByteArray.append _ _=_
  simp[ByteArray.append]
theorem zj8 (m:Md):(acc epF m.ep (acc zZ m.im (acc rqT m.rq sNone))).size≤(zb1 m).size:=zdD _ _ _
theorem zj9 (m:Md):(acc zZ m.im (acc rqT m.rq sNone)).size≤(zb1 m).size:=Nat.le_trans (zdD _ _ _) (zj8 m)
theorem zp3 (m:Md):(acc rqT m.rq sNone).size≤(zb1 m).size:=Nat.le_trans (zdD _ _ _) (zj9 m)
theorem zjA (s:ByteArray):rqT s=({data:=#[105,109,112,111,114,116,32]}:ByteArray)++zat s++({data:=#[59]}:ByteArray)++({data:=#[10]}:ByteArray):=by
 have j:({data:=#[59,10]}:ByteArray)={data:=#[59]}++{data:=#[10]}:=zbL #[59] #[10]
 rw[rqT,j]
 simp only[ByteArray.append_assoc]
theorem zjB {x:Ep} (h:(x.loc.toList==[42,100,101,102,97,117,108,116])=false):epF x=zbi x:=by rw[epF,h];rfl
theorem zp4 {x:Ep} (h:(x.loc.toList==[42,100,101,102,97,117,108,116])=true):epF x=sNone:=by rw[epF,h];rfl
theorem zp5 (c:PC) (w:World) (ok: ∀i,i<c.m.ex.length→zcd c i) (hs: ∀s∈c.m.st,0≤s.expr∧s.expr<(c.m.ex.length:Int)) (hm:Small c.m) (h:PP c sNone w) (ae:(zb1 c.m).size≤140737488355328):
  Calls Tryz.prog 59 #[.pointer (some ⟨c.gp,0,none⟩)] w (PO c (zb1 c.m) w):=by
 have aj:=zc h
 have SM:=zc hm
 have OK:=zc ok
 have HS:=zc hs
 have HL:=zc ae
 obtain⟨f1,f2,f3,f4,f5⟩:=hm.few
 clear h hm ok hs ae
 obtain⟨p0,p1,Y,p3,p4,p5,Z⟩:=zv aj.out.2.2.1
 go_enter Tryz.func59,Tryz.ntmps59
 go_wp2
 go_loopg [16] c.m.rq.length (fun k i wr=>∃j:Nat,i= .int .i64 j∧j+k=c.m.rq.length∧PP c (acc rqT (c.m.rq.take j) sNone) wr∧Below c.B w wr∧KeepB c.b w wr)
 case atStart=>exact⟨0,rfl,by omega,aj.out,Below.refl _ _,fun _ _ _ _ _ _ _=>rfl⟩
 case round=>
  obtain⟨j,rfl,hj,J,L,K⟩:=hrel
  have q:=zc J
  have D:=zc L
  have E:=zc K
  clear J L K p0 p1 Y p3 p4 p5 Z
  obtain⟨p0,p1,Y,p3,p4,p5,Z⟩:=zv q.out.2.2.1
  by_cases V:j<c.m.rq.length
  ·have H:(j:Int)<(c.m.rq.length:Int):=by omega
   obtain⟨x,o⟩:=zfK V
   have A:=List.mem_of_getElem? o
   have HZ:Hid ((acc rqT (c.m.rq.take j) sNone++rqT x).size≤140737488355328):=by show _≤_;rw[←zbY rqT o];exact Nat.le_trans (zdr rqT c.m.rq (j+1) sNone) (Nat.le_trans (zp3 c.m) HL.out)
   have HX:=zc o
   obtain⟨M,I⟩: ∃M,M=j+1:=⟨_,rfl⟩
   have ej:(j:Int)+1=(M:Int):=by omega
   have HJ:=zc I
   clear I
   obtain⟨g,hg,k0⟩: ∃g,c.S.rq.a=some ⟨g,0,none⟩∧wr.cell? ⟨g,j,none⟩=some (.string x):=by
    obtain⟨g,hg,hc⟩:=OwnR.elem (f:=fun x=>[Value.string x]) (m:=1) (fun _=>rfl) (show OwnR wr c.base 9 1 c.S.rq c.m.rq.length (c.m.rq.flatMap fun x=>[Value.string x]) by rw[←zp1];exact q.out.2.1.rq) o
    have k0:=hc 0 (by omega)
    simp only[Nat.mul_one,Nat.add_zero,List.getElem?_cons_zero] at k0
    exact⟨g,hg,k0⟩
   have ag:=SM.out.rq x A
   have HG:Hid (Value.slice c.S.rq.a c.m.rq.length c.S.rq.cap=Value.slice (some ⟨g,0,none⟩) c.m.rq.length c.S.rq.cap):=by show _=_;rw[hg]
   clear hg o A p0 p1 Y p3 p4 p5 Z
   rw[HG.out]
   obtain⟨p0,p1,Y,p3,p4,p5,Z⟩:=zv q.out.2.2.1
   have al:=(Array.getElem?_eq_some_iff.1 q.out.2.2.1).1
   go_wp2_with fail
   go_region_with (first|(go_at_call 117;refine (zfI x _ (by omega)).mono ?_;rintro e w' ⟨rfl,rfl⟩)|(go_at_call 57;refine (zca c _ [{data:=#[105,109,112,111,114,116,32]},zat x,{data:=#[59]},{data:=#[10]}] wr q.out (by have:=HZ.out;rw[zjA] at this;simp only[zt,List.foldl_cons,List.foldl_nil,ByteArray.size_append] at this ⊢;omega) (by simp)).mono ?_;rintro e w3 ⟨rfl,ac,ah,ai⟩))
   all_goals
    have ak:=zc ac
    have an:=zc (D.out.trans ah)
    have am:=zc (E.out.trans ai)
    clear ac ah ai p0 p1 Y p3 p4 p5 Z al k0
    go_wp2
    rw[←HG.out]
    go_roundg (gk-1)
    case rel=>exact⟨M,rfl,by have:=HJ.out;omega,by rw[HJ.out,zbY rqT HX.out];exact (by have ac:=ak.out;rw[zjA];simp only[zt,List.foldl_cons,List.foldl_nil,←ByteArray.append_assoc] at ac ⊢;exact ac),an.out,am.out⟩
    case measure=>omega
  ·have H: ¬(j:Int)<(c.m.rq.length:Int):=by omega
   obtain rfl:j=c.m.rq.length:=by omega
   have HN:Hid (PP c (acc zZ (c.m.im.take 0) (acc rqT c.m.rq sNone)) wr):=by have:=q.out;rw[List.take_length] at this;exact this
   go_wp2
   go_loopg [35] c.m.im.length (fun k i wr=>∃j:Nat,i= .int .i64 j∧j+k=c.m.im.length∧PP c (acc zZ (c.m.im.take j) (acc rqT c.m.rq sNone)) wr∧Below c.B w wr∧KeepB c.b w wr)
   case atStart=>exact⟨0,rfl,by omega,HN.out,D.out,E.out⟩
   case round=>
    obtain⟨j,rfl,hj,J,L,K⟩:=hrel
    clear q D E HN
    have q:=zc J
    have D:=zc L
    have E:=zc K
    clear J L K p0 p1 Y p3 p4 p5 Z
    obtain⟨p0,p1,Y,p3,p4,p5,Z⟩:=zv q.out.2.2.1
    by_cases V:j<c.m.im.length
    ·have H:(j:Int)<(c.m.im.length:Int):=by omega
     obtain⟨x,o⟩:=zfK V
     have A:=List.mem_of_getElem? o
     have HZ:Hid ((acc zZ (c.m.im.take j) (acc rqT c.m.rq sNone)++zZ x).size≤140737488355328):=by show _≤_;rw[←zbY zZ o];exact Nat.le_trans (zdr zZ c.m.im (j+1) (acc rqT c.m.rq sNone)) (Nat.le_trans (zj9 c.m) HL.out)
     have HX:=zc o
     obtain⟨M,I⟩: ∃M,M=j+1:=⟨_,rfl⟩
     have ej:(j:Int)+1=(M:Int):=by omega
     have HJ:=zc I
     clear I
     obtain⟨g,hg,z⟩:=OwnR.elem (f:=imL) (m:=3) (fun _=>rfl) q.out.2.1.im o
     have k0:=z 0 (by omega)
     have k1:=z 1 (by omega)
     have k2:=z 2 (by omega)
     simp only[imL,Nat.add_zero,List.getElem?_cons_zero,List.getElem?_cons_succ] at k0 k1 k2
     clear z
     have ag:=(SM.out.im x A).1
     have HG:Hid (Value.slice c.S.im.a c.m.im.length c.S.im.cap=Value.slice (some ⟨g,0,none⟩) c.m.im.length c.S.im.cap):=by show _=_;rw[hg]
     clear hg o A p0 p1 Y p3 p4 p5 Z
     rw[HG.out]
     go_upto_region 8 with fail
     have X:Hid (Below wr.heap.size wr (wr.alloc (.cells #[.string x.spec,.string x.first,.string x.loc] 100))):=(Below.refl _ _).alloc (Nat.le_refl _) _
     refine zau (R:=fun W=>W.heap[wr.heap.size]? =some (.cells #[.string x.spec,.string x.first,.string x.loc] 100 (0,0))∧PP c (acc zZ (c.m.im.take j) (acc rqT c.m.rq sNone)) W∧Below c.B w W∧KeepB c.b w W) ⟨heap_alloc_new wr _,q.out.later X.out,D.out.trans (X.out.mono q.out.1.2),E.out.trans (KeepB.of_below X.out)⟩ ?_
     obtain⟨gx,N⟩: ∃gx,gx=wr.heap.size:=⟨_,rfl⟩
     rw[←N]
     clear k0 k1 k2 X
     rintro W ⟨xb,J,L,K⟩
     clear N q D E
     have XB:=zc xb
     have q:=zc J
     have D:=zc L
     have E:=zc K
     clear xb J L K
     obtain⟨x0,x1,x2,xf⟩:=zb2 XB.out
     go_wp2_with fail
     refine (zpt c _ x W q.out HZ.out (by omega)).mono ?_
     rintro e W2 ⟨rfl,U,Q,O⟩
     have aa:=zc U
     have ad:=zc (D.out.trans Q)
     have ab:=zc (E.out.trans O)
     clear U Q O x0 x1 x2 xf
     go_wp2
     rw[←HG.out]
     go_roundg (gk-1)
     case rel=>exact⟨M,rfl,by have:=HJ.out;omega,by rw[HJ.out,zbY zZ HX.out];exact aa.out,ad.out,ab.out⟩
     case measure=>omega
    ·have H: ¬(j:Int)<(c.m.im.length:Int):=by omega
     obtain rfl:j=c.m.im.length:=by omega
     have HN:Hid (PP c (acc epF (c.m.ep.take 0) (acc zZ c.m.im (acc rqT c.m.rq sNone))) wr):=by have:=q.out;rw[List.take_length] at this;exact this
     go_wp2
     go_loopg [49] c.m.ep.length (fun k i wr=>∃j:Nat,i= .int .i64 j∧j+k=c.m.ep.length∧PP c (acc epF (c.m.ep.take j) (acc zZ c.m.im (acc rqT c.m.rq sNone))) wr∧Below c.B w wr∧KeepB c.b w wr)
     case atStart=>exact⟨0,rfl,by omega,HN.out,D.out,E.out⟩
     case round=>
      obtain⟨j,rfl,hj,J,L,K⟩:=hrel
      clear q D E HN
      have q:=zc J
      have D:=zc L
      have E:=zc K
      clear J L K p0 p1 Y p3 p4 p5 Z
      obtain⟨p0,p1,Y,p3,p4,p5,Z⟩:=zv q.out.2.2.1
      by_cases V:j<c.m.ep.length
      ·have H:(j:Int)<(c.m.ep.length:Int):=by omega
       obtain⟨x,o⟩:=zfK V
       have A:=List.mem_of_getElem? o
       have HZ:Hid ((acc epF (c.m.ep.take j) (acc zZ c.m.im (acc rqT c.m.rq sNone))++epF x).size≤140737488355328):=by show _≤_;rw[←zbY epF o];exact Nat.le_trans (zdr epF c.m.ep (j+1) (acc zZ c.m.im (acc rqT c.m.rq sNone))) (Nat.le_trans (zj8 c.m) HL.out)
       have HX:=zc o
       obtain⟨M,I⟩: ∃M,M=j+1:=⟨_,rfl⟩
       have ej:(j:Int)+1=(M:Int):=by omega
       have HJ:=zc I
       clear I
       obtain⟨g,hg,z⟩:=OwnR.elem (f:=epL) (m:=4) (fun _=>rfl) q.out.2.1.ep o
       have k0:=z 0 (by omega)
       have k1:=z 1 (by omega)
       have k2:=z 2 (by omega)
       have k3:=z 3 (by omega)
       simp only[epL,Nat.add_zero,List.getElem?_cons_zero,List.getElem?_cons_succ] at k0 k1 k2 k3
       clear z
       have ag:=(SM.out.ep x A).1
       have HG:Hid (Value.slice c.S.ep.a c.m.ep.length c.S.ep.cap=Value.slice (some ⟨g,0,none⟩) c.m.ep.length c.S.ep.cap):=by show _=_;rw[hg]
       clear hg o A p0 p1 Y p3 p4 p5 Z
       rw[HG.out]
       go_upto_region 13 with fail
       have X:Hid (Below wr.heap.size wr (wr.alloc (.cells #[.int .i64 x.kind,.string x.name,.string x.loc,.string x.spec] 102))):=(Below.refl _ _).alloc (Nat.le_refl _) _
       refine zau (R:=fun W=>W.heap[wr.heap.size]? =some (.cells #[.int .i64 x.kind,.string x.name,.string x.loc,.string x.spec] 102 (0,0))∧PP c (acc epF (c.m.ep.take j) (acc zZ c.m.im (acc rqT c.m.rq sNone))) W∧Below c.B w W∧KeepB c.b w W) ⟨heap_alloc_new wr _,q.out.later X.out,D.out.trans (X.out.mono q.out.1.2),E.out.trans (KeepB.of_below X.out)⟩ ?_
       obtain⟨gx,N⟩: ∃gx,gx=wr.heap.size:=⟨_,rfl⟩
       rw[←N]
       clear k0 k1 k2 k3 X
       rintro W ⟨xb,J,L,K⟩
       clear N q D E
       have XB:=zc xb
       have q:=zc J
       have D:=zc L
       have E:=zc K
       clear xb J L K
       obtain⟨x0,x1,x2,x3,xf⟩:=zdn XB.out
       cases e1:(x.loc.toList==[42,100,101,102,97,117,108,116]) with
       |false=>
        go_wp2_with fail
        refine (zpy c _ x W q.out (by have:=HZ.out;rw[zjB e1] at this;exact this) (by omega)).mono ?_
        rintro e W2 ⟨rfl,U,Q,O⟩
        have aa:=zc U
        have ad:=zc (D.out.trans Q)
        have ab:=zc (E.out.trans O)
        clear U Q O x0 x1 x2 x3 xf
        go_wp2
        rw[←HG.out]
        go_roundg (gk-1)
        case rel=>exact⟨M,rfl,by have:=HJ.out;omega,by rw[HJ.out,zbY epF HX.out];exact (by rw[zjB e1];exact aa.out),ad.out,ab.out⟩
        case measure=>omega
       |true=>
        go_wp2
        rw[←HG.out]
        go_roundg (gk-1)
        case rel=>exact⟨M,rfl,by have:=HJ.out;omega,by rw[HJ.out,zbY epF HX.out];exact (by rw[zp4 e1,zp2];exact q.out),D.out,E.out⟩
        case measure=>omega
      ·have H: ¬(j:Int)<(c.m.ep.length:Int):=by omega
       obtain rfl:j=c.m.ep.length:=by omega
       have HN:Hid (PP c (acc (zcn c.m.ex) (c.m.st.take 0) (zbI c.m)) wr):=by have:=q.out;rw[List.take_length] at this;exact this
       go_wp2
       go_loopg [66] c.m.st.length (fun k i wr=>∃j:Nat,i= .int .i64 j∧j+k=c.m.st.length∧PP c (acc (zcn c.m.ex) (c.m.st.take j) (zbI c.m)) wr∧Below c.B w wr∧KeepB c.b w wr)
       case atStart=>exact⟨0,rfl,by omega,HN.out,D.out,E.out⟩
       case round=>
        obtain⟨j,rfl,hj,J,L,K⟩:=hrel
        clear q D E HN
        have q:=zc J
        have D:=zc L
        have E:=zc K
        clear J L K p0 p1 Y p3 p4 p5 Z
        obtain⟨p0,p1,Y,p3,p4,p5,Z⟩:=zv q.out.2.2.1
        by_cases V:j<c.m.st.length
        ·have H:(j:Int)<(c.m.st.length:Int):=by omega
         obtain⟨x,o⟩:=zfK V
         have A:=List.mem_of_getElem? o
         have HZ:Hid ((acc (zcn c.m.ex) (c.m.st.take j) (zbI c.m)++(zcn c.m.ex) x).size≤140737488355328):=by show _≤_;rw[←zbY (zcn c.m.ex) o];exact Nat.le_trans (zdr (zcn c.m.ex) c.m.st (j+1) (zbI c.m)) HL.out
         have HX:=zc o
         obtain⟨M,I⟩: ∃M,M=j+1:=⟨_,rfl⟩
         have ej:(j:Int)+1=(M:Int):=by omega
         have HJ:=zc I
         clear I
         obtain⟨ei,af⟩: ∃n:Nat,x.expr=(n:Int):=⟨x.expr.toNat,by have:=HS.out x A;omega⟩
         have ao:ei<c.m.ex.length:=by have:=HS.out x A;omega
         obtain⟨g,hg,z⟩:=OwnR.elem (f:=smL) (m:=3) (fun _=>rfl) q.out.2.1.st o
         have k0:=z 0 (by omega)
         have k1:=z 1 (by omega)
         have k2:=z 2 (by omega)
         simp only[smL,Nat.add_zero,List.getElem?_cons_zero,List.getElem?_cons_succ,af] at k0 k1 k2
         clear z
         have HG:Hid (Value.slice c.S.st.a c.m.st.length c.S.st.cap=Value.slice (some ⟨g,0,none⟩) c.m.st.length c.S.st.cap):=by show _=_;rw[hg]
         clear hg o A p0 p1 Y p3 p4 p5 Z
         rw[HG.out]
         go_upto_region 19 with fail
         have X:Hid (Below wr.heap.size wr (wr.alloc (.cells #[.int .i64 x.kind,.string x.name,.int .i64 (ei:Int)] 106))):=(Below.refl _ _).alloc (Nat.le_refl _) _
         refine zau (R:=fun W=>W.heap[wr.heap.size]? =some (.cells #[.int .i64 x.kind,.string x.name,.int .i64 (ei:Int)] 106 (0,0))∧PP c (acc (zcn c.m.ex) (c.m.st.take j) (zbI c.m)) W∧Below c.B w W∧KeepB c.b w W) ⟨heap_alloc_new wr _,q.out.later X.out,D.out.trans (X.out.mono q.out.1.2),E.out.trans (KeepB.of_below X.out)⟩ ?_
         obtain⟨gx,N⟩: ∃gx,gx=wr.heap.size:=⟨_,rfl⟩
         rw[←N]
         clear k0 k1 k2 X
         rintro W ⟨xb,J,L,K⟩
         clear N q D E
         have XB:=zc xb
         have q:=zc J
         have D:=zc L
         have E:=zc K
         clear xb J L K
         obtain⟨x0,x1,x2,xf⟩:=zb2 XB.out
         go_wp2_with fail
         refine (zp0 c _ x.kind x.name ei W (OK.out ei ao) q.out (by have:=HZ.out;rw[zcn,af,Int.toNat_natCast] at this;exact this)).mono ?_
         rintro e W2 ⟨rfl,U,Q,O⟩
         have aa:=zc U
         have ad:=zc (D.out.trans Q)
         have ab:=zc (E.out.trans O)
         clear U Q O x0 x1 x2 xf
         go_wp2
         rw[←HG.out]
         go_roundg (gk-1)
         case rel=>exact⟨M,rfl,by have:=HJ.out;omega,by rw[HJ.out,zbY (zcn c.m.ex) HX.out];exact (by rw[zcn,af,Int.toNat_natCast];exact aa.out),ad.out,ab.out⟩
         case measure=>omega
        ·have H: ¬(j:Int)<(c.m.st.length:Int):=by omega
         obtain rfl:j=c.m.st.length:=by omega
         have HN:Hid (PP c (zb1 c.m) wr):=by have:=q.out;rw[List.take_length] at this;exact this
         go_wp2
         go_end0
         exact⟨rfl,HN.out,D.out,E.out⟩
theorem zjC (c:PC) (t:ByteArray) (k K:Int) (A j O:ByteArray) (l r:Nat) (w:World) (Y:zcd c l) (U:zcd c r) (hr:r<c.m.ex.length) (h:PP c t w) (n:(t++(prX c.m.ex l++O++zE (zO (c.m.ex.getD r zg).kind) (prX c.m.ex r))).size≤140737488355328):
  Calls Tryz.prog 188 #[.pointer (some ⟨c.gp,0,none⟩),.agg #[.int .i64 k,.int .i64 K,.string A,.string j,.int .i64 (l:Int),.int .i64 (r:Int)],.string O] w (PO c (t++(prX c.m.ex l++O++zE (zO (c.m.ex.getD r zg).kind) (prX c.m.ex r))) w):=by
 have HP:=zc h
 obtain⟨X,L⟩: ∃X,(c.m.ex.getD r zg).kind=X:=⟨_,rfl⟩
 rw[L] at n ⊢
 have KK:=zc L
 have HL:Hid (t.size+((prX c.m.ex l).size+O.size+(zE (zO X) (prX c.m.ex r)).size)≤140737488355328):=by show _≤_;simp only[ByteArray.size_append] at n;exact n
 obtain⟨T,hT⟩: ∃T,T=prX c.m.ex l++O++zE (zO X) (prX c.m.ex r):=⟨_,rfl⟩
 rw[←hT]
 have HT:=zc hT
 have ah:=zc Y
 have ae:=zc U
 have HR:=zc hr
 clear h n Y U hr L hT
 go_enter Tryz.func188,Tryz.ntmps188
 go_upto_region 1 with fail
 have HW:Hid (Below w.heap.size w (w.alloc (.cells #[.int .i64 k,.int .i64 K,.string A,.string j,.int .i64 (l:Int),.int .i64 (r:Int)] 108))):=(Below.refl _ _).alloc (Nat.le_refl _) _
 refine zau (R:=fun W=>W.heap[w.heap.size]? =some (.cells #[.int .i64 k,.int .i64 K,.string A,.string j,.int .i64 (l:Int),.int .i64 (r:Int)] 108 (0,0))∧PP c t W∧Below c.B w W∧KeepB c.b w W) ⟨heap_alloc_new w _,HP.out.later HW.out,HW.out.mono HP.out.1.2,KeepB.of_below HW.out⟩ ?_
 obtain⟨gx,J⟩: ∃gx,gx=w.heap.size:=⟨_,rfl⟩
 have V:gx≠c.b:=by
  rw[J]
  obtain⟨ai,hc⟩:=zbK HP.out.1.1
  have:=(Array.getElem?_eq_some_iff.1 hc).1
  omega
 rw[←J]
 rintro w1 ⟨hx,z,D,o⟩
 clear J HW
 have X1:=zc hx
 have M:=zc z
 have ac:=zc D
 have ab:=zc o
 clear hx z D o
 obtain⟨x0,x1,x2,x3,x4,x5,xf⟩:=zv X1.out
 obtain⟨p0,p1,p2,p3,p4,p5,pf⟩:=zv M.out.2.2.1
 have I:=(Array.getElem?_eq_some_iff.1 M.out.2.2.1).1
 have E:=(Array.getElem?_eq_some_iff.1 X1.out).1
 go_wp2_with fail
 refine (zfJ c t l false w1 ah.out M.out (by have:=HL.out;simp only[zE,Bool.false_eq_true,↓reduceIte,ByteArray.size_append] at this ⊢;omega)).mono ?_
 rintro e w2 ⟨rfl,z,D,o⟩
 have N:=zc z
 have aa:=zc (ac.out.trans D)
 have af:=zc (ab.out.trans o)
 have X2:=zc ((o _ _ _ _ X1.out V (by decide)).trans X1.out)
 clear z D o p0 p1 p2 p3 p4 p5 pf x0 x1 x2 x3 x4 x5 xf I E
 obtain⟨x0,x1,x2,x3,x4,x5,xf⟩:=zv X2.out
 obtain⟨p0,p1,p2,p3,p4,p5,pf⟩:=zv N.out.2.2.1
 have I:=(Array.getElem?_eq_some_iff.1 N.out.2.2.1).1
 have E:=(Array.getElem?_eq_some_iff.1 X2.out).1
 go_wp2_with fail
 refine (zb3 c _ [O] w2 N.out (by have:=HL.out;simp only[zt,zE,Bool.false_eq_true,↓reduceIte,List.foldl_cons,List.foldl_nil,ByteArray.size_append] at this ⊢;omega) (by simp)).mono ?_
 rintro e Q ⟨rfl,z,D,o⟩
 have H:=zc z
 have ag:=zc (aa.out.trans D)
 have ad:=zc (af.out.trans o)
 have X3:=zc ((o _ _ _ _ X2.out V (by decide)).trans X2.out)
 clear z D o p0 p1 p2 p3 p4 p5 pf x0 x1 x2 x3 x4 x5 xf I E
 obtain⟨x0,x1,x2,x3,x4,x5,xf⟩:=zv X3.out
 obtain⟨p0,p1,p2,p3,p4,p5,pf⟩:=zv H.out.2.2.1
 have I:=(Array.getElem?_eq_some_iff.1 H.out.2.2.1).1
 have E:=(Array.getElem?_eq_some_iff.1 X3.out).1
 go_wp2_with fail
 have Z:=zc (H.out.later ((Below.refl Q.heap.size Q).drew))
 go_region_with (first|(go_at_call 190;refine (zhd c _ r _ Z.out HR.out).mono ?_;rintro e w' ⟨rfl,rfl⟩;rw[KK.out])|(go_at_call 158;refine (zfc _ _).mono ?_;rintro e w' ⟨rfl,rfl⟩)|(go_at_call 189;refine (zfJ c _ r (zO X) _ ae.out Z.out (by have:=HL.out;simp only[zt,show ∀q,zE false q=q from fun _=>rfl,List.foldl_cons,List.foldl_nil,ByteArray.size_append] at this ⊢;omega)).mono ?_;rintro e w4 ⟨rfl,z,D,o⟩))
 all_goals (go_wp2;go_end0;exact⟨rfl,(by rw[HT.out];simp only[zt,show ∀q,zE false q=q from fun _=>rfl,List.foldl_cons,List.foldl_nil,←ByteArray.append_assoc] at z ⊢;exact z),ag.out.trans ((((Below.refl Q.heap.size Q).drew).mono H.out.1.2).trans D),ad.out.trans ((KeepB.of_below ((Below.refl Q.heap.size Q).drew)).trans o)⟩)
theorem zp6 (c:PC) (t:ByteArray) (i:Nat) (j:Int) (o n:ByteArray) (l r:Int) (w:World) (h:PP c t w) (hi:i<c.m.ex.length) (I:c.m.ex.getD i zg=⟨1,j,o,n,l,r⟩) (hn: -9223372036854775808≤j∧j≤9223372036854775807) (q:(t++(strOfNums (zb9 j))).size≤140737488355328):
  Calls Tryz.prog 162 #[.pointer (some ⟨c.gp,0,none⟩),.int .i64 (i:Int)] w (PO c (t++(strOfNums (zb9 j))) w):=by
 have H:=zc h
 obtain⟨T,hT⟩: ∃T,T=strOfNums (zb9 j):=⟨_,rfl⟩
 rw[←hT] at q ⊢
 have HT:=zc hT
 have HL:=zc q
 clear h q hT
 obtain⟨p0,p1,p2,p3,p4,p5,pf⟩:=zv H.out.2.2.1
 obtain⟨g,hg,J,N,Z,M,Q,X,x5⟩:=H.out.2.1.expr hi
 rw[I] at N Z M Q X x5
 dsimp only at N Z M Q X x5
 rw[hg] at p4
 have ae:(i:Int)<(c.m.ex.length:Int):=by omega
 clear hg I
 go_enter Tryz.func162,Tryz.ntmps162
 go_upto_region 1 with fail
 have L:Hid (Below w.heap.size w (w.alloc (.cells #[.int .i64 1,.int .i64 j,.string o,.string n,.int .i64 l,.int .i64 r] 108))):=(Below.refl _ _).alloc (Nat.le_refl _) _
 refine zau (R:=fun W=>W.heap[w.heap.size]? =some (.cells #[.int .i64 1,.int .i64 j,.string o,.string n,.int .i64 l,.int .i64 r] 108 (0,0))∧PP c t W∧Below c.B w W∧KeepB c.b w W) ⟨heap_alloc_new w _,H.out.later L.out,L.out.mono H.out.1.2,KeepB.of_below L.out⟩ ?_
 obtain⟨gx,D⟩: ∃gx,gx=w.heap.size:=⟨_,rfl⟩
 have ah:gx≠c.b:=by
  rw[D]
  obtain⟨aj,hc⟩:=zbK H.out.1.1
  have:=(Array.getElem?_eq_some_iff.1 hc).1
  omega
 rw[←D]
 rintro w1 ⟨I,O,Y,U⟩
 clear D L J N Z M Q X x5 p0 p1 p2 p3 p4 p5 pf ae
 have V:=zc I
 have A:=zc O
 have ab:=zc Y
 have aa:=zc U
 clear I O Y U
 obtain⟨N,Z,M,Q,X,x5,xf⟩:=zv V.out
 obtain⟨p0,p1,p2,p3,p4,p5,pf⟩:=zv A.out.2.2.1
 have J:=(Array.getElem?_eq_some_iff.1 A.out.2.2.1).1
 have ai:=(Array.getElem?_eq_some_iff.1 V.out).1
 have HN:=zc hn
 go_wp2_with fail
 go_region_with (first|(go_at_call 187;refine (zkS j _ HN.out).mono ?_;rintro e w2 ⟨rfl,K⟩;have z:=zc (((Below.refl w1.heap.size w1).drew).trans K);have E:=zc (A.out.later z.out);have X2:=zc ((z.out.block _ (Array.getElem?_eq_some_iff.1 V.out).1).trans V.out);clear K;obtain⟨y0,y1,y2,y3,y4,y5,yf⟩:=zv X2.out;obtain⟨q0,q1,q2,q3,q4,q5,qf⟩:=zv E.out.2.2.1;have af:=(Array.getElem?_eq_some_iff.1 E.out.2.2.1).1;have ag:=(Array.getElem?_eq_some_iff.1 X2.out).1)|(go_at_call 57;refine (zb3 c t [strOfNums (zb9 j)] _ E.out (by have:=HL.out;rw[HT.out] at this;simp only[zt,List.foldl_cons,List.foldl_nil,ByteArray.size_append] at this ⊢;omega) (by simp)).mono ?_;rintro e w3 ⟨rfl,O,ac,ad⟩))
 all_goals (have Y:=(z.out.mono A.out.1.2).trans ac;have U:=(KeepB.of_below (b:=c.b) z.out).trans ad;go_wp2;go_end0;exact⟨rfl,(by rw[HT.out];exact O),ab.out.trans Y,aa.out.trans U⟩)
theorem zp7 (c:PC) (t:ByteArray) (i:Nat) (z:Int) (j n:ByteArray) (l r:Int) (w:World) (h:PP c t w) (hi:i<c.m.ex.length) (E:c.m.ex.getD i zg=⟨2,z,j,n,l,r⟩) (o:(t++(j)).size≤140737488355328):
  Calls Tryz.prog 162 #[.pointer (some ⟨c.gp,0,none⟩),.int .i64 (i:Int)] w (PO c (t++(j)) w):=by
 have D:=zc h
 obtain⟨T,hT⟩: ∃T,T=j:=⟨_,rfl⟩
 rw[←hT] at o ⊢
 have HT:=zc hT
 have HL:=zc o
 clear h o hT
 obtain⟨p0,p1,p2,p3,Z,p5,pf⟩:=zv D.out.2.2.1
 obtain⟨g,hg,H,K,U,J,M,O,V⟩:=D.out.2.1.expr hi
 rw[E] at K U J M O V
 dsimp only at K U J M O V
 rw[hg] at Z
 have aa:(i:Int)<(c.m.ex.length:Int):=by omega
 clear hg E
 go_enter Tryz.func162,Tryz.ntmps162
 go_upto_region 1 with fail
 have I:Hid (Below w.heap.size w (w.alloc (.cells #[.int .i64 2,.int .i64 z,.string j,.string n,.int .i64 l,.int .i64 r] 108))):=(Below.refl _ _).alloc (Nat.le_refl _) _
 refine zau (R:=fun W=>W.heap[w.heap.size]? =some (.cells #[.int .i64 2,.int .i64 z,.string j,.string n,.int .i64 l,.int .i64 r] 108 (0,0))∧PP c t W∧Below c.B w W∧KeepB c.b w W) ⟨heap_alloc_new w _,D.out.later I.out,I.out.mono D.out.1.2,KeepB.of_below I.out⟩ ?_
 obtain⟨gx,q⟩: ∃gx,gx=w.heap.size:=⟨_,rfl⟩
 have ab:gx≠c.b:=by
  rw[q]
  obtain⟨ad,hc⟩:=zbK D.out.1.1
  have:=(Array.getElem?_eq_some_iff.1 hc).1
  omega
 rw[←q]
 rintro w1 ⟨E,L,Q,N⟩
 clear q I H K U J M O V p0 p1 p2 p3 Z p5 pf aa
 have X1:=zc E
 have A:=zc L
 have Y:=zc Q
 have X:=zc N
 clear E L Q N
 obtain⟨K,U,J,M,O,V,xf⟩:=zv X1.out
 obtain⟨p0,p1,p2,p3,Z,p5,pf⟩:=zv A.out.2.2.1
 have H:=(Array.getElem?_eq_some_iff.1 A.out.2.2.1).1
 have ac:=(Array.getElem?_eq_some_iff.1 X1.out).1
 go_wp2_with fail
 go_region_with (go_at_call 57;refine (zca c t [j] w1 A.out (by have:=HL.out;rw[HT.out] at this;simp only[zt,List.foldl_cons,List.foldl_nil,ByteArray.size_append] at this ⊢;omega) (by simp)).mono ?_;rintro e w2 ⟨rfl,L,Q,N⟩)
 all_goals (go_wp2;go_end0;exact⟨rfl,(by rw[HT.out];exact L),Y.out.trans Q,X.out.trans N⟩)
theorem zp8 (c:PC) (t:ByteArray) (i:Nat) (z:Int) (j n:ByteArray) (l r:Int) (w:World) (h:PP c t w) (hi:i<c.m.ex.length) (H:c.m.ex.getD i zg=⟨3,z,j,n,l,r⟩) (o:(t++(j++cParens)).size≤140737488355328):
  Calls Tryz.prog 162 #[.pointer (some ⟨c.gp,0,none⟩),.int .i64 (i:Int)] w (PO c (t++(j++cParens)) w):=by
 have E:=zc h
 obtain⟨T,hT⟩: ∃T,T=j++cParens:=⟨_,rfl⟩
 rw[←hT] at o ⊢
 have HT:=zc hT
 have HL:=zc o
 clear h o hT
 obtain⟨p0,p1,p2,p3,Z,p5,pf⟩:=zv E.out.2.2.1
 obtain⟨g,hg,I,L,U,K,M,O,V⟩:=E.out.2.1.expr hi
 rw[H] at L U K M O V
 dsimp only at L U K M O V
 rw[hg] at Z
 have aa:(i:Int)<(c.m.ex.length:Int):=by omega
 clear hg H
 go_enter Tryz.func162,Tryz.ntmps162
 go_upto_region 1 with fail
 have J:Hid (Below w.heap.size w (w.alloc (.cells #[.int .i64 3,.int .i64 z,.string j,.string n,.int .i64 l,.int .i64 r] 108))):=(Below.refl _ _).alloc (Nat.le_refl _) _
 refine zau (R:=fun W=>W.heap[w.heap.size]? =some (.cells #[.int .i64 3,.int .i64 z,.string j,.string n,.int .i64 l,.int .i64 r] 108 (0,0))∧PP c t W∧Below c.B w W∧KeepB c.b w W) ⟨heap_alloc_new w _,E.out.later J.out,J.out.mono E.out.1.2,KeepB.of_below J.out⟩ ?_
 obtain⟨gx,q⟩: ∃gx,gx=w.heap.size:=⟨_,rfl⟩
 have ab:gx≠c.b:=by
  rw[q]
  obtain⟨ad,hc⟩:=zbK E.out.1.1
  have:=(Array.getElem?_eq_some_iff.1 hc).1
  omega
 rw[←q]
 rintro w1 ⟨H,D,Q,N⟩
 clear q J I L U K M O V p0 p1 p2 p3 Z p5 pf aa
 have X1:=zc H
 have A:=zc D
 have Y:=zc Q
 have X:=zc N
 clear H D Q N
 obtain⟨L,U,K,M,O,V,xf⟩:=zv X1.out
 obtain⟨p0,p1,p2,p3,Z,p5,pf⟩:=zv A.out.2.2.1
 have I:=(Array.getElem?_eq_some_iff.1 A.out.2.2.1).1
 have ac:=(Array.getElem?_eq_some_iff.1 X1.out).1
 go_wp2_with fail
 go_region_with (go_at_call 57;refine (zca c t [j,cParens] w1 A.out (by have:=HL.out;rw[HT.out] at this;simp only[zt,List.foldl_cons,List.foldl_nil,ByteArray.size_append] at this ⊢;omega) (by simp)).mono ?_;rintro e w2 ⟨rfl,D,Q,N⟩)
 all_goals (go_wp2;go_end0;exact⟨rfl,(by rw[HT.out];simp only[zt,List.foldl_cons,List.foldl_nil,←ByteArray.append_assoc] at D ⊢;exact D),Y.out.trans Q,X.out.trans N⟩)
theorem zp9 (c:PC) (t:ByteArray) (i:Nat) (z:Int) (n j:ByteArray) (l r:Int) (w:World) (h:PP c t w) (hi:i<c.m.ex.length) (H:c.m.ex.getD i zg=⟨4,z,n,j,l,r⟩) (o:(t++(n++cPoint++j)).size≤140737488355328):
  Calls Tryz.prog 162 #[.pointer (some ⟨c.gp,0,none⟩),.int .i64 (i:Int)] w (PO c (t++(n++cPoint++j)) w):=by
 have E:=zc h
 obtain⟨T,hT⟩: ∃T,T=n++cPoint++j:=⟨_,rfl⟩
 rw[←hT] at o ⊢
 have HT:=zc hT
 have HL:=zc o
 clear h o hT
 obtain⟨p0,p1,p2,p3,Z,p5,pf⟩:=zv E.out.2.2.1
 obtain⟨g,hg,I,L,U,K,M,O,V⟩:=E.out.2.1.expr hi
 rw[H] at L U K M O V
 dsimp only at L U K M O V
 rw[hg] at Z
 have aa:(i:Int)<(c.m.ex.length:Int):=by omega
 clear hg H
 go_enter Tryz.func162,Tryz.ntmps162
 go_upto_region 1 with fail
 have J:Hid (Below w.heap.size w (w.alloc (.cells #[.int .i64 4,.int .i64 z,.string n,.string j,.int .i64 l,.int .i64 r] 108))):=(Below.refl _ _).alloc (Nat.le_refl _) _
 refine zau (R:=fun W=>W.heap[w.heap.size]? =some (.cells #[.int .i64 4,.int .i64 z,.string n,.string j,.int .i64 l,.int .i64 r] 108 (0,0))∧PP c t W∧Below c.B w W∧KeepB c.b w W) ⟨heap_alloc_new w _,E.out.later J.out,J.out.mono E.out.1.2,KeepB.of_below J.out⟩ ?_
 obtain⟨gx,q⟩: ∃gx,gx=w.heap.size:=⟨_,rfl⟩
 have ab:gx≠c.b:=by
  rw[q]
  obtain⟨ad,hc⟩:=zbK E.out.1.1
  have:=(Array.getElem?_eq_some_iff.1 hc).1
  omega
 rw[←q]
 rintro w1 ⟨H,D,Q,N⟩
 clear q J I L U K M O V p0 p1 p2 p3 Z p5 pf aa
 have X1:=zc H
 have A:=zc D
 have Y:=zc Q
 have X:=zc N
 clear H D Q N
 obtain⟨L,U,K,M,O,V,xf⟩:=zv X1.out
 obtain⟨p0,p1,p2,p3,Z,p5,pf⟩:=zv A.out.2.2.1
 have I:=(Array.getElem?_eq_some_iff.1 A.out.2.2.1).1
 have ac:=(Array.getElem?_eq_some_iff.1 X1.out).1
 go_wp2_with fail
 go_region_with (go_at_call 57;refine (zca c t [n,cPoint,j] w1 A.out (by have:=HL.out;rw[HT.out] at this;simp only[zt,List.foldl_cons,List.foldl_nil,ByteArray.size_append] at this ⊢;omega) (by simp)).mono ?_;rintro e w2 ⟨rfl,D,Q,N⟩)
 all_goals (go_wp2;go_end0;exact⟨rfl,(by rw[HT.out];simp only[zt,List.foldl_cons,List.foldl_nil,←ByteArray.append_assoc] at D ⊢;exact D),Y.out.trans Q,X.out.trans N⟩)
theorem zpA (c:PC) (t:ByteArray) (i:Nat) (z:Int) (n j:ByteArray) (l r:Int) (w:World) (h:PP c t w) (hi:i<c.m.ex.length) (H:c.m.ex.getD i zg=⟨5,z,n,j,l,r⟩) (o:(t++(n++cPoint++j++cParens)).size≤140737488355328):
  Calls Tryz.prog 162 #[.pointer (some ⟨c.gp,0,none⟩),.int .i64 (i:Int)] w (PO c (t++(n++cPoint++j++cParens)) w):=by
 have E:=zc h
 obtain⟨T,hT⟩: ∃T,T=n++cPoint++j++cParens:=⟨_,rfl⟩
 rw[←hT] at o ⊢
 have HT:=zc hT
 have HL:=zc o
 clear h o hT
 obtain⟨p0,p1,p2,p3,Z,p5,pf⟩:=zv E.out.2.2.1
 obtain⟨g,hg,I,L,U,K,M,O,V⟩:=E.out.2.1.expr hi
 rw[H] at L U K M O V
 dsimp only at L U K M O V
 rw[hg] at Z
 have aa:(i:Int)<(c.m.ex.length:Int):=by omega
 clear hg H
 go_enter Tryz.func162,Tryz.ntmps162
 go_upto_region 1 with fail
 have J:Hid (Below w.heap.size w (w.alloc (.cells #[.int .i64 5,.int .i64 z,.string n,.string j,.int .i64 l,.int .i64 r] 108))):=(Below.refl _ _).alloc (Nat.le_refl _) _
 refine zau (R:=fun W=>W.heap[w.heap.size]? =some (.cells #[.int .i64 5,.int .i64 z,.string n,.string j,.int .i64 l,.int .i64 r] 108 (0,0))∧PP c t W∧Below c.B w W∧KeepB c.b w W) ⟨heap_alloc_new w _,E.out.later J.out,J.out.mono E.out.1.2,KeepB.of_below J.out⟩ ?_
 obtain⟨gx,q⟩: ∃gx,gx=w.heap.size:=⟨_,rfl⟩
 have ab:gx≠c.b:=by
  rw[q]
  obtain⟨ad,hc⟩:=zbK E.out.1.1
  have:=(Array.getElem?_eq_some_iff.1 hc).1
  omega
 rw[←q]
 rintro w1 ⟨H,D,Q,N⟩
 clear q J I L U K M O V p0 p1 p2 p3 Z p5 pf aa
 have X1:=zc H
 have A:=zc D
 have Y:=zc Q
 have X:=zc N
 clear H D Q N
 obtain⟨L,U,K,M,O,V,xf⟩:=zv X1.out
 obtain⟨p0,p1,p2,p3,Z,p5,pf⟩:=zv A.out.2.2.1
 have I:=(Array.getElem?_eq_some_iff.1 A.out.2.2.1).1
 have ac:=(Array.getElem?_eq_some_iff.1 X1.out).1
 go_wp2_with fail
 go_region_with (go_at_call 57;refine (zca c t [n,cPoint,j,cParens] w1 A.out (by have:=HL.out;rw[HT.out] at this;simp only[zt,List.foldl_cons,List.foldl_nil,ByteArray.size_append] at this ⊢;omega) (by simp)).mono ?_;rintro e w2 ⟨rfl,D,Q,N⟩)
 all_goals (go_wp2;go_end0;exact⟨rfl,(by rw[HT.out];simp only[zt,List.foldl_cons,List.foldl_nil,←ByteArray.append_assoc] at D ⊢;exact D),Y.out.trans Q,X.out.trans N⟩)
theorem zpB (c:PC) (t:ByteArray) (i:Nat) (q:Int) (n j:ByteArray) (l r:Nat) (w:World) (h:PP c t w) (hi:i<c.m.ex.length) (H:c.m.ex.getD i zg=⟨6,q,n,j,(l:Int),(r:Int)⟩) (aa:zcd c l) (Y:zcd c r) (hr:r<c.m.ex.length) (o:(t++(prX c.m.ex l++tPlus++zE (zO (c.m.ex.getD r zg).kind) (prX c.m.ex r))).size≤140737488355328):
  Calls Tryz.prog 162 #[.pointer (some ⟨c.gp,0,none⟩),.int .i64 (i:Int)] w (PO c (t++(prX c.m.ex l++tPlus++zE (zO (c.m.ex.getD r zg).kind) (prX c.m.ex r))) w):=by
 have E:=zc h
 obtain⟨T,hT⟩: ∃T,T=prX c.m.ex l++tPlus++zE (zO (c.m.ex.getD r zg).kind) (prX c.m.ex r):=⟨_,rfl⟩
 rw[←hT] at o ⊢
 have HT:=zc hT
 have HL:=zc o
 clear h o hT
 obtain⟨p0,p1,p2,p3,p4,p5,pf⟩:=zv E.out.2.2.1
 obtain⟨g,hg,I,L,U,K,M,O,V⟩:=E.out.2.1.expr hi
 rw[H] at L U K M O V
 dsimp only at L U K M O V
 rw[hg] at p4
 have ab:(i:Int)<(c.m.ex.length:Int):=by omega
 clear hg H
 go_enter Tryz.func162,Tryz.ntmps162
 go_upto_region 1 with fail
 have J:Hid (Below w.heap.size w (w.alloc (.cells #[.int .i64 6,.int .i64 q,.string n,.string j,.int .i64 (l:Int),.int .i64 (r:Int)] 108))):=(Below.refl _ _).alloc (Nat.le_refl _) _
 refine zau (R:=fun W=>W.heap[w.heap.size]? =some (.cells #[.int .i64 6,.int .i64 q,.string n,.string j,.int .i64 (l:Int),.int .i64 (r:Int)] 108 (0,0))∧PP c t W∧Below c.B w W∧KeepB c.b w W) ⟨heap_alloc_new w _,E.out.later J.out,J.out.mono E.out.1.2,KeepB.of_below J.out⟩ ?_
 obtain⟨gx,z⟩: ∃gx,gx=w.heap.size:=⟨_,rfl⟩
 have ad:gx≠c.b:=by
  rw[z]
  obtain⟨af,hc⟩:=zbK E.out.1.1
  have:=(Array.getElem?_eq_some_iff.1 hc).1
  omega
 rw[←z]
 rintro w1 ⟨H,D,Q,N⟩
 clear z J I L U K M O V p0 p1 p2 p3 p4 p5 pf ab
 have X1:=zc H
 have A:=zc D
 have Z:=zc Q
 have X:=zc N
 clear H D Q N
 obtain⟨L,U,K,M,O,V,xf⟩:=zv X1.out
 obtain⟨p0,p1,p2,p3,p4,p5,pf⟩:=zv A.out.2.2.1
 have I:=(Array.getElem?_eq_some_iff.1 A.out.2.2.1).1
 have ae:=(Array.getElem?_eq_some_iff.1 X1.out).1
 go_wp2_with fail
 refine (zjC c t 6 q n j tPlus l r w1 aa Y hr A.out (by rw[←HT.out];exact HL.out)).mono ?_
 rw[←HT.out]
 rintro e w2 ⟨rfl,D,Q,N⟩
 have ac:=zc D
 clear D
 go_wp2
 go_end0
 exact⟨rfl,ac.out,Z.out.trans Q,X.out.trans N⟩
theorem zpC (c:PC) (t:ByteArray) (i:Nat) (q:Int) (n j:ByteArray) (l r:Nat) (w:World) (h:PP c t w) (hi:i<c.m.ex.length) (H:c.m.ex.getD i zg=⟨7,q,n,j,(l:Int),(r:Int)⟩) (aa:zcd c l) (Y:zcd c r) (hr:r<c.m.ex.length) (o:(t++(prX c.m.ex l++tMinus++zE (zO (c.m.ex.getD r zg).kind) (prX c.m.ex r))).size≤140737488355328):
  Calls Tryz.prog 162 #[.pointer (some ⟨c.gp,0,none⟩),.int .i64 (i:Int)] w (PO c (t++(prX c.m.ex l++tMinus++zE (zO (c.m.ex.getD r zg).kind) (prX c.m.ex r))) w):=by
 have E:=zc h
 obtain⟨T,hT⟩: ∃T,T=prX c.m.ex l++tMinus++zE (zO (c.m.ex.getD r zg).kind) (prX c.m.ex r):=⟨_,rfl⟩
 rw[←hT] at o ⊢
 have HT:=zc hT
 have HL:=zc o
 clear h o hT
 obtain⟨p0,p1,p2,p3,p4,p5,pf⟩:=zv E.out.2.2.1
 obtain⟨g,hg,I,L,U,K,M,O,V⟩:=E.out.2.1.expr hi
 rw[H] at L U K M O V
 dsimp only at L U K M O V
 rw[hg] at p4
 have ab:(i:Int)<(c.m.ex.length:Int):=by omega
 clear hg H
 go_enter Tryz.func162,Tryz.ntmps162
 go_upto_region 1 with fail
 have J:Hid (Below w.heap.size w (w.alloc (.cells #[.int .i64 7,.int .i64 q,.string n,.string j,.int .i64 (l:Int),.int .i64 (r:Int)] 108))):=(Below.refl _ _).alloc (Nat.le_refl _) _
 refine zau (R:=fun W=>W.heap[w.heap.size]? =some (.cells #[.int .i64 7,.int .i64 q,.string n,.string j,.int .i64 (l:Int),.int .i64 (r:Int)] 108 (0,0))∧PP c t W∧Below c.B w W∧KeepB c.b w W) ⟨heap_alloc_new w _,E.out.later J.out,J.out.mono E.out.1.2,KeepB.of_below J.out⟩ ?_
 obtain⟨gx,z⟩: ∃gx,gx=w.heap.size:=⟨_,rfl⟩
 have ad:gx≠c.b:=by
  rw[z]
  obtain⟨af,hc⟩:=zbK E.out.1.1
  have:=(Array.getElem?_eq_some_iff.1 hc).1
  omega
 rw[←z]
 rintro w1 ⟨H,D,Q,N⟩
 clear z J I L U K M O V p0 p1 p2 p3 p4 p5 pf ab
 have X1:=zc H
 have A:=zc D
 have Z:=zc Q
 have X:=zc N
 clear H D Q N
 obtain⟨L,U,K,M,O,V,xf⟩:=zv X1.out
 obtain⟨p0,p1,p2,p3,p4,p5,pf⟩:=zv A.out.2.2.1
 have I:=(Array.getElem?_eq_some_iff.1 A.out.2.2.1).1
 have ae:=(Array.getElem?_eq_some_iff.1 X1.out).1
 go_wp2_with fail
 refine (zjC c t 7 q n j tMinus l r w1 aa Y hr A.out (by rw[←HT.out];exact HL.out)).mono ?_
 rw[←HT.out]
 rintro e w2 ⟨rfl,D,Q,N⟩
 have ac:=zc D
 clear D
 go_wp2
 go_end0
 exact⟨rfl,ac.out,Z.out.trans Q,X.out.trans N⟩
theorem zpD (c:PC) (t:ByteArray) (i:Nat) (Z:Int) (A j:ByteArray) (l r:Nat) (w:World) (h:PP c t w) (hi:i<c.m.ex.length) (hx:c.m.ex.getD i zg=⟨8,Z,A,j,(l:Int),(r:Int)⟩) (ae:zcd c l) (ac:zcd c r) (hl:l<c.m.ex.length) (hr:r<c.m.ex.length) (D:(t++(zE (zO (c.m.ex.getD l zg).kind) (prX c.m.ex l)++tStar++zE (zW (c.m.ex.getD r zg).kind) (prX c.m.ex r))).size≤140737488355328):
  Calls Tryz.prog 162 #[.pointer (some ⟨c.gp,0,none⟩),.int .i64 (i:Int)] w (PO c (t++(zE (zO (c.m.ex.getD l zg).kind) (prX c.m.ex l)++tStar++zE (zW (c.m.ex.getD r zg).kind) (prX c.m.ex r))) w):=by
 have HP:=zc h
 obtain⟨T,hT⟩: ∃T,T=zE (zO (c.m.ex.getD l zg).kind) (prX c.m.ex l)++tStar++zE (zW (c.m.ex.getD r zg).kind) (prX c.m.ex r):=⟨_,rfl⟩
 rw[←hT] at D ⊢
 have HT:=zc hT
 have HL:=zc D
 clear h D hT
 obtain⟨p0,p1,p2,p3,Y,p5,pf⟩:=zv HP.out.2.2.1
 obtain⟨g,hg,q,L,O,K,M,N,U⟩:=HP.out.2.1.expr hi
 rw[hx] at L O K M N U
 dsimp only at L O K M N U
 rw[hg] at Y
 have am:(i:Int)<(c.m.ex.length:Int):=by omega
 clear hg hx
 go_enter Tryz.func162,Tryz.ntmps162
 go_upto_region 1 with fail
 have HW:Hid (Below w.heap.size w (w.alloc (.cells #[.int .i64 8,.int .i64 Z,.string A,.string j,.int .i64 (l:Int),.int .i64 (r:Int)] 108))):=(Below.refl _ _).alloc (Nat.le_refl _) _
 refine zau (R:=fun W=>W.heap[w.heap.size]? =some (.cells #[.int .i64 8,.int .i64 Z,.string A,.string j,.int .i64 (l:Int),.int .i64 (r:Int)] 108 (0,0))∧PP c t W∧Below c.B w W∧KeepB c.b w W) ⟨heap_alloc_new w _,HP.out.later HW.out,HW.out.mono HP.out.1.2,KeepB.of_below HW.out⟩ ?_
 obtain⟨gx,X⟩: ∃gx,gx=w.heap.size:=⟨_,rfl⟩
 have ad:gx≠c.b:=by
  rw[X]
  obtain⟨ap,hc⟩:=zbK HP.out.1.1
  have:=(Array.getElem?_eq_some_iff.1 hc).1
  omega
 rw[←X]
 rintro Q ⟨hx,o,z,n⟩
 clear X HW q L O K M N U p0 p1 p2 p3 Y p5 pf am
 have X1:=zc hx
 have I:=zc o
 have ai:=zc z
 have ag:=zc n
 clear hx o z n
 obtain⟨L,O,K,M,N,U,xf⟩:=zv X1.out
 obtain⟨p0,p1,p2,p3,Y,p5,pf⟩:=zv I.out.2.2.1
 have q:=(Array.getElem?_eq_some_iff.1 I.out.2.2.1).1
 have H:=(Array.getElem?_eq_some_iff.1 X1.out).1
 have ao:=zc ae
 have ak:=zc ac
 have HR:=zc hr
 have aj:=zc hl
 obtain⟨kk,aa⟩: ∃kk,(c.m.ex.getD r zg).kind=kk:=⟨_,rfl⟩
 obtain⟨kl,V⟩: ∃kl,(c.m.ex.getD l zg).kind=kl:=⟨_,rfl⟩
 have HU:Hid (T=zE (zO kl) (prX c.m.ex l)++tStar++zE (zW kk) (prX c.m.ex r)):=by show _=_;rw[←aa,←V];exact HT.out
 have KK:=zc aa
 have KL:=zc V
 clear ae ac hr hl aa V HT
 go_upto_region 17 with fail
 go_cut [] from 82 to 90 (fun wx=>PP c (t++zE (zO kl) (prX c.m.ex l)) wx∧Below c.B Q wx∧KeepB c.b Q wx)
 case first=>
  go_wp2_with fail
  have E:=zc (I.out.later ((Below.refl Q.heap.size Q).drew))
  go_region_with (first|(go_at_call 190;refine (zhd c _ l _ E.out aj.out).mono ?_;rintro e w' ⟨rfl,rfl⟩;rw[KL.out])|(go_at_call 158;refine (zfc _ _).mono ?_;rintro e w' ⟨rfl,rfl⟩)|(go_at_call 189;refine (zfJ c _ l (zO kl) _ ao.out E.out (by have:=HL.out;rw[HU.out] at this;simp only[ByteArray.size_append] at this ⊢;omega)).mono ?_;rintro e w2 ⟨rfl,o,z,n⟩))
  all_goals (go_wp2_with fail;go_meet;exact⟨o,(((Below.refl Q.heap.size Q).drew).mono I.out.1.2).trans z,(KeepB.of_below ((Below.refl Q.heap.size Q).drew)).trans n⟩)
 case rest=>
 obtain⟨o,z,n⟩:=hcut
 rename_i w2
 have ab:=zc o
 have af:=zc (ai.out.trans z)
 have al:=zc (ag.out.trans n)
 have X2:=zc ((n _ _ _ _ X1.out ad (by decide)).trans X1.out)
 clear o z n p0 p1 p2 p3 Y p5 pf L O K M N U xf q H
 obtain⟨L,O,K,M,N,U,xf⟩:=zv X2.out
 obtain⟨p0,p1,p2,p3,Y,p5,pf⟩:=zv ab.out.2.2.1
 have q:=(Array.getElem?_eq_some_iff.1 ab.out.2.2.1).1
 have H:=(Array.getElem?_eq_some_iff.1 X2.out).1
 go_wp2_with fail
 refine (zb3 c _ [tStar] _ ab.out (by have:=HL.out;rw[HU.out] at this;simp only[zt,List.foldl_cons,List.foldl_nil,ByteArray.size_append] at this ⊢;omega) (by simp)).mono ?_
 rintro e w3 ⟨rfl,o,z,n⟩
 have J:=zc o
 have an:=zc (af.out.trans z)
 have ah:=zc (al.out.trans n)
 have X3:=zc ((n _ _ _ _ X2.out ad (by decide)).trans X2.out)
 clear o z n p0 p1 p2 p3 Y p5 pf L O K M N U xf q H
 obtain⟨L,O,K,M,N,U,xf⟩:=zv X3.out
 obtain⟨p0,p1,p2,p3,Y,p5,pf⟩:=zv J.out.2.2.1
 have q:=(Array.getElem?_eq_some_iff.1 J.out.2.2.1).1
 have H:=(Array.getElem?_eq_some_iff.1 X3.out).1
 go_wp2_with fail
 have E:=zc (J.out.later ((Below.refl w3.heap.size w3).drew))
 go_region_with (first|(go_at_call 190;refine (zhd c _ r _ E.out HR.out).mono ?_;rintro e w' ⟨rfl,rfl⟩;rw[KK.out])|(go_at_call 113;refine (zjl _ _).mono ?_;rintro e w' ⟨rfl,rfl⟩)|(go_at_call 189;refine (zfJ c _ r (zW kk) _ ak.out E.out (by have:=HL.out;rw[HU.out] at this;simp only[zt,List.foldl_cons,List.foldl_nil,ByteArray.size_append] at this ⊢;omega)).mono ?_;rintro e w4 ⟨rfl,o,z,n⟩))
 all_goals (go_wp2;go_end0;exact⟨rfl,(by rw[HU.out];simp only[zt,List.foldl_cons,List.foldl_nil,←ByteArray.append_assoc] at o ⊢;exact o),an.out.trans ((((Below.refl w3.heap.size w3).drew).mono J.out.1.2).trans z),ah.out.trans ((KeepB.of_below ((Below.refl w3.heap.size w3).drew)).trans n)⟩)
theorem zpE (c:PC) (t:ByteArray) (i:Nat) (k z:Int) (n j:ByteArray) (l r:Int) (w:World) (h:PP c t w) (hi:i<c.m.ex.length) (E:c.m.ex.getD i zg=⟨k,z,n,j,l,r⟩) (k1:(k==1)=false) (k2:(k==2)=false) (k3:(k==3)=false) (k4:(k==4)=false) (k5:(k==5)=false) (k6:(k==6)=false) (k7:(k==7)=false) (k8:(k==8)=false) (o:(t++(sNone)).size≤140737488355328):
  Calls Tryz.prog 162 #[.pointer (some ⟨c.gp,0,none⟩),.int .i64 (i:Int)] w (PO c (t++(sNone)) w):=by
 have D:=zc h
 obtain⟨T,X⟩: ∃T,T=sNone:=⟨_,rfl⟩
 rw[←X] at o ⊢
 have HT:=zc X
 have HL:=zc o
 clear h o X
 obtain⟨p0,p1,p2,p3,V,p5,pf⟩:=zv D.out.2.2.1
 obtain⟨g,hg,H,K,N,J,L,M,O⟩:=D.out.2.1.expr hi
 rw[E] at K N J L M O
 dsimp only at K N J L M O
 rw[hg] at V
 have Y:(i:Int)<(c.m.ex.length:Int):=by omega
 clear hg E
 go_enter Tryz.func162,Tryz.ntmps162
 go_upto_region 1 with fail
 have I:Hid (Below w.heap.size w (w.alloc (.cells #[.int .i64 k,.int .i64 z,.string n,.string j,.int .i64 l,.int .i64 r] 108))):=(Below.refl _ _).alloc (Nat.le_refl _) _
 refine zau (R:=fun W=>W.heap[w.heap.size]? =some (.cells #[.int .i64 k,.int .i64 z,.string n,.string j,.int .i64 l,.int .i64 r] 108 (0,0))∧PP c t W∧Below c.B w W∧KeepB c.b w W) ⟨heap_alloc_new w _,D.out.later I.out,I.out.mono D.out.1.2,KeepB.of_below I.out⟩ ?_
 obtain⟨Z,q⟩: ∃Z,Z=w.heap.size:=⟨_,rfl⟩
 have aa:Z≠c.b:=by
  rw[q]
  obtain⟨ac,hc⟩:=zbK D.out.1.1
  have:=(Array.getElem?_eq_some_iff.1 hc).1
  omega
 rw[←q]
 rintro w1 ⟨E,hp,hb,hk⟩
 clear q I H K N J L M O p0 p1 p2 p3 V p5 pf Y
 have X1:=zc E
 have A:=zc hp
 have U:=zc hb
 have Q:=zc hk
 clear E hp hb hk
 obtain⟨K,N,J,L,M,O,xf⟩:=zv X1.out
 obtain⟨p0,p1,p2,p3,V,p5,pf⟩:=zv A.out.2.2.1
 have H:=(Array.getElem?_eq_some_iff.1 A.out.2.2.1).1
 have ab:=(Array.getElem?_eq_some_iff.1 X1.out).1
 go_wp2
 go_end0
 exact⟨rfl,(by rw[HT.out,show t++sNone=t from ByteArray.append_empty];exact A.out),U.out,Q.out⟩
theorem zpF (c:PC) (hn:zbB c.m.ex) (Y:zbn c.m.ex) (n:Nat): ∀i,i<n→i<c.m.ex.length→zcd c i:=by
 induction n with
 |zero=>intro i E;omega
 |succ n Z=>
  intro i aa E t w h q
  by_cases X:i<n
  ·exact Z i X E t w h q
  ·have J: ∀j,j<i→zcd c j:=fun j hj=>Z j (by omega) (by omega)
   have I:=hn (c.m.ex.getD i zg) (by rw[zdz E];exact List.getElem_mem E)
   have D:=zfp Y (i:=i)
   rw[zgk Y] at q ⊢
   obtain⟨x,H⟩: ∃x,c.m.ex.getD i zg=x:=⟨_,rfl⟩
   rw[H] at q I D ⊢
   obtain⟨k,A,z,o,l,r⟩:=x
   simp only at q I D ⊢
   by_cases U:(k==1)=true
   ·rw[if_pos U] at q ⊢
    have e:=eq_of_beq U
    subst e
    exact zp6 c t i A z o l r w h E H I q
   rw[if_neg U] at q ⊢
   by_cases K:(k==2)=true
   ·rw[if_pos K] at q ⊢
    have e:=eq_of_beq K
    subst e
    exact zp7 c t i A z o l r w h E H q
   rw[if_neg K] at q ⊢
   by_cases Q:(k==3)=true
   ·rw[if_pos Q] at q ⊢
    have e:=eq_of_beq Q
    subst e
    exact zp8 c t i A z o l r w h E H q
   rw[if_neg Q] at q ⊢
   by_cases N:(k==4)=true
   ·rw[if_pos N] at q ⊢
    have e:=eq_of_beq N
    subst e
    exact zp9 c t i A z o l r w h E H q
   rw[if_neg N] at q ⊢
   by_cases M:(k==5)=true
   ·rw[if_pos M] at q ⊢
    have e:=eq_of_beq M
    subst e
    exact zpA c t i A z o l r w h E H q
   rw[if_neg M] at q ⊢
   by_cases O:(k==6)=true
   ·rw[if_pos O] at q ⊢
    have e:=eq_of_beq O
    subst e
    have D:=D (by decide)
    obtain⟨l,rfl⟩: ∃n:Nat,l=(n:Int):=⟨l.toNat,by omega⟩
    obtain⟨r,rfl⟩: ∃n:Nat,r=(n:Int):=⟨r.toNat,by omega⟩
    simp only[Int.toNat_natCast] at q ⊢
    exact zpB c t i A z o l r w h E H (J l (by omega)) (J r (by omega)) (by omega) q
   rw[if_neg O] at q ⊢
   by_cases L:(k==7)=true
   ·rw[if_pos L] at q ⊢
    have e:=eq_of_beq L
    subst e
    have D:=D (by decide)
    obtain⟨l,rfl⟩: ∃n:Nat,l=(n:Int):=⟨l.toNat,by omega⟩
    obtain⟨r,rfl⟩: ∃n:Nat,r=(n:Int):=⟨r.toNat,by omega⟩
    simp only[Int.toNat_natCast] at q ⊢
    exact zpC c t i A z o l r w h E H (J l (by omega)) (J r (by omega)) (by omega) q
   rw[if_neg L] at q ⊢
   by_cases V:(k==8)=true
   ·rw[if_pos V] at q ⊢
    have e:=eq_of_beq V
    subst e
    have D:=D (by decide)
    obtain⟨l,rfl⟩: ∃n:Nat,l=(n:Int):=⟨l.toNat,by omega⟩
    obtain⟨r,rfl⟩: ∃n:Nat,r=(n:Int):=⟨r.toNat,by omega⟩
    simp only[Int.toNat_natCast] at q ⊢
    exact zpD c t i A z o l r w h E H (J l (by omega)) (J r (by omega)) (by omega) (by omega) q
   rw[if_neg V] at q ⊢
   exact zpE c t i k A z o l r w h E H (Bool.eq_false_iff.2 U) (Bool.eq_false_iff.2 K) (Bool.eq_false_iff.2 Q) (Bool.eq_false_iff.2 N) (Bool.eq_false_iff.2 M) (Bool.eq_false_iff.2 O) (Bool.eq_false_iff.2 L) (Bool.eq_false_iff.2 V) q
theorem zhe (j:Nat) (S:Sv) (m:Md) (X:Bool) (w:World) (h:OwnMd w j S m) (V:Small m) (N:Tree m→(zb1 m).size≤140737488355328):
  Calls Tryz.prog 17 #[zp S m,.bool X] w fun e w'=>PrintOut (zb1 m) m e∧Below w.heap.size w w':=by
 have HH:=zc h
 have SM:=zc V
 have HU:=zc N
 obtain⟨f1,f2,f3,f4,f5⟩:=V.few
 clear h V N
 unfold zp
 go_enter Tryz.func17,Tryz.ntmps17
 go_wp2_with fail
 refine (zpf j S m _ (HH.out.alloc _) f5 f4).mono ?_
 rintro e o ⟨⟨b,rfl,L⟩,A⟩
 have HT:=zc L
 have n:Hid (Below w.heap.size w o):=((Below.refl _ _).alloc (Nat.le_refl _) _).trans (A.mono (by rw[zk];omega))
 have D:Hid (o.heap[w.heap.size]? =some (.cells #[.slice S.rq.a m.rq.length S.rq.cap,.slice S.im.a m.im.length S.im.cap,.slice S.ep.a m.ep.length S.ep.cap,.slice S.st.a m.st.length S.st.cap,.slice S.ex.a m.ex.length S.ex.cap] 28 (0,0))):=(A.block _ (by rw[zk];omega)).trans (heap_alloc_new w _)
 have I:=zc (HH.out.later n.out)
 clear L A
 cases b with
 |false=>
  go_wp2
  go_ret
  exact⟨.inr ⟨(fun t=>by have:=HT.out.2 t;cases this),rfl⟩,n.out⟩
 |true=>
  have O:=zc (HT.out.1 rfl)
  have HZ:=zc (HU.out O.out)
  go_upto_region 4 with fail
  have q:Hid (Below o.heap.size o (o.alloc (.cells #[.pointer none,.slice none 0 0] 87))):=(Below.refl _ _).alloc (Nat.le_refl _) _
  have hz:=(Array.getElem?_eq_some_iff.1 D.out).1
  refine zau (R:=fun W=>(Lib.IsBuilder 87 5 o.heap.size o.heap.size [] W∧o.heap.size≤W.heap.size)∧OwnMd W j S m∧W.heap[w.heap.size]? =some (.cells #[.slice S.rq.a m.rq.length S.rq.cap,.slice S.im.a m.im.length S.im.cap,.slice S.ep.a m.ep.length S.ep.cap,.slice S.st.a m.st.length S.st.cap,.slice S.ex.a m.ex.length S.ex.cap] 28 (0,0))∧Below w.heap.size w W) ⟨⟨Lib.fresh_isBuilder _ _ o,q.out.size⟩,I.out.later q.out,(q.out.block _ hz).trans D.out,n.out.trans (q.out.mono n.out.size)⟩ ?_
  obtain⟨b,z⟩: ∃b,b=o.heap.size:=⟨_,rfl⟩
  have M:w.heap.size≤b:=by rw[z];exact n.out.size
  rw[←z]
  rintro W ⟨⟨J,Y⟩,ho,hx,L⟩
  clear hz q D I n HH z o
  have BL:=zc J
  have HO:=zc ho
  have HX:=zc hx
  have HB:=zc L
  clear J ho hx L
  obtain⟨c0,c1,c2,c3,c4,cf⟩:=zl HX.out
  go_upto_region 6 with fail
  have q:Hid (Below W.heap.size W (W.alloc (.cells #[.slice S.rq.a m.rq.length S.rq.cap,.slice S.im.a m.im.length S.im.cap,.slice S.ep.a m.ep.length S.ep.cap,.slice S.st.a m.st.length S.st.cap,.slice S.ex.a m.ex.length S.ex.cap,.func (.func 57) #[] #[.pointer (some ⟨b,0,none⟩)]] 95))):=(Below.refl _ _).alloc (Nat.le_refl _) _
  have Q:Hid (PP ⟨b,b,W.heap.size,j,S,m⟩ sNone (W.alloc (.cells #[.slice S.rq.a m.rq.length S.rq.cap,.slice S.im.a m.im.length S.im.cap,.slice S.ep.a m.ep.length S.ep.cap,.slice S.st.a m.st.length S.st.cap,.slice S.ex.a m.ex.length S.ex.cap,.func (.func 57) #[] #[.pointer (some ⟨b,0,none⟩)]] 95))):=by
   refine⟨⟨zjr BL.out q.out,Nat.le_trans Y q.out.size⟩,HO.out.later q.out,heap_alloc_new W _,?_⟩
   obtain⟨ac,hc⟩:=zbK BL.out
   have:=(Array.getElem?_eq_some_iff.1 hc).1
   show W.heap.size≠b
   omega
  have Z:=zc (HB.out.trans (q.out.mono HB.out.size))
  go_wp2_with fail
  refine (zp5 ⟨b,b,W.heap.size,j,S,m⟩ _ (fun i hi=>zpF _ SM.out.nums O.out.ahead _ i hi hi) O.out.stm SM.out Q.out HZ.out).mono ?_
  rintro e w3 ⟨rfl,hp,E,U⟩
  have K:=zc hp
  have ab:=zc (Z.out.trans (E.mono M))
  clear hp E U c0 c1 c2 c3 c4 cf
  go_wp2_with fail
  refine (Tryz.Builder_String_any b b (zb1 m).data.toList w3 K.out.1.1 K.out.1.2).mono ?_
  rintro e w4 ⟨rfl,H⟩
  have aa:=zc (ab.out.trans (H.mono M))
  clear H
  go_wp2
  go_ret
  exact⟨.inl ⟨O.out,rfl⟩,aa.out⟩
theorem zhf {C:Cx} {j:Bool} {q:PS} {x:PS×Ep} (h:zbs C j q= .ok x):q.pos<x.1.pos:=by
 obtain⟨a,A,D⟩:=zf h
 obtain⟨b,z,o⟩:=zf D
 have n:=zeA z
 rw[(zbd A).1] at n
 cases o
 exact n
def zjD (C:Cx) (gt cap base gp:Nat) (t:TypeId) (size:Nat) (f:Ep→List Value) (y:PRL) (S:Sv) (w:World) (e:Ending) (w':World):Prop:=
 match y with
 | .ok a=>∃r S',e= .returned (.slice r.a a.2.length r.cap)∧IM C gt cap base gp S' a.1 w'∧IS gp S w S' w'∧Fr t size w' w.heap.size r a.2.length (a.2.flatMap f) S'∧0<a.2.length∧a.2.length≤4000
 | .error p=>e=Pan p∧Below base w w'
theorem zjE {C:Cx} {z n j o:Nat} {S:Sv} {q:PS} {w:World} (h:IM C z n j o S q w) (t:TypeId) (size:Nat):Fr t size (w.alloc (.cells #[] t)) w.heap.size ⟨some ⟨w.heap.size,0,none⟩,0⟩ 0 [] S:=by
 refine⟨World.ownsRow_lit w #[] 0 (Nat.le_refl _) (by unfold maxLen;omega) (Nat.zero_mul _).symm,fun k g A=>?_⟩
 have D:w.heap.size=k:=by simpa [Rw.blk,Value.ownBlock] using g
 have:=(h.mem.own.has A).2
 omega
theorem zpG (C:Cx) (M o j z:Nat) (S:Sv) (q:PS) (w:World) (h:IM C M o j z S q w):
  Calls Tryz.prog 175 #[.pointer (some ⟨z,0,none⟩)] w (zjD C M o j z 100 3 (fun e=>imL (zaU e)) (zax C false q []) S w):=by
 obtain⟨i0,hi,am,an,al⟩:=info_parts Tryz.infoImp
 have HH:=zc h
 clear h
 go_enter Tryz.func175,Tryz.ntmps175
 go_wp2
 go_loopg [3] (C.ts.length+1) (fun k v wr=>∃(Q:Sv) (I:PS) (r:Rw) (l:List Ep),v= .slice r.a l.length r.cap∧zax C false q []=zax C false I l∧C.ts.length-I.pos<k∧l.length+(C.ts.length-I.pos)≤C.ts.length∧IM C M o j z Q I wr∧IS z S w Q wr∧Fr 100 3 wr w.heap.size r l.length (l.flatMap (fun e=>imL (zaU e))) Q)
 case atStart=>exact⟨S,q,⟨some ⟨w.heap.size,0,none⟩,0⟩,[],rfl,rfl,by omega,by simp,HH.out.alloc _,(IS.refl _ _ _).alloc _,zjE HH.out _ _⟩
 case round=>
  obtain⟨Q,I,r,l,rfl,hy,hk,hl,m',s',f'⟩:=hrel
  have HY:=zc hy
  have HZ:=zc (HY.out.trans (zjh C false I l))
  have ab:Hid (IM C M o j z Q I wr):=m'
  have ag:Hid (IS z S w Q wr):=s'
  have aq:Hid (Fr 100 3 wr w.heap.size r l.length (l.flatMap (fun e=>imL (zaU e))) Q):=f'
  have au:=m'.mem.few
  clear hy m' s' f'
  go_wp2_with fail
  refine (zoX C M o j z Q I _ ab.out).mono ?_
  cases X:zbs C false I with
  |error p=>
   rintro e U ⟨rfl,hb⟩
   have HB:Hid (Below j w U):=(HH.out.back ag.out).trans hb
   have HX:Hid (zax C false q []= .error p):=bdE HZ.out X
   unfold Pan
   go_wp2
   refine⟨rfl,?_⟩
   rw[HX.out]
   exact⟨rfl,HB.out⟩
  |ok n=>
   rintro e U ⟨rfl,A,m,s⟩
   have D:Hid (Fr 100 3 U w.heap.size r l.length (l.flatMap (fun e=>imL (zaU e))) A):=aq.out.step ab.out (by decide) s
   have E:=zc m
   have ac:Hid (IS z S w A U):=ag.out.trans s
   clear m s
   have ad:=zc (bdO HZ.out X)
   have ax:=zhf X
   have av:=E.out.mem.inv.pos
   unfold imV
   have N:=fun o1=>(D.out.later ((Below.refl U.heap.size U).alloc (Nat.le_refl _) o1)).1
   have aj:=fun o1=>(ac.out.alloc o1).size
   go_wp2_with (at_builtin;refine zcu _ rfl _ _ 23 rfl w.heap.size 100 i0 _ 3 48 Tryz.underlying23 hi am an al rfl (by decide) (by decide) r l.length _ (by rfl) (N _) U.heap.size (imL (zaU n.2)) (by rfl) (by exact heap_alloc_new U _) rfl (zg3 _) (by omega) (aj _) ?_;intro O w2 hr V af;have HR:Hid (OwnR w2 w.heap.size 100 3 O (l.length+1) _):=hr;have L:Hid (IM C M o j z A n.1 w2):=(E.out.alloc _).aside V (fun k g=>⟨D.out.2 k g,D.out.ngp E.out (by decide) g,D.out.ngt E.out (by decide) g⟩);have ae:Hid (IS z S w A w2):=(ac.out.alloc _).aside V (fun k g=>(D.out.1.typed g).1);have ai:Hid (Fr 100 3 w2 w.heap.size O (l.length+1) _ A):=(D.out.later ((Below.refl _ _).alloc (Nat.le_refl _) _)).grown (E.out.alloc _) hr af;clear hr V af N aj)
   have el:(l++[n.2]).length=l.length+1:=by simp
   have Z:Hid (Fr 100 3 w2 w.heap.size O (l++[n.2]).length ((l++[n.2]).flatMap (fun e=>imL (zaU e))) A):=by
    show Fr ..
    rw[el,List.flatMap_append]
    simpa using ai.out
   have H:=zc el
   clear el ai HR
   go_wp2_with fail
   cases hc:isT C n.1.pos 4 zbw with
   |true=>
    have aw:=za1 hc (by decide)
    have HC:=zc (ad.out.trans (if_pos hc))
    refine (zK C M o j z A (n.1) 4 zbw _ L.out (by decide)).mono ?_
    rintro e w3 ⟨rfl,m,s⟩
    rw[hc] at m ⊢
    have K:=zc m
    have J:Hid (IS z S w A w3):=ae.out.trans s
    have aa:=s
    clear m s
    have Y:Hid (Fr 100 3 w3 w.heap.size O (l++[n.2]).length ((l++[n.2]).flatMap (fun e=>imL (zaU e))) A):=Z.out.step L.out (by decide) aa
    clear aa
    go_wp2
    go_roundg (gk-1)
    case rel=>exact⟨A,adv n.1,O,l++[n.2],by rw[H.out],HC.out,by rw[zx];omega,by rw[zx,H.out];omega,K.out,J.out,Y.out⟩
    case measure=>omega
   |false=>
    have HC:=zc (ad.out.trans (if_neg (by rw[hc];decide)))
    refine (zK C M o j z A (n.1) 4 zbw _ L.out (by decide)).mono ?_
    rintro e w3 ⟨rfl,m,s⟩
    rw[hc] at m ⊢
    have K:=zc m
    have J:Hid (IS z S w A w3):=ae.out.trans s
    have Y:Hid (Fr 100 3 w3 w.heap.size O (l++[n.2]).length ((l++[n.2]).flatMap (fun e=>imL (zaU e))) A):=Z.out.step L.out (by decide) s
    clear m s
    go_wp2_with fail
    refine (zbX C M o j z A n.1 125 _ K.out).mono ?_
    cases ah:zd C 4 zbm n.1 with
    |error p=>
     rintro e w4 ⟨rfl,hb⟩
     have HB:Hid (Below j w w4):=(HH.out.back J.out).trans hb
     have HX:Hid (zax C false q []= .error p):=bdE HC.out ah
     unfold Pan
     go_wp2
     refine⟨rfl,?_⟩
     rw[HX.out]
     exact⟨rfl,HB.out⟩
    |ok a4=>
     rintro e w4 ⟨rfl,S4,m,s⟩
     have ak:Hid (Fr 100 3 w4 w.heap.size O (l++[n.2]).length ((l++[n.2]).flatMap (fun e=>imL (zaU e))) S4):=Y.out.step K.out (by decide) s
     have ao:=zc m
     have ar:Hid (IS z S w S4 w4):=J.out.trans s
     clear m s
     have ap:=zc (bdO HC.out ah)
     go_wp2
     go_ret
     rw[ap.out]
     exact⟨O,S4,by rw[H.out];rfl,ao.out,ar.out,ak.out,by show 0<(l++[n.2]).length;rw[H.out];omega,by show (l++[n.2]).length≤4000;rw[H.out];omega⟩
def impFromI (C:Cx) (l:List Ep) (q:PS):PR:=bd (zd C 1 zU q) fun a=>bd (zH C a) fun b=>bd (zd C 4 cSemi b.1) fun c=>zP (fun e=>zak C (zbF b.2 e)) l (.ok c)
theorem zfL {α:Type} (f:α→PS→PR) (p:Nat): ∀l:List α,zP f l (.error p)= .error p
 |[]=>rfl
 |_::l=>zfL f p l
theorem zhg {α:Type} (f:α→PS→PR) {l:List α} {j:Nat} {x:α} (h:l[j]? =some x) (q:PS):zP f (l.drop j) (.ok q)=zP f (l.drop (j+1)) (f x q):=by
 obtain⟨n,rfl⟩:=List.getElem?_eq_some_iff.1 h
 rw[List.drop_eq_getElem_cons n]
 rfl
theorem zpH {C:Cx} {x:Im} {q a:PS} (h:zak C x q= .ok a):a.pos=q.pos:=by
 unfold zak at h
 split at h
 ·cases h
 ·cases h
  rfl
theorem zjF {C:Cx} {x:Ep} {q a:PS} (h:zo C x q= .ok a):a.pos=q.pos:=by
 unfold zo at h
 split at h
 ·cases h
 ·split at h
  ·cases h
   rfl
  ·cases h
   rfl
theorem zfd {α:Type} {l:List α} {j:Nat} (h:j<l.length): ∃x,l[j]? =some x:=⟨_,List.getElem?_eq_getElem h⟩
theorem zpI (C:Cx) (I o n z b0 g:Nat) (r:Rw) (S:Sv) (q:PS) (l:List Ep) (w:World) (h:IM C I o n z S q w) (hC:zbf C) (hl:l.length≤4000) (hf:Fr 100 3 w b0 r l.length (l.flatMap (fun e=>imL (zaU e))) S) (hg:r.a=some ⟨g,0,none⟩):
  Calls Tryz.prog 174 #[.pointer (some ⟨z,0,none⟩),.slice (some ⟨g,0,none⟩) l.length r.cap] w (zQ C I o n z (impFromI C l q) id (fun _=>.tuple #[]) S w):=by
 have U:=zc h
 have HF:=zc hf
 have HG:=zc hg
 have HY:=zc (impFromI.eq_1 C l q)
 clear h hf hg
 go_enter Tryz.func174,Tryz.ntmps174
 go_wp2_with fail
 refine (zea C I o n z S q zU _ U.out).mono ?_
 cases af:zd C 1 zU q with
 |error p=>
  rintro e w1 ⟨rfl,L⟩
  have N:Hid (Below n w w1):=(U.out.back (IS.refl _ _ _)).trans L
  have J:Hid (impFromI C l q= .error p):=bdE HY.out af
  unfold Pan
  go_wp2
  refine⟨rfl,?_⟩
  rw[J.out]
  exact⟨rfl,N.out⟩
 |ok a1=>
  rintro e w1 ⟨rfl,S1,m,s⟩
  have aw:Hid (Fr 100 3 w1 b0 r l.length (l.flatMap (fun e=>imL (zaU e))) S1):=HF.out.step U.out (by decide) s
  have ag:=zc m
  have ae:=zc s
  clear m s
  have ah:=zc (bdO HY.out af)
  go_wp2_with fail
  refine (zf3 C I o n z S1 a1 _ ag.out hC).mono ?_
  cases ad:zH C a1 with
  |error p=>
   rintro e w2 ⟨rfl,L⟩
   have N:Hid (Below n w w2):=(U.out.back ae.out).trans L
   have J:Hid (impFromI C l q= .error p):=bdE ah.out ad
   unfold Pan
   go_wp2
   refine⟨rfl,?_⟩
   rw[J.out]
   exact⟨rfl,N.out⟩
  |ok a2=>
   rintro e w2 ⟨rfl,S2,m,s⟩
   have am:Hid (Fr 100 3 w2 b0 r l.length (l.flatMap (fun e=>imL (zaU e))) S2):=aw.out.step ag.out (by decide) s
   have Z:=zc m
   have aj:Hid (IS z S w S2 w2):=ae.out.trans s
   clear m s
   have X:=zc (bdO ah.out ad)
   go_wp2_with fail
   refine (zbX C I o n z S2 a2.1 59 _ Z.out).mono ?_
   cases K:zd C 4 cSemi (a2.1) with
   |error p=>
    rintro e w3 ⟨rfl,L⟩
    have N:Hid (Below n w w3):=(U.out.back aj.out).trans L
    have J:Hid (impFromI C l q= .error p):=bdE X.out K
    unfold Pan
    go_wp2
    refine⟨rfl,?_⟩
    rw[J.out]
    exact⟨rfl,N.out⟩
   |ok a3=>
    rintro e w3 ⟨rfl,S3,m,s⟩
    have ap:Hid (Fr 100 3 w3 b0 r l.length (l.flatMap (fun e=>imL (zaU e))) S3):=am.out.step Z.out (by decide) s
    have au:=zc m
    have ar:Hid (IS z S w S3 w3):=aj.out.trans s
    clear m s
    have aq:=zc (bdO X.out K)
    have ac:0<a3.pos:=by rw[(zb4 K).1];exact Nat.succ_pos _
    generalize ay:a2.2=sp at*
    clear ay
    go_wp2
    go_loopg [15] l.length (fun k i wr=>∃(j:Nat) (E:Sv) (A:PS),i= .int .i64 j∧j+k=l.length∧impFromI C l q=zP (fun e=>zak C (zbF sp e)) (l.drop j) (.ok A)∧0<A.pos∧IM C I o n z E A wr∧IS z S w E wr∧Fr 100 3 wr b0 r l.length (l.flatMap (fun e=>imL (zaU e))) E)
    case atStart=>exact⟨0,S3,a3,rfl,by omega,aq.out,ac,au.out,ar.out,ap.out⟩
    case round=>
     obtain⟨j,E,A,rfl,hj,hy,Y,m',s',f'⟩:=hrel
     have ai:=zc hy
     have D:Hid (IM C I o n z E A wr):=m'
     have M:Hid (IS z S w E wr):=s'
     have O:Hid (Fr 100 3 wr b0 r l.length (l.flatMap (fun e=>imL (zaU e))) E):=f'
     clear hy m' s' f'
     by_cases ax:j<l.length
     ·have ab:(j:Int)<(l.length:Int):=by omega
      obtain⟨x,hx⟩:=zfd ax
      obtain⟨g',aa,H⟩:=OwnR.elem (f:=fun e=>imL (zaU e)) (m:=3) (fun _=>rfl) O.out.1 hx
      have eg:g'=g:=by have:=aa.symm.trans HG.out;simpa using this
      subst eg
      have k0:=H 0 (by omega)
      have k1:=H 1 (by omega)
      have k2:=H 2 (by omega)
      simp only[imL,zaU,Nat.add_zero,List.getElem?_cons_zero,List.getElem?_cons_succ] at k0 k1 k2
      have V:=zc (ai.out.trans (zhg (fun e=>zak C (zbF sp e)) hx A))
      clear H aa hx
      obtain⟨j1,Q⟩: ∃j1,j1=j+1:=⟨_,rfl⟩
      have ej:(j:Int)+1=(j1:Int):=by omega
      rw[←Q] at V
      have az:=(Array.getElem?_eq_some_iff.1 (O.out.1.typed (by rw[Rw.blk,HG.out];rfl)).2.2.choose_spec).1
      have aA:=D.out.lt
      have HJ:=zc Q
      clear Q
      go_wp2_with fail
      refine (zlN C I o n z E A (zbF sp x) _ (D.out.alloc _) Y).mono ?_
      cases hn:zak C (zbF sp x) A with
      |error p=>
       rintro e w5 ⟨rfl,L⟩
       have N:Hid (Below n w w5):=(U.out.back (M.out.alloc _)).trans L
       have J:Hid (impFromI C l q= .error p):=by show _=_;rw[V.out,hn];exact zfL _ _ _
       unfold Pan
       go_wp2
       refine⟨rfl,?_⟩
       rw[J.out]
       exact⟨rfl,N.out⟩
      |ok a5=>
       rintro e w5 ⟨rfl,S5,m,s⟩
       have ak:=zc m
       have av:Hid (IS z S w S5 w5):=(M.out.alloc _).trans s
       have an:Hid (Fr 100 3 w5 b0 r l.length (l.flatMap (fun e=>imL (zaU e))) S5):=(O.out.later ((Below.refl _ _).alloc (Nat.le_refl _) _)).step (D.out.alloc _) (by decide) s
       have ao:Hid (impFromI C l q=zP (fun e=>zak C (zbF sp e)) (l.drop j1) (.ok a5)):=by show _=_;rw[V.out,hn]
       have al:Hid (0<a5.pos):=by show 0<a5.pos;rw[zpH hn];exact Y
       clear m s
       go_wp2
       go_roundg (gk-1)
       case rel=>exact⟨j1,S5,a5,rfl,by have:=HJ.out;omega,ao.out,al.out,ak.out,av.out,an.out⟩
       case measure=>omega
     ·have ab: ¬(j:Int)<(l.length:Int):=by omega
      have V:Hid (impFromI C l q= .ok A):=by show _=_;rw[ai.out,List.drop_eq_nil_of_le (by omega)];rfl
      go_wp2
      go_end0
      rw[V.out]
      exact⟨rfl,E,D.out,M.out⟩
theorem zhh (C:Cx) (z n j o b0:Nat) (r:Rw) (S:Sv) (q:PS) (l:List Ep) (w:World) (h:IM C z n j o S q w) (E:zbf C) (I:l.length≤4000) (H:l.length≠0) (D:Fr 100 3 w b0 r l.length (l.flatMap (fun e=>imL (zaU e))) S):
  Calls Tryz.prog 174 #[.pointer (some ⟨o,0,none⟩),.slice r.a l.length r.cap] w (zQ C z n j o (impFromI C l q) id (fun _=>.tuple #[]) S w):=by
 rcases D.1.nil_or with ⟨_,_,e⟩|⟨g,A⟩
 ·exact absurd e H
 ·rw[A]
  exact zpI C z n j o b0 g r S q l w h E I D A
theorem zjG {C:Cx} {z n j o:Nat} {S:Sv} {q:PS} {w:World} (h:IM C z n j o S q w) (t:TypeId) (xs:List Value):Fr t xs.length (w.alloc (.cells xs.toArray t)) w.heap.size ⟨some ⟨w.heap.size,0,none⟩,1⟩ 1 xs S:=by
 refine⟨?_,fun k g A=>?_⟩
 ·have:=World.ownsRow_lit (e:=t) (size:=xs.length) w xs.toArray 1 (Nat.le_refl _) (by unfold maxLen;omega) (by simp)
  simpa [OwnR] using this
 ·have D:w.heap.size=k:=by simpa [Rw.blk,Value.ownBlock] using g
  have:=(h.mem.own.has A).2
  omega
def zaJ (C:Cx) (q:PS):PR:=
 if (ze C q.pos).kind==3 then bd (zH C q) fun a=>zd C 4 cSemi a.1
 else if isT C q.pos 4 zJ then bd (zax C false (adv q) []) fun a=>impFromI C a.2 a.1
 else if isT C q.pos 4 zw then bd (zd C 1 sAs (adv q)) fun a=>bd (zj C false a) fun b=>impFromI C [⟨0,b.2,zw,sNone⟩] b.1
 else bd (zj C false q) fun b=>impFromI C [⟨0,b.2,sDefault,sNone⟩] b.1
theorem zpJ (C:Cx) (A n j o:Nat) (S:Sv) (q:PS) (w:World) (h:IM C A n j o S q w) (hC:zbf C) (hk:((ze C q.pos).kind==3)=true):
  Calls Tryz.prog 149 #[.pointer (some ⟨o,0,none⟩)] w (zQ C A n j o (zaJ C q) id (fun _=>.tuple #[]) S w):=by
 have K:=zc h
 have aa:=zcH
 have HY:Hid (zaJ C q=bd (zH C q) fun a=>zd C 4 cSemi a.1):=if_pos hk
 clear h
 go_enter Tryz.func149,Tryz.ntmps149
 go_wp2_with fail
 refine (zbr C A n j o S q _ K.out).mono ?_
 rintro e w1 ⟨rfl,z⟩
 unfold tkV
 have Y:Hid (IM C A n j o S q w1):=K.out.later z
 have H:Hid (IS o S w S w1):=IS.below z
 clear z
 go_wp2_with fail
 refine (zf3 C A n j o S q _ Y.out hC).mono ?_
 cases E:zH C q with
 |error p=>
  rintro e O ⟨rfl,z⟩
  have Q:Hid (Below j w O):=(K.out.back H.out).trans z
  have V:Hid (zaJ C q= .error p):=bdE HY.out E
  unfold Pan
  go_wp2
  refine⟨rfl,?_⟩
  rw[V.out]
  exact⟨rfl,Q.out⟩
 |ok a2=>
  rintro e O ⟨rfl,S2,m,s⟩
  have X:=zc m
  have I:Hid (IS o S w S2 O):=H.out.trans s
  clear m s
  have D:=zc (bdO HY.out E)
  go_wp2_with fail
  refine (zbX C A n j o S2 a2.1 59 _ X.out).mono ?_
  cases J:zd C 4 cSemi a2.1 with
  |error p=>
   rintro e U ⟨rfl,z⟩
   have Q:Hid (Below j w U):=(K.out.back I.out).trans z
   have V:Hid (zaJ C q= .error p):=D.out.trans J
   unfold Pan
   go_wp2
   refine⟨rfl,?_⟩
   rw[V.out]
   exact⟨rfl,Q.out⟩
  |ok a3=>
   rintro e U ⟨rfl,Z,m,s⟩
   have N:=zc m
   have M:Hid (IS o S w Z U):=I.out.trans s
   clear m s
   have L:=zc (D.out.trans J)
   go_wp2
   go_end0
   rw[L.out]
   exact⟨rfl,Z,N.out,M.out⟩
theorem zpK (C:Cx) (z n j o:Nat) (S:Sv) (q:PS) (w:World) (h:IM C z n j o S q w) (hC:zbf C) (hk:((ze C q.pos).kind==3)=false) (h1:isT C q.pos 4 zJ=true):
  Calls Tryz.prog 149 #[.pointer (some ⟨o,0,none⟩)] w (zQ C z n j o (zaJ C q) id (fun _=>.tuple #[]) S w):=by
 have L:=zc h
 have ad:=zcH
 have HY:Hid (zaJ C q=bd (zax C false (adv q) []) fun a=>impFromI C a.2 a.1):=by show _=_;rw[zaJ,hk,h1];rfl
 clear h
 go_enter Tryz.func149,Tryz.ntmps149
 go_wp2_with fail
 refine (zbr C z n j o S q _ L.out).mono ?_
 rintro e w1 ⟨rfl,A⟩
 unfold tkV
 have ac:Hid (IM C z n j o S q w1):=L.out.later A
 have V:Hid (IS o S w S w1):=IS.below A
 clear A
 go_wp2_with fail
 refine (zK C z n j o S q 4 zJ _ ac.out (by decide)).mono ?_
 rintro e w2 ⟨rfl,m,s⟩
 rw[h1] at m ⊢
 have Z:=zc m
 have H:Hid (IS o S w S w2):=V.out.trans s
 clear m s
 go_wp2_with fail
 refine (zpG C z n j o S (adv q) _ Z.out).mono ?_
 cases I:zax C false (adv q) [] with
 |error p=>
  rintro e U ⟨rfl,A⟩
  have Q:Hid (Below j w U):=(L.out.back H.out).trans A
  have Y:Hid (zaJ C q= .error p):=bdE HY.out I
  unfold Pan
  go_wp2
  refine⟨rfl,?_⟩
  rw[Y.out]
  exact⟨rfl,Q.out⟩
 |ok K=>
  rintro e U ⟨r,S3,rfl,m,s,f,l0,l1⟩
  have O:=zc m
  have E:Hid (IS o S w S3 U):=H.out.trans s
  have M:=zc f
  clear m s f
  have D:=zc (bdO HY.out I)
  go_wp2_with fail
  refine (zhh C z n j o _ r S3 K.1 K.2 _ O.out hC l1 (by omega) M.out).mono ?_
  cases J:impFromI C K.2 K.1 with
  |error p=>
   rintro e N ⟨rfl,A⟩
   have Q:Hid (Below j w N):=(L.out.back E.out).trans A
   have Y:Hid (zaJ C q= .error p):=D.out.trans J
   unfold Pan
   go_wp2
   refine⟨rfl,?_⟩
   rw[Y.out]
   exact⟨rfl,Q.out⟩
  |ok a4=>
   rintro e N ⟨rfl,S4,m,s⟩
   have X:=zc m
   have ab:Hid (IS o S w S4 N):=E.out.trans s
   clear m s
   have aa:=zc (D.out.trans J)
   go_wp2
   go_end0
   rw[aa.out]
   exact⟨rfl,S4,X.out,ab.out⟩
theorem zpL (C:Cx) (z n j o:Nat) (S:Sv) (q:PS) (w:World) (h:IM C z n j o S q w) (hC:zbf C) (hk:((ze C q.pos).kind==3)=false) (h1:isT C q.pos 4 zJ=false) (h2:isT C q.pos 4 zw=true):
  Calls Tryz.prog 149 #[.pointer (some ⟨o,0,none⟩)] w (zQ C z n j o (zaJ C q) id (fun _=>.tuple #[]) S w):=by
 have O:=zc h
 have ah:=zcH
 have HY:Hid (zaJ C q=bd (zd C 1 sAs (adv q)) fun a=>bd (zj C false a) fun b=>impFromI C [⟨0,b.2,zw,sNone⟩] b.1):=by show _=_;rw[zaJ,hk,h1,h2];rfl
 clear h
 go_enter Tryz.func149,Tryz.ntmps149
 go_wp2_with fail
 refine (zbr C z n j o S q _ O.out).mono ?_
 rintro e w1 ⟨rfl,A⟩
 unfold tkV
 have ag:Hid (IM C z n j o S q w1):=O.out.later A
 have ac:Hid (IS o S w S w1):=IS.below A
 clear A
 go_wp2_with fail
 refine (zK C z n j o S q 4 zJ _ ag.out (by decide)).mono ?_
 rintro e w2 ⟨rfl,m,s⟩
 rw[h1] at m ⊢
 have ae:=zc m
 have af:Hid (IS o S w S w2):=ac.out.trans s
 clear m s
 go_wp2_with fail
 refine (zK C z n j o S q 4 zw _ ae.out (by decide)).mono ?_
 rintro e w3 ⟨rfl,m,s⟩
 rw[h2] at m ⊢
 have ab:=zc m
 have D:Hid (IS o S w S w3):=af.out.trans s
 clear m s
 go_wp2_with fail
 refine (zea C z n j o S (adv q) sAs _ ab.out).mono ?_
 cases U:zd C 1 sAs (adv q) with
 |error p=>
  rintro e w4 ⟨rfl,A⟩
  have J:Hid (Below j w w4):=(O.out.back D.out).trans A
  have L:Hid (zaJ C q= .error p):=bdE HY.out U
  unfold Pan
  go_wp2
  refine⟨rfl,?_⟩
  rw[L.out]
  exact⟨rfl,J.out⟩
 |ok a4=>
  rintro e w4 ⟨rfl,S4,m,s⟩
  have ad:=zc m
  have V:Hid (IS o S w S4 w4):=D.out.trans s
  clear m s
  have N:=zc (bdO HY.out U)
  go_wp2_with fail
  refine (zdb C z n j o S4 a4 _ ad.out).mono ?_
  cases H:zj C false a4 with
  |error p=>
   rintro e X ⟨rfl,A⟩
   have J:Hid (Below j w X):=(O.out.back V.out).trans A
   have L:Hid (zaJ C q= .error p):=bdE N.out H
   unfold Pan
   go_wp2
   refine⟨rfl,?_⟩
   rw[L.out]
   exact⟨rfl,J.out⟩
  |ok M=>
   rintro e X ⟨rfl,S5,m,s⟩
   have I:=zc m
   have K:Hid (IS o S w S5 X):=V.out.trans s
   clear m s
   have Q:=zc (bdO N.out H)
   go_wp2_with fail
   refine (zhh C z n j o _ ⟨some ⟨X.heap.size,0,none⟩,1⟩ S5 M.1 [⟨0,M.2,zw,sNone⟩] _ (I.out.alloc _) hC (by simp) (by simp) (zjG I.out 100 (imL (zaU ⟨0,M.2,zw,sNone⟩)))).mono ?_
   cases E:impFromI C [⟨0,M.2,zw,sNone⟩] M.1 with
   |error p=>
    rintro e w6 ⟨rfl,A⟩
    have J:Hid (Below j w w6):=(O.out.back (K.out.alloc _)).trans A
    have L:Hid (zaJ C q= .error p):=Q.out.trans E
    unfold Pan
    go_wp2
    refine⟨rfl,?_⟩
    rw[L.out]
    exact⟨rfl,J.out⟩
   |ok a6=>
    rintro e w6 ⟨rfl,S6,m,s⟩
    have Z:=zc m
    have aa:Hid (IS o S w S6 w6):=(K.out.alloc _).trans s
    clear m s
    have Y:=zc (Q.out.trans E)
    go_wp2
    go_end0
    rw[Y.out]
    exact⟨rfl,S6,Z.out,aa.out⟩
theorem zpM (C:Cx) (z n j o:Nat) (S:Sv) (q:PS) (w:World) (h:IM C z n j o S q w) (hC:zbf C) (hk:((ze C q.pos).kind==3)=false) (h1:isT C q.pos 4 zJ=false) (h2:isT C q.pos 4 zw=false):
  Calls Tryz.prog 149 #[.pointer (some ⟨o,0,none⟩)] w (zQ C z n j o (zaJ C q) id (fun _=>.tuple #[]) S w):=by
 have N:=zc h
 have ae:=zcH
 have HY:Hid (zaJ C q=bd (zj C false q) fun b=>impFromI C [⟨0,b.2,sDefault,sNone⟩] b.1):=by show _=_;rw[zaJ,hk,h1,h2];rfl
 clear h
 go_enter Tryz.func149,Tryz.ntmps149
 go_wp2_with fail
 refine (zbr C z n j o S q _ N.out).mono ?_
 rintro e w1 ⟨rfl,A⟩
 unfold tkV
 have ad:Hid (IM C z n j o S q w1):=N.out.later A
 have Y:Hid (IS o S w S w1):=IS.below A
 clear A
 go_wp2_with fail
 refine (zK C z n j o S q 4 zJ _ ad.out (by decide)).mono ?_
 rintro e w2 ⟨rfl,m,s⟩
 rw[h1] at m ⊢
 have aa:=zc m
 have ab:Hid (IS o S w S w2):=Y.out.trans s
 clear m s
 go_wp2_with fail
 refine (zK C z n j o S q 4 zw _ aa.out (by decide)).mono ?_
 rintro e w3 ⟨rfl,m,s⟩
 rw[h2] at m ⊢
 have U:=zc m
 have D:Hid (IS o S w S w3):=ab.out.trans s
 clear m s
 go_wp2_with fail
 refine (zdb C z n j o S q _ U.out).mono ?_
 cases K:zj C false q with
 |error p=>
  rintro e M ⟨rfl,A⟩
  have V:Hid (Below j w M):=(N.out.back D.out).trans A
  have Z:Hid (zaJ C q= .error p):=bdE HY.out K
  unfold Pan
  go_wp2
  refine⟨rfl,?_⟩
  rw[Z.out]
  exact⟨rfl,V.out⟩
 |ok H=>
  rintro e M ⟨rfl,S4,m,s⟩
  have I:=zc m
  have L:Hid (IS o S w S4 M):=D.out.trans s
  clear m s
  have J:=zc (bdO HY.out K)
  go_wp2_with fail
  refine (zhh C z n j o _ ⟨some ⟨M.heap.size,0,none⟩,1⟩ S4 H.1 [⟨0,H.2,sDefault,sNone⟩] _ (I.out.alloc _) hC (by simp) (by simp) (zjG I.out 100 (imL (zaU ⟨0,H.2,sDefault,sNone⟩)))).mono ?_
  cases E:impFromI C [⟨0,H.2,sDefault,sNone⟩] H.1 with
  |error p=>
   rintro e O ⟨rfl,A⟩
   have V:Hid (Below j w O):=(N.out.back (L.out.alloc _)).trans A
   have Z:Hid (zaJ C q= .error p):=J.out.trans E
   unfold Pan
   go_wp2
   refine⟨rfl,?_⟩
   rw[Z.out]
   exact⟨rfl,V.out⟩
  |ok a5=>
   rintro e O ⟨rfl,S5,m,s⟩
   have Q:=zc m
   have X:Hid (IS o S w S5 O):=(L.out.alloc _).trans s
   clear m s
   have ac:=zc (J.out.trans E)
   go_wp2
   go_end0
   rw[ac.out]
   exact⟨rfl,S5,Q.out,X.out⟩
theorem zpN (C:Cx) (z n j o:Nat) (S:Sv) (q:PS) (w:World) (h:IM C z n j o S q w) (A:zbf C):
  Calls Tryz.prog 149 #[.pointer (some ⟨o,0,none⟩)] w (zQ C z n j o (zaJ C q) id (fun _=>.tuple #[]) S w):=by
 cases D:((ze C q.pos).kind==3) with
 |true=>exact zpJ C z n j o S q w h A D
 |false=>
  cases E:isT C q.pos 4 zJ with
  |true=>exact zpK C z n j o S q w h A D E
  |false=>
   cases H:isT C q.pos 4 zw with
   |true=>exact zpL C z n j o S q w h A D E H
   |false=>exact zpM C z n j o S q w h A D E H
end Go.Proofs.YticdggnnpjachaaGreat
