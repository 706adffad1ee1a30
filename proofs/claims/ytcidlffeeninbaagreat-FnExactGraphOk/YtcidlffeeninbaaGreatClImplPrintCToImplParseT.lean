/-
  What impl's imp answers: the walk.
  What impl's exp answers: the walk.
  What impl's kind answers,and side,if expr answers so: the walks.
  What impl's stmt answers,if expr answers so: the walk.
  What impl's program of the printer answers,if expr answers so: the walk.
  What impl's sum answers,if expr answers so,and what expr answers,kind by kind: the walks.
  What impl's expr answers,whole. No walk is zs.
  What impl.Print answers: the walk.
  What importList of impl's parser answers: the walk.
  What importFrom of impl's parser answers: the walk.
  What importItem of impl's parser answers: the walks.
-/
import Derived.Deep.RegionWith
import Derived.Test.YtcidlffeeninbaaGreatClImplBuilderToImplPrintB
namespace Go.Proofs.YtcidlffeeninbaaGreat
set_option maxRecDepth 100000
set_option maxHeartbeats 12800000
open Go.RowKit Go.PlainAid Go.Sort
theorem zc2 (c:PC) (t:ByteArray) (q:List ByteArray) (w:World) (h:PP c t w) (z:(zt t q).size≤140737488355328) (I:q.length≤4294967296):
  Calls Tryz.prog 112 #[.slice (some ⟨w.heap.size,0,none⟩) q.length q.length,.pointer (some ⟨c.b,0,none⟩)] (w.alloc (.cells (q.map Value.string).toArray 9)).drew (PO c (zt t q) w):=by
 have A:Below w.heap.size w (w.alloc (.cells (q.map Value.string).toArray 9)).drew:=((Below.refl _ _).alloc (Nat.le_refl _) _).drew
 refine (zlc c t q w.heap.size _ (h.later A) (heap_alloc_new w _) z I).mono ?_
 rintro e K ⟨J,E,H,D⟩
 exact⟨J,E,(A.mono h.1.2).trans H,(KeepB.of_below A).trans D⟩
def zc3 (x:Im):ByteArray:=
 if x.first.toList==[42] then ({data:=#[105,109,112,111,114,116,32]}:ByteArray)++({data:=#[42,32,97,115,32]}:ByteArray)++x.loc
 else if x.first.toList==[100,101,102,97,117,108,116] then ({data:=#[105,109,112,111,114,116,32]}:ByteArray)++x.loc
 else ({data:=#[105,109,112,111,114,116,32]}:ByteArray)++zbY x.first x.loc
theorem zsn {x:Im} (e:(x.first.toList==[42])=true):zc3 x=({data:=#[105,109,112,111,114,116,32]}:ByteArray)++({data:=#[42,32,97,115,32]}:ByteArray)++x.loc:=by rw[zc3,e];rfl
theorem zso {x:Im} (e:(x.first.toList==[42])=false) (h:(x.first.toList==[100,101,102,97,117,108,116])=true):zc3 x=({data:=#[105,109,112,111,114,116,32]}:ByteArray)++x.loc:=by rw[zc3,e,h];rfl
theorem zsp {x:Im} (e:(x.first.toList==[42])=false) (h:(x.first.toList==[100,101,102,97,117,108,116])=false):zc3 x=({data:=#[105,109,112,111,114,116,32]}:ByteArray)++zbY x.first x.loc:=by rw[zc3,e,h];rfl
theorem zcg (a b:Array UInt8):(⟨a++b⟩:ByteArray)=⟨a⟩++⟨b⟩:=by
 apply ByteArray.ext
 simp
theorem zeP (x:Im):zab x=zc3 x++({data:=#[32,102,114,111,109,32]}:ByteArray)++za0 x.spec++({data:=#[59]}:ByteArray)++({data:=#[10]}:ByteArray):=by
 have w:({data:=#[59,10]}:ByteArray)={data:=#[59]}++{data:=#[10]}:=zcg #[59] #[10]
 have q:({data:=#[105,109,112,111,114,116,32,42,32,97,115,32]}:ByteArray)={data:=#[105,109,112,111,114,116,32]}++{data:=#[42,32,97,115,32]}:=zcg #[105,109,112,111,114,116,32] #[42,32,97,115,32]
 have z:({data:=#[105,109,112,111,114,116,32,123,32]}:ByteArray)={data:=#[105,109,112,111,114,116,32]}++{data:=#[123,32]}:=zcg #[105,109,112,111,114,116,32] #[123,32]
 have h:({data:=#[32,125,32,102,114,111,109,32]}:ByteArray)={data:=#[32,125]}++{data:=#[32,102,114,111,109,32]}:=zcg #[32,125] #[32,102,114,111,109,32]
 unfold zab zc3 zbY
 rw[w,q,z,h]
 split
 ·simp only[ByteArray.append_assoc]
 ·split<;>simp only[ByteArray.append_assoc]
theorem zsq (x:Im):(({data:=#[105,109,112,111,114,116,32]}:ByteArray)).size≤(zab x).size:=by
 rw[zeP,zc3]
 split
 ·simp only[ByteArray.size_append];omega
 ·split<;>(simp only[ByteArray.size_append];omega)
theorem zsr (c:PC) (t:ByteArray) (x:Im) (w:World) (h:PP c t w) (D:(t++zab x).size≤140737488355328) (h1:x.spec.size≤1099511627776):
  Calls Tryz.prog 163 #[.pointer (some ⟨c.gp,0,none⟩),imV x] w (PO c (t++zab x) w):=by
 have HP:=zc h
 have M:=zc D
 clear h D
 have HZ:Hid (t.size+(zab x).size≤140737488355328∧(({data:=#[105,109,112,111,114,116,32]}:ByteArray)).size≤(zab x).size):=⟨by have:=M.out;rw[ByteArray.size_append] at this;exact this,zsq x⟩
 unfold imV
 go_enter Tryz.func163,Tryz.ntmps163
 go_upto_region 1 with fail
 have HW:Hid (Below w.heap.size w (w.alloc (.cells #[.string x.spec,.string x.first,.string x.loc] 80))):=(Below.refl _ _).alloc (Nat.le_refl _) _
 refine zx (R:=fun W=>W.heap[w.heap.size]? =some (.cells #[.string x.spec,.string x.first,.string x.loc] 80 (0,0))∧PP c t W∧Below c.B w W∧KeepB c.b w W) ⟨heap_alloc_new w _,HP.out.later HW.out,HW.out.mono HP.out.1.2,KeepB.of_below HW.out⟩ ?_
 obtain⟨gx,L⟩: ∃gx,gx=w.heap.size:=⟨_,rfl⟩
 have Z:gx≠c.b:=by
  rw[L]
  obtain⟨aj,hc⟩:=zcf HP.out.1.1
  have:=(Array.getElem?_eq_some_iff.1 hc).1
  omega
 rw[←L]
 rintro W ⟨hx,hp,hb,hk⟩
 clear L HW
 have X:=zc hx
 have J:=zc hp
 have O:=zc hb
 have U:=zc hk
 clear hx hp hb hk
 obtain⟨x0,x1,x2,xf⟩:=zq X.out
 obtain⟨p0,p1,p2,p3,p4,p5,pf⟩:=zw J.out.2.2.1
 go_wp2_with fail
 refine (zbG c t [{data:=#[105,109,112,111,114,116,32]}] W J.out (by have:=HZ.out;simp only[zt,List.foldl_cons,List.foldl_nil,ByteArray.size_append] at this ⊢;omega) (by simp)).mono ?_
 rintro e Y ⟨rfl,aa,ab,I⟩
 have E:=zc aa
 have ai:=zc (O.out.trans ab)
 have ag:=zc (U.out.trans I)
 have X1:=zc ((I _ _ _ _ X.out Z (by decide)).trans X.out)
 clear aa ab I p0 p1 p2 p3 p4 p5 pf x0 x1 x2 xf J O U X
 obtain⟨x0,x1,x2,xf⟩:=zq X1.out
 obtain⟨p0,p1,p2,p3,p4,p5,pf⟩:=zw E.out.2.2.1
 have ac:=(Array.getElem?_eq_some_iff.1 E.out.2.2.1).1
 have V:=(Array.getElem?_eq_some_iff.1 X1.out).1
 have D:=M.out
 go_upto_block 0 with fail
 go_cut [] from 12 to 37 (fun wx=>PP c (t++zc3 x) wx∧Below c.B Y wx∧KeepB c.b Y wx)
 case first=>
  cases e1:(x.first.toList==[42]) with
  |true=>
   have H:Hid (zc3 x=({data:=#[105,109,112,111,114,116,32]}:ByteArray)++({data:=#[42,32,97,115,32]}:ByteArray)++x.loc):=zsn e1
   go_wp2_with fail
   go_region_with (go_at_call 112;refine (zc2 c _ [{data:=#[42,32,97,115,32]},x.loc] Y E.out (by have:=M.out;rw[zeP,H.out] at this;simp only[zt,List.foldl_cons,List.foldl_nil,ByteArray.size_append] at this ⊢;omega) (by simp)).mono ?_;rintro e w2 ⟨rfl,q,A,z⟩)
   all_goals (go_wp2_with fail;go_meet;exact⟨by rw[H.out];simp only[zt,List.foldl_cons,List.foldl_nil,←ByteArray.append_assoc] at q ⊢;exact q,A,z⟩)
  |false=>
   cases e2:(x.first.toList==[100,101,102,97,117,108,116]) with
   |true=>
    have H:Hid (zc3 x=({data:=#[105,109,112,111,114,116,32]}:ByteArray)++x.loc):=zso e1 e2
    go_wp2_with fail
    go_region_with (go_at_call 112;refine (zc2 c _ [x.loc] Y E.out (by have:=M.out;rw[zeP,H.out] at this;simp only[zt,List.foldl_cons,List.foldl_nil,ByteArray.size_append] at this ⊢;omega) (by simp)).mono ?_;rintro e w2 ⟨rfl,q,A,z⟩)
    all_goals (go_wp2_with fail;go_meet;exact⟨by rw[H.out];simp only[zt,List.foldl_cons,List.foldl_nil,←ByteArray.append_assoc] at q ⊢;exact q,A,z⟩)
   |false=>
    have H:Hid (zc3 x=({data:=#[105,109,112,111,114,116,32]}:ByteArray)++zbY x.first x.loc):=zsp e1 e2
    go_wp2_with fail
    refine (zhV c _ x.first x.loc Y E.out (by have:=M.out;rw[zeP,H.out] at this;simp only[zt,List.foldl_cons,List.foldl_nil,ByteArray.size_append] at this ⊢;omega)).mono ?_
    rintro e w2 ⟨rfl,q,A,z⟩
    go_wp2_with fail
    go_meet
    exact⟨by rw[H.out];simp only[zt,List.foldl_cons,List.foldl_nil,←ByteArray.append_assoc] at q ⊢;exact q,A,z⟩
 case rest=>
 obtain⟨q,A,z⟩:=hcut
 rename_i w2
 have K:=zc q
 have af:=zc (ai.out.trans A)
 have ad:=zc (ag.out.trans z)
 have X2:=zc ((z _ _ _ _ X1.out Z (by decide)).trans X1.out)
 clear q A z p0 p1 p2 p3 p4 p5 pf x0 x1 x2 xf ac V
 obtain⟨p0,p1,p2,p3,p4,p5,pf⟩:=zw K.out.2.2.1
 obtain⟨x0,x1,x2,xf⟩:=zq X2.out
 have ac:=(Array.getElem?_eq_some_iff.1 K.out.2.2.1).1
 have V:=(Array.getElem?_eq_some_iff.1 X2.out).1
 go_wp2_with fail
 go_region_with (first|(go_at_call 162;refine (zgC x.spec _ h1).mono ?_;rintro e w' ⟨rfl,rfl⟩)|(go_at_call 112;refine (zc2 c _ [{data:=#[32,102,114,111,109,32]},za0 x.spec,{data:=#[59]},{data:=#[10]}] _ K.out (by have:=M.out;rw[zeP] at this;simp only[zt,List.foldl_cons,List.foldl_nil,ByteArray.size_append] at this ⊢;omega) (by simp)).mono ?_;rintro e w3 ⟨rfl,N,ae,ah⟩))
 all_goals (go_wp2;go_end0;exact⟨rfl,(by rw[zeP];simp only[zt,List.foldl_cons,List.foldl_nil,←ByteArray.append_assoc] at N ⊢;exact N),af.out.trans ae,ad.out.trans ah⟩)
def zc4 (x:Ep):ByteArray:=
 if x.kind==3 then ({data:=#[101,120,112,111,114,116,32]}:ByteArray)++({data:=#[42,32,102,114,111,109,32]}:ByteArray)++za0 x.spec
 else if x.kind==2 then ({data:=#[101,120,112,111,114,116,32]}:ByteArray)++zbY x.loc x.name++({data:=#[32,102,114,111,109,32]}:ByteArray)++za0 x.spec
 else ({data:=#[101,120,112,111,114,116,32]}:ByteArray)++zbY x.loc x.name
theorem zss {x:Ep} (e:(x.kind==3)=true):zc4 x=({data:=#[101,120,112,111,114,116,32]}:ByteArray)++({data:=#[42,32,102,114,111,109,32]}:ByteArray)++za0 x.spec:=by rw[zc4,e];rfl
theorem zst {x:Ep} (e:(x.kind==3)=false) (h:(x.kind==2)=true):zc4 x=({data:=#[101,120,112,111,114,116,32]}:ByteArray)++zbY x.loc x.name++({data:=#[32,102,114,111,109,32]}:ByteArray)++za0 x.spec:=by rw[zc4,e,h];rfl
theorem zsu {x:Ep} (e:(x.kind==3)=false) (h:(x.kind==2)=false):zc4 x=({data:=#[101,120,112,111,114,116,32]}:ByteArray)++zbY x.loc x.name:=by rw[zc4,e,h];rfl
theorem zer (x:Ep):zbp x=zc4 x++({data:=#[59]}:ByteArray)++({data:=#[10]}:ByteArray):=by
 have w:({data:=#[59,10]}:ByteArray)={data:=#[59]}++{data:=#[10]}:=zcg #[59] #[10]
 have h:({data:=#[101,120,112,111,114,116,32,42,32,102,114,111,109,32]}:ByteArray)={data:=#[101,120,112,111,114,116,32]}++{data:=#[42,32,102,114,111,109,32]}:=zcg #[101,120,112,111,114,116,32] #[42,32,102,114,111,109,32]
 have A:({data:=#[101,120,112,111,114,116,32,123,32]}:ByteArray)={data:=#[101,120,112,111,114,116,32]}++{data:=#[123,32]}:=zcg #[101,120,112,111,114,116,32] #[123,32]
 have q:({data:=#[32,125,32,102,114,111,109,32]}:ByteArray)={data:=#[32,125]}++{data:=#[32,102,114,111,109,32]}:=zcg #[32,125] #[32,102,114,111,109,32]
 have z:({data:=#[32,125,59,10]}:ByteArray)={data:=#[32,125]}++{data:=#[59,10]}:=zcg #[32,125] #[59,10]
 unfold zbp zc4 zbY
 rw[z,w,h,A,q]
 split
 ·simp only[ByteArray.append_assoc]
 ·split<;>simp only[ByteArray.append_assoc]
theorem zsv (x:Ep):(({data:=#[101,120,112,111,114,116,32]}:ByteArray)).size≤(zbp x).size:=by
 rw[zer,zc4]
 split
 ·simp only[ByteArray.size_append];omega
 ·split<;>(simp only[ByteArray.size_append];omega)
theorem zsw (c:PC) (t:ByteArray) (x:Ep) (w:World) (h:PP c t w) (K:(t++zbp x).size≤140737488355328) (h1:x.spec.size≤1099511627776):
  Calls Tryz.prog 164 #[.pointer (some ⟨c.gp,0,none⟩),epV x] w (PO c (t++zbp x) w):=by
 have HP:=zc h
 have Z:=zc K
 clear h K
 have HZ:Hid (t.size+(zbp x).size≤140737488355328∧(({data:=#[101,120,112,111,114,116,32]}:ByteArray)).size≤(zbp x).size):=⟨by have:=Z.out;rw[ByteArray.size_append] at this;exact this,zsv x⟩
 unfold epV
 go_enter Tryz.func164,Tryz.ntmps164
 go_upto_region 1 with fail
 have HW:Hid (Below w.heap.size w (w.alloc (.cells #[.int .i64 x.kind,.string x.name,.string x.loc,.string x.spec] 82))):=(Below.refl _ _).alloc (Nat.le_refl _) _
 refine zx (R:=fun W=>W.heap[w.heap.size]? =some (.cells #[.int .i64 x.kind,.string x.name,.string x.loc,.string x.spec] 82 (0,0))∧PP c t W∧Below c.B w W∧KeepB c.b w W) ⟨heap_alloc_new w _,HP.out.later HW.out,HW.out.mono HP.out.1.2,KeepB.of_below HW.out⟩ ?_
 obtain⟨gx,ac⟩: ∃gx,gx=w.heap.size:=⟨_,rfl⟩
 have ah:gx≠c.b:=by
  rw[ac]
  obtain⟨ao,hc⟩:=zcf HP.out.1.1
  have:=(Array.getElem?_eq_some_iff.1 hc).1
  omega
 rw[←ac]
 rintro W ⟨hx,hp,hb,hk⟩
 clear ac HW
 have X:=zc hx
 have Y:=zc hp
 have ae:=zc hb
 have af:=zc hk
 clear hx hp hb hk
 obtain⟨x0,x1,x2,x3,xf⟩:=zb1 X.out
 obtain⟨U,p1,p2,N,p4,p5,M⟩:=zw Y.out.2.2.1
 go_wp2_with fail
 refine (zbG c t [{data:=#[101,120,112,111,114,116,32]}] W Y.out (by have:=HZ.out;simp only[zt,List.foldl_cons,List.foldl_nil,ByteArray.size_append] at this ⊢;omega) (by simp)).mono ?_
 rintro e w1 ⟨rfl,ai,aj,V⟩
 have J:=zc ai
 have an:=zc (ae.out.trans aj)
 have am:=zc (af.out.trans V)
 have X1:=zc ((V _ _ _ _ X.out ah (by decide)).trans X.out)
 clear ai aj V U p1 p2 N p4 p5 M x0 x1 x2 x3 xf Y ae af X
 obtain⟨x0,x1,x2,x3,xf⟩:=zb1 X1.out
 obtain⟨U,p1,p2,N,p4,p5,M⟩:=zw J.out.2.2.1
 have ab:=(Array.getElem?_eq_some_iff.1 J.out.2.2.1).1
 have aa:=(Array.getElem?_eq_some_iff.1 X1.out).1
 have K:=Z.out
 go_upto_block 0 with fail
 go_cut [] from 12 to 45 (fun wx=>PP c (t++zc4 x) wx∧Below c.B w1 wx∧KeepB c.b w1 wx)
 case first=>
  cases e1:(x.kind==3) with
  |true=>
   have L:Hid (zc4 x=({data:=#[101,120,112,111,114,116,32]}:ByteArray)++({data:=#[42,32,102,114,111,109,32]}:ByteArray)++za0 x.spec):=zss e1
   go_wp2_with fail
   go_region_with (first|(go_at_call 162;refine (zgC x.spec _ h1).mono ?_;rintro e w' ⟨rfl,rfl⟩)|(go_at_call 112;refine (zc2 c _ [{data:=#[42,32,102,114,111,109,32]},za0 x.spec] w1 J.out (by have:=Z.out;rw[zer,L.out] at this;simp only[zt,List.foldl_cons,List.foldl_nil,ByteArray.size_append] at this ⊢;omega) (by simp)).mono ?_;rintro e w2 ⟨rfl,q,A,D⟩))
   all_goals (go_wp2_with fail;go_meet;exact⟨by rw[L.out];simp only[zt,List.foldl_cons,List.foldl_nil,←ByteArray.append_assoc] at q ⊢;exact q,A,D⟩)
  |false=>
   cases e2:(x.kind==2) with
   |true=>
    have L:Hid (zc4 x=({data:=#[101,120,112,111,114,116,32]}:ByteArray)++zbY x.loc x.name++({data:=#[32,102,114,111,109,32]}:ByteArray)++za0 x.spec):=zst e1 e2
    go_wp2_with fail
    refine (zhV c _ x.loc x.name w1 J.out (by have:=Z.out;rw[zer,L.out] at this;simp only[zt,List.foldl_cons,List.foldl_nil,ByteArray.size_append] at this ⊢;omega)).mono ?_
    rintro e w3 ⟨rfl,z,I,E⟩
    have H:=zc z
    have X3:=zc ((E _ _ _ _ X1.out ah (by decide)).trans X1.out)
    have O:=zc I
    have ad:=zc E
    clear z I E U p1 p2 N p4 p5 M x0 x1 x2 x3 xf ab aa
    obtain⟨U,p1,p2,N,p4,p5,M⟩:=zw H.out.2.2.1
    obtain⟨x0,x1,x2,x3,xf⟩:=zb1 X3.out
    have ab:=(Array.getElem?_eq_some_iff.1 H.out.2.2.1).1
    have aa:=(Array.getElem?_eq_some_iff.1 X3.out).1
    go_wp2_with fail
    go_region_with (first|(go_at_call 162;refine (zgC x.spec _ h1).mono ?_;rintro e w' ⟨rfl,rfl⟩)|(go_at_call 112;refine (zc2 c _ [{data:=#[32,102,114,111,109,32]},za0 x.spec] w3 H.out (by have:=Z.out;rw[zer,L.out] at this;simp only[zt,List.foldl_cons,List.foldl_nil,ByteArray.size_append] at this ⊢;omega) (by simp)).mono ?_;rintro e w2 ⟨rfl,q,A,D⟩))
    all_goals (go_wp2_with fail;go_meet;exact⟨by rw[L.out];simp only[zt,List.foldl_cons,List.foldl_nil,←ByteArray.append_assoc] at q ⊢;exact q,O.out.trans A,ad.out.trans D⟩)
   |false=>
    have L:Hid (zc4 x=({data:=#[101,120,112,111,114,116,32]}:ByteArray)++zbY x.loc x.name):=zsu e1 e2
    go_wp2_with fail
    refine (zhV c _ x.loc x.name w1 J.out (by have:=Z.out;rw[zer,L.out] at this;simp only[zt,List.foldl_cons,List.foldl_nil,ByteArray.size_append] at this ⊢;omega)).mono ?_
    rintro e w2 ⟨rfl,q,A,D⟩
    go_wp2_with fail
    go_meet
    exact⟨by rw[L.out];simp only[zt,List.foldl_cons,List.foldl_nil,←ByteArray.append_assoc] at q ⊢;exact q,A,D⟩
 case rest=>
 obtain⟨q,A,D⟩:=hcut
 rename_i w2
 have ag:=zc q
 have al:=zc (an.out.trans A)
 have ak:=zc (am.out.trans D)
 clear q A D U p1 p2 N p4 p5 M x0 x1 x2 x3 xf ab aa
 obtain⟨U,p1,p2,N,p4,p5,M⟩:=zw ag.out.2.2.1
 go_wp2_with fail
 refine (zbG c _ [{data:=#[59]},{data:=#[10]}] _ ag.out (by have:=Z.out;rw[zer] at this;simp only[zt,List.foldl_cons,List.foldl_nil,ByteArray.size_append] at this ⊢;omega) (by simp)).mono ?_
 rintro e w3 ⟨rfl,z,I,E⟩
 have H:=zc z
 have O:=zc (al.out.trans I)
 have ad:=zc (ak.out.trans E)
 clear z I E U p1 p2 N p4 p5 M
 go_wp2
 go_end0
 exact⟨rfl,(by have z:=H.out;rw[zer];simp only[zt,List.foldl_cons,List.foldl_nil,←ByteArray.append_assoc] at z ⊢;exact z),O.out,ad.out⟩
theorem zhW (c:PC) (t:ByteArray) (i:Nat) (w:World) (h:PP c t w) (H:i<c.m.ex.length):
  Calls Tryz.prog 211 #[.pointer (some ⟨c.gp,0,none⟩),.int .i64 (i:Int)] w fun e D=>e= .returned (.int .i64 (c.m.ex.getD i zi).kind)∧D=w:=by
 obtain⟨U,V,p2,N,I,Y,M⟩:=zw h.2.2.1
 obtain⟨g,A,K,J,O,x2,Z,X,L⟩:=h.2.1.expr H
 rw[A] at I
 have E:(i:Int)<(c.m.ex.length:Int):=by omega
 obtain⟨z,q⟩: ∃z,(c.m.ex.getD i zi).kind=z:=⟨_,rfl⟩
 rw[q] at J
 rw[q]
 clear h A q
 go_enter Tryz.func211,Tryz.ntmps211
 go_wp2
 go_ret
 exact⟨rfl,rfl⟩
def zc5 (c:PC) (i:Nat):Prop:=∀(t:ByteArray) (w:World),PP c t w→(t++prX c.m.ex i).size≤140737488355328→Calls Tryz.prog 190 #[.pointer (some ⟨c.gp,0,none⟩),.int .i64 (i:Int)] w (PO c (t++prX c.m.ex i) w)
theorem zgD (c:PC) (t:ByteArray) (i:Nat) (o:Bool) (w:World) (ok:zc5 c i) (h:PP c t w) (q:(t++zH o (prX c.m.ex i)).size≤140737488355328):
  Calls Tryz.prog 210 #[.pointer (some ⟨c.gp,0,none⟩),.int .i64 (i:Int),.bool o] w (PO c (t++zH o (prX c.m.ex i)) w):=by
 have OK:=zc ok
 have HP:=zc h
 clear ok h
 obtain⟨Z,p1,p2,Y,p4,p5,X⟩:=zw HP.out.2.2.1
 cases o with
 |false=>
  have M:Hid ((t++prX c.m.ex i).size≤140737488355328):=q
  clear q
  go_enter Tryz.func210,Tryz.ntmps210
  go_wp2_with fail
  refine (OK.out t w HP.out M.out).mono ?_
  rintro e w1 ⟨rfl,D,E,A⟩
  have J:=zc D
  have I:=zc E
  have H:=zc A
  clear D E A Z p1 p2 Y p4 p5 X
  go_wp2
  refine bodyPost_ret (results_none rfl _ _ _) rfl ?_
  exact⟨rfl,J.out,I.out,H.out⟩
 |true=>
  have M:Hid ((t++(zo++prX c.m.ex i++za7)).size≤140737488355328):=q
  clear q
  go_enter Tryz.func210,Tryz.ntmps210
  go_wp2_with fail
  refine (zbG c t [zo] w HP.out (by have:=M.out;simp only[zt,List.foldl_cons,List.foldl_nil,ByteArray.size_append] at this ⊢;omega) (by simp)).mono ?_
  rintro e w1 ⟨rfl,D,E,A⟩
  have J:=zc D
  have I:=zc E
  have H:=zc A
  clear D E A Z p1 p2 Y p4 p5 X
  go_wp2_with fail
  refine (OK.out _ w1 J.out (by have:=M.out;simp only[zt,List.foldl_cons,List.foldl_nil,ByteArray.size_append] at this ⊢;omega)).mono ?_
  rintro e w2 ⟨rfl,K,U,V⟩
  have N:=zc K
  have ad:=zc (I.out.trans U)
  have ab:=zc (H.out.trans V)
  clear K U V
  obtain⟨Z,p1,p2,Y,p4,p5,X⟩:=zw N.out.2.2.1
  go_wp2_with fail
  refine (zbG c _ [za7] w2 N.out (by have:=M.out;simp only[zt,List.foldl_cons,List.foldl_nil,ByteArray.size_append] at this ⊢;omega) (by simp)).mono ?_
  rintro e w3 ⟨rfl,z,L,O⟩
  have aa:=zc z
  have ac:=zc (ad.out.trans L)
  have ae:=zc (ab.out.trans O)
  clear z L O Z p1 p2 Y p4 p5 X
  go_wp2
  go_end0
  exact⟨rfl,(by have z:=aa.out;unfold zH;rw[if_pos rfl];simp only[zt,List.foldl_cons,List.foldl_nil,←ByteArray.append_assoc] at z ⊢;exact z),ac.out,ae.out⟩
def zaT (k:Int) (n:ByteArray):ByteArray:=
 if n.toList==[42,100,101,102,97,117,108,116] then ({data:=#[101,120,112,111,114,116,32]}:ByteArray)++({data:=#[100,101,102,97,117,108,116]}:ByteArray)++({data:=#[32]}:ByteArray)
 else if k==1 then ({data:=#[108,101,116,32]}:ByteArray)++n++({data:=#[32,61,32]}:ByteArray)
 else if k==2 then ({data:=#[102,117,110,99,116,105,111,110,32]}:ByteArray)++n++({data:=#[40,41,32,123,32,114,101,116,117,114,110,32]}:ByteArray)
 else if k==3 then n++({data:=#[32,61,32]}:ByteArray)
 else if k==4 then ({data:=#[112,114,105,110,116,40]}:ByteArray)
 else if k==5 then ({data:=#[116,104,114,111,119,32]}:ByteArray)
 else ({data:=#[102,97,105,108,32]}:ByteArray)
def zaO (k:Int) (n:ByteArray):ByteArray:=
 if n.toList==[42,100,101,102,97,117,108,116] then ({data:=#[59]}:ByteArray) else if k==2 then ({data:=#[59,32,125]}:ByteArray) else if k==4 then ({data:=#[41,59]}:ByteArray) else ({data:=#[59]}:ByteArray)
theorem zld {k:Int} {n:ByteArray} (e:(n.toList==[42,100,101,102,97,117,108,116])=true):zaT k n=({data:=#[101,120,112,111,114,116,32]}:ByteArray)++({data:=#[100,101,102,97,117,108,116]}:ByteArray)++({data:=#[32]}:ByteArray):=by rw[zaT,e];rfl
theorem zle {k:Int} {n:ByteArray} (e:(n.toList==[42,100,101,102,97,117,108,116])=true):zaO k n=({data:=#[59]}:ByteArray):=by rw[zaO,e];rfl
theorem zlf {k:Int} {n:ByteArray} (e:(n.toList==[42,100,101,102,97,117,108,116])=false) (h:(k==1)=true):zaT k n=({data:=#[108,101,116,32]}:ByteArray)++n++({data:=#[32,61,32]}:ByteArray):=by rw[zaT,e,h];rfl
theorem zlg {k:Int} {n:ByteArray} (e:(n.toList==[42,100,101,102,97,117,108,116])=false) (h:(k==1)=true):zaO k n=({data:=#[59]}:ByteArray):=by have q:=eq_of_beq h;subst q;rw[zaO,e];rfl
theorem zlh {k:Int} {n:ByteArray} (e:(n.toList==[42,100,101,102,97,117,108,116])=false) (q:(k==1)=false) (h:(k==2)=true):zaT k n=({data:=#[102,117,110,99,116,105,111,110,32]}:ByteArray)++n++({data:=#[40,41,32,123,32,114,101,116,117,114,110,32]}:ByteArray):=by rw[zaT,e,q,h];rfl
theorem zli {k:Int} {n:ByteArray} (e:(n.toList==[42,100,101,102,97,117,108,116])=false) (h:(k==2)=true):zaO k n=({data:=#[59,32,125]}:ByteArray):=by rw[zaO,e,h];rfl
theorem zlj {k:Int} {n:ByteArray} (e:(n.toList==[42,100,101,102,97,117,108,116])=false) (w:(k==1)=false) (q:(k==2)=false) (h:(k==3)=true):zaT k n=n++({data:=#[32,61,32]}:ByteArray):=by rw[zaT,e,w,q,h];rfl
theorem zlk {k:Int} {n:ByteArray} (e:(n.toList==[42,100,101,102,97,117,108,116])=false) (h:(k==3)=true):zaO k n=({data:=#[59]}:ByteArray):=by have q:=eq_of_beq h;subst q;rw[zaO,e];rfl
theorem zll {k:Int} {n:ByteArray} (e:(n.toList==[42,100,101,102,97,117,108,116])=false) (q:(k==1)=false) (w:(k==2)=false) (h:(k==3)=false) (z:(k==4)=true):zaT k n=({data:=#[112,114,105,110,116,40]}:ByteArray):=by rw[zaT,e,q,w,h,z];rfl
theorem zlm {k:Int} {n:ByteArray} (e:(n.toList==[42,100,101,102,97,117,108,116])=false) (h:(k==2)=false) (q:(k==4)=true):zaO k n=({data:=#[41,59]}:ByteArray):=by rw[zaO,e,h,q];rfl
theorem zln {k:Int} {n:ByteArray} (e:(n.toList==[42,100,101,102,97,117,108,116])=false) (z:(k==1)=false) (q:(k==2)=false) (w:(k==3)=false) (h:(k==4)=false) (A:(k==5)=true):zaT k n=({data:=#[116,104,114,111,119,32]}:ByteArray):=by rw[zaT,e,z,q,w,h,A];rfl
theorem zlo {k:Int} {n:ByteArray} (e:(n.toList==[42,100,101,102,97,117,108,116])=false) (h:(k==2)=false) (q:(k==4)=false):zaO k n=({data:=#[59]}:ByteArray):=by rw[zaO,e,h,q];rfl
theorem zlp {k:Int} {n:ByteArray} (e:(n.toList==[42,100,101,102,97,117,108,116])=false) (z:(k==1)=false) (q:(k==2)=false) (w:(k==3)=false) (h:(k==4)=false) (A:(k==5)=false):zaT k n=({data:=#[102,97,105,108,32]}:ByteArray):=by rw[zaT,e,z,q,w,h,A];rfl
theorem zlq {k:Int} {n:ByteArray} (e:(n.toList==[42,100,101,102,97,117,108,116])=false) (h:(k==2)=false) (q:(k==4)=false):zaO k n=({data:=#[59]}:ByteArray):=by rw[zaO,e,h,q];rfl
theorem zlr (k:Int) (n e:ByteArray):zdl k n e=zaT k n++e++zaO k n++({data:=#[10]}:ByteArray):=by
 have I:({data:=#[59,10]}:ByteArray)=({data:=#[59]}:ByteArray)++({data:=#[10]}:ByteArray):=zcg #[59] #[10]
 have E:({data:=#[59,32,125,10]}:ByteArray)=({data:=#[59,32,125]}:ByteArray)++({data:=#[10]}:ByteArray):=zcg #[59,32,125] #[10]
 have K:({data:=#[41,59,10]}:ByteArray)=({data:=#[41,59]}:ByteArray)++({data:=#[10]}:ByteArray):=zcg #[41,59] #[10]
 have H:({data:=#[101,120,112,111,114,116,32,100,101,102,97,117,108,116,32]}:ByteArray)=({data:=#[101,120,112,111,114,116,32,100,101,102,97,117,108,116]}:ByteArray)++({data:=#[32]}:ByteArray):=zcg #[101,120,112,111,114,116,32,100,101,102,97,117,108,116] #[32]
 have J:({data:=#[101,120,112,111,114,116,32,100,101,102,97,117,108,116]}:ByteArray)=({data:=#[101,120,112,111,114,116,32]}:ByteArray)++({data:=#[100,101,102,97,117,108,116]}:ByteArray):=zcg #[101,120,112,111,114,116,32] #[100,101,102,97,117,108,116]
 unfold zdl za5
 rw[I,E,K,H,J]
 cases h:(n.toList==[42,100,101,102,97,117,108,116]) with
 |true=>rw[zld h,zle h];simp only[↓reduceIte,ByteArray.append_assoc]
 |false=>
  cases w:(k==1) with
  |true=>rw[zlf h w,zlg h w];simp only[↓reduceIte,Bool.false_eq_true,ByteArray.append_assoc]
  |false=>
   cases q:(k==2) with
   |true=>rw[zlh h w q,zli h q];simp only[↓reduceIte,Bool.false_eq_true,ByteArray.append_assoc]
   |false=>
    cases A:(k==3) with
    |true=>rw[zlj h w q A,zlk h A];simp only[↓reduceIte,Bool.false_eq_true,ByteArray.append_assoc]
    |false=>
     cases z:(k==4) with
     |true=>rw[zll h w q A z,zlm h q z];simp only[↓reduceIte,Bool.false_eq_true,ByteArray.append_assoc]
     |false=>
      cases D:(k==5) with
      |true=>rw[zln h w q A z D,zlo h q z];simp only[↓reduceIte,Bool.false_eq_true,ByteArray.append_assoc]
      |false=>
       rw[zlp h w q A z D,zlq h q z];simp only[↓reduceIte,Bool.false_eq_true,ByteArray.append_assoc]
theorem zsx (k:Int) (n e:ByteArray):(zdl k n e).size=(zaT k n).size+e.size+(zaO k n).size+1:=by
 rw[zlr,ByteArray.size_append,ByteArray.size_append,ByteArray.size_append]
 rfl
theorem zsy (c:PC) (t:ByteArray) (k:Int) (n:ByteArray) (i:Nat) (w:World) (ok:zc5 c i) (h:PP c t w) (M:(t++zdl k n (prX c.m.ex i)).size≤140737488355328):
  Calls Tryz.prog 165 #[.pointer (some ⟨c.gp,0,none⟩),.agg #[.int .i64 k,.string n,.int .i64 (i:Int)]] w (PO c (t++zdl k n (prX c.m.ex i)) w):=by
 have HP:=zc h
 have OK:=zc ok
 have O:Hid (t.size+((zaT k n).size+(prX c.m.ex i).size+(zaO k n).size+1)≤140737488355328):=by show _≤_;rw[ByteArray.size_append,zsx] at M;exact M
 clear h M ok
 go_enter Tryz.func165,Tryz.ntmps165
 go_upto_region 1 with fail
 have HW:Hid (Below w.heap.size w (w.alloc (.cells #[.int .i64 k,.string n,.int .i64 (i:Int)] 87))):=(Below.refl _ _).alloc (Nat.le_refl _) _
 refine zx (R:=fun W=>W.heap[w.heap.size]? =some (.cells #[.int .i64 k,.string n,.int .i64 (i:Int)] 87 (0,0))∧PP c t W∧Below c.B w W∧KeepB c.b w W) ⟨heap_alloc_new w _,HP.out.later HW.out,HW.out.mono HP.out.1.2,KeepB.of_below HW.out⟩ ?_
 obtain⟨gx,X⟩: ∃gx,gx=w.heap.size:=⟨_,rfl⟩
 have aq:gx≠c.b:=by
  rw[X]
  obtain⟨av,hc⟩:=zcf HP.out.1.1
  have:=(Array.getElem?_eq_some_iff.1 hc).1
  omega
 rw[←X]
 rintro U ⟨hx,hp,hb,hk⟩
 clear X HW
 have X1:=zc hx
 have H:=zc hp
 have ap:=zc hb
 have am:=zc hk
 clear hx hp hb hk
 obtain⟨x0,x1,x2,xf⟩:=zq X1.out
 obtain⟨p0,p1,p2,p3,p4,p5,pf⟩:=zw H.out.2.2.1
 have al:=(Array.getElem?_eq_some_iff.1 H.out.2.2.1).1
 have aj:=(Array.getElem?_eq_some_iff.1 X1.out).1
 go_upto_block 0 with fail
 go_cut [4] from 5 to 76 (fun s4 wx=>s4= .string (zaO k n)∧PP c (t++zaT k n) wx∧Below c.B U wx∧KeepB c.b U wx)
 case first=>
  cases I:(n.toList==[42,100,101,102,97,117,108,116]) with
  |true=>
   have E:Hid (zaT k n=({data:=#[101,120,112,111,114,116,32]}:ByteArray)++({data:=#[100,101,102,97,117,108,116]}:ByteArray)++({data:=#[32]}:ByteArray)):=zld I
   have K:Hid (zaO k n=({data:=#[59]}:ByteArray)):=zle I
   have J:Hid ((zt t [{data:=#[101,120,112,111,114,116,32]},{data:=#[100,101,102,97,117,108,116]},{data:=#[32]}]).size≤140737488355328):=by show _≤_;have:=O.out;rw[E.out] at this;simp only[zt,List.foldl_cons,List.foldl_nil,ByteArray.size_append] at this ⊢;omega
   go_wp2_with fail
   refine (zbG c t [{data:=#[101,120,112,111,114,116,32]},{data:=#[100,101,102,97,117,108,116]},{data:=#[32]}] U H.out J.out (by simp)).mono ?_
   rintro e Y ⟨rfl,q,D,A⟩
   go_wp2_with fail
   go_meet
   exact⟨by rw[K.out],by rw[E.out];simp only[zt,List.foldl_cons,List.foldl_nil,←ByteArray.append_assoc] at q ⊢;exact q,D,A⟩
  |false=>
   cases V:(k==1) with
   |true=>
    have E:Hid (zaT k n=({data:=#[108,101,116,32]}:ByteArray)++n++({data:=#[32,61,32]}:ByteArray)):=zlf I V
    have K:Hid (zaO k n=({data:=#[59]}:ByteArray)):=zlg I V
    have J:Hid ((zt t [{data:=#[108,101,116,32]},n,{data:=#[32,61,32]}]).size≤140737488355328):=by show _≤_;have:=O.out;rw[E.out] at this;simp only[zt,List.foldl_cons,List.foldl_nil,ByteArray.size_append] at this ⊢;omega
    go_wp2_with fail
    go_region_with (go_at_call 112;refine (zc2 c t [{data:=#[108,101,116,32]},n,{data:=#[32,61,32]}] U H.out J.out (by simp)).mono ?_;rintro e Y ⟨rfl,q,D,A⟩)
    all_goals (go_wp2_with fail;go_meet;exact⟨by rw[K.out],by rw[E.out];simp only[zt,List.foldl_cons,List.foldl_nil,←ByteArray.append_assoc] at q ⊢;exact q,D,A⟩)
   |false=>
    cases N:(k==2) with
    |true=>
     have E:Hid (zaT k n=({data:=#[102,117,110,99,116,105,111,110,32]}:ByteArray)++n++({data:=#[40,41,32,123,32,114,101,116,117,114,110,32]}:ByteArray)):=zlh I V N
     have K:Hid (zaO k n=({data:=#[59,32,125]}:ByteArray)):=zli I N
     have J:Hid ((zt t [{data:=#[102,117,110,99,116,105,111,110,32]},n,{data:=#[40,41,32,123,32,114,101,116,117,114,110,32]}]).size≤140737488355328):=by show _≤_;have:=O.out;rw[E.out] at this;simp only[zt,List.foldl_cons,List.foldl_nil,ByteArray.size_append] at this ⊢;omega
     go_wp2_with fail
     go_region_with (go_at_call 112;refine (zc2 c t [{data:=#[102,117,110,99,116,105,111,110,32]},n,{data:=#[40,41,32,123,32,114,101,116,117,114,110,32]}] U H.out J.out (by simp)).mono ?_;rintro e Y ⟨rfl,q,D,A⟩)
     all_goals (go_wp2_with fail;go_meet;exact⟨by rw[K.out],by rw[E.out];simp only[zt,List.foldl_cons,List.foldl_nil,←ByteArray.append_assoc] at q ⊢;exact q,D,A⟩)
    |false=>
     cases h3:(k==3) with
     |true=>
      have E:Hid (zaT k n=n++({data:=#[32,61,32]}:ByteArray)):=zlj I V N h3
      have K:Hid (zaO k n=({data:=#[59]}:ByteArray)):=zlk I h3
      have J:Hid ((zt t [n,{data:=#[32,61,32]}]).size≤140737488355328):=by show _≤_;have:=O.out;rw[E.out] at this;simp only[zt,List.foldl_cons,List.foldl_nil,ByteArray.size_append] at this ⊢;omega
      go_wp2_with fail
      go_region_with (go_at_call 112;refine (zc2 c t [n,{data:=#[32,61,32]}] U H.out J.out (by simp)).mono ?_;rintro e Y ⟨rfl,q,D,A⟩)
      all_goals (go_wp2_with fail;go_meet;exact⟨by rw[K.out],by rw[E.out];simp only[zt,List.foldl_cons,List.foldl_nil,←ByteArray.append_assoc] at q ⊢;exact q,D,A⟩)
     |false=>
      cases Z:(k==4) with
      |true=>
       have E:Hid (zaT k n=({data:=#[112,114,105,110,116,40]}:ByteArray)):=zll I V N h3 Z
       have K:Hid (zaO k n=({data:=#[41,59]}:ByteArray)):=zlm I N Z
       have J:Hid ((zt t [{data:=#[112,114,105,110,116,40]}]).size≤140737488355328):=by show _≤_;have:=O.out;rw[E.out] at this;simp only[zt,List.foldl_cons,List.foldl_nil,ByteArray.size_append] at this ⊢;omega
       go_wp2_with fail
       refine (zbG c t [{data:=#[112,114,105,110,116,40]}] U H.out J.out (by simp)).mono ?_
       rintro e Y ⟨rfl,q,D,A⟩
       go_wp2_with fail
       go_meet
       exact⟨by rw[K.out],by rw[E.out];exact q,D,A⟩
      |false=>
       cases h5:(k==5) with
       |true=>
        have E:Hid (zaT k n=({data:=#[116,104,114,111,119,32]}:ByteArray)):=zln I V N h3 Z h5
        have K:Hid (zaO k n=({data:=#[59]}:ByteArray)):=zlo I N Z
        have J:Hid ((zt t [{data:=#[116,104,114,111,119,32]}]).size≤140737488355328):=by show _≤_;have:=O.out;rw[E.out] at this;simp only[zt,List.foldl_cons,List.foldl_nil,ByteArray.size_append] at this ⊢;omega
        go_wp2_with fail
        refine (zbG c t [{data:=#[116,104,114,111,119,32]}] U H.out J.out (by simp)).mono ?_
        rintro e Y ⟨rfl,q,D,A⟩
        go_wp2_with fail
        go_meet
        exact⟨by rw[K.out],by rw[E.out];exact q,D,A⟩
       |false=>
        have E:Hid (zaT k n=({data:=#[102,97,105,108,32]}:ByteArray)):=zlp I V N h3 Z h5
        have K:Hid (zaO k n=({data:=#[59]}:ByteArray)):=zlq I N Z
        have J:Hid ((zt t [{data:=#[102,97,105,108,32]}]).size≤140737488355328):=by show _≤_;have:=O.out;rw[E.out] at this;simp only[zt,List.foldl_cons,List.foldl_nil,ByteArray.size_append] at this ⊢;omega
        go_wp2_with fail
        refine (zbG c t [{data:=#[102,97,105,108,32]}] U H.out J.out (by simp)).mono ?_
        rintro e Y ⟨rfl,q,D,A⟩
        go_wp2_with fail
        go_meet
        exact⟨by rw[K.out],by rw[E.out];exact q,D,A⟩
 case rest=>
 rename_i s4 Y
 obtain⟨rfl,q,D,A⟩:=hcut
 have an:=zc q
 have ak:=zc (ap.out.trans D)
 have ag:=zc (am.out.trans A)
 have X2:=zc ((A _ _ _ _ X1.out aq (by decide)).trans X1.out)
 clear q D A p0 p1 p2 p3 p4 p5 pf x0 x1 x2 xf al aj
 obtain⟨x0,x1,x2,xf⟩:=zq X2.out
 go_wp2_with fail
 refine (OK.out _ _ an.out (by have:=O.out;simp only[ByteArray.size_append] at this ⊢;omega)).mono ?_
 rintro e w3 ⟨rfl,L,ab,ae⟩
 have aa:=zc L
 have ah:=zc (ak.out.trans ab)
 have ar:=zc (ag.out.trans ae)
 clear L ab ae x0 x1 x2 xf
 obtain⟨p0,p1,p2,p3,p4,p5,pf⟩:=zw aa.out.2.2.1
 go_wp2_with fail
 refine (zbG c _ [zaO k n,{data:=#[10]}] _ aa.out (by have:=O.out;have z:(({data:=#[10]}:ByteArray)).size=1:=rfl;simp only[zt,List.foldl_cons,List.foldl_nil,ByteArray.size_append,z] at this ⊢;omega) (by simp)).mono ?_
 rintro e w4 ⟨rfl,ac,af,ad⟩
 have ai:=zc ac
 have au:=zc (ah.out.trans af)
 have ao:=zc (ar.out.trans ad)
 clear ac af ad p0 p1 p2 p3 p4 p5 pf
 go_wp2
 go_end0
 exact⟨rfl,(by have L:=ai.out;rw[zlr];simp only[zt,List.foldl_cons,List.foldl_nil,←ByteArray.append_assoc] at L ⊢;exact L),au.out,ao.out⟩
theorem zgE {α:Type} {l:List α} {j:Nat} (h:j<l.length): ∃x,l[j]? =some x:=⟨_,List.getElem?_eq_getElem h⟩
theorem zsz (l:List ByteArray):l.map Value.string=l.flatMap (fun x=>[Value.string x]):=by
 induction l with
 |nil=>rfl
 |cons x l h=>rw[List.map_cons,List.flatMap_cons,h];rfl
theorem zs0 (t:ByteArray):t++sNone=t:=by
 cases t with
 |mk d=>
  show ByteArray.append _ _=_
  simp[ByteArray.append]
theorem zls (m:Md):(acc epF m.ep (acc zab m.im (acc rqT m.rq sNone))).size≤(zbS m).size:=zed _ _ _
theorem zlt (m:Md):(acc zab m.im (acc rqT m.rq sNone)).size≤(zbS m).size:=Nat.le_trans (zed _ _ _) (zls m)
theorem zs1 (m:Md):(acc rqT m.rq sNone).size≤(zbS m).size:=Nat.le_trans (zed _ _ _) (zlt m)
theorem zlu (s:ByteArray):rqT s=({data:=#[105,109,112,111,114,116,32]}:ByteArray)++za0 s++({data:=#[59]}:ByteArray)++({data:=#[10]}:ByteArray):=by
 have h:({data:=#[59,10]}:ByteArray)={data:=#[59]}++{data:=#[10]}:=zcg #[59] #[10]
 rw[rqT,h]
 simp only[ByteArray.append_assoc]
theorem zlv {x:Ep} (h:(x.loc.toList==[42,100,101,102,97,117,108,116])=false):epF x=zbp x:=by rw[epF,h];rfl
theorem zs2 {x:Ep} (h:(x.loc.toList==[42,100,101,102,97,117,108,116])=true):epF x=sNone:=by rw[epF,h];rfl
theorem zs3 (c:PC) (w:World) (ok: ∀i,i<c.m.ex.length→zc5 c i) (hs: ∀s∈c.m.st,0≤s.expr∧s.expr<(c.m.ex.length:Int)) (hm:Small c.m) (h:PP c sNone w) (ae:(zbS c.m).size≤140737488355328):
  Calls Tryz.prog 113 #[.pointer (some ⟨c.gp,0,none⟩)] w (PO c (zbS c.m) w):=by
 have ah:=zc h
 have SM:=zc hm
 have OK:=zc ok
 have HS:=zc hs
 have HL:=zc ae
 obtain⟨f1,f2,f3,f4,f5⟩:=hm.few
 clear h hm ok hs ae
 obtain⟨Z,p1,p2,p3,p4,p5,pf⟩:=zw ah.out.2.2.1
 go_enter Tryz.func113,Tryz.ntmps113
 go_wp2
 go_loopg [16] c.m.rq.length (fun k i wr=>∃j:Nat,i= .int .i64 j∧j+k=c.m.rq.length∧PP c (acc rqT (c.m.rq.take j) sNone) wr∧Below c.B w wr∧KeepB c.b w wr)
 case atStart=>exact⟨0,rfl,by omega,ah.out,Below.refl _ _,fun _ _ _ _ _ _ _=>rfl⟩
 case round=>
  obtain⟨j,rfl,hj,M,L,N⟩:=hrel
  have z:=zc M
  have H:=zc L
  have E:=zc N
  clear M L N Z p1 p2 p3 p4 p5 pf
  obtain⟨Z,p1,p2,p3,p4,p5,pf⟩:=zw z.out.2.2.1
  by_cases Y:j<c.m.rq.length
  ·have J:(j:Int)<(c.m.rq.length:Int):=by omega
   obtain⟨x,q⟩:=zgE Y
   have D:=List.mem_of_getElem? q
   have HZ:Hid ((acc rqT (c.m.rq.take j) sNone++rqT x).size≤140737488355328):=by show _≤_;rw[←zc0 rqT q];exact Nat.le_trans (zdC rqT c.m.rq (j+1) sNone) (Nat.le_trans (zs1 c.m) HL.out)
   have HX:=zc q
   obtain⟨K,I⟩: ∃K,K=j+1:=⟨_,rfl⟩
   have ej:(j:Int)+1=(K:Int):=by omega
   have HJ:=zc I
   clear I
   obtain⟨g,hg,k0⟩: ∃g,c.S.rq.a=some ⟨g,0,none⟩∧wr.cell? ⟨g,j,none⟩=some (.string x):=by
    obtain⟨g,hg,hc⟩:=OwnR.elem (f:=fun x=>[Value.string x]) (m:=1) (fun _=>rfl) (show OwnR wr c.base 9 1 c.S.rq c.m.rq.length (c.m.rq.flatMap fun x=>[Value.string x]) by rw[←zsz];exact z.out.2.1.rq) q
    have k0:=hc 0 (by omega)
    simp only[Nat.mul_one,Nat.add_zero,List.getElem?_cons_zero] at k0
    exact⟨g,hg,k0⟩
   have ag:=SM.out.rq x D
   have HG:Hid (Value.slice c.S.rq.a c.m.rq.length c.S.rq.cap=Value.slice (some ⟨g,0,none⟩) c.m.rq.length c.S.rq.cap):=by show _=_;rw[hg]
   clear hg q D Z p1 p2 p3 p4 p5 pf
   rw[HG.out]
   obtain⟨Z,p1,p2,p3,p4,p5,pf⟩:=zw z.out.2.2.1
   have ao:=(Array.getElem?_eq_some_iff.1 z.out.2.2.1).1
   go_wp2_with fail
   go_region_with (first|(go_at_call 162;refine (zgC x _ (by omega)).mono ?_;rintro e w' ⟨rfl,rfl⟩)|(go_at_call 112;refine (zc2 c _ [{data:=#[105,109,112,111,114,116,32]},za0 x,{data:=#[59]},{data:=#[10]}] wr z.out (by have:=HZ.out;rw[zlu] at this;simp only[zt,List.foldl_cons,List.foldl_nil,ByteArray.size_append] at this ⊢;omega) (by simp)).mono ?_;rintro e w3 ⟨rfl,ab,aj,ai⟩))
   all_goals
    have an:=zc ab
    have ak:=zc (H.out.trans aj)
    have al:=zc (E.out.trans ai)
    clear ab aj ai Z p1 p2 p3 p4 p5 pf ao k0
    go_wp2
    rw[←HG.out]
    go_roundg (gk-1)
    case rel=>exact⟨K,rfl,by have:=HJ.out;omega,by rw[HJ.out,zc0 rqT HX.out];exact (by have ab:=an.out;rw[zlu];simp only[zt,List.foldl_cons,List.foldl_nil,←ByteArray.append_assoc] at ab ⊢;exact ab),ak.out,al.out⟩
    case measure=>omega
  ·have J: ¬(j:Int)<(c.m.rq.length:Int):=by omega
   obtain rfl:j=c.m.rq.length:=by omega
   have HN:Hid (PP c (acc zab (c.m.im.take 0) (acc rqT c.m.rq sNone)) wr):=by have:=z.out;rw[List.take_length] at this;exact this
   go_wp2
   go_loopg [35] c.m.im.length (fun k i wr=>∃j:Nat,i= .int .i64 j∧j+k=c.m.im.length∧PP c (acc zab (c.m.im.take j) (acc rqT c.m.rq sNone)) wr∧Below c.B w wr∧KeepB c.b w wr)
   case atStart=>exact⟨0,rfl,by omega,HN.out,H.out,E.out⟩
   case round=>
    obtain⟨j,rfl,hj,M,L,N⟩:=hrel
    clear z H E HN
    have z:=zc M
    have H:=zc L
    have E:=zc N
    clear M L N Z p1 p2 p3 p4 p5 pf
    obtain⟨Z,p1,p2,p3,p4,p5,pf⟩:=zw z.out.2.2.1
    by_cases Y:j<c.m.im.length
    ·have J:(j:Int)<(c.m.im.length:Int):=by omega
     obtain⟨x,q⟩:=zgE Y
     have D:=List.mem_of_getElem? q
     have HZ:Hid ((acc zab (c.m.im.take j) (acc rqT c.m.rq sNone)++zab x).size≤140737488355328):=by show _≤_;rw[←zc0 zab q];exact Nat.le_trans (zdC zab c.m.im (j+1) (acc rqT c.m.rq sNone)) (Nat.le_trans (zlt c.m) HL.out)
     have HX:=zc q
     obtain⟨K,I⟩: ∃K,K=j+1:=⟨_,rfl⟩
     have ej:(j:Int)+1=(K:Int):=by omega
     have HJ:=zc I
     clear I
     obtain⟨g,hg,A⟩:=OwnR.elem (f:=imL) (m:=3) (fun _=>rfl) z.out.2.1.im q
     have k0:=A 0 (by omega)
     have k1:=A 1 (by omega)
     have k2:=A 2 (by omega)
     simp only[imL,Nat.add_zero,List.getElem?_cons_zero,List.getElem?_cons_succ] at k0 k1 k2
     clear A
     have ag:=(SM.out.im x D).1
     have HG:Hid (Value.slice c.S.im.a c.m.im.length c.S.im.cap=Value.slice (some ⟨g,0,none⟩) c.m.im.length c.S.im.cap):=by show _=_;rw[hg]
     clear hg q D Z p1 p2 p3 p4 p5 pf
     rw[HG.out]
     go_upto_region 8 with fail
     have HW:Hid (Below wr.heap.size wr (wr.alloc (.cells #[.string x.spec,.string x.first,.string x.loc] 80))):=(Below.refl _ _).alloc (Nat.le_refl _) _
     refine zx (R:=fun W=>W.heap[wr.heap.size]? =some (.cells #[.string x.spec,.string x.first,.string x.loc] 80 (0,0))∧PP c (acc zab (c.m.im.take j) (acc rqT c.m.rq sNone)) W∧Below c.B w W∧KeepB c.b w W) ⟨heap_alloc_new wr _,z.out.later HW.out,H.out.trans (HW.out.mono z.out.1.2),E.out.trans (KeepB.of_below HW.out)⟩ ?_
     obtain⟨gx,X⟩: ∃gx,gx=wr.heap.size:=⟨_,rfl⟩
     rw[←X]
     clear k0 k1 k2 HW
     rintro W ⟨xb,M,L,N⟩
     clear X z H E
     have XB:=zc xb
     have z:=zc M
     have H:=zc L
     have E:=zc N
     clear xb M L N
     obtain⟨x0,x1,x2,xf⟩:=zq XB.out
     go_wp2_with fail
     refine (zsr c _ x W z.out HZ.out (by omega)).mono ?_
     rintro e W2 ⟨rfl,V,O,U⟩
     have ad:=zc V
     have aa:=zc (H.out.trans O)
     have ac:=zc (E.out.trans U)
     clear V O U x0 x1 x2 xf
     go_wp2
     rw[←HG.out]
     go_roundg (gk-1)
     case rel=>exact⟨K,rfl,by have:=HJ.out;omega,by rw[HJ.out,zc0 zab HX.out];exact ad.out,aa.out,ac.out⟩
     case measure=>omega
    ·have J: ¬(j:Int)<(c.m.im.length:Int):=by omega
     obtain rfl:j=c.m.im.length:=by omega
     have HN:Hid (PP c (acc epF (c.m.ep.take 0) (acc zab c.m.im (acc rqT c.m.rq sNone))) wr):=by have:=z.out;rw[List.take_length] at this;exact this
     go_wp2
     go_loopg [49] c.m.ep.length (fun k i wr=>∃j:Nat,i= .int .i64 j∧j+k=c.m.ep.length∧PP c (acc epF (c.m.ep.take j) (acc zab c.m.im (acc rqT c.m.rq sNone))) wr∧Below c.B w wr∧KeepB c.b w wr)
     case atStart=>exact⟨0,rfl,by omega,HN.out,H.out,E.out⟩
     case round=>
      obtain⟨j,rfl,hj,M,L,N⟩:=hrel
      clear z H E HN
      have z:=zc M
      have H:=zc L
      have E:=zc N
      clear M L N Z p1 p2 p3 p4 p5 pf
      obtain⟨Z,p1,p2,p3,p4,p5,pf⟩:=zw z.out.2.2.1
      by_cases Y:j<c.m.ep.length
      ·have J:(j:Int)<(c.m.ep.length:Int):=by omega
       obtain⟨x,q⟩:=zgE Y
       have D:=List.mem_of_getElem? q
       have HZ:Hid ((acc epF (c.m.ep.take j) (acc zab c.m.im (acc rqT c.m.rq sNone))++epF x).size≤140737488355328):=by show _≤_;rw[←zc0 epF q];exact Nat.le_trans (zdC epF c.m.ep (j+1) (acc zab c.m.im (acc rqT c.m.rq sNone))) (Nat.le_trans (zls c.m) HL.out)
       have HX:=zc q
       obtain⟨K,I⟩: ∃K,K=j+1:=⟨_,rfl⟩
       have ej:(j:Int)+1=(K:Int):=by omega
       have HJ:=zc I
       clear I
       obtain⟨g,hg,A⟩:=OwnR.elem (f:=epL) (m:=4) (fun _=>rfl) z.out.2.1.ep q
       have k0:=A 0 (by omega)
       have k1:=A 1 (by omega)
       have k2:=A 2 (by omega)
       have k3:=A 3 (by omega)
       simp only[epL,Nat.add_zero,List.getElem?_cons_zero,List.getElem?_cons_succ] at k0 k1 k2 k3
       clear A
       have ag:=(SM.out.ep x D).1
       have HG:Hid (Value.slice c.S.ep.a c.m.ep.length c.S.ep.cap=Value.slice (some ⟨g,0,none⟩) c.m.ep.length c.S.ep.cap):=by show _=_;rw[hg]
       clear hg q D Z p1 p2 p3 p4 p5 pf
       rw[HG.out]
       go_upto_region 13 with fail
       have HW:Hid (Below wr.heap.size wr (wr.alloc (.cells #[.int .i64 x.kind,.string x.name,.string x.loc,.string x.spec] 82))):=(Below.refl _ _).alloc (Nat.le_refl _) _
       refine zx (R:=fun W=>W.heap[wr.heap.size]? =some (.cells #[.int .i64 x.kind,.string x.name,.string x.loc,.string x.spec] 82 (0,0))∧PP c (acc epF (c.m.ep.take j) (acc zab c.m.im (acc rqT c.m.rq sNone))) W∧Below c.B w W∧KeepB c.b w W) ⟨heap_alloc_new wr _,z.out.later HW.out,H.out.trans (HW.out.mono z.out.1.2),E.out.trans (KeepB.of_below HW.out)⟩ ?_
       obtain⟨gx,X⟩: ∃gx,gx=wr.heap.size:=⟨_,rfl⟩
       rw[←X]
       clear k0 k1 k2 k3 HW
       rintro W ⟨xb,M,L,N⟩
       clear X z H E
       have XB:=zc xb
       have z:=zc M
       have H:=zc L
       have E:=zc N
       clear xb M L N
       obtain⟨x0,x1,x2,x3,xf⟩:=zb1 XB.out
       cases e1:(x.loc.toList==[42,100,101,102,97,117,108,116]) with
       |false=>
        go_wp2_with fail
        refine (zsw c _ x W z.out (by have:=HZ.out;rw[zlv e1] at this;exact this) (by omega)).mono ?_
        rintro e W2 ⟨rfl,V,O,U⟩
        have ad:=zc V
        have aa:=zc (H.out.trans O)
        have ac:=zc (E.out.trans U)
        clear V O U x0 x1 x2 x3 xf
        go_wp2
        rw[←HG.out]
        go_roundg (gk-1)
        case rel=>exact⟨K,rfl,by have:=HJ.out;omega,by rw[HJ.out,zc0 epF HX.out];exact (by rw[zlv e1];exact ad.out),aa.out,ac.out⟩
        case measure=>omega
       |true=>
        go_wp2
        rw[←HG.out]
        go_roundg (gk-1)
        case rel=>exact⟨K,rfl,by have:=HJ.out;omega,by rw[HJ.out,zc0 epF HX.out];exact (by rw[zs2 e1,zs0];exact z.out),H.out,E.out⟩
        case measure=>omega
      ·have J: ¬(j:Int)<(c.m.ep.length:Int):=by omega
       obtain rfl:j=c.m.ep.length:=by omega
       have HN:Hid (PP c (acc (zcD c.m.ex) (c.m.st.take 0) (zcc c.m)) wr):=by have:=z.out;rw[List.take_length] at this;exact this
       go_wp2
       go_loopg [66] c.m.st.length (fun k i wr=>∃j:Nat,i= .int .i64 j∧j+k=c.m.st.length∧PP c (acc (zcD c.m.ex) (c.m.st.take j) (zcc c.m)) wr∧Below c.B w wr∧KeepB c.b w wr)
       case atStart=>exact⟨0,rfl,by omega,HN.out,H.out,E.out⟩
       case round=>
        obtain⟨j,rfl,hj,M,L,N⟩:=hrel
        clear z H E HN
        have z:=zc M
        have H:=zc L
        have E:=zc N
        clear M L N Z p1 p2 p3 p4 p5 pf
        obtain⟨Z,p1,p2,p3,p4,p5,pf⟩:=zw z.out.2.2.1
        by_cases Y:j<c.m.st.length
        ·have J:(j:Int)<(c.m.st.length:Int):=by omega
         obtain⟨x,q⟩:=zgE Y
         have D:=List.mem_of_getElem? q
         have HZ:Hid ((acc (zcD c.m.ex) (c.m.st.take j) (zcc c.m)++(zcD c.m.ex) x).size≤140737488355328):=by show _≤_;rw[←zc0 (zcD c.m.ex) q];exact Nat.le_trans (zdC (zcD c.m.ex) c.m.st (j+1) (zcc c.m)) HL.out
         have HX:=zc q
         obtain⟨K,I⟩: ∃K,K=j+1:=⟨_,rfl⟩
         have ej:(j:Int)+1=(K:Int):=by omega
         have HJ:=zc I
         clear I
         obtain⟨ei,af⟩: ∃n:Nat,x.expr=(n:Int):=⟨x.expr.toNat,by have:=HS.out x D;omega⟩
         have am:ei<c.m.ex.length:=by have:=HS.out x D;omega
         obtain⟨g,hg,A⟩:=OwnR.elem (f:=smL) (m:=3) (fun _=>rfl) z.out.2.1.st q
         have k0:=A 0 (by omega)
         have k1:=A 1 (by omega)
         have k2:=A 2 (by omega)
         simp only[smL,Nat.add_zero,List.getElem?_cons_zero,List.getElem?_cons_succ,af] at k0 k1 k2
         clear A
         have HG:Hid (Value.slice c.S.st.a c.m.st.length c.S.st.cap=Value.slice (some ⟨g,0,none⟩) c.m.st.length c.S.st.cap):=by show _=_;rw[hg]
         clear hg q D Z p1 p2 p3 p4 p5 pf
         rw[HG.out]
         go_upto_region 19 with fail
         have HW:Hid (Below wr.heap.size wr (wr.alloc (.cells #[.int .i64 x.kind,.string x.name,.int .i64 (ei:Int)] 87))):=(Below.refl _ _).alloc (Nat.le_refl _) _
         refine zx (R:=fun W=>W.heap[wr.heap.size]? =some (.cells #[.int .i64 x.kind,.string x.name,.int .i64 (ei:Int)] 87 (0,0))∧PP c (acc (zcD c.m.ex) (c.m.st.take j) (zcc c.m)) W∧Below c.B w W∧KeepB c.b w W) ⟨heap_alloc_new wr _,z.out.later HW.out,H.out.trans (HW.out.mono z.out.1.2),E.out.trans (KeepB.of_below HW.out)⟩ ?_
         obtain⟨gx,X⟩: ∃gx,gx=wr.heap.size:=⟨_,rfl⟩
         rw[←X]
         clear k0 k1 k2 HW
         rintro W ⟨xb,M,L,N⟩
         clear X z H E
         have XB:=zc xb
         have z:=zc M
         have H:=zc L
         have E:=zc N
         clear xb M L N
         obtain⟨x0,x1,x2,xf⟩:=zq XB.out
         go_wp2_with fail
         refine (zsy c _ x.kind x.name ei W (OK.out ei am) z.out (by have:=HZ.out;rw[zcD,af,Int.toNat_natCast] at this;exact this)).mono ?_
         rintro e W2 ⟨rfl,V,O,U⟩
         have ad:=zc V
         have aa:=zc (H.out.trans O)
         have ac:=zc (E.out.trans U)
         clear V O U x0 x1 x2 xf
         go_wp2
         rw[←HG.out]
         go_roundg (gk-1)
         case rel=>exact⟨K,rfl,by have:=HJ.out;omega,by rw[HJ.out,zc0 (zcD c.m.ex) HX.out];exact (by rw[zcD,af,Int.toNat_natCast];exact ad.out),aa.out,ac.out⟩
         case measure=>omega
        ·have J: ¬(j:Int)<(c.m.st.length:Int):=by omega
         obtain rfl:j=c.m.st.length:=by omega
         have HN:Hid (PP c (zbS c.m) wr):=by have:=z.out;rw[List.take_length] at this;exact this
         go_wp2
         go_end0
         exact⟨rfl,HN.out,H.out,E.out⟩
theorem zlw (c:PC) (t:ByteArray) (k M:Int) (H z X:ByteArray) (l r:Nat) (w:World) (aa:zc5 c l) (ab:zc5 c r) (hr:r<c.m.ex.length) (h:PP c t w) (A:(t++(prX c.m.ex l++X++zH (zP (c.m.ex.getD r zi).kind) (prX c.m.ex r))).size≤140737488355328):
  Calls Tryz.prog 209 #[.pointer (some ⟨c.gp,0,none⟩),.agg #[.int .i64 k,.int .i64 M,.string H,.string z,.int .i64 (l:Int),.int .i64 (r:Int)],.string X] w (PO c (t++(prX c.m.ex l++X++zH (zP (c.m.ex.getD r zi).kind) (prX c.m.ex r))) w):=by
 have HP:=zc h
 obtain⟨Z,U⟩: ∃Z,(c.m.ex.getD r zi).kind=Z:=⟨_,rfl⟩
 rw[U] at A ⊢
 have KK:=zc U
 have HL:Hid (t.size+((prX c.m.ex l).size+X.size+(zH (zP Z) (prX c.m.ex r)).size)≤140737488355328):=by show _≤_;simp only[ByteArray.size_append] at A;exact A
 obtain⟨T,hT⟩: ∃T,T=prX c.m.ex l++X++zH (zP Z) (prX c.m.ex r):=⟨_,rfl⟩
 rw[←hT]
 have HT:=zc hT
 have al:=zc aa
 have ak:=zc ab
 have HR:=zc hr
 clear h A aa ab hr U hT
 go_enter Tryz.func209,Tryz.ntmps209
 go_upto_region 1 with fail
 have HW:Hid (Below w.heap.size w (w.alloc (.cells #[.int .i64 k,.int .i64 M,.string H,.string z,.int .i64 (l:Int),.int .i64 (r:Int)] 85))):=(Below.refl _ _).alloc (Nat.le_refl _) _
 refine zx (R:=fun W=>W.heap[w.heap.size]? =some (.cells #[.int .i64 k,.int .i64 M,.string H,.string z,.int .i64 (l:Int),.int .i64 (r:Int)] 85 (0,0))∧PP c t W∧Below c.B w W∧KeepB c.b w W) ⟨heap_alloc_new w _,HP.out.later HW.out,HW.out.mono HP.out.1.2,KeepB.of_below HW.out⟩ ?_
 obtain⟨gx,O⟩: ∃gx,gx=w.heap.size:=⟨_,rfl⟩
 have ac:gx≠c.b:=by
  rw[O]
  obtain⟨am,hc⟩:=zcf HP.out.1.1
  have:=(Array.getElem?_eq_some_iff.1 hc).1
  omega
 rw[←O]
 rintro w1 ⟨hx,E,I,D⟩
 clear O HW
 have X1:=zc hx
 have V:=zc E
 have ai:=zc I
 have ah:=zc D
 clear hx E I D
 obtain⟨x0,x1,x2,x3,x4,x5,xf⟩:=zw X1.out
 obtain⟨p0,p1,p2,p3,p4,p5,pf⟩:=zw V.out.2.2.1
 have L:=(Array.getElem?_eq_some_iff.1 V.out.2.2.1).1
 have K:=(Array.getElem?_eq_some_iff.1 X1.out).1
 go_wp2_with fail
 refine (zgD c t l false w1 al.out V.out (by have:=HL.out;simp only[zH,Bool.false_eq_true,↓reduceIte,ByteArray.size_append] at this ⊢;omega)).mono ?_
 rintro e w2 ⟨rfl,E,I,D⟩
 have N:=zc E
 have ag:=zc (ai.out.trans I)
 have ae:=zc (ah.out.trans D)
 have X2:=zc ((D _ _ _ _ X1.out ac (by decide)).trans X1.out)
 clear E I D p0 p1 p2 p3 p4 p5 pf x0 x1 x2 x3 x4 x5 xf L K
 obtain⟨x0,x1,x2,x3,x4,x5,xf⟩:=zw X2.out
 obtain⟨p0,p1,p2,p3,p4,p5,pf⟩:=zw N.out.2.2.1
 have L:=(Array.getElem?_eq_some_iff.1 N.out.2.2.1).1
 have K:=(Array.getElem?_eq_some_iff.1 X2.out).1
 go_wp2_with fail
 refine (zbG c _ [X] w2 N.out (by have:=HL.out;simp only[zt,zH,Bool.false_eq_true,↓reduceIte,List.foldl_cons,List.foldl_nil,ByteArray.size_append] at this ⊢;omega) (by simp)).mono ?_
 rintro e Y ⟨rfl,E,I,D⟩
 have J:=zc E
 have af:=zc (ag.out.trans I)
 have aj:=zc (ae.out.trans D)
 have X3:=zc ((D _ _ _ _ X2.out ac (by decide)).trans X2.out)
 clear E I D p0 p1 p2 p3 p4 p5 pf x0 x1 x2 x3 x4 x5 xf L K
 obtain⟨x0,x1,x2,x3,x4,x5,xf⟩:=zw X3.out
 obtain⟨p0,p1,p2,p3,p4,p5,pf⟩:=zw J.out.2.2.1
 have L:=(Array.getElem?_eq_some_iff.1 J.out.2.2.1).1
 have K:=(Array.getElem?_eq_some_iff.1 X3.out).1
 go_wp2_with fail
 have ad:=zc (J.out.later ((Below.refl Y.heap.size Y).drew))
 go_region_with (first|(go_at_call 211;refine (zhW c _ r _ ad.out HR.out).mono ?_;rintro e w' ⟨rfl,rfl⟩;rw[KK.out])|(go_at_call 187;refine (zfB _ _).mono ?_;rintro e w' ⟨rfl,rfl⟩)|(go_at_call 210;refine (zgD c _ r (zP Z) _ ak.out ad.out (by have:=HL.out;simp only[zt,show ∀q,zH false q=q from fun _=>rfl,List.foldl_cons,List.foldl_nil,ByteArray.size_append] at this ⊢;omega)).mono ?_;rintro e w4 ⟨rfl,E,I,D⟩))
 all_goals (go_wp2;go_end0;exact⟨rfl,(by rw[HT.out];simp only[zt,show ∀q,zH false q=q from fun _=>rfl,List.foldl_cons,List.foldl_nil,←ByteArray.append_assoc] at E ⊢;exact E),af.out.trans ((((Below.refl Y.heap.size Y).drew).mono J.out.1.2).trans I),aj.out.trans ((KeepB.of_below ((Below.refl Y.heap.size Y).drew)).trans D)⟩)
theorem zs4 (c:PC) (t:ByteArray) (i:Nat) (q:Int) (A z:ByteArray) (l r:Int) (w:World) (h:PP c t w) (hi:i<c.m.ex.length) (K:c.m.ex.getD i zi=⟨1,q,A,z,l,r⟩) (hn: -9223372036854775808≤q∧q≤9223372036854775807) (D:(t++(strOfNums (zbP q))).size≤140737488355328):
  Calls Tryz.prog 190 #[.pointer (some ⟨c.gp,0,none⟩),.int .i64 (i:Int)] w (PO c (t++(strOfNums (zbP q))) w):=by
 have L:=zc h
 obtain⟨T,hT⟩: ∃T,T=strOfNums (zbP q):=⟨_,rfl⟩
 rw[←hT] at D ⊢
 have HT:=zc hT
 have HL:=zc D
 clear h D hT
 obtain⟨p0,p1,p2,p3,p4,p5,pf⟩:=zw L.out.2.2.1
 obtain⟨g,hg,N,x0,X,x2,x3,Z,U⟩:=L.out.2.1.expr hi
 rw[K] at x0 X x2 x3 Z U
 dsimp only at x0 X x2 x3 Z U
 rw[hg] at p4
 have ab:(i:Int)<(c.m.ex.length:Int):=by omega
 clear hg K
 go_enter Tryz.func190,Tryz.ntmps190
 go_upto_region 1 with fail
 have HW:Hid (Below w.heap.size w (w.alloc (.cells #[.int .i64 1,.int .i64 q,.string A,.string z,.int .i64 l,.int .i64 r] 85))):=(Below.refl _ _).alloc (Nat.le_refl _) _
 refine zx (R:=fun W=>W.heap[w.heap.size]? =some (.cells #[.int .i64 1,.int .i64 q,.string A,.string z,.int .i64 l,.int .i64 r] 85 (0,0))∧PP c t W∧Below c.B w W∧KeepB c.b w W) ⟨heap_alloc_new w _,L.out.later HW.out,HW.out.mono L.out.1.2,KeepB.of_below HW.out⟩ ?_
 obtain⟨gx,J⟩: ∃gx,gx=w.heap.size:=⟨_,rfl⟩
 have aj:gx≠c.b:=by
  rw[J]
  obtain⟨ah,hc⟩:=zcf L.out.1.1
  have:=(Array.getElem?_eq_some_iff.1 hc).1
  omega
 rw[←J]
 rintro w1 ⟨K,O,V,hk⟩
 clear J HW N x0 X x2 x3 Z U p0 p1 p2 p3 p4 p5 pf ab
 have Y:=zc K
 have H:=zc O
 have ae:=zc V
 have ac:=zc hk
 clear K O V hk
 obtain⟨x0,X,x2,x3,Z,U,xf⟩:=zw Y.out
 obtain⟨p0,p1,p2,p3,p4,p5,pf⟩:=zw H.out.2.2.1
 have N:=(Array.getElem?_eq_some_iff.1 H.out.2.2.1).1
 have ai:=(Array.getElem?_eq_some_iff.1 Y.out).1
 have HN:=zc hn
 go_wp2_with fail
 go_region_with (first|(go_at_call 208;refine (zqn q _ HN.out).mono ?_;rintro e w2 ⟨rfl,M⟩;have E:=zc (((Below.refl w1.heap.size w1).drew).trans M);have I:=zc (H.out.later E.out);have X2:=zc ((E.out.block _ (Array.getElem?_eq_some_iff.1 Y.out).1).trans Y.out);clear M;obtain⟨y0,y1,y2,y3,y4,y5,yf⟩:=zw X2.out;obtain⟨q0,q1,q2,q3,q4,q5,qf⟩:=zw I.out.2.2.1;have af:=(Array.getElem?_eq_some_iff.1 I.out.2.2.1).1;have ag:=(Array.getElem?_eq_some_iff.1 X2.out).1)|(go_at_call 112;refine (zbG c t [strOfNums (zbP q)] _ I.out (by have:=HL.out;rw[HT.out] at this;simp only[zt,List.foldl_cons,List.foldl_nil,ByteArray.size_append] at this ⊢;omega) (by simp)).mono ?_;rintro e w3 ⟨rfl,O,aa,ad⟩))
 all_goals (have V:=(E.out.mono H.out.1.2).trans aa;have hk:=(KeepB.of_below (b:=c.b) E.out).trans ad;go_wp2;go_end0;exact⟨rfl,(by rw[HT.out];exact O),ae.out.trans V,ac.out.trans hk⟩)
theorem zs5 (c:PC) (t:ByteArray) (i:Nat) (D:Int) (q z:ByteArray) (l r:Int) (w:World) (h:PP c t w) (hi:i<c.m.ex.length) (I:c.m.ex.getD i zi=⟨2,D,q,z,l,r⟩) (A:(t++(q)).size≤140737488355328):
  Calls Tryz.prog 190 #[.pointer (some ⟨c.gp,0,none⟩),.int .i64 (i:Int)] w (PO c (t++(q)) w):=by
 have J:=zc h
 obtain⟨T,hT⟩: ∃T,T=q:=⟨_,rfl⟩
 rw[←hT] at A ⊢
 have HT:=zc hT
 have HL:=zc A
 clear h A hT
 obtain⟨p0,p1,p2,p3,p4,p5,pf⟩:=zw J.out.2.2.1
 obtain⟨g,hg,K,Y,O,Z,X,U,M⟩:=J.out.2.1.expr hi
 rw[I] at Y O Z X U M
 dsimp only at Y O Z X U M
 rw[hg] at p4
 have aa:(i:Int)<(c.m.ex.length:Int):=by omega
 clear hg I
 go_enter Tryz.func190,Tryz.ntmps190
 go_upto_region 1 with fail
 have V:Hid (Below w.heap.size w (w.alloc (.cells #[.int .i64 2,.int .i64 D,.string q,.string z,.int .i64 l,.int .i64 r] 85))):=(Below.refl _ _).alloc (Nat.le_refl _) _
 refine zx (R:=fun W=>W.heap[w.heap.size]? =some (.cells #[.int .i64 2,.int .i64 D,.string q,.string z,.int .i64 l,.int .i64 r] 85 (0,0))∧PP c t W∧Below c.B w W∧KeepB c.b w W) ⟨heap_alloc_new w _,J.out.later V.out,V.out.mono J.out.1.2,KeepB.of_below V.out⟩ ?_
 obtain⟨gx,E⟩: ∃gx,gx=w.heap.size:=⟨_,rfl⟩
 have af:gx≠c.b:=by
  rw[E]
  obtain⟨ad,hc⟩:=zcf J.out.1.1
  have:=(Array.getElem?_eq_some_iff.1 hc).1
  omega
 rw[←E]
 rintro w1 ⟨I,L,N,hk⟩
 clear E V K Y O Z X U M p0 p1 p2 p3 p4 p5 pf aa
 have X1:=zc I
 have H:=zc L
 have ac:=zc N
 have ab:=zc hk
 clear I L N hk
 obtain⟨Y,O,Z,X,U,M,xf⟩:=zw X1.out
 obtain⟨p0,p1,p2,p3,p4,p5,pf⟩:=zw H.out.2.2.1
 have K:=(Array.getElem?_eq_some_iff.1 H.out.2.2.1).1
 have ae:=(Array.getElem?_eq_some_iff.1 X1.out).1
 go_wp2_with fail
 go_region_with (go_at_call 112;refine (zc2 c t [q] w1 H.out (by have:=HL.out;rw[HT.out] at this;simp only[zt,List.foldl_cons,List.foldl_nil,ByteArray.size_append] at this ⊢;omega) (by simp)).mono ?_;rintro e w2 ⟨rfl,L,N,hk⟩)
 all_goals (go_wp2;go_end0;exact⟨rfl,(by rw[HT.out];exact L),ac.out.trans N,ab.out.trans hk⟩)
theorem zs6 (c:PC) (t:ByteArray) (i:Nat) (D:Int) (q z:ByteArray) (l r:Int) (w:World) (h:PP c t w) (hi:i<c.m.ex.length) (J:c.m.ex.getD i zi=⟨3,D,q,z,l,r⟩) (A:(t++(q++cParens)).size≤140737488355328):
  Calls Tryz.prog 190 #[.pointer (some ⟨c.gp,0,none⟩),.int .i64 (i:Int)] w (PO c (t++(q++cParens)) w):=by
 have K:=zc h
 obtain⟨T,hT⟩: ∃T,T=q++cParens:=⟨_,rfl⟩
 rw[←hT] at A ⊢
 have HT:=zc hT
 have HL:=zc A
 clear h A hT
 obtain⟨p0,p1,p2,p3,p4,p5,pf⟩:=zw K.out.2.2.1
 obtain⟨g,hg,L,Y,O,Z,X,U,M⟩:=K.out.2.1.expr hi
 rw[J] at Y O Z X U M
 dsimp only at Y O Z X U M
 rw[hg] at p4
 have aa:(i:Int)<(c.m.ex.length:Int):=by omega
 clear hg J
 go_enter Tryz.func190,Tryz.ntmps190
 go_upto_region 1 with fail
 have V:Hid (Below w.heap.size w (w.alloc (.cells #[.int .i64 3,.int .i64 D,.string q,.string z,.int .i64 l,.int .i64 r] 85))):=(Below.refl _ _).alloc (Nat.le_refl _) _
 refine zx (R:=fun W=>W.heap[w.heap.size]? =some (.cells #[.int .i64 3,.int .i64 D,.string q,.string z,.int .i64 l,.int .i64 r] 85 (0,0))∧PP c t W∧Below c.B w W∧KeepB c.b w W) ⟨heap_alloc_new w _,K.out.later V.out,V.out.mono K.out.1.2,KeepB.of_below V.out⟩ ?_
 obtain⟨gx,E⟩: ∃gx,gx=w.heap.size:=⟨_,rfl⟩
 have af:gx≠c.b:=by
  rw[E]
  obtain⟨ad,hc⟩:=zcf K.out.1.1
  have:=(Array.getElem?_eq_some_iff.1 hc).1
  omega
 rw[←E]
 rintro w1 ⟨J,I,N,hk⟩
 clear E V L Y O Z X U M p0 p1 p2 p3 p4 p5 pf aa
 have X1:=zc J
 have H:=zc I
 have ac:=zc N
 have ab:=zc hk
 clear J I N hk
 obtain⟨Y,O,Z,X,U,M,xf⟩:=zw X1.out
 obtain⟨p0,p1,p2,p3,p4,p5,pf⟩:=zw H.out.2.2.1
 have L:=(Array.getElem?_eq_some_iff.1 H.out.2.2.1).1
 have ae:=(Array.getElem?_eq_some_iff.1 X1.out).1
 go_wp2_with fail
 go_region_with (go_at_call 112;refine (zc2 c t [q,cParens] w1 H.out (by have:=HL.out;rw[HT.out] at this;simp only[zt,List.foldl_cons,List.foldl_nil,ByteArray.size_append] at this ⊢;omega) (by simp)).mono ?_;rintro e w2 ⟨rfl,I,N,hk⟩)
 all_goals (go_wp2;go_end0;exact⟨rfl,(by rw[HT.out];simp only[zt,List.foldl_cons,List.foldl_nil,←ByteArray.append_assoc] at I ⊢;exact I),ac.out.trans N,ab.out.trans hk⟩)
theorem zs7 (c:PC) (t:ByteArray) (i:Nat) (D:Int) (z q:ByteArray) (l r:Int) (w:World) (h:PP c t w) (hi:i<c.m.ex.length) (J:c.m.ex.getD i zi=⟨4,D,z,q,l,r⟩) (A:(t++(z++cPoint++q)).size≤140737488355328):
  Calls Tryz.prog 190 #[.pointer (some ⟨c.gp,0,none⟩),.int .i64 (i:Int)] w (PO c (t++(z++cPoint++q)) w):=by
 have K:=zc h
 obtain⟨T,hT⟩: ∃T,T=z++cPoint++q:=⟨_,rfl⟩
 rw[←hT] at A ⊢
 have HT:=zc hT
 have HL:=zc A
 clear h A hT
 obtain⟨p0,p1,p2,p3,p4,p5,pf⟩:=zw K.out.2.2.1
 obtain⟨g,hg,L,Y,O,Z,X,U,M⟩:=K.out.2.1.expr hi
 rw[J] at Y O Z X U M
 dsimp only at Y O Z X U M
 rw[hg] at p4
 have aa:(i:Int)<(c.m.ex.length:Int):=by omega
 clear hg J
 go_enter Tryz.func190,Tryz.ntmps190
 go_upto_region 1 with fail
 have V:Hid (Below w.heap.size w (w.alloc (.cells #[.int .i64 4,.int .i64 D,.string z,.string q,.int .i64 l,.int .i64 r] 85))):=(Below.refl _ _).alloc (Nat.le_refl _) _
 refine zx (R:=fun W=>W.heap[w.heap.size]? =some (.cells #[.int .i64 4,.int .i64 D,.string z,.string q,.int .i64 l,.int .i64 r] 85 (0,0))∧PP c t W∧Below c.B w W∧KeepB c.b w W) ⟨heap_alloc_new w _,K.out.later V.out,V.out.mono K.out.1.2,KeepB.of_below V.out⟩ ?_
 obtain⟨gx,E⟩: ∃gx,gx=w.heap.size:=⟨_,rfl⟩
 have af:gx≠c.b:=by
  rw[E]
  obtain⟨ad,hc⟩:=zcf K.out.1.1
  have:=(Array.getElem?_eq_some_iff.1 hc).1
  omega
 rw[←E]
 rintro w1 ⟨J,I,N,hk⟩
 clear E V L Y O Z X U M p0 p1 p2 p3 p4 p5 pf aa
 have X1:=zc J
 have H:=zc I
 have ac:=zc N
 have ab:=zc hk
 clear J I N hk
 obtain⟨Y,O,Z,X,U,M,xf⟩:=zw X1.out
 obtain⟨p0,p1,p2,p3,p4,p5,pf⟩:=zw H.out.2.2.1
 have L:=(Array.getElem?_eq_some_iff.1 H.out.2.2.1).1
 have ae:=(Array.getElem?_eq_some_iff.1 X1.out).1
 go_wp2_with fail
 go_region_with (go_at_call 112;refine (zc2 c t [z,cPoint,q] w1 H.out (by have:=HL.out;rw[HT.out] at this;simp only[zt,List.foldl_cons,List.foldl_nil,ByteArray.size_append] at this ⊢;omega) (by simp)).mono ?_;rintro e w2 ⟨rfl,I,N,hk⟩)
 all_goals (go_wp2;go_end0;exact⟨rfl,(by rw[HT.out];simp only[zt,List.foldl_cons,List.foldl_nil,←ByteArray.append_assoc] at I ⊢;exact I),ac.out.trans N,ab.out.trans hk⟩)
theorem zs8 (c:PC) (t:ByteArray) (i:Nat) (D:Int) (z q:ByteArray) (l r:Int) (w:World) (h:PP c t w) (hi:i<c.m.ex.length) (J:c.m.ex.getD i zi=⟨5,D,z,q,l,r⟩) (A:(t++(z++cPoint++q++cParens)).size≤140737488355328):
  Calls Tryz.prog 190 #[.pointer (some ⟨c.gp,0,none⟩),.int .i64 (i:Int)] w (PO c (t++(z++cPoint++q++cParens)) w):=by
 have K:=zc h
 obtain⟨T,hT⟩: ∃T,T=z++cPoint++q++cParens:=⟨_,rfl⟩
 rw[←hT] at A ⊢
 have HT:=zc hT
 have HL:=zc A
 clear h A hT
 obtain⟨p0,p1,p2,p3,p4,p5,pf⟩:=zw K.out.2.2.1
 obtain⟨g,hg,L,Y,O,Z,X,U,M⟩:=K.out.2.1.expr hi
 rw[J] at Y O Z X U M
 dsimp only at Y O Z X U M
 rw[hg] at p4
 have aa:(i:Int)<(c.m.ex.length:Int):=by omega
 clear hg J
 go_enter Tryz.func190,Tryz.ntmps190
 go_upto_region 1 with fail
 have V:Hid (Below w.heap.size w (w.alloc (.cells #[.int .i64 5,.int .i64 D,.string z,.string q,.int .i64 l,.int .i64 r] 85))):=(Below.refl _ _).alloc (Nat.le_refl _) _
 refine zx (R:=fun W=>W.heap[w.heap.size]? =some (.cells #[.int .i64 5,.int .i64 D,.string z,.string q,.int .i64 l,.int .i64 r] 85 (0,0))∧PP c t W∧Below c.B w W∧KeepB c.b w W) ⟨heap_alloc_new w _,K.out.later V.out,V.out.mono K.out.1.2,KeepB.of_below V.out⟩ ?_
 obtain⟨gx,E⟩: ∃gx,gx=w.heap.size:=⟨_,rfl⟩
 have af:gx≠c.b:=by
  rw[E]
  obtain⟨ad,hc⟩:=zcf K.out.1.1
  have:=(Array.getElem?_eq_some_iff.1 hc).1
  omega
 rw[←E]
 rintro w1 ⟨J,I,N,hk⟩
 clear E V L Y O Z X U M p0 p1 p2 p3 p4 p5 pf aa
 have X1:=zc J
 have H:=zc I
 have ac:=zc N
 have ab:=zc hk
 clear J I N hk
 obtain⟨Y,O,Z,X,U,M,xf⟩:=zw X1.out
 obtain⟨p0,p1,p2,p3,p4,p5,pf⟩:=zw H.out.2.2.1
 have L:=(Array.getElem?_eq_some_iff.1 H.out.2.2.1).1
 have ae:=(Array.getElem?_eq_some_iff.1 X1.out).1
 go_wp2_with fail
 go_region_with (go_at_call 112;refine (zc2 c t [z,cPoint,q,cParens] w1 H.out (by have:=HL.out;rw[HT.out] at this;simp only[zt,List.foldl_cons,List.foldl_nil,ByteArray.size_append] at this ⊢;omega) (by simp)).mono ?_;rintro e w2 ⟨rfl,I,N,hk⟩)
 all_goals (go_wp2;go_end0;exact⟨rfl,(by rw[HT.out];simp only[zt,List.foldl_cons,List.foldl_nil,←ByteArray.append_assoc] at I ⊢;exact I),ac.out.trans N,ab.out.trans hk⟩)
theorem zs9 (c:PC) (t:ByteArray) (i:Nat) (D:Int) (z q:ByteArray) (l r:Nat) (w:World) (h:PP c t w) (hi:i<c.m.ex.length) (J:c.m.ex.getD i zi=⟨6,D,z,q,(l:Int),(r:Int)⟩) (aa:zc5 c l) (ab:zc5 c r) (hr:r<c.m.ex.length) (A:(t++(prX c.m.ex l++tPlus++zH (zP (c.m.ex.getD r zi).kind) (prX c.m.ex r))).size≤140737488355328):
  Calls Tryz.prog 190 #[.pointer (some ⟨c.gp,0,none⟩),.int .i64 (i:Int)] w (PO c (t++(prX c.m.ex l++tPlus++zH (zP (c.m.ex.getD r zi).kind) (prX c.m.ex r))) w):=by
 have K:=zc h
 obtain⟨T,hT⟩: ∃T,T=prX c.m.ex l++tPlus++zH (zP (c.m.ex.getD r zi).kind) (prX c.m.ex r):=⟨_,rfl⟩
 rw[←hT] at A ⊢
 have HT:=zc hT
 have HL:=zc A
 clear h A hT
 obtain⟨p0,p1,p2,p3,p4,p5,pf⟩:=zw K.out.2.2.1
 obtain⟨g,hg,L,Y,O,Z,X,U,M⟩:=K.out.2.1.expr hi
 rw[J] at Y O Z X U M
 dsimp only at Y O Z X U M
 rw[hg] at p4
 have ac:(i:Int)<(c.m.ex.length:Int):=by omega
 clear hg J
 go_enter Tryz.func190,Tryz.ntmps190
 go_upto_region 1 with fail
 have V:Hid (Below w.heap.size w (w.alloc (.cells #[.int .i64 6,.int .i64 D,.string z,.string q,.int .i64 (l:Int),.int .i64 (r:Int)] 85))):=(Below.refl _ _).alloc (Nat.le_refl _) _
 refine zx (R:=fun W=>W.heap[w.heap.size]? =some (.cells #[.int .i64 6,.int .i64 D,.string z,.string q,.int .i64 (l:Int),.int .i64 (r:Int)] 85 (0,0))∧PP c t W∧Below c.B w W∧KeepB c.b w W) ⟨heap_alloc_new w _,K.out.later V.out,V.out.mono K.out.1.2,KeepB.of_below V.out⟩ ?_
 obtain⟨gx,E⟩: ∃gx,gx=w.heap.size:=⟨_,rfl⟩
 have ai:gx≠c.b:=by
  rw[E]
  obtain⟨ag,hc⟩:=zcf K.out.1.1
  have:=(Array.getElem?_eq_some_iff.1 hc).1
  omega
 rw[←E]
 rintro w1 ⟨J,I,N,hk⟩
 clear E V L Y O Z X U M p0 p1 p2 p3 p4 p5 pf ac
 have X1:=zc J
 have H:=zc I
 have af:=zc N
 have ad:=zc hk
 clear J I N hk
 obtain⟨Y,O,Z,X,U,M,xf⟩:=zw X1.out
 obtain⟨p0,p1,p2,p3,p4,p5,pf⟩:=zw H.out.2.2.1
 have L:=(Array.getElem?_eq_some_iff.1 H.out.2.2.1).1
 have ah:=(Array.getElem?_eq_some_iff.1 X1.out).1
 go_wp2_with fail
 refine (zlw c t 6 D z q tPlus l r w1 aa ab hr H.out (by rw[←HT.out];exact HL.out)).mono ?_
 rw[←HT.out]
 rintro e w2 ⟨rfl,I,N,hk⟩
 have ae:=zc I
 clear I
 go_wp2
 go_end0
 exact⟨rfl,ae.out,af.out.trans N,ad.out.trans hk⟩
theorem zsA (c:PC) (t:ByteArray) (i:Nat) (D:Int) (z q:ByteArray) (l r:Nat) (w:World) (h:PP c t w) (hi:i<c.m.ex.length) (J:c.m.ex.getD i zi=⟨7,D,z,q,(l:Int),(r:Int)⟩) (aa:zc5 c l) (ab:zc5 c r) (hr:r<c.m.ex.length) (A:(t++(prX c.m.ex l++tMinus++zH (zP (c.m.ex.getD r zi).kind) (prX c.m.ex r))).size≤140737488355328):
  Calls Tryz.prog 190 #[.pointer (some ⟨c.gp,0,none⟩),.int .i64 (i:Int)] w (PO c (t++(prX c.m.ex l++tMinus++zH (zP (c.m.ex.getD r zi).kind) (prX c.m.ex r))) w):=by
 have K:=zc h
 obtain⟨T,hT⟩: ∃T,T=prX c.m.ex l++tMinus++zH (zP (c.m.ex.getD r zi).kind) (prX c.m.ex r):=⟨_,rfl⟩
 rw[←hT] at A ⊢
 have HT:=zc hT
 have HL:=zc A
 clear h A hT
 obtain⟨p0,p1,p2,p3,p4,p5,pf⟩:=zw K.out.2.2.1
 obtain⟨g,hg,L,Y,O,Z,X,U,M⟩:=K.out.2.1.expr hi
 rw[J] at Y O Z X U M
 dsimp only at Y O Z X U M
 rw[hg] at p4
 have ac:(i:Int)<(c.m.ex.length:Int):=by omega
 clear hg J
 go_enter Tryz.func190,Tryz.ntmps190
 go_upto_region 1 with fail
 have V:Hid (Below w.heap.size w (w.alloc (.cells #[.int .i64 7,.int .i64 D,.string z,.string q,.int .i64 (l:Int),.int .i64 (r:Int)] 85))):=(Below.refl _ _).alloc (Nat.le_refl _) _
 refine zx (R:=fun W=>W.heap[w.heap.size]? =some (.cells #[.int .i64 7,.int .i64 D,.string z,.string q,.int .i64 (l:Int),.int .i64 (r:Int)] 85 (0,0))∧PP c t W∧Below c.B w W∧KeepB c.b w W) ⟨heap_alloc_new w _,K.out.later V.out,V.out.mono K.out.1.2,KeepB.of_below V.out⟩ ?_
 obtain⟨gx,E⟩: ∃gx,gx=w.heap.size:=⟨_,rfl⟩
 have ai:gx≠c.b:=by
  rw[E]
  obtain⟨ag,hc⟩:=zcf K.out.1.1
  have:=(Array.getElem?_eq_some_iff.1 hc).1
  omega
 rw[←E]
 rintro w1 ⟨J,I,N,hk⟩
 clear E V L Y O Z X U M p0 p1 p2 p3 p4 p5 pf ac
 have X1:=zc J
 have H:=zc I
 have af:=zc N
 have ad:=zc hk
 clear J I N hk
 obtain⟨Y,O,Z,X,U,M,xf⟩:=zw X1.out
 obtain⟨p0,p1,p2,p3,p4,p5,pf⟩:=zw H.out.2.2.1
 have L:=(Array.getElem?_eq_some_iff.1 H.out.2.2.1).1
 have ah:=(Array.getElem?_eq_some_iff.1 X1.out).1
 go_wp2_with fail
 refine (zlw c t 7 D z q tMinus l r w1 aa ab hr H.out (by rw[←HT.out];exact HL.out)).mono ?_
 rw[←HT.out]
 rintro e w2 ⟨rfl,I,N,hk⟩
 have ae:=zc I
 clear I
 go_wp2
 go_end0
 exact⟨rfl,ae.out,af.out.trans N,ad.out.trans hk⟩
theorem zsB (c:PC) (t:ByteArray) (i:Nat) (aa:Int) (H q:ByteArray) (l r:Nat) (w:World) (h:PP c t w) (hi:i<c.m.ex.length) (hx:c.m.ex.getD i zi=⟨8,aa,H,q,(l:Int),(r:Int)⟩) (af:zc5 c l) (ag:zc5 c r) (hl:l<c.m.ex.length) (hr:r<c.m.ex.length) (J:(t++(zH (zP (c.m.ex.getD l zi).kind) (prX c.m.ex l)++tStar++zH (zZ (c.m.ex.getD r zi).kind) (prX c.m.ex r))).size≤140737488355328):
  Calls Tryz.prog 190 #[.pointer (some ⟨c.gp,0,none⟩),.int .i64 (i:Int)] w (PO c (t++(zH (zP (c.m.ex.getD l zi).kind) (prX c.m.ex l)++tStar++zH (zZ (c.m.ex.getD r zi).kind) (prX c.m.ex r))) w):=by
 have HP:=zc h
 obtain⟨T,hT⟩: ∃T,T=zH (zP (c.m.ex.getD l zi).kind) (prX c.m.ex l)++tStar++zH (zZ (c.m.ex.getD r zi).kind) (prX c.m.ex r):=⟨_,rfl⟩
 rw[←hT] at J ⊢
 have HT:=zc hT
 have HL:=zc J
 clear h J hT
 obtain⟨p0,p1,p2,p3,p4,p5,pf⟩:=zw HP.out.2.2.1
 obtain⟨g,hg,D,Y,O,Z,X,V,N⟩:=HP.out.2.1.expr hi
 rw[hx] at Y O Z X V N
 dsimp only at Y O Z X V N
 rw[hg] at p4
 have al:(i:Int)<(c.m.ex.length:Int):=by omega
 clear hg hx
 go_enter Tryz.func190,Tryz.ntmps190
 go_upto_region 1 with fail
 have HW:Hid (Below w.heap.size w (w.alloc (.cells #[.int .i64 8,.int .i64 aa,.string H,.string q,.int .i64 (l:Int),.int .i64 (r:Int)] 85))):=(Below.refl _ _).alloc (Nat.le_refl _) _
 refine zx (R:=fun W=>W.heap[w.heap.size]? =some (.cells #[.int .i64 8,.int .i64 aa,.string H,.string q,.int .i64 (l:Int),.int .i64 (r:Int)] 85 (0,0))∧PP c t W∧Below c.B w W∧KeepB c.b w W) ⟨heap_alloc_new w _,HP.out.later HW.out,HW.out.mono HP.out.1.2,KeepB.of_below HW.out⟩ ?_
 obtain⟨gx,ad⟩: ∃gx,gx=w.heap.size:=⟨_,rfl⟩
 have ah:gx≠c.b:=by
  rw[ad]
  obtain⟨au,hc⟩:=zcf HP.out.1.1
  have:=(Array.getElem?_eq_some_iff.1 hc).1
  omega
 rw[←ad]
 rintro U ⟨hx,A,E,z⟩
 clear ad HW D Y O Z X V N p0 p1 p2 p3 p4 p5 pf al
 have X1:=zc hx
 have M:=zc A
 have ao:=zc E
 have an:=zc z
 clear hx A E z
 obtain⟨Y,O,Z,X,V,N,xf⟩:=zw X1.out
 obtain⟨p0,p1,p2,p3,p4,p5,pf⟩:=zw M.out.2.2.1
 have D:=(Array.getElem?_eq_some_iff.1 M.out.2.2.1).1
 have L:=(Array.getElem?_eq_some_iff.1 X1.out).1
 have ar:=zc af
 have aq:=zc ag
 have HR:=zc hr
 have ai:=zc hl
 obtain⟨kk,ae⟩: ∃kk,(c.m.ex.getD r zi).kind=kk:=⟨_,rfl⟩
 obtain⟨kl,ac⟩: ∃kl,(c.m.ex.getD l zi).kind=kl:=⟨_,rfl⟩
 have HU:Hid (T=zH (zP kl) (prX c.m.ex l)++tStar++zH (zZ kk) (prX c.m.ex r)):=by show _=_;rw[←ae,←ac];exact HT.out
 have KK:=zc ae
 have KL:=zc ac
 clear af ag hr hl ae ac HT
 go_upto_region 17 with fail
 go_cut [] from 82 to 90 (fun wx=>PP c (t++zH (zP kl) (prX c.m.ex l)) wx∧Below c.B U wx∧KeepB c.b U wx)
 case first=>
  go_wp2_with fail
  have I:=zc (M.out.later ((Below.refl U.heap.size U).drew))
  go_region_with (first|(go_at_call 211;refine (zhW c _ l _ I.out ai.out).mono ?_;rintro e w' ⟨rfl,rfl⟩;rw[KL.out])|(go_at_call 187;refine (zfB _ _).mono ?_;rintro e w' ⟨rfl,rfl⟩)|(go_at_call 210;refine (zgD c _ l (zP kl) _ ar.out I.out (by have:=HL.out;rw[HU.out] at this;simp only[ByteArray.size_append] at this ⊢;omega)).mono ?_;rintro e w2 ⟨rfl,A,E,z⟩))
  all_goals (go_wp2_with fail;go_meet;exact⟨A,(((Below.refl U.heap.size U).drew).mono M.out.1.2).trans E,(KeepB.of_below ((Below.refl U.heap.size U).drew)).trans z⟩)
 case rest=>
 obtain⟨A,E,z⟩:=hcut
 rename_i w2
 have ab:=zc A
 have am:=zc (ao.out.trans E)
 have aj:=zc (an.out.trans z)
 have X2:=zc ((z _ _ _ _ X1.out ah (by decide)).trans X1.out)
 clear A E z p0 p1 p2 p3 p4 p5 pf Y O Z X V N xf D L
 obtain⟨Y,O,Z,X,V,N,xf⟩:=zw X2.out
 obtain⟨p0,p1,p2,p3,p4,p5,pf⟩:=zw ab.out.2.2.1
 have D:=(Array.getElem?_eq_some_iff.1 ab.out.2.2.1).1
 have L:=(Array.getElem?_eq_some_iff.1 X2.out).1
 go_wp2_with fail
 refine (zbG c _ [tStar] _ ab.out (by have:=HL.out;rw[HU.out] at this;simp only[zt,List.foldl_cons,List.foldl_nil,ByteArray.size_append] at this ⊢;omega) (by simp)).mono ?_
 rintro e w3 ⟨rfl,A,E,z⟩
 have K:=zc A
 have ak:=zc (am.out.trans E)
 have ap:=zc (aj.out.trans z)
 have X3:=zc ((z _ _ _ _ X2.out ah (by decide)).trans X2.out)
 clear A E z p0 p1 p2 p3 p4 p5 pf Y O Z X V N xf D L
 obtain⟨Y,O,Z,X,V,N,xf⟩:=zw X3.out
 obtain⟨p0,p1,p2,p3,p4,p5,pf⟩:=zw K.out.2.2.1
 have D:=(Array.getElem?_eq_some_iff.1 K.out.2.2.1).1
 have L:=(Array.getElem?_eq_some_iff.1 X3.out).1
 go_wp2_with fail
 have I:=zc (K.out.later ((Below.refl w3.heap.size w3).drew))
 go_region_with (first|(go_at_call 211;refine (zhW c _ r _ I.out HR.out).mono ?_;rintro e w' ⟨rfl,rfl⟩;rw[KK.out])|(go_at_call 159;refine (zkT _ _).mono ?_;rintro e w' ⟨rfl,rfl⟩)|(go_at_call 210;refine (zgD c _ r (zZ kk) _ aq.out I.out (by have:=HL.out;rw[HU.out] at this;simp only[zt,List.foldl_cons,List.foldl_nil,ByteArray.size_append] at this ⊢;omega)).mono ?_;rintro e w4 ⟨rfl,A,E,z⟩))
 all_goals (go_wp2;go_end0;exact⟨rfl,(by rw[HU.out];simp only[zt,List.foldl_cons,List.foldl_nil,←ByteArray.append_assoc] at A ⊢;exact A),ak.out.trans ((((Below.refl w3.heap.size w3).drew).mono K.out.1.2).trans E),ap.out.trans ((KeepB.of_below ((Below.refl w3.heap.size w3).drew)).trans z)⟩)
theorem zsC (c:PC) (t:ByteArray) (i:Nat) (k D:Int) (z q:ByteArray) (l r:Int) (w:World) (h:PP c t w) (hi:i<c.m.ex.length) (I:c.m.ex.getD i zi=⟨k,D,z,q,l,r⟩) (k1:(k==1)=false) (k2:(k==2)=false) (k3:(k==3)=false) (k4:(k==4)=false) (k5:(k==5)=false) (k6:(k==6)=false) (k7:(k==7)=false) (k8:(k==8)=false) (A:(t++(sNone)).size≤140737488355328):
  Calls Tryz.prog 190 #[.pointer (some ⟨c.gp,0,none⟩),.int .i64 (i:Int)] w (PO c (t++(sNone)) w):=by
 have J:=zc h
 obtain⟨T,Y⟩: ∃T,T=sNone:=⟨_,rfl⟩
 rw[←Y] at A ⊢
 have HT:=zc Y
 have HL:=zc A
 clear h A Y
 obtain⟨p0,p1,p2,p3,p4,p5,pf⟩:=zw J.out.2.2.1
 obtain⟨g,hg,K,V,M,X,U,N,L⟩:=J.out.2.1.expr hi
 rw[I] at V M X U N L
 dsimp only at V M X U N L
 rw[hg] at p4
 have Z:(i:Int)<(c.m.ex.length:Int):=by omega
 clear hg I
 go_enter Tryz.func190,Tryz.ntmps190
 go_upto_region 1 with fail
 have O:Hid (Below w.heap.size w (w.alloc (.cells #[.int .i64 k,.int .i64 D,.string z,.string q,.int .i64 l,.int .i64 r] 85))):=(Below.refl _ _).alloc (Nat.le_refl _) _
 refine zx (R:=fun W=>W.heap[w.heap.size]? =some (.cells #[.int .i64 k,.int .i64 D,.string z,.string q,.int .i64 l,.int .i64 r] 85 (0,0))∧PP c t W∧Below c.B w W∧KeepB c.b w W) ⟨heap_alloc_new w _,J.out.later O.out,O.out.mono J.out.1.2,KeepB.of_below O.out⟩ ?_
 obtain⟨gx,E⟩: ∃gx,gx=w.heap.size:=⟨_,rfl⟩
 have ae:gx≠c.b:=by
  rw[E]
  obtain⟨ac,hc⟩:=zcf J.out.1.1
  have:=(Array.getElem?_eq_some_iff.1 hc).1
  omega
 rw[←E]
 rintro w1 ⟨I,hp,hb,hk⟩
 clear E O K V M X U N L p0 p1 p2 p3 p4 p5 pf Z
 have X1:=zc I
 have H:=zc hp
 have ab:=zc hb
 have aa:=zc hk
 clear I hp hb hk
 obtain⟨V,M,X,U,N,L,xf⟩:=zw X1.out
 obtain⟨p0,p1,p2,p3,p4,p5,pf⟩:=zw H.out.2.2.1
 have K:=(Array.getElem?_eq_some_iff.1 H.out.2.2.1).1
 have ad:=(Array.getElem?_eq_some_iff.1 X1.out).1
 go_wp2
 go_end0
 exact⟨rfl,(by rw[HT.out,show t++sNone=t from ByteArray.append_empty];exact H.out),ab.out,aa.out⟩
theorem zsD (c:PC) (hn:zaY c.m.ex) (ha:zbz c.m.ex) (n:Nat): ∀i,i<n→i<c.m.ex.length→zc5 c i:=by
 induction n with
 |zero=>intro i H;omega
 |succ n ih=>
  intro i aa H t w h z
  by_cases Z:i<n
  ·exact ih i Z H t w h z
  ·have K: ∀j,j<i→zc5 c j:=fun j hj=>ih j (by omega) (by omega)
   have J:=hn (c.m.ex.getD i zi) (by rw[zdT H];exact List.getElem_mem H)
   have E:=zfR ha (i:=i)
   rw[zgY ha] at z ⊢
   obtain⟨x,I⟩: ∃x,c.m.ex.getD i zi=x:=⟨_,rfl⟩
   rw[I] at z J E ⊢
   obtain⟨k,D,A,q,l,r⟩:=x
   simp only at z J E ⊢
   by_cases X:(k==1)=true
   ·rw[if_pos X] at z ⊢
    have e:=eq_of_beq X
    subst e
    exact zs4 c t i D A q l r w h H I J z
   rw[if_neg X] at z ⊢
   by_cases V:(k==2)=true
   ·rw[if_pos V] at z ⊢
    have e:=eq_of_beq V
    subst e
    exact zs5 c t i D A q l r w h H I z
   rw[if_neg V] at z ⊢
   by_cases U:(k==3)=true
   ·rw[if_pos U] at z ⊢
    have e:=eq_of_beq U
    subst e
    exact zs6 c t i D A q l r w h H I z
   rw[if_neg U] at z ⊢
   by_cases M:(k==4)=true
   ·rw[if_pos M] at z ⊢
    have e:=eq_of_beq M
    subst e
    exact zs7 c t i D A q l r w h H I z
   rw[if_neg M] at z ⊢
   by_cases Y:(k==5)=true
   ·rw[if_pos Y] at z ⊢
    have e:=eq_of_beq Y
    subst e
    exact zs8 c t i D A q l r w h H I z
   rw[if_neg Y] at z ⊢
   by_cases L:(k==6)=true
   ·rw[if_pos L] at z ⊢
    have e:=eq_of_beq L
    subst e
    have E:=E (by decide)
    obtain⟨l,rfl⟩: ∃n:Nat,l=(n:Int):=⟨l.toNat,by omega⟩
    obtain⟨r,rfl⟩: ∃n:Nat,r=(n:Int):=⟨r.toNat,by omega⟩
    simp only[Int.toNat_natCast] at z ⊢
    exact zs9 c t i D A q l r w h H I (K l (by omega)) (K r (by omega)) (by omega) z
   rw[if_neg L] at z ⊢
   by_cases O:(k==7)=true
   ·rw[if_pos O] at z ⊢
    have e:=eq_of_beq O
    subst e
    have E:=E (by decide)
    obtain⟨l,rfl⟩: ∃n:Nat,l=(n:Int):=⟨l.toNat,by omega⟩
    obtain⟨r,rfl⟩: ∃n:Nat,r=(n:Int):=⟨r.toNat,by omega⟩
    simp only[Int.toNat_natCast] at z ⊢
    exact zsA c t i D A q l r w h H I (K l (by omega)) (K r (by omega)) (by omega) z
   rw[if_neg O] at z ⊢
   by_cases N:(k==8)=true
   ·rw[if_pos N] at z ⊢
    have e:=eq_of_beq N
    subst e
    have E:=E (by decide)
    obtain⟨l,rfl⟩: ∃n:Nat,l=(n:Int):=⟨l.toNat,by omega⟩
    obtain⟨r,rfl⟩: ∃n:Nat,r=(n:Int):=⟨r.toNat,by omega⟩
    simp only[Int.toNat_natCast] at z ⊢
    exact zsB c t i D A q l r w h H I (K l (by omega)) (K r (by omega)) (by omega) (by omega) z
   rw[if_neg N] at z ⊢
   exact zsC c t i k D A q l r w h H I (Bool.eq_false_iff.2 X) (Bool.eq_false_iff.2 V) (Bool.eq_false_iff.2 U) (Bool.eq_false_iff.2 M) (Bool.eq_false_iff.2 Y) (Bool.eq_false_iff.2 L) (Bool.eq_false_iff.2 O) (Bool.eq_false_iff.2 N) z
theorem zsE (q:Nat) (S:Sv) (m:Md) (ab:Bool) (w:World) (h:OwnMd w q S m) (hm:Small m) (M:Tree m→(zbS m).size≤140737488355328):
  Calls Tryz.prog 69 #[zn S m,.bool ab] w fun e w'=>PrintOut (zbS m) m e∧Below w.heap.size w w':=by
 have Z:=zc h
 have SM:=zc hm
 have HU:=zc M
 obtain⟨f1,f2,f3,f4,f5⟩:=hm.few
 clear h hm M
 unfold zn
 go_enter Tryz.func69,Tryz.ntmps69
 go_wp2_with fail
 refine (zsd q S m _ (Z.out.alloc _) f5 f4).mono ?_
 rintro e A ⟨⟨b,rfl,L⟩,I⟩
 have HT:=zc L
 have z:Hid (Below w.heap.size w A):=((Below.refl _ _).alloc (Nat.le_refl _) _).trans (I.mono (by rw[zg];omega))
 have H:Hid (A.heap[w.heap.size]? =some (.cells #[.slice S.rq.a m.rq.length S.rq.cap,.slice S.im.a m.im.length S.im.cap,.slice S.ep.a m.ep.length S.ep.cap,.slice S.st.a m.st.length S.st.cap,.slice S.ex.a m.ex.length S.ex.cap] 48 (0,0))):=(I.block _ (by rw[zg];omega)).trans (heap_alloc_new w _)
 have K:=zc (Z.out.later z.out)
 clear L I
 cases b with
 |false=>
  go_wp2
  go_ret
  exact⟨.inr ⟨(fun t=>by have:=HT.out.2 t;cases this),rfl⟩,z.out⟩
 |true=>
  have X:=zc (HT.out.1 rfl)
  have HZ:=zc (HU.out X.out)
  go_upto_region 4 with fail
  have D:Hid (Below A.heap.size A (A.alloc (.cells #[.pointer none,.slice none 0 0] 154))):=(Below.refl _ _).alloc (Nat.le_refl _) _
  have hz:=(Array.getElem?_eq_some_iff.1 H.out).1
  refine zx (R:=fun W=>(Lib.IsBuilder 154 5 A.heap.size A.heap.size [] W∧A.heap.size≤W.heap.size)∧OwnMd W q S m∧W.heap[w.heap.size]? =some (.cells #[.slice S.rq.a m.rq.length S.rq.cap,.slice S.im.a m.im.length S.im.cap,.slice S.ep.a m.ep.length S.ep.cap,.slice S.st.a m.st.length S.st.cap,.slice S.ex.a m.ex.length S.ex.cap] 48 (0,0))∧Below w.heap.size w W) ⟨⟨Lib.fresh_isBuilder _ _ A,D.out.size⟩,K.out.later D.out,(D.out.block _ hz).trans H.out,z.out.trans (D.out.mono z.out.size)⟩ ?_
  obtain⟨b,E⟩: ∃b,b=A.heap.size:=⟨_,rfl⟩
  have V:w.heap.size≤b:=by rw[E];exact z.out.size
  rw[←E]
  rintro W ⟨⟨O,ad⟩,ho,hx,L⟩
  clear hz D H K z Z E A
  have BL:=zc O
  have HO:=zc ho
  have HX:=zc hx
  have HB:=zc L
  clear O ho hx L
  obtain⟨c0,c1,c2,c3,c4,cf⟩:=zk HX.out
  go_upto_region 6 with fail
  have D:Hid (Below W.heap.size W (W.alloc (.cells #[.slice S.rq.a m.rq.length S.rq.cap,.slice S.im.a m.im.length S.im.cap,.slice S.ep.a m.ep.length S.ep.cap,.slice S.st.a m.st.length S.st.cap,.slice S.ex.a m.ex.length S.ex.cap,.func (.func 112) #[] #[.pointer (some ⟨b,0,none⟩)]] 168))):=(Below.refl _ _).alloc (Nat.le_refl _) _
  have af:Hid (PP ⟨b,b,W.heap.size,q,S,m⟩ sNone (W.alloc (.cells #[.slice S.rq.a m.rq.length S.rq.cap,.slice S.im.a m.im.length S.im.cap,.slice S.ep.a m.ep.length S.ep.cap,.slice S.st.a m.st.length S.st.cap,.slice S.ex.a m.ex.length S.ex.cap,.func (.func 112) #[] #[.pointer (some ⟨b,0,none⟩)]] 168))):=by
   refine⟨⟨zlb BL.out D.out,Nat.le_trans ad D.out.size⟩,HO.out.later D.out,heap_alloc_new W _,?_⟩
   obtain⟨ag,hc⟩:=zcf BL.out
   have:=(Array.getElem?_eq_some_iff.1 hc).1
   show W.heap.size≠b
   omega
  have Y:=zc (HB.out.trans (D.out.mono HB.out.size))
  go_wp2_with fail
  refine (zs3 ⟨b,b,W.heap.size,q,S,m⟩ _ (fun i hi=>zsD _ SM.out.nums X.out.ahead _ i hi hi) X.out.stm SM.out af.out HZ.out).mono ?_
  rintro e w3 ⟨rfl,hp,N,ac⟩
  have J:=zc hp
  have aa:=zc (Y.out.trans (N.mono V))
  clear hp N ac c0 c1 c2 c3 c4 cf
  go_wp2_with fail
  refine (Tryz.Builder_String_any b b (zbS m).data.toList w3 J.out.1.1 J.out.1.2).mono ?_
  rintro e w4 ⟨rfl,U⟩
  have ae:=zc (aa.out.trans (U.mono V))
  clear U
  go_wp2
  go_ret
  exact⟨.inl ⟨X.out,rfl⟩,ae.out⟩
theorem zhX {C:Cx} {w:Bool} {q:PS} {x:PS×Ep} (h:zb5 C w q= .ok x):q.pos<x.1.pos:=by
 obtain⟨a,D,E⟩:=zm h
 obtain⟨b,A,H⟩:=zm E
 have z:=zfi A
 rw[(zby D).1] at z
 cases H
 exact z
def zlx (C:Cx) (gt cap base gp:Nat) (t:TypeId) (size:Nat) (f:Ep→List Value) (y:PRL) (S:Sv) (w:World) (e:Ending) (w':World):Prop:=
 match y with
 | .ok a=>∃r S',e= .returned (.slice r.a a.2.length r.cap)∧IM C gt cap base gp S' a.1 w'∧IS gp S w S' w'∧Fr t size w' w.heap.size r a.2.length (a.2.flatMap f) S'∧0<a.2.length∧a.2.length≤4000
 | .error p=>e=Pan p∧Below base w w'
theorem zly {C:Cx} {H A z D:Nat} {S:Sv} {q:PS} {w:World} (h:IM C H A z D S q w) (t:TypeId) (size:Nat):Fr t size (w.alloc (.cells #[] t)) w.heap.size ⟨some ⟨w.heap.size,0,none⟩,0⟩ 0 [] S:=by
 refine⟨World.ownsRow_lit w #[] 0 (Nat.le_refl _) (by unfold maxLen;omega) (Nat.zero_mul _).symm,fun k g E=>?_⟩
 have I:w.heap.size=k:=by simpa [Rw.blk,Value.ownBlock] using g
 have:=(h.mem.own.has E).2
 omega
theorem zsF (C:Cx) (N D z E:Nat) (S:Sv) (q:PS) (w:World) (h:IM C N D z E S q w):
  Calls Tryz.prog 198 #[.pointer (some ⟨E,0,none⟩)] w (zlx C N D z E 80 3 (fun e=>imL (zbd e)) (za3 C false q []) S w):=by
 obtain⟨i0,hi,au,ar,ap⟩:=info_parts Tryz.infoImp
 have HH:=zc h
 clear h
 go_enter Tryz.func198,Tryz.ntmps198
 go_wp2
 go_loopg [3] (C.ts.length+1) (fun k v wr=>∃(Y:Sv) (L:PS) (r:Rw) (l:List Ep),v= .slice r.a l.length r.cap∧za3 C false q []=za3 C false L l∧C.ts.length-L.pos<k∧l.length+(C.ts.length-L.pos)≤C.ts.length∧IM C N D z E Y L wr∧IS E S w Y wr∧Fr 80 3 wr w.heap.size r l.length (l.flatMap (fun e=>imL (zbd e))) Y)
 case atStart=>exact⟨S,q,⟨some ⟨w.heap.size,0,none⟩,0⟩,[],rfl,rfl,by omega,by simp,HH.out.alloc _,(IS.refl _ _ _).alloc _,zly HH.out _ _⟩
 case round=>
  obtain⟨Y,L,r,l,rfl,hy,hk,hl,m',s',f'⟩:=hrel
  have HY:=zc hy
  have HZ:=zc (HY.out.trans (zkb C false L l))
  have an:Hid (IM C N D z E Y L wr):=m'
  have af:Hid (IS E S w Y wr):=s'
  have av:Hid (Fr 80 3 wr w.heap.size r l.length (l.flatMap (fun e=>imL (zbd e))) Y):=f'
  have ay:=m'.mem.few
  clear hy m' s' f'
  go_wp2_with fail
  refine (zpR C N D z E Y L _ an.out).mono ?_
  cases aa:zb5 C false L with
  |error p=>
   rintro e Z ⟨rfl,hb⟩
   have HB:Hid (Below z w Z):=(HH.out.back af.out).trans hb
   have HX:Hid (za3 C false q []= .error p):=bdE HZ.out aa
   unfold Pan
   go_wp2
   refine⟨rfl,?_⟩
   rw[HX.out]
   exact⟨rfl,HB.out⟩
  |ok A=>
   rintro e Z ⟨rfl,H,m,s⟩
   have I:Hid (Fr 80 3 Z w.heap.size r l.length (l.flatMap (fun e=>imL (zbd e))) H):=av.out.step an.out (by decide) s
   have J:=zc m
   have ae:Hid (IS E S w H Z):=af.out.trans s
   clear m s
   have aj:=zc (bdO HZ.out aa)
   have aA:=zhX aa
   have aB:=J.out.mem.inv.pos
   unfold imV
   have X:=fun o1=>(I.out.later ((Below.refl Z.heap.size Z).alloc (Nat.le_refl _) o1)).1
   have ah:=fun o1=>(ae.out.alloc o1).size
   go_wp2_with (at_builtin;refine zaZ _ rfl _ _ 43 rfl w.heap.size 80 i0 _ 3 48 Tryz.underlying43 hi au ar ap rfl (by decide) (by decide) r l.length _ (by rfl) (X _) Z.heap.size (imL (zbd A.2)) (by rfl) (by exact heap_alloc_new Z _) rfl (zjg _) (by omega) (ah _) ?_;intro V w2 hr ac ai;have HR:Hid (OwnR w2 w.heap.size 80 3 V (l.length+1) _):=hr;have U:Hid (IM C N D z E H A.1 w2):=(J.out.alloc _).aside ac (fun k g=>⟨I.out.2 k g,I.out.ngp J.out (by decide) g,I.out.ngt J.out (by decide) g⟩);have ak:Hid (IS E S w H w2):=(ae.out.alloc _).aside ac (fun k g=>(I.out.1.typed g).1);have ad:Hid (Fr 80 3 w2 w.heap.size V (l.length+1) _ H):=(I.out.later ((Below.refl _ _).alloc (Nat.le_refl _) _)).grown (J.out.alloc _) hr ai;clear hr ac ai X ah)
   have el:(l++[A.2]).length=l.length+1:=by simp
   have ag:Hid (Fr 80 3 w2 w.heap.size V (l++[A.2]).length ((l++[A.2]).flatMap (fun e=>imL (zbd e))) H):=by
    show Fr ..
    rw[el,List.flatMap_append]
    simpa using ad.out
   have K:=zc el
   clear el ad HR
   go_wp2_with fail
   cases hc:isT C A.1.pos 4 zbA with
   |true=>
    have az:=za8 hc (by decide)
    have HC:=zc (aj.out.trans (if_pos hc))
    refine (zN C N D z E H (A.1) 4 zbA _ U.out (by decide)).mono ?_
    rintro e w3 ⟨rfl,m,s⟩
    rw[hc] at m ⊢
    have M:=zc m
    have O:Hid (IS E S w H w3):=ak.out.trans s
    have am:=s
    clear m s
    have ab:Hid (Fr 80 3 w3 w.heap.size V (l++[A.2]).length ((l++[A.2]).flatMap (fun e=>imL (zbd e))) H):=ag.out.step U.out (by decide) am
    clear am
    go_wp2
    go_roundg (gk-1)
    case rel=>exact⟨H,adv A.1,V,l++[A.2],by rw[K.out],HC.out,by rw[zz];omega,by rw[zz,K.out];omega,M.out,O.out,ab.out⟩
    case measure=>omega
   |false=>
    have HC:=zc (aj.out.trans (if_neg (by rw[hc];decide)))
    refine (zN C N D z E H (A.1) 4 zbA _ U.out (by decide)).mono ?_
    rintro e w3 ⟨rfl,m,s⟩
    rw[hc] at m ⊢
    have M:=zc m
    have O:Hid (IS E S w H w3):=ak.out.trans s
    have ab:Hid (Fr 80 3 w3 w.heap.size V (l++[A.2]).length ((l++[A.2]).flatMap (fun e=>imL (zbd e))) H):=ag.out.step U.out (by decide) s
    clear m s
    go_wp2_with fail
    refine (zcz C N D z E H A.1 125 _ M.out).mono ?_
    cases al:zd C 4 zbx A.1 with
    |error p=>
     rintro e w4 ⟨rfl,hb⟩
     have HB:Hid (Below z w w4):=(HH.out.back O.out).trans hb
     have HX:Hid (za3 C false q []= .error p):=bdE HC.out al
     unfold Pan
     go_wp2
     refine⟨rfl,?_⟩
     rw[HX.out]
     exact⟨rfl,HB.out⟩
    |ok a4=>
     rintro e w4 ⟨rfl,S4,m,s⟩
     have aw:Hid (Fr 80 3 w4 w.heap.size V (l++[A.2]).length ((l++[A.2]).flatMap (fun e=>imL (zbd e))) S4):=ab.out.step M.out (by decide) s
     have ax:=zc m
     have ao:Hid (IS E S w S4 w4):=O.out.trans s
     clear m s
     have aq:=zc (bdO HC.out al)
     go_wp2
     go_ret
     rw[aq.out]
     exact⟨V,S4,by rw[K.out];rfl,ax.out,ao.out,aw.out,by show 0<(l++[A.2]).length;rw[K.out];omega,by show (l++[A.2]).length≤4000;rw[K.out];omega⟩
def impFromI (C:Cx) (l:List Ep) (q:PS):PR:=bd (zd C 1 zV q) fun a=>bd (zL C a) fun b=>bd (zd C 4 cSemi b.1) fun c=>zX (fun e=>zap C (zbZ b.2 e)) l (.ok c)
theorem zgF {α:Type} (f:α→PS→PR) (p:Nat): ∀l:List α,zX f l (.error p)= .error p
 |[]=>rfl
 |_::l=>zgF f p l
theorem zhY {α:Type} (f:α→PS→PR) {l:List α} {j:Nat} {x:α} (h:l[j]? =some x) (q:PS):zX f (l.drop j) (.ok q)=zX f (l.drop (j+1)) (f x q):=by
 obtain⟨w,rfl⟩:=List.getElem?_eq_some_iff.1 h
 rw[List.drop_eq_getElem_cons w]
 rfl
theorem zsG {C:Cx} {x:Im} {q a:PS} (h:zap C x q= .ok a):a.pos=q.pos:=by
 unfold zap at h
 split at h
 ·cases h
 ·cases h
  rfl
theorem zlz {C:Cx} {x:Ep} {q a:PS} (h:zp C x q= .ok a):a.pos=q.pos:=by
 unfold zp at h
 split at h
 ·cases h
 ·split at h
  ·cases h
   rfl
  ·cases h
   rfl
theorem zfC {α:Type} {l:List α} {j:Nat} (h:j<l.length): ∃x,l[j]? =some x:=⟨_,List.getElem?_eq_getElem h⟩
theorem zsH (C:Cx) (K A z D b0 g:Nat) (r:Rw) (S:Sv) (q:PS) (l:List Ep) (w:World) (h:IM C K A z D S q w) (hC:zbm C) (hl:l.length≤4000) (hf:Fr 80 3 w b0 r l.length (l.flatMap (fun e=>imL (zbd e))) S) (hg:r.a=some ⟨g,0,none⟩):
  Calls Tryz.prog 197 #[.pointer (some ⟨D,0,none⟩),.slice (some ⟨g,0,none⟩) l.length r.cap] w (zT C K A z D (impFromI C l q) id (fun _=>.tuple #[]) S w):=by
 have Y:=zc h
 have HF:=zc hf
 have HG:=zc hg
 have HY:=zc (impFromI.eq_1 C l q)
 clear h hf hg
 go_enter Tryz.func197,Tryz.ntmps197
 go_wp2_with fail
 refine (zeD C K A z D S q zV _ Y.out).mono ?_
 cases ad:zd C 1 zV q with
 |error p=>
  rintro e w1 ⟨rfl,N⟩
  have V:Hid (Below z w w1):=(Y.out.back (IS.refl _ _ _)).trans N
  have X:Hid (impFromI C l q= .error p):=bdE HY.out ad
  unfold Pan
  go_wp2
  refine⟨rfl,?_⟩
  rw[X.out]
  exact⟨rfl,V.out⟩
 |ok a1=>
  rintro e w1 ⟨rfl,S1,m,s⟩
  have ay:Hid (Fr 80 3 w1 b0 r l.length (l.flatMap (fun e=>imL (zbd e))) S1):=HF.out.step Y.out (by decide) s
  have aa:=zc m
  have ac:=zc s
  clear m s
  have ae:=zc (bdO HY.out ad)
  go_wp2_with fail
  refine (zgh C K A z D S1 a1 _ aa.out hC).mono ?_
  cases aj:zL C a1 with
  |error p=>
   rintro e w2 ⟨rfl,N⟩
   have V:Hid (Below z w w2):=(Y.out.back ac.out).trans N
   have X:Hid (impFromI C l q= .error p):=bdE ae.out aj
   unfold Pan
   go_wp2
   refine⟨rfl,?_⟩
   rw[X.out]
   exact⟨rfl,V.out⟩
  |ok a2=>
   rintro e w2 ⟨rfl,S2,m,s⟩
   have ax:Hid (Fr 80 3 w2 b0 r l.length (l.flatMap (fun e=>imL (zbd e))) S2):=ay.out.step aa.out (by decide) s
   have ai:=zc m
   have ah:Hid (IS D S w S2 w2):=ac.out.trans s
   clear m s
   have al:=zc (bdO ae.out aj)
   go_wp2_with fail
   refine (zcz C K A z D S2 a2.1 59 _ ai.out).mono ?_
   cases L:zd C 4 cSemi (a2.1) with
   |error p=>
    rintro e w3 ⟨rfl,N⟩
    have V:Hid (Below z w w3):=(Y.out.back ah.out).trans N
    have X:Hid (impFromI C l q= .error p):=bdE al.out L
    unfold Pan
    go_wp2
    refine⟨rfl,?_⟩
    rw[X.out]
    exact⟨rfl,V.out⟩
   |ok a3=>
    rintro e w3 ⟨rfl,S3,m,s⟩
    have am:Hid (Fr 80 3 w3 b0 r l.length (l.flatMap (fun e=>imL (zbd e))) S3):=ax.out.step ai.out (by decide) s
    have aA:=zc m
    have aq:Hid (IS D S w S3 w3):=ah.out.trans s
    clear m s
    have ao:=zc (bdO al.out L)
    have ak:0<a3.pos:=by rw[(zbO L).1];exact Nat.succ_pos _
    generalize ar:a2.2=sp at*
    clear ar
    go_wp2
    go_loopg [15] l.length (fun k i wr=>∃(j:Nat) (E:Sv) (I:PS),i= .int .i64 j∧j+k=l.length∧impFromI C l q=zX (fun e=>zap C (zbZ sp e)) (l.drop j) (.ok I)∧0<I.pos∧IM C K A z D E I wr∧IS D S w E wr∧Fr 80 3 wr b0 r l.length (l.flatMap (fun e=>imL (zbd e))) E)
    case atStart=>exact⟨0,S3,a3,rfl,by omega,ao.out,ak,aA.out,aq.out,am.out⟩
    case round=>
     obtain⟨j,E,I,rfl,hj,hy,af,m',s',f'⟩:=hrel
     have ab:=zc hy
     have J:Hid (IM C K A z D E I wr):=m'
     have U:Hid (IS D S w E wr):=s'
     have M:Hid (Fr 80 3 wr b0 r l.length (l.flatMap (fun e=>imL (zbd e))) E):=f'
     clear hy m' s' f'
     by_cases az:j<l.length
     ·have ag:(j:Int)<(l.length:Int):=by omega
      obtain⟨x,hx⟩:=zfC az
      obtain⟨g',Z,H⟩:=OwnR.elem (f:=fun e=>imL (zbd e)) (m:=3) (fun _=>rfl) M.out.1 hx
      have eg:g'=g:=by have:=Z.symm.trans HG.out;simpa using this
      subst eg
      have k0:=H 0 (by omega)
      have k1:=H 1 (by omega)
      have k2:=H 2 (by omega)
      simp only[imL,zbd,Nat.add_zero,List.getElem?_cons_zero,List.getElem?_cons_succ] at k0 k1 k2
      have HZ:=zc (ab.out.trans (zhY (fun e=>zap C (zbZ sp e)) hx I))
      clear H Z hx
      obtain⟨j1,O⟩: ∃j1,j1=j+1:=⟨_,rfl⟩
      have ej:(j:Int)+1=(j1:Int):=by omega
      rw[←O] at HZ
      have aC:=(Array.getElem?_eq_some_iff.1 (M.out.1.typed (by rw[Rw.blk,HG.out];rfl)).2.2.choose_spec).1
      have aB:=J.out.lt
      have HJ:=zc O
      clear O
      go_wp2_with fail
      refine (znz C K A z D E I (zbZ sp x) _ (J.out.alloc _) af).mono ?_
      cases hn:zap C (zbZ sp x) I with
      |error p=>
       rintro e w5 ⟨rfl,N⟩
       have V:Hid (Below z w w5):=(Y.out.back (U.out.alloc _)).trans N
       have X:Hid (impFromI C l q= .error p):=by show _=_;rw[HZ.out,hn];exact zgF _ _ _
       unfold Pan
       go_wp2
       refine⟨rfl,?_⟩
       rw[X.out]
       exact⟨rfl,V.out⟩
      |ok a5=>
       rintro e w5 ⟨rfl,S5,m,s⟩
       have ap:=zc m
       have an:Hid (IS D S w S5 w5):=(U.out.alloc _).trans s
       have aw:Hid (Fr 80 3 w5 b0 r l.length (l.flatMap (fun e=>imL (zbd e))) S5):=(M.out.later ((Below.refl _ _).alloc (Nat.le_refl _) _)).step (J.out.alloc _) (by decide) s
       have av:Hid (impFromI C l q=zX (fun e=>zap C (zbZ sp e)) (l.drop j1) (.ok a5)):=by show _=_;rw[HZ.out,hn]
       have au:Hid (0<a5.pos):=by show 0<a5.pos;rw[zsG hn];exact af
       clear m s
       go_wp2
       go_roundg (gk-1)
       case rel=>exact⟨j1,S5,a5,rfl,by have:=HJ.out;omega,av.out,au.out,ap.out,an.out,aw.out⟩
       case measure=>omega
     ·have ag: ¬(j:Int)<(l.length:Int):=by omega
      have HZ:Hid (impFromI C l q= .ok I):=by show _=_;rw[ab.out,List.drop_eq_nil_of_le (by omega)];rfl
      go_wp2
      go_end0
      rw[HZ.out]
      exact⟨rfl,E,J.out,U.out⟩
theorem zhZ (C:Cx) (E A z D b0:Nat) (r:Rw) (S:Sv) (q:PS) (l:List Ep) (w:World) (h:IM C E A z D S q w) (J:zbm C) (K:l.length≤4000) (L:l.length≠0) (I:Fr 80 3 w b0 r l.length (l.flatMap (fun e=>imL (zbd e))) S):
  Calls Tryz.prog 197 #[.pointer (some ⟨D,0,none⟩),.slice r.a l.length r.cap] w (zT C E A z D (impFromI C l q) id (fun _=>.tuple #[]) S w):=by
 rcases I.1.nil_or with ⟨_,_,e⟩|⟨g,H⟩
 ·exact absurd e L
 ·rw[H]
  exact zsH C E A z D b0 g r S q l w h J K I H
theorem zl0 {C:Cx} {H A z D:Nat} {S:Sv} {q:PS} {w:World} (h:IM C H A z D S q w) (t:TypeId) (xs:List Value):Fr t xs.length (w.alloc (.cells xs.toArray t)) w.heap.size ⟨some ⟨w.heap.size,0,none⟩,1⟩ 1 xs S:=by
 refine⟨?_,fun k g E=>?_⟩
 ·have:=World.ownsRow_lit (e:=t) (size:=xs.length) w xs.toArray 1 (Nat.le_refl _) (by unfold maxLen;omega) (by simp)
  simpa [OwnR] using this
 ·have I:w.heap.size=k:=by simpa [Rw.blk,Value.ownBlock] using g
  have:=(h.mem.own.has E).2
  omega
def zaP (C:Cx) (q:PS):PR:=
 if (ze C q.pos).kind==3 then bd (zL C q) fun a=>zd C 4 cSemi a.1
 else if isT C q.pos 4 zM then bd (za3 C false (adv q) []) fun a=>impFromI C a.2 a.1
 else if isT C q.pos 4 zy then bd (zd C 1 sAs (adv q)) fun a=>bd (zl C false a) fun b=>impFromI C [⟨0,b.2,zy,sNone⟩] b.1
 else bd (zl C false q) fun b=>impFromI C [⟨0,b.2,sDefault,sNone⟩] b.1
theorem zsI (C:Cx) (H A z D:Nat) (S:Sv) (q:PS) (w:World) (h:IM C H A z D S q w) (hC:zbm C) (hk:((ze C q.pos).kind==3)=true):
  Calls Tryz.prog 181 #[.pointer (some ⟨D,0,none⟩)] w (zT C H A z D (zaP C q) id (fun _=>.tuple #[]) S w):=by
 have N:=zc h
 have ac:=zdb
 have HY:Hid (zaP C q=bd (zL C q) fun a=>zd C 4 cSemi a.1):=if_pos hk
 clear h
 go_enter Tryz.func181,Tryz.ntmps181
 go_wp2_with fail
 refine (zb3 C H A z D S q _ N.out).mono ?_
 rintro e w1 ⟨rfl,E⟩
 unfold tkV
 have V:Hid (IM C H A z D S q w1):=N.out.later E
 have I:Hid (IS D S w S w1):=IS.below E
 clear E
 go_wp2_with fail
 refine (zgh C H A z D S q _ V.out hC).mono ?_
 cases J:zL C q with
 |error p=>
  rintro e w2 ⟨rfl,E⟩
  have O:Hid (Below z w w2):=(N.out.back I.out).trans E
  have Y:Hid (zaP C q= .error p):=bdE HY.out J
  unfold Pan
  go_wp2
  refine⟨rfl,?_⟩
  rw[Y.out]
  exact⟨rfl,O.out⟩
 |ok a2=>
  rintro e w2 ⟨rfl,S2,m,s⟩
  have ab:=zc m
  have M:Hid (IS D S w S2 w2):=I.out.trans s
  clear m s
  have L:=zc (bdO HY.out J)
  go_wp2_with fail
  refine (zcz C H A z D S2 a2.1 59 _ ab.out).mono ?_
  cases K:zd C 4 cSemi a2.1 with
  |error p=>
   rintro e X ⟨rfl,E⟩
   have O:Hid (Below z w X):=(N.out.back M.out).trans E
   have Y:Hid (zaP C q= .error p):=L.out.trans K
   unfold Pan
   go_wp2
   refine⟨rfl,?_⟩
   rw[Y.out]
   exact⟨rfl,O.out⟩
  |ok a3=>
   rintro e X ⟨rfl,S3,m,s⟩
   have Z:=zc m
   have aa:Hid (IS D S w S3 X):=M.out.trans s
   clear m s
   have U:=zc (L.out.trans K)
   go_wp2
   go_end0
   rw[U.out]
   exact⟨rfl,S3,Z.out,aa.out⟩
theorem zsJ (C:Cx) (H A z D:Nat) (S:Sv) (q:PS) (w:World) (h:IM C H A z D S q w) (hC:zbm C) (hk:((ze C q.pos).kind==3)=false) (h1:isT C q.pos 4 zM=true):
  Calls Tryz.prog 181 #[.pointer (some ⟨D,0,none⟩)] w (zT C H A z D (zaP C q) id (fun _=>.tuple #[]) S w):=by
 have N:=zc h
 have ae:=zdb
 have HY:Hid (zaP C q=bd (za3 C false (adv q) []) fun a=>impFromI C a.2 a.1):=by show _=_;rw[zaP,hk,h1];rfl
 clear h
 go_enter Tryz.func181,Tryz.ntmps181
 go_wp2_with fail
 refine (zb3 C H A z D S q _ N.out).mono ?_
 rintro e w1 ⟨rfl,E⟩
 unfold tkV
 have Y:Hid (IM C H A z D S q w1):=N.out.later E
 have U:Hid (IS D S w S w1):=IS.below E
 clear E
 go_wp2_with fail
 refine (zN C H A z D S q 4 zM _ Y.out (by decide)).mono ?_
 rintro e w2 ⟨rfl,m,s⟩
 rw[h1] at m ⊢
 have ac:=zc m
 have K:Hid (IS D S w S w2):=U.out.trans s
 clear m s
 go_wp2_with fail
 refine (zsF C H A z D S (adv q) _ ac.out).mono ?_
 cases J:za3 C false (adv q) [] with
 |error p=>
  rintro e w3 ⟨rfl,E⟩
  have X:Hid (Below z w w3):=(N.out.back K.out).trans E
  have HX:Hid (zaP C q= .error p):=bdE HY.out J
  unfold Pan
  go_wp2
  refine⟨rfl,?_⟩
  rw[HX.out]
  exact⟨rfl,X.out⟩
 |ok O=>
  rintro e w3 ⟨r,S3,rfl,m,s,f,l0,l1⟩
  have ab:=zc m
  have M:Hid (IS D S w S3 w3):=K.out.trans s
  have V:=zc f
  clear m s f
  have I:=zc (bdO HY.out J)
  go_wp2_with fail
  refine (zhZ C H A z D _ r S3 O.1 O.2 _ ab.out hC l1 (by omega) V.out).mono ?_
  cases L:impFromI C O.2 O.1 with
  |error p=>
   rintro e w4 ⟨rfl,E⟩
   have X:Hid (Below z w w4):=(N.out.back M.out).trans E
   have HX:Hid (zaP C q= .error p):=I.out.trans L
   unfold Pan
   go_wp2
   refine⟨rfl,?_⟩
   rw[HX.out]
   exact⟨rfl,X.out⟩
  |ok a4=>
   rintro e w4 ⟨rfl,S4,m,s⟩
   have ad:=zc m
   have Z:Hid (IS D S w S4 w4):=M.out.trans s
   clear m s
   have aa:=zc (I.out.trans L)
   go_wp2
   go_end0
   rw[aa.out]
   exact⟨rfl,S4,ad.out,Z.out⟩
theorem zsK (C:Cx) (H A z D:Nat) (S:Sv) (q:PS) (w:World) (h:IM C H A z D S q w) (hC:zbm C) (hk:((ze C q.pos).kind==3)=false) (h1:isT C q.pos 4 zM=false) (h2:isT C q.pos 4 zy=true):
  Calls Tryz.prog 181 #[.pointer (some ⟨D,0,none⟩)] w (zT C H A z D (zaP C q) id (fun _=>.tuple #[]) S w):=by
 have K:=zc h
 have ak:=zdb
 have HY:Hid (zaP C q=bd (zd C 1 sAs (adv q)) fun a=>bd (zl C false a) fun b=>impFromI C [⟨0,b.2,zy,sNone⟩] b.1):=by show _=_;rw[zaP,hk,h1,h2];rfl
 clear h
 go_enter Tryz.func181,Tryz.ntmps181
 go_wp2_with fail
 refine (zb3 C H A z D S q _ K.out).mono ?_
 rintro e w1 ⟨rfl,E⟩
 unfold tkV
 have ac:Hid (IM C H A z D S q w1):=K.out.later E
 have ab:Hid (IS D S w S w1):=IS.below E
 clear E
 go_wp2_with fail
 refine (zN C H A z D S q 4 zM _ ac.out (by decide)).mono ?_
 rintro e w2 ⟨rfl,m,s⟩
 rw[h1] at m ⊢
 have ah:=zc m
 have ad:Hid (IS D S w S w2):=ab.out.trans s
 clear m s
 go_wp2_with fail
 refine (zN C H A z D S q 4 zy _ ah.out (by decide)).mono ?_
 rintro e w3 ⟨rfl,m,s⟩
 rw[h2] at m ⊢
 have af:=zc m
 have Z:Hid (IS D S w S w3):=ad.out.trans s
 clear m s
 go_wp2_with fail
 refine (zeD C H A z D S (adv q) sAs _ af.out).mono ?_
 cases Y:zd C 1 sAs (adv q) with
 |error p=>
  rintro e w4 ⟨rfl,E⟩
  have I:Hid (Below z w w4):=(K.out.back Z.out).trans E
  have V:Hid (zaP C q= .error p):=bdE HY.out Y
  unfold Pan
  go_wp2
  refine⟨rfl,?_⟩
  rw[V.out]
  exact⟨rfl,I.out⟩
 |ok a4=>
  rintro e w4 ⟨rfl,S4,m,s⟩
  have aj:=zc m
  have M:Hid (IS D S w S4 w4):=Z.out.trans s
  clear m s
  have O:=zc (bdO HY.out Y)
  go_wp2_with fail
  refine (zd0 C H A z D S4 a4 _ aj.out).mono ?_
  cases U:zl C false a4 with
  |error p=>
   rintro e w5 ⟨rfl,E⟩
   have I:Hid (Below z w w5):=(K.out.back M.out).trans E
   have V:Hid (zaP C q= .error p):=bdE O.out U
   unfold Pan
   go_wp2
   refine⟨rfl,?_⟩
   rw[V.out]
   exact⟨rfl,I.out⟩
  |ok X=>
   rintro e w5 ⟨rfl,S5,m,s⟩
   have L:=zc m
   have J:Hid (IS D S w S5 w5):=M.out.trans s
   clear m s
   have aa:=zc (bdO O.out U)
   go_wp2_with fail
   refine (zhZ C H A z D _ ⟨some ⟨w5.heap.size,0,none⟩,1⟩ S5 X.1 [⟨0,X.2,zy,sNone⟩] _ (L.out.alloc _) hC (by simp) (by simp) (zl0 L.out 80 (imL (zbd ⟨0,X.2,zy,sNone⟩)))).mono ?_
   cases N:impFromI C [⟨0,X.2,zy,sNone⟩] X.1 with
   |error p=>
    rintro e w6 ⟨rfl,E⟩
    have I:Hid (Below z w w6):=(K.out.back (J.out.alloc _)).trans E
    have V:Hid (zaP C q= .error p):=aa.out.trans N
    unfold Pan
    go_wp2
    refine⟨rfl,?_⟩
    rw[V.out]
    exact⟨rfl,I.out⟩
   |ok a6=>
    rintro e w6 ⟨rfl,S6,m,s⟩
    have ai:=zc m
    have ae:Hid (IS D S w S6 w6):=(J.out.alloc _).trans s
    clear m s
    have ag:=zc (aa.out.trans N)
    go_wp2
    go_end0
    rw[ag.out]
    exact⟨rfl,S6,ai.out,ae.out⟩
theorem zsL (C:Cx) (E A z D:Nat) (S:Sv) (q:PS) (w:World) (h:IM C E A z D S q w) (hC:zbm C) (hk:((ze C q.pos).kind==3)=false) (h1:isT C q.pos 4 zM=false) (h2:isT C q.pos 4 zy=false):
  Calls Tryz.prog 181 #[.pointer (some ⟨D,0,none⟩)] w (zT C E A z D (zaP C q) id (fun _=>.tuple #[]) S w):=by
 have U:=zc h
 have ag:=zdb
 have HY:Hid (zaP C q=bd (zl C false q) fun b=>impFromI C [⟨0,b.2,sDefault,sNone⟩] b.1):=by show _=_;rw[zaP,hk,h1,h2];rfl
 clear h
 go_enter Tryz.func181,Tryz.ntmps181
 go_wp2_with fail
 refine (zb3 C E A z D S q _ U.out).mono ?_
 rintro e w1 ⟨rfl,H⟩
 unfold tkV
 have aa:Hid (IM C E A z D S q w1):=U.out.later H
 have X:Hid (IS D S w S w1):=IS.below H
 clear H
 go_wp2_with fail
 refine (zN C E A z D S q 4 zM _ aa.out (by decide)).mono ?_
 rintro e w2 ⟨rfl,m,s⟩
 rw[h1] at m ⊢
 have af:=zc m
 have ac:Hid (IS D S w S w2):=X.out.trans s
 clear m s
 go_wp2_with fail
 refine (zN C E A z D S q 4 zy _ af.out (by decide)).mono ?_
 rintro e w3 ⟨rfl,m,s⟩
 rw[h2] at m ⊢
 have ad:=zc m
 have N:Hid (IS D S w S w3):=ac.out.trans s
 clear m s
 go_wp2_with fail
 refine (zd0 C E A z D S q _ ad.out).mono ?_
 cases M:zl C false q with
 |error p=>
  rintro e V ⟨rfl,H⟩
  have Y:Hid (Below z w V):=(U.out.back N.out).trans H
  have HX:Hid (zaP C q= .error p):=bdE HY.out M
  unfold Pan
  go_wp2
  refine⟨rfl,?_⟩
  rw[HX.out]
  exact⟨rfl,Y.out⟩
 |ok K=>
  rintro e V ⟨rfl,S4,m,s⟩
  have O:=zc m
  have I:Hid (IS D S w S4 V):=N.out.trans s
  clear m s
  have J:=zc (bdO HY.out M)
  go_wp2_with fail
  refine (zhZ C E A z D _ ⟨some ⟨V.heap.size,0,none⟩,1⟩ S4 K.1 [⟨0,K.2,sDefault,sNone⟩] _ (O.out.alloc _) hC (by simp) (by simp) (zl0 O.out 80 (imL (zbd ⟨0,K.2,sDefault,sNone⟩)))).mono ?_
  cases L:impFromI C [⟨0,K.2,sDefault,sNone⟩] K.1 with
  |error p=>
   rintro e w5 ⟨rfl,H⟩
   have Y:Hid (Below z w w5):=(U.out.back (I.out.alloc _)).trans H
   have HX:Hid (zaP C q= .error p):=J.out.trans L
   unfold Pan
   go_wp2
   refine⟨rfl,?_⟩
   rw[HX.out]
   exact⟨rfl,Y.out⟩
  |ok a5=>
   rintro e w5 ⟨rfl,S5,m,s⟩
   have ab:=zc m
   have Z:Hid (IS D S w S5 w5):=(I.out.alloc _).trans s
   clear m s
   have ae:=zc (J.out.trans L)
   go_wp2
   go_end0
   rw[ae.out]
   exact⟨rfl,S5,ab.out,Z.out⟩
theorem zsM (C:Cx) (E A z D:Nat) (S:Sv) (q:PS) (w:World) (h:IM C E A z D S q w) (H:zbm C):
  Calls Tryz.prog 181 #[.pointer (some ⟨D,0,none⟩)] w (zT C E A z D (zaP C q) id (fun _=>.tuple #[]) S w):=by
 cases I:((ze C q.pos).kind==3) with
 |true=>exact zsI C E A z D S q w h H I
 |false=>
  cases J:isT C q.pos 4 zM with
  |true=>exact zsJ C E A z D S q w h H I J
  |false=>
   cases K:isT C q.pos 4 zy with
   |true=>exact zsK C E A z D S q w h H I J K
   |false=>exact zsL C E A z D S q w h H I J K
end Go.Proofs.YtcidlffeeninbaaGreat
