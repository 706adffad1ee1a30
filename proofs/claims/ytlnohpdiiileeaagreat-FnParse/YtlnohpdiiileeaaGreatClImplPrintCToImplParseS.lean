/-
  What impl's imp answers: the walk.
  What impl's exp answers: the walk.
  What impl's kind answers,and side,if expr answers so: the walks.
  What impl's stmt answers,if expr answers so: the walk.
  What impl's program of the printer answers,if expr answers so: the walk.
  What impl's sum answers,if expr answers so,and what expr answers,kind by kind: the walks.
  What impl's expr answers,whole. No walk is here.
  What impl.Print answers: the walk.
  What importList of impl's parser answers: the walk.
  What importFrom of impl's parser answers: the walk.
-/
import Derived.Deep.CutBlock
import Derived.Deep.RegionWith
import Derived.Test.YtlnohpdiiileeaaGreatClImplBuilderToImplPrintB
import Derived.Test.YtlnohpdiiileeaaGreatClDrawProgAToPrintText
import Derived.Test.YtlnohpdiiileeaaGreatClDrawBaseToTokMem
import Derived.Test.YtlnohpdiiileeaaGreatClImplTree
import Derived.Test.YtlnohpdiiileeaaGreatClShelf
import Derived.Test.YtlnohpdiiileeaaGreatClEqModToImplParseQ
namespace Go.Proofs.YtlnohpdiiileeaaGreat
set_option maxRecDepth 100000
set_option maxHeartbeats 12800000
open Go.RowKit Go.PlainAid Go.Sort
theorem putD (c:PC) (t:ByteArray) (ps:List ByteArray) (w:World) (h:PP c t w) (hlen:(catT t ps).size≤140737488355328) (hn:ps.length≤4294967296):
  Calls Tryz.prog 91 #[.slice (some ⟨w.heap.size,0,none⟩) ps.length ps.length,.pointer (some ⟨c.b,0,none⟩)] (w.alloc (.cells (ps.map Value.string).toArray 9)).drew (PO c (catT t ps) w):=by
 have hw:Below w.heap.size w (w.alloc (.cells (ps.map Value.string).toArray 9)).drew:=((Below.refl _ _).alloc (Nat.le_refl _) _).drew
 refine (putP c t ps w.heap.size _ (h.later hw) (heap_alloc_new w _) hlen hn).mono ?_
 rintro e w' ⟨he,h1,h2,h3⟩
 exact⟨he,h1,(hw.mono h.1.2).trans h2,(KeepB.of_below hw).trans h3⟩
/-- An import's line up to from. -/
def impH (x:Im):ByteArray:=
 if x.first.toList==[42] then ({data:=#[105,109,112,111,114,116,32]}:ByteArray)++({data:=#[42,32,97,115,32]}:ByteArray)++x.loc
 else if x.first.toList==[100,101,102,97,117,108,116] then ({data:=#[105,109,112,111,114,116,32]}:ByteArray)++x.loc
 else ({data:=#[105,109,112,111,114,116,32]}:ByteArray)++zho x.first x.loc
theorem zbwt {x:Im} (e:(x.first.toList==[42])=true):impH x=({data:=#[105,109,112,111,114,116,32]}:ByteArray)++({data:=#[42,32,97,115,32]}:ByteArray)++x.loc:=by rw[impH,e];rfl
theorem zbwu {x:Im} (e:(x.first.toList==[42])=false) (e2:(x.first.toList==[100,101,102,97,117,108,116])=true):impH x=({data:=#[105,109,112,111,114,116,32]}:ByteArray)++x.loc:=by rw[impH,e,e2];rfl
theorem zbwv {x:Im} (e:(x.first.toList==[42])=false) (e2:(x.first.toList==[100,101,102,97,117,108,116])=false):impH x=({data:=#[105,109,112,111,114,116,32]}:ByteArray)++zho x.first x.loc:=by rw[impH,e,e2];rfl
theorem zfk (a b:Array UInt8):(⟨a++b⟩:ByteArray)=⟨a⟩++⟨b⟩:=by
 apply ByteArray.ext
 simp
theorem zpl (x:Im):impT x=impH x++({data:=#[32,102,114,111,109,32]}:ByteArray)++zda x.spec++({data:=#[59]}:ByteArray)++({data:=#[10]}:ByteArray):=by
 have l1:({data:=#[59,10]}:ByteArray)={data:=#[59]}++{data:=#[10]}:=zfk #[59] #[10]
 have l2:({data:=#[105,109,112,111,114,116,32,42,32,97,115,32]}:ByteArray)={data:=#[105,109,112,111,114,116,32]}++{data:=#[42,32,97,115,32]}:=zfk #[105,109,112,111,114,116,32] #[42,32,97,115,32]
 have l3:({data:=#[105,109,112,111,114,116,32,123,32]}:ByteArray)={data:=#[105,109,112,111,114,116,32]}++{data:=#[123,32]}:=zfk #[105,109,112,111,114,116,32] #[123,32]
 have l4:({data:=#[32,125,32,102,114,111,109,32]}:ByteArray)={data:=#[32,125]}++{data:=#[32,102,114,111,109,32]}:=zfk #[32,125] #[32,102,114,111,109,32]
 unfold impT impH zho
 rw[l1,l2,l3,l4]
 split
 ·simp only[ByteArray.append_assoc]
 ·split<;>simp only[ByteArray.append_assoc]
theorem zbrb (x:Im):(({data:=#[105,109,112,111,114,116,32]}:ByteArray)).size≤(impT x).size:=by
 rw[zpl,impH]
 split
 ·simp only[ByteArray.size_append];omega
 ·split<;>(simp only[ByteArray.size_append];omega)
theorem zbtx (c:PC) (t:ByteArray) (x:Im) (w:World) (h:PP c t w) (hlen:(t++impT x).size≤140737488355328) (h1:x.spec.size≤1099511627776):
  Calls Tryz.prog 163 #[.pointer (some ⟨c.gp,0,none⟩),imV x] w (PO c (t++impT x) w):=by
 have HP:=hidI h
 have HL:=hidI hlen
 clear h hlen
 have HZ:Hid (t.size+(impT x).size≤140737488355328∧(({data:=#[105,109,112,111,114,116,32]}:ByteArray)).size≤(impT x).size):=⟨by have:=HL.out;rw[ByteArray.size_append] at this;exact this,zbrb x⟩
 unfold imV
 go_enter Tryz.func163,Tryz.ntmps163
 go_upto_region 1 with fail
 have HW:Hid (Below w.heap.size w (w.alloc (.cells #[.string x.spec,.string x.first,.string x.loc] 141))):=(Below.refl _ _).alloc (Nat.le_refl _) _
 refine zbk (R:=fun W=>W.heap[w.heap.size]? =some (.cells #[.string x.spec,.string x.first,.string x.loc] 141 (0,0))∧PP c t W∧Below c.B w W∧KeepB c.b w W) ⟨heap_alloc_new w _,HP.out.later HW.out,HW.out.mono HP.out.1.2,KeepB.of_below HW.out⟩ ?_
 obtain⟨gx,hgx⟩: ∃gx,gx=w.heap.size:=⟨_,rfl⟩
 have hne:gx≠c.b:=by
  rw[hgx]
  obtain⟨cur,hc⟩:=zeb HP.out.1.1
  have:=(Array.getElem?_eq_some_iff.1 hc).1
  omega
 rw[←hgx]
 rintro W ⟨hx,hp,hb,hk⟩
 clear hgx HW
 have X:=hidI hx
 have HP0:=hidI hp
 have HB0:=hidI hb
 have HK0:=hidI hk
 clear hx hp hb hk
 obtain⟨x0,x1,x2,xf⟩:=zhg X.out
 obtain⟨p0,p1,p2,p3,p4,p5,pf⟩:=zx HP0.out.2.2.1
 go_wp2_with fail
 refine (putA c t [{data:=#[105,109,112,111,114,116,32]}] W HP0.out (by have:=HZ.out;simp only[catT,List.foldl_cons,List.foldl_nil,ByteArray.size_append] at this ⊢;omega) (by simp)).mono ?_
 rintro e w1 ⟨rfl,hp1,hb1,hk1⟩
 have HP1:=hidI hp1
 have HB1:=hidI (HB0.out.trans hb1)
 have HK1:=hidI (HK0.out.trans hk1)
 have X1:=hidI ((hk1 _ _ _ _ X.out hne (by decide)).trans X.out)
 clear hp1 hb1 hk1 p0 p1 p2 p3 p4 p5 pf x0 x1 x2 xf HP0 HB0 HK0 X
 obtain⟨x0,x1,x2,xf⟩:=zhg X1.out
 obtain⟨p0,p1,p2,p3,p4,p5,pf⟩:=zx HP1.out.2.2.1
 have hgl:=(Array.getElem?_eq_some_iff.1 HP1.out.2.2.1).1
 have hxl:=(Array.getElem?_eq_some_iff.1 X1.out).1
 have hlen:=HL.out
 go_upto_block 0 with fail
 go_cut [] from 12 to 37 (fun wx=>PP c (t++impH x) wx∧Below c.B w1 wx∧KeepB c.b w1 wx)
 case first=>
  cases e1:(x.first.toList==[42]) with
  |true=>
   have HV:Hid (impH x=({data:=#[105,109,112,111,114,116,32]}:ByteArray)++({data:=#[42,32,97,115,32]}:ByteArray)++x.loc):=zbwt e1
   go_wp2_with fail
   go_region_with (go_at_call 91;refine (putD c _ [{data:=#[42,32,97,115,32]},x.loc] w1 HP1.out (by have:=HL.out;rw[zpl,HV.out] at this;simp only[catT,List.foldl_cons,List.foldl_nil,ByteArray.size_append] at this ⊢;omega) (by simp)).mono ?_;rintro e w2 ⟨rfl,hp2,hb2,hk2⟩)
   all_goals (go_wp2_with fail;go_meet;exact⟨by rw[HV.out];simp only[catT,List.foldl_cons,List.foldl_nil,←ByteArray.append_assoc] at hp2 ⊢;exact hp2,hb2,hk2⟩)
  |false=>
   cases e2:(x.first.toList==[100,101,102,97,117,108,116]) with
   |true=>
    have HV:Hid (impH x=({data:=#[105,109,112,111,114,116,32]}:ByteArray)++x.loc):=zbwu e1 e2
    go_wp2_with fail
    go_region_with (go_at_call 91;refine (putD c _ [x.loc] w1 HP1.out (by have:=HL.out;rw[zpl,HV.out] at this;simp only[catT,List.foldl_cons,List.foldl_nil,ByteArray.size_append] at this ⊢;omega) (by simp)).mono ?_;rintro e w2 ⟨rfl,hp2,hb2,hk2⟩)
    all_goals (go_wp2_with fail;go_meet;exact⟨by rw[HV.out];simp only[catT,List.foldl_cons,List.foldl_nil,←ByteArray.append_assoc] at hp2 ⊢;exact hp2,hb2,hk2⟩)
   |false=>
    have HV:Hid (impH x=({data:=#[105,109,112,111,114,116,32]}:ByteArray)++zho x.first x.loc):=zbwv e1 e2
    go_wp2_with fail
    refine (zuw c _ x.first x.loc w1 HP1.out (by have:=HL.out;rw[zpl,HV.out] at this;simp only[catT,List.foldl_cons,List.foldl_nil,ByteArray.size_append] at this ⊢;omega)).mono ?_
    rintro e w2 ⟨rfl,hp2,hb2,hk2⟩
    go_wp2_with fail
    go_meet
    exact⟨by rw[HV.out];simp only[catT,List.foldl_cons,List.foldl_nil,←ByteArray.append_assoc] at hp2 ⊢;exact hp2,hb2,hk2⟩
 case rest=>
 obtain⟨hp2,hb2,hk2⟩:=hcut
 rename_i w2
 have HP2:=hidI hp2
 have HB2:=hidI (HB1.out.trans hb2)
 have HK2:=hidI (HK1.out.trans hk2)
 have X2:=hidI ((hk2 _ _ _ _ X1.out hne (by decide)).trans X1.out)
 clear hp2 hb2 hk2 p0 p1 p2 p3 p4 p5 pf x0 x1 x2 xf hgl hxl
 obtain⟨p0,p1,p2,p3,p4,p5,pf⟩:=zx HP2.out.2.2.1
 obtain⟨x0,x1,x2,xf⟩:=zhg X2.out
 have hgl:=(Array.getElem?_eq_some_iff.1 HP2.out.2.2.1).1
 have hxl:=(Array.getElem?_eq_some_iff.1 X2.out).1
 go_wp2_with fail
 go_region_with (first|(go_at_call 162;refine (zna x.spec _ h1).mono ?_;rintro e w' ⟨rfl,rfl⟩)|(go_at_call 91;refine (putD c _ [{data:=#[32,102,114,111,109,32]},zda x.spec,{data:=#[59]},{data:=#[10]}] _ HP2.out (by have:=HL.out;rw[zpl] at this;simp only[catT,List.foldl_cons,List.foldl_nil,ByteArray.size_append] at this ⊢;omega) (by simp)).mono ?_;rintro e w3 ⟨rfl,hp3,hb3,hk3⟩))
 all_goals (go_wp2;go_end0;exact⟨rfl,(by rw[zpl];simp only[catT,List.foldl_cons,List.foldl_nil,←ByteArray.append_assoc] at hp3 ⊢;exact hp3),HB2.out.trans hb3,HK2.out.trans hk3⟩)
/-- An export's line up to its end. -/
def expH (x:Ep):ByteArray:=
 if x.kind==3 then ({data:=#[101,120,112,111,114,116,32]}:ByteArray)++({data:=#[42,32,102,114,111,109,32]}:ByteArray)++zda x.spec
 else if x.kind==2 then ({data:=#[101,120,112,111,114,116,32]}:ByteArray)++zho x.loc x.name++({data:=#[32,102,114,111,109,32]}:ByteArray)++zda x.spec
 else ({data:=#[101,120,112,111,114,116,32]}:ByteArray)++zho x.loc x.name
theorem zbww {x:Ep} (e:(x.kind==3)=true):expH x=({data:=#[101,120,112,111,114,116,32]}:ByteArray)++({data:=#[42,32,102,114,111,109,32]}:ByteArray)++zda x.spec:=by rw[expH,e];rfl
theorem zbwx {x:Ep} (e:(x.kind==3)=false) (e2:(x.kind==2)=true):expH x=({data:=#[101,120,112,111,114,116,32]}:ByteArray)++zho x.loc x.name++({data:=#[32,102,114,111,109,32]}:ByteArray)++zda x.spec:=by rw[expH,e,e2];rfl
theorem zbwy {x:Ep} (e:(x.kind==3)=false) (e2:(x.kind==2)=false):expH x=({data:=#[101,120,112,111,114,116,32]}:ByteArray)++zho x.loc x.name:=by rw[expH,e,e2];rfl
theorem znu (x:Ep):expT x=expH x++({data:=#[59]}:ByteArray)++({data:=#[10]}:ByteArray):=by
 have l1:({data:=#[59,10]}:ByteArray)={data:=#[59]}++{data:=#[10]}:=zfk #[59] #[10]
 have l2:({data:=#[101,120,112,111,114,116,32,42,32,102,114,111,109,32]}:ByteArray)={data:=#[101,120,112,111,114,116,32]}++{data:=#[42,32,102,114,111,109,32]}:=zfk #[101,120,112,111,114,116,32] #[42,32,102,114,111,109,32]
 have l3:({data:=#[101,120,112,111,114,116,32,123,32]}:ByteArray)={data:=#[101,120,112,111,114,116,32]}++{data:=#[123,32]}:=zfk #[101,120,112,111,114,116,32] #[123,32]
 have l4:({data:=#[32,125,32,102,114,111,109,32]}:ByteArray)={data:=#[32,125]}++{data:=#[32,102,114,111,109,32]}:=zfk #[32,125] #[32,102,114,111,109,32]
 have l5:({data:=#[32,125,59,10]}:ByteArray)={data:=#[32,125]}++{data:=#[59,10]}:=zfk #[32,125] #[59,10]
 unfold expT expH zho
 rw[l5,l1,l2,l3,l4]
 split
 ·simp only[ByteArray.append_assoc]
 ·split<;>simp only[ByteArray.append_assoc]
theorem zbrc (x:Ep):(({data:=#[101,120,112,111,114,116,32]}:ByteArray)).size≤(expT x).size:=by
 rw[znu,expH]
 split
 ·simp only[ByteArray.size_append];omega
 ·split<;>(simp only[ByteArray.size_append];omega)
theorem zbty (c:PC) (t:ByteArray) (x:Ep) (w:World) (h:PP c t w) (hlen:(t++expT x).size≤140737488355328) (h1:x.spec.size≤1099511627776):
  Calls Tryz.prog 164 #[.pointer (some ⟨c.gp,0,none⟩),epV x] w (PO c (t++expT x) w):=by
 have HP:=hidI h
 have HL:=hidI hlen
 clear h hlen
 have HZ:Hid (t.size+(expT x).size≤140737488355328∧(({data:=#[101,120,112,111,114,116,32]}:ByteArray)).size≤(expT x).size):=⟨by have:=HL.out;rw[ByteArray.size_append] at this;exact this,zbrc x⟩
 unfold epV
 go_enter Tryz.func164,Tryz.ntmps164
 go_upto_region 1 with fail
 have HW:Hid (Below w.heap.size w (w.alloc (.cells #[.int .i64 x.kind,.string x.name,.string x.loc,.string x.spec] 143))):=(Below.refl _ _).alloc (Nat.le_refl _) _
 refine zbk (R:=fun W=>W.heap[w.heap.size]? =some (.cells #[.int .i64 x.kind,.string x.name,.string x.loc,.string x.spec] 143 (0,0))∧PP c t W∧Below c.B w W∧KeepB c.b w W) ⟨heap_alloc_new w _,HP.out.later HW.out,HW.out.mono HP.out.1.2,KeepB.of_below HW.out⟩ ?_
 obtain⟨gx,hgx⟩: ∃gx,gx=w.heap.size:=⟨_,rfl⟩
 have hne:gx≠c.b:=by
  rw[hgx]
  obtain⟨cur,hc⟩:=zeb HP.out.1.1
  have:=(Array.getElem?_eq_some_iff.1 hc).1
  omega
 rw[←hgx]
 rintro W ⟨hx,hp,hb,hk⟩
 clear hgx HW
 have X:=hidI hx
 have HP0:=hidI hp
 have HB0:=hidI hb
 have HK0:=hidI hk
 clear hx hp hb hk
 obtain⟨x0,x1,x2,x3,xf⟩:=zlo X.out
 obtain⟨p0,p1,p2,p3,p4,p5,pf⟩:=zx HP0.out.2.2.1
 go_wp2_with fail
 refine (putA c t [{data:=#[101,120,112,111,114,116,32]}] W HP0.out (by have:=HZ.out;simp only[catT,List.foldl_cons,List.foldl_nil,ByteArray.size_append] at this ⊢;omega) (by simp)).mono ?_
 rintro e w1 ⟨rfl,hp1,hb1,hk1⟩
 have HP1:=hidI hp1
 have HB1:=hidI (HB0.out.trans hb1)
 have HK1:=hidI (HK0.out.trans hk1)
 have X1:=hidI ((hk1 _ _ _ _ X.out hne (by decide)).trans X.out)
 clear hp1 hb1 hk1 p0 p1 p2 p3 p4 p5 pf x0 x1 x2 x3 xf HP0 HB0 HK0 X
 obtain⟨x0,x1,x2,x3,xf⟩:=zlo X1.out
 obtain⟨p0,p1,p2,p3,p4,p5,pf⟩:=zx HP1.out.2.2.1
 have hgl:=(Array.getElem?_eq_some_iff.1 HP1.out.2.2.1).1
 have hxl:=(Array.getElem?_eq_some_iff.1 X1.out).1
 have hlen:=HL.out
 go_upto_block 0 with fail
 go_cut [] from 12 to 45 (fun wx=>PP c (t++expH x) wx∧Below c.B w1 wx∧KeepB c.b w1 wx)
 case first=>
  cases e1:(x.kind==3) with
  |true=>
   have HV:Hid (expH x=({data:=#[101,120,112,111,114,116,32]}:ByteArray)++({data:=#[42,32,102,114,111,109,32]}:ByteArray)++zda x.spec):=zbww e1
   go_wp2_with fail
   go_region_with (first|(go_at_call 162;refine (zna x.spec _ h1).mono ?_;rintro e w' ⟨rfl,rfl⟩)|(go_at_call 91;refine (putD c _ [{data:=#[42,32,102,114,111,109,32]},zda x.spec] w1 HP1.out (by have:=HL.out;rw[znu,HV.out] at this;simp only[catT,List.foldl_cons,List.foldl_nil,ByteArray.size_append] at this ⊢;omega) (by simp)).mono ?_;rintro e w2 ⟨rfl,hp2,hb2,hk2⟩))
   all_goals (go_wp2_with fail;go_meet;exact⟨by rw[HV.out];simp only[catT,List.foldl_cons,List.foldl_nil,←ByteArray.append_assoc] at hp2 ⊢;exact hp2,hb2,hk2⟩)
  |false=>
   cases e2:(x.kind==2) with
   |true=>
    have HV:Hid (expH x=({data:=#[101,120,112,111,114,116,32]}:ByteArray)++zho x.loc x.name++({data:=#[32,102,114,111,109,32]}:ByteArray)++zda x.spec):=zbwx e1 e2
    go_wp2_with fail
    refine (zuw c _ x.loc x.name w1 HP1.out (by have:=HL.out;rw[znu,HV.out] at this;simp only[catT,List.foldl_cons,List.foldl_nil,ByteArray.size_append] at this ⊢;omega)).mono ?_
    rintro e w3 ⟨rfl,hp3,hb3,hk3⟩
    have HP3:=hidI hp3
    have X3:=hidI ((hk3 _ _ _ _ X1.out hne (by decide)).trans X1.out)
    have HB3:=hidI hb3
    have HK3:=hidI hk3
    clear hp3 hb3 hk3 p0 p1 p2 p3 p4 p5 pf x0 x1 x2 x3 xf hgl hxl
    obtain⟨p0,p1,p2,p3,p4,p5,pf⟩:=zx HP3.out.2.2.1
    obtain⟨x0,x1,x2,x3,xf⟩:=zlo X3.out
    have hgl:=(Array.getElem?_eq_some_iff.1 HP3.out.2.2.1).1
    have hxl:=(Array.getElem?_eq_some_iff.1 X3.out).1
    go_wp2_with fail
    go_region_with (first|(go_at_call 162;refine (zna x.spec _ h1).mono ?_;rintro e w' ⟨rfl,rfl⟩)|(go_at_call 91;refine (putD c _ [{data:=#[32,102,114,111,109,32]},zda x.spec] w3 HP3.out (by have:=HL.out;rw[znu,HV.out] at this;simp only[catT,List.foldl_cons,List.foldl_nil,ByteArray.size_append] at this ⊢;omega) (by simp)).mono ?_;rintro e w2 ⟨rfl,hp2,hb2,hk2⟩))
    all_goals (go_wp2_with fail;go_meet;exact⟨by rw[HV.out];simp only[catT,List.foldl_cons,List.foldl_nil,←ByteArray.append_assoc] at hp2 ⊢;exact hp2,HB3.out.trans hb2,HK3.out.trans hk2⟩)
   |false=>
    have HV:Hid (expH x=({data:=#[101,120,112,111,114,116,32]}:ByteArray)++zho x.loc x.name):=zbwy e1 e2
    go_wp2_with fail
    refine (zuw c _ x.loc x.name w1 HP1.out (by have:=HL.out;rw[znu,HV.out] at this;simp only[catT,List.foldl_cons,List.foldl_nil,ByteArray.size_append] at this ⊢;omega)).mono ?_
    rintro e w2 ⟨rfl,hp2,hb2,hk2⟩
    go_wp2_with fail
    go_meet
    exact⟨by rw[HV.out];simp only[catT,List.foldl_cons,List.foldl_nil,←ByteArray.append_assoc] at hp2 ⊢;exact hp2,hb2,hk2⟩
 case rest=>
 obtain⟨hp2,hb2,hk2⟩:=hcut
 rename_i w2
 have HP2:=hidI hp2
 have HB2:=hidI (HB1.out.trans hb2)
 have HK2:=hidI (HK1.out.trans hk2)
 clear hp2 hb2 hk2 p0 p1 p2 p3 p4 p5 pf x0 x1 x2 x3 xf hgl hxl
 obtain⟨p0,p1,p2,p3,p4,p5,pf⟩:=zx HP2.out.2.2.1
 go_wp2_with fail
 refine (putA c _ [{data:=#[59]},{data:=#[10]}] _ HP2.out (by have:=HL.out;rw[znu] at this;simp only[catT,List.foldl_cons,List.foldl_nil,ByteArray.size_append] at this ⊢;omega) (by simp)).mono ?_
 rintro e w3 ⟨rfl,hp3,hb3,hk3⟩
 have HP3:=hidI hp3
 have HB3:=hidI (HB2.out.trans hb3)
 have HK3:=hidI (HK2.out.trans hk3)
 clear hp3 hb3 hk3 p0 p1 p2 p3 p4 p5 pf
 go_wp2
 go_end0
 exact⟨rfl,(by have hp3:=HP3.out;rw[znu];simp only[catT,List.foldl_cons,List.foldl_nil,←ByteArray.append_assoc] at hp3 ⊢;exact hp3),HB3.out,HK3.out⟩
theorem zux (c:PC) (t:ByteArray) (i:Nat) (w:World) (h:PP c t w) (hi:i<c.m.ex.length):
  Calls Tryz.prog 300 #[.pointer (some ⟨c.gp,0,none⟩),.int .i64 (i:Int)] w fun e w'=>e= .returned (.int .i64 (c.m.ex.getD i exNo).kind)∧w'=w:=by
 obtain⟨p0,p1,p2,p3,p4,p5,pf⟩:=zx h.2.2.1
 obtain⟨g,hg,hgl,x0,x1,x2,x3,x4,x5⟩:=h.2.1.expr hi
 rw[hg] at p4
 have hii:(i:Int)<(c.m.ex.length:Int):=by omega
 obtain⟨kk,hkk⟩: ∃kk,(c.m.ex.getD i exNo).kind=kk:=⟨_,rfl⟩
 rw[hkk] at x0
 rw[hkk]
 clear h hg hkk
 go_enter Tryz.func300,Tryz.ntmps300
 go_wp2
 go_ret
 exact⟨rfl,rfl⟩
/-- expr answers as it should at i. -/
def zgq (c:PC) (i:Nat):Prop:=∀(t:ByteArray) (w:World),PP c t w→(t++prX c.m.ex i).size≤140737488355328→Calls Tryz.prog 249 #[.pointer (some ⟨c.gp,0,none⟩),.int .i64 (i:Int)] w (PO c (t++prX c.m.ex i) w)
theorem zqt (c:PC) (t:ByteArray) (i:Nat) (o:Bool) (w:World) (ok:zgq c i) (h:PP c t w) (hlen:(t++zcl o (prX c.m.ex i)).size≤140737488355328):
  Calls Tryz.prog 299 #[.pointer (some ⟨c.gp,0,none⟩),.int .i64 (i:Int),.bool o] w (PO c (t++zcl o (prX c.m.ex i)) w):=by
 have OK:=hidI ok
 have HP:=hidI h
 clear ok h
 obtain⟨p0,p1,p2,p3,p4,p5,pf⟩:=zx HP.out.2.2.1
 cases o with
 |false=>
  have HL:Hid ((t++prX c.m.ex i).size≤140737488355328):=hlen
  clear hlen
  go_enter Tryz.func299,Tryz.ntmps299
  go_wp2_with fail
  refine (OK.out t w HP.out HL.out).mono ?_
  rintro e w1 ⟨rfl,hp1,hb1,hk1⟩
  have HP1:=hidI hp1
  have HB1:=hidI hb1
  have HK1:=hidI hk1
  clear hp1 hb1 hk1 p0 p1 p2 p3 p4 p5 pf
  go_wp2
  refine bodyPost_ret (results_none rfl _ _ _) rfl ?_
  exact⟨rfl,HP1.out,HB1.out,HK1.out⟩
 |true=>
  have HL:Hid ((t++(cOpen++prX c.m.ex i++zbw)).size≤140737488355328):=hlen
  clear hlen
  go_enter Tryz.func299,Tryz.ntmps299
  go_wp2_with fail
  refine (putA c t [cOpen] w HP.out (by have:=HL.out;simp only[catT,List.foldl_cons,List.foldl_nil,ByteArray.size_append] at this ⊢;omega) (by simp)).mono ?_
  rintro e w1 ⟨rfl,hp1,hb1,hk1⟩
  have HP1:=hidI hp1
  have HB1:=hidI hb1
  have HK1:=hidI hk1
  clear hp1 hb1 hk1 p0 p1 p2 p3 p4 p5 pf
  go_wp2_with fail
  refine (OK.out _ w1 HP1.out (by have:=HL.out;simp only[catT,List.foldl_cons,List.foldl_nil,ByteArray.size_append] at this ⊢;omega)).mono ?_
  rintro e w2 ⟨rfl,hp2,hb2,hk2⟩
  have HP2:=hidI hp2
  have HB2:=hidI (HB1.out.trans hb2)
  have HK2:=hidI (HK1.out.trans hk2)
  clear hp2 hb2 hk2
  obtain⟨p0,p1,p2,p3,p4,p5,pf⟩:=zx HP2.out.2.2.1
  go_wp2_with fail
  refine (putA c _ [zbw] w2 HP2.out (by have:=HL.out;simp only[catT,List.foldl_cons,List.foldl_nil,ByteArray.size_append] at this ⊢;omega) (by simp)).mono ?_
  rintro e w3 ⟨rfl,hp3,hb3,hk3⟩
  have HP3:=hidI hp3
  have HB3:=hidI (HB2.out.trans hb3)
  have HK3:=hidI (HK2.out.trans hk3)
  clear hp3 hb3 hk3 p0 p1 p2 p3 p4 p5 pf
  go_wp2
  go_end0
  exact⟨rfl,(by have hp3:=HP3.out;unfold zcl;rw[if_pos rfl];simp only[catT,List.foldl_cons,List.foldl_nil,←ByteArray.append_assoc] at hp3 ⊢;exact hp3),HB3.out,HK3.out⟩
/-- A statement's line up to its expression, and behind it. -/
def zeq (k:Int) (n:ByteArray):ByteArray:=
 if n.toList==[42,100,101,102,97,117,108,116] then ({data:=#[101,120,112,111,114,116,32]}:ByteArray)++({data:=#[100,101,102,97,117,108,116]}:ByteArray)++({data:=#[32]}:ByteArray)
 else if k==1 then ({data:=#[108,101,116,32]}:ByteArray)++n++({data:=#[32,61,32]}:ByteArray)
 else if k==2 then ({data:=#[102,117,110,99,116,105,111,110,32]}:ByteArray)++n++({data:=#[40,41,32,123,32,114,101,116,117,114,110,32]}:ByteArray)
 else if k==3 then n++({data:=#[32,61,32]}:ByteArray)
 else if k==4 then ({data:=#[112,114,105,110,116,40]}:ByteArray)
 else if k==5 then ({data:=#[116,104,114,111,119,32]}:ByteArray)
 else ({data:=#[102,97,105,108,32]}:ByteArray)
def zem (k:Int) (n:ByteArray):ByteArray:=
 if n.toList==[42,100,101,102,97,117,108,116] then ({data:=#[59]}:ByteArray) else if k==2 then ({data:=#[59,32,125]}:ByteArray) else if k==4 then ({data:=#[41,59]}:ByteArray) else ({data:=#[59]}:ByteArray)
theorem zbhe {k:Int} {n:ByteArray} (e:(n.toList==[42,100,101,102,97,117,108,116])=true):zeq k n=({data:=#[101,120,112,111,114,116,32]}:ByteArray)++({data:=#[100,101,102,97,117,108,116]}:ByteArray)++({data:=#[32]}:ByteArray):=by rw[zeq,e];rfl
theorem zbhf {k:Int} {n:ByteArray} (e:(n.toList==[42,100,101,102,97,117,108,116])=true):zem k n=({data:=#[59]}:ByteArray):=by rw[zem,e];rfl
theorem zbhg {k:Int} {n:ByteArray} (e:(n.toList==[42,100,101,102,97,117,108,116])=false) (e1:(k==1)=true):zeq k n=({data:=#[108,101,116,32]}:ByteArray)++n++({data:=#[32,61,32]}:ByteArray):=by rw[zeq,e,e1];rfl
theorem zbhh {k:Int} {n:ByteArray} (e:(n.toList==[42,100,101,102,97,117,108,116])=false) (e1:(k==1)=true):zem k n=({data:=#[59]}:ByteArray):=by have q:=eq_of_beq e1;subst q;rw[zem,e];rfl
theorem zbhi {k:Int} {n:ByteArray} (e:(n.toList==[42,100,101,102,97,117,108,116])=false) (e1:(k==1)=false) (e2:(k==2)=true):zeq k n=({data:=#[102,117,110,99,116,105,111,110,32]}:ByteArray)++n++({data:=#[40,41,32,123,32,114,101,116,117,114,110,32]}:ByteArray):=by rw[zeq,e,e1,e2];rfl
theorem zbhj {k:Int} {n:ByteArray} (e:(n.toList==[42,100,101,102,97,117,108,116])=false) (e2:(k==2)=true):zem k n=({data:=#[59,32,125]}:ByteArray):=by rw[zem,e,e2];rfl
theorem zbhk {k:Int} {n:ByteArray} (e:(n.toList==[42,100,101,102,97,117,108,116])=false) (e1:(k==1)=false) (e2:(k==2)=false) (e3:(k==3)=true):zeq k n=n++({data:=#[32,61,32]}:ByteArray):=by rw[zeq,e,e1,e2,e3];rfl
theorem zbhl {k:Int} {n:ByteArray} (e:(n.toList==[42,100,101,102,97,117,108,116])=false) (e3:(k==3)=true):zem k n=({data:=#[59]}:ByteArray):=by have q:=eq_of_beq e3;subst q;rw[zem,e];rfl
theorem zbhm {k:Int} {n:ByteArray} (e:(n.toList==[42,100,101,102,97,117,108,116])=false) (e1:(k==1)=false) (e2:(k==2)=false) (e3:(k==3)=false) (e4:(k==4)=true):zeq k n=({data:=#[112,114,105,110,116,40]}:ByteArray):=by rw[zeq,e,e1,e2,e3,e4];rfl
theorem zbhn {k:Int} {n:ByteArray} (e:(n.toList==[42,100,101,102,97,117,108,116])=false) (e2:(k==2)=false) (e4:(k==4)=true):zem k n=({data:=#[41,59]}:ByteArray):=by rw[zem,e,e2,e4];rfl
theorem zbho {k:Int} {n:ByteArray} (e:(n.toList==[42,100,101,102,97,117,108,116])=false) (e1:(k==1)=false) (e2:(k==2)=false) (e3:(k==3)=false) (e4:(k==4)=false) (e5:(k==5)=true):zeq k n=({data:=#[116,104,114,111,119,32]}:ByteArray):=by rw[zeq,e,e1,e2,e3,e4,e5];rfl
theorem zbhp {k:Int} {n:ByteArray} (e:(n.toList==[42,100,101,102,97,117,108,116])=false) (e2:(k==2)=false) (e4:(k==4)=false):zem k n=({data:=#[59]}:ByteArray):=by rw[zem,e,e2,e4];rfl
theorem zbhq {k:Int} {n:ByteArray} (e:(n.toList==[42,100,101,102,97,117,108,116])=false) (e1:(k==1)=false) (e2:(k==2)=false) (e3:(k==3)=false) (e4:(k==4)=false) (e5:(k==5)=false):zeq k n=({data:=#[102,97,105,108,32]}:ByteArray):=by rw[zeq,e,e1,e2,e3,e4,e5];rfl
theorem zbhr {k:Int} {n:ByteArray} (e:(n.toList==[42,100,101,102,97,117,108,116])=false) (e2:(k==2)=false) (e4:(k==4)=false):zem k n=({data:=#[59]}:ByteArray):=by rw[zem,e,e2,e4];rfl
theorem zbdd (k:Int) (n e:ByteArray):zjn k n e=zeq k n++e++zem k n++({data:=#[10]}:ByteArray):=by
 have l1:({data:=#[59,10]}:ByteArray)=({data:=#[59]}:ByteArray)++({data:=#[10]}:ByteArray):=zfk #[59] #[10]
 have l2:({data:=#[59,32,125,10]}:ByteArray)=({data:=#[59,32,125]}:ByteArray)++({data:=#[10]}:ByteArray):=zfk #[59,32,125] #[10]
 have l3:({data:=#[41,59,10]}:ByteArray)=({data:=#[41,59]}:ByteArray)++({data:=#[10]}:ByteArray):=zfk #[41,59] #[10]
 have l4:({data:=#[101,120,112,111,114,116,32,100,101,102,97,117,108,116,32]}:ByteArray)=({data:=#[101,120,112,111,114,116,32,100,101,102,97,117,108,116]}:ByteArray)++({data:=#[32]}:ByteArray):=zfk #[101,120,112,111,114,116,32,100,101,102,97,117,108,116] #[32]
 have l5:({data:=#[101,120,112,111,114,116,32,100,101,102,97,117,108,116]}:ByteArray)=({data:=#[101,120,112,111,114,116,32]}:ByteArray)++({data:=#[100,101,102,97,117,108,116]}:ByteArray):=zfk #[101,120,112,111,114,116,32] #[100,101,102,97,117,108,116]
 unfold zjn zmx
 rw[l1,l2,l3,l4,l5]
 cases h:(n.toList==[42,100,101,102,97,117,108,116]) with
 |true=>rw[zbhe h,zbhf h];simp only[↓reduceIte,ByteArray.append_assoc]
 |false=>
  cases h1:(k==1) with
  |true=>rw[zbhg h h1,zbhh h h1];simp only[↓reduceIte,Bool.false_eq_true,ByteArray.append_assoc]
  |false=>
   cases h2:(k==2) with
   |true=>rw[zbhi h h1 h2,zbhj h h2];simp only[↓reduceIte,Bool.false_eq_true,ByteArray.append_assoc]
   |false=>
    cases h3:(k==3) with
    |true=>rw[zbhk h h1 h2 h3,zbhl h h3];simp only[↓reduceIte,Bool.false_eq_true,ByteArray.append_assoc]
    |false=>
     cases h4:(k==4) with
     |true=>rw[zbhm h h1 h2 h3 h4,zbhn h h2 h4];simp only[↓reduceIte,Bool.false_eq_true,ByteArray.append_assoc]
     |false=>
      cases h5:(k==5) with
      |true=>rw[zbho h h1 h2 h3 h4 h5,zbhp h h2 h4];simp only[↓reduceIte,Bool.false_eq_true,ByteArray.append_assoc]
      |false=>
       rw[zbhq h h1 h2 h3 h4 h5,zbhr h h2 h4];simp only[↓reduceIte,Bool.false_eq_true,ByteArray.append_assoc]
theorem zbjx (k:Int) (n e:ByteArray):(zjn k n e).size=(zeq k n).size+e.size+(zem k n).size+1:=by
 rw[zbdd,ByteArray.size_append,ByteArray.size_append,ByteArray.size_append]
 rfl
theorem zbne (c:PC) (t:ByteArray) (k:Int) (n:ByteArray) (i:Nat) (w:World) (ok:zgq c i) (h:PP c t w) (hlen:(t++zjn k n (prX c.m.ex i)).size≤140737488355328):
  Calls Tryz.prog 165 #[.pointer (some ⟨c.gp,0,none⟩),.agg #[.int .i64 k,.string n,.int .i64 (i:Int)]] w (PO c (t++zjn k n (prX c.m.ex i)) w):=by
 have HP:=hidI h
 have OK:=hidI ok
 have HL:Hid (t.size+((zeq k n).size+(prX c.m.ex i).size+(zem k n).size+1)≤140737488355328):=by show _≤_;rw[ByteArray.size_append,zbjx] at hlen;exact hlen
 clear h hlen ok
 go_enter Tryz.func165,Tryz.ntmps165
 go_upto_region 1 with fail
 have HW:Hid (Below w.heap.size w (w.alloc (.cells #[.int .i64 k,.string n,.int .i64 (i:Int)] 61))):=(Below.refl _ _).alloc (Nat.le_refl _) _
 refine zbk (R:=fun W=>W.heap[w.heap.size]? =some (.cells #[.int .i64 k,.string n,.int .i64 (i:Int)] 61 (0,0))∧PP c t W∧Below c.B w W∧KeepB c.b w W) ⟨heap_alloc_new w _,HP.out.later HW.out,HW.out.mono HP.out.1.2,KeepB.of_below HW.out⟩ ?_
 obtain⟨gx,hgx⟩: ∃gx,gx=w.heap.size:=⟨_,rfl⟩
 have hne:gx≠c.b:=by
  rw[hgx]
  obtain⟨cur,hc⟩:=zeb HP.out.1.1
  have:=(Array.getElem?_eq_some_iff.1 hc).1
  omega
 rw[←hgx]
 rintro w1 ⟨hx,hp,hb,hk⟩
 clear hgx HW
 have X1:=hidI hx
 have HP1:=hidI hp
 have HB1:=hidI hb
 have HK1:=hidI hk
 clear hx hp hb hk
 obtain⟨x0,x1,x2,xf⟩:=zhg X1.out
 obtain⟨p0,p1,p2,p3,p4,p5,pf⟩:=zx HP1.out.2.2.1
 have hgl:=(Array.getElem?_eq_some_iff.1 HP1.out.2.2.1).1
 have hxl:=(Array.getElem?_eq_some_iff.1 X1.out).1
 go_upto_block 0 with fail
 go_cut [4] from 5 to 76 (fun s4 wx=>s4= .string (zem k n)∧PP c (t++zeq k n) wx∧Below c.B w1 wx∧KeepB c.b w1 wx)
 case first=>
  cases h0:(n.toList==[42,100,101,102,97,117,108,116]) with
  |true=>
   have HV:Hid (zeq k n=({data:=#[101,120,112,111,114,116,32]}:ByteArray)++({data:=#[100,101,102,97,117,108,116]}:ByteArray)++({data:=#[32]}:ByteArray)):=zbhe h0
   have HE:Hid (zem k n=({data:=#[59]}:ByteArray)):=zbhf h0
   have HS:Hid ((catT t [{data:=#[101,120,112,111,114,116,32]},{data:=#[100,101,102,97,117,108,116]},{data:=#[32]}]).size≤140737488355328):=by show _≤_;have:=HL.out;rw[HV.out] at this;simp only[catT,List.foldl_cons,List.foldl_nil,ByteArray.size_append] at this ⊢;omega
   go_wp2_with fail
   refine (putA c t [{data:=#[101,120,112,111,114,116,32]},{data:=#[100,101,102,97,117,108,116]},{data:=#[32]}] w1 HP1.out HS.out (by simp)).mono ?_
   rintro e w2 ⟨rfl,hp2,hb2,hk2⟩
   go_wp2_with fail
   go_meet
   exact⟨by rw[HE.out],by rw[HV.out];simp only[catT,List.foldl_cons,List.foldl_nil,←ByteArray.append_assoc] at hp2 ⊢;exact hp2,hb2,hk2⟩
  |false=>
   cases h1:(k==1) with
   |true=>
    have HV:Hid (zeq k n=({data:=#[108,101,116,32]}:ByteArray)++n++({data:=#[32,61,32]}:ByteArray)):=zbhg h0 h1
    have HE:Hid (zem k n=({data:=#[59]}:ByteArray)):=zbhh h0 h1
    have HS:Hid ((catT t [{data:=#[108,101,116,32]},n,{data:=#[32,61,32]}]).size≤140737488355328):=by show _≤_;have:=HL.out;rw[HV.out] at this;simp only[catT,List.foldl_cons,List.foldl_nil,ByteArray.size_append] at this ⊢;omega
    go_wp2_with fail
    go_region_with (go_at_call 91;refine (putD c t [{data:=#[108,101,116,32]},n,{data:=#[32,61,32]}] w1 HP1.out HS.out (by simp)).mono ?_;rintro e w2 ⟨rfl,hp2,hb2,hk2⟩)
    all_goals (go_wp2_with fail;go_meet;exact⟨by rw[HE.out],by rw[HV.out];simp only[catT,List.foldl_cons,List.foldl_nil,←ByteArray.append_assoc] at hp2 ⊢;exact hp2,hb2,hk2⟩)
   |false=>
    cases h2:(k==2) with
    |true=>
     have HV:Hid (zeq k n=({data:=#[102,117,110,99,116,105,111,110,32]}:ByteArray)++n++({data:=#[40,41,32,123,32,114,101,116,117,114,110,32]}:ByteArray)):=zbhi h0 h1 h2
     have HE:Hid (zem k n=({data:=#[59,32,125]}:ByteArray)):=zbhj h0 h2
     have HS:Hid ((catT t [{data:=#[102,117,110,99,116,105,111,110,32]},n,{data:=#[40,41,32,123,32,114,101,116,117,114,110,32]}]).size≤140737488355328):=by show _≤_;have:=HL.out;rw[HV.out] at this;simp only[catT,List.foldl_cons,List.foldl_nil,ByteArray.size_append] at this ⊢;omega
     go_wp2_with fail
     go_region_with (go_at_call 91;refine (putD c t [{data:=#[102,117,110,99,116,105,111,110,32]},n,{data:=#[40,41,32,123,32,114,101,116,117,114,110,32]}] w1 HP1.out HS.out (by simp)).mono ?_;rintro e w2 ⟨rfl,hp2,hb2,hk2⟩)
     all_goals (go_wp2_with fail;go_meet;exact⟨by rw[HE.out],by rw[HV.out];simp only[catT,List.foldl_cons,List.foldl_nil,←ByteArray.append_assoc] at hp2 ⊢;exact hp2,hb2,hk2⟩)
    |false=>
     cases h3:(k==3) with
     |true=>
      have HV:Hid (zeq k n=n++({data:=#[32,61,32]}:ByteArray)):=zbhk h0 h1 h2 h3
      have HE:Hid (zem k n=({data:=#[59]}:ByteArray)):=zbhl h0 h3
      have HS:Hid ((catT t [n,{data:=#[32,61,32]}]).size≤140737488355328):=by show _≤_;have:=HL.out;rw[HV.out] at this;simp only[catT,List.foldl_cons,List.foldl_nil,ByteArray.size_append] at this ⊢;omega
      go_wp2_with fail
      go_region_with (go_at_call 91;refine (putD c t [n,{data:=#[32,61,32]}] w1 HP1.out HS.out (by simp)).mono ?_;rintro e w2 ⟨rfl,hp2,hb2,hk2⟩)
      all_goals (go_wp2_with fail;go_meet;exact⟨by rw[HE.out],by rw[HV.out];simp only[catT,List.foldl_cons,List.foldl_nil,←ByteArray.append_assoc] at hp2 ⊢;exact hp2,hb2,hk2⟩)
     |false=>
      cases h4:(k==4) with
      |true=>
       have HV:Hid (zeq k n=({data:=#[112,114,105,110,116,40]}:ByteArray)):=zbhm h0 h1 h2 h3 h4
       have HE:Hid (zem k n=({data:=#[41,59]}:ByteArray)):=zbhn h0 h2 h4
       have HS:Hid ((catT t [{data:=#[112,114,105,110,116,40]}]).size≤140737488355328):=by show _≤_;have:=HL.out;rw[HV.out] at this;simp only[catT,List.foldl_cons,List.foldl_nil,ByteArray.size_append] at this ⊢;omega
       go_wp2_with fail
       refine (putA c t [{data:=#[112,114,105,110,116,40]}] w1 HP1.out HS.out (by simp)).mono ?_
       rintro e w2 ⟨rfl,hp2,hb2,hk2⟩
       go_wp2_with fail
       go_meet
       exact⟨by rw[HE.out],by rw[HV.out];exact hp2,hb2,hk2⟩
      |false=>
       cases h5:(k==5) with
       |true=>
        have HV:Hid (zeq k n=({data:=#[116,104,114,111,119,32]}:ByteArray)):=zbho h0 h1 h2 h3 h4 h5
        have HE:Hid (zem k n=({data:=#[59]}:ByteArray)):=zbhp h0 h2 h4
        have HS:Hid ((catT t [{data:=#[116,104,114,111,119,32]}]).size≤140737488355328):=by show _≤_;have:=HL.out;rw[HV.out] at this;simp only[catT,List.foldl_cons,List.foldl_nil,ByteArray.size_append] at this ⊢;omega
        go_wp2_with fail
        refine (putA c t [{data:=#[116,104,114,111,119,32]}] w1 HP1.out HS.out (by simp)).mono ?_
        rintro e w2 ⟨rfl,hp2,hb2,hk2⟩
        go_wp2_with fail
        go_meet
        exact⟨by rw[HE.out],by rw[HV.out];exact hp2,hb2,hk2⟩
       |false=>
        have HV:Hid (zeq k n=({data:=#[102,97,105,108,32]}:ByteArray)):=zbhq h0 h1 h2 h3 h4 h5
        have HE:Hid (zem k n=({data:=#[59]}:ByteArray)):=zbhr h0 h2 h4
        have HS:Hid ((catT t [{data:=#[102,97,105,108,32]}]).size≤140737488355328):=by show _≤_;have:=HL.out;rw[HV.out] at this;simp only[catT,List.foldl_cons,List.foldl_nil,ByteArray.size_append] at this ⊢;omega
        go_wp2_with fail
        refine (putA c t [{data:=#[102,97,105,108,32]}] w1 HP1.out HS.out (by simp)).mono ?_
        rintro e w2 ⟨rfl,hp2,hb2,hk2⟩
        go_wp2_with fail
        go_meet
        exact⟨by rw[HE.out],by rw[HV.out];exact hp2,hb2,hk2⟩
 case rest=>
 rename_i s4 w2
 obtain⟨rfl,hp2,hb2,hk2⟩:=hcut
 have HP2:=hidI hp2
 have HB2:=hidI (HB1.out.trans hb2)
 have HK2:=hidI (HK1.out.trans hk2)
 have X2:=hidI ((hk2 _ _ _ _ X1.out hne (by decide)).trans X1.out)
 clear hp2 hb2 hk2 p0 p1 p2 p3 p4 p5 pf x0 x1 x2 xf hgl hxl
 obtain⟨x0,x1,x2,xf⟩:=zhg X2.out
 go_wp2_with fail
 refine (OK.out _ _ HP2.out (by have:=HL.out;simp only[ByteArray.size_append] at this ⊢;omega)).mono ?_
 rintro e w3 ⟨rfl,hp3,hb3,hk3⟩
 have HP3:=hidI hp3
 have HB3:=hidI (HB2.out.trans hb3)
 have HK3:=hidI (HK2.out.trans hk3)
 clear hp3 hb3 hk3 x0 x1 x2 xf
 obtain⟨p0,p1,p2,p3,p4,p5,pf⟩:=zx HP3.out.2.2.1
 go_wp2_with fail
 refine (putA c _ [zem k n,{data:=#[10]}] _ HP3.out (by have:=HL.out;have z:(({data:=#[10]}:ByteArray)).size=1:=rfl;simp only[catT,List.foldl_cons,List.foldl_nil,ByteArray.size_append,z] at this ⊢;omega) (by simp)).mono ?_
 rintro e w4 ⟨rfl,hp4,hb4,hk4⟩
 have HP4:=hidI hp4
 have HB4:=hidI (HB3.out.trans hb4)
 have HK4:=hidI (HK3.out.trans hk4)
 clear hp4 hb4 hk4 p0 p1 p2 p3 p4 p5 pf
 go_wp2
 go_end0
 exact⟨rfl,(by have hp3:=HP4.out;rw[zbdd];simp only[catT,List.foldl_cons,List.foldl_nil,←ByteArray.append_assoc] at hp3 ⊢;exact hp3),HB4.out,HK4.out⟩
theorem zqu {α:Type} {l:List α} {j:Nat} (h:j<l.length): ∃x,l[j]? =some x:=⟨_,List.getElem?_eq_getElem h⟩
theorem zbnf (l:List ByteArray):l.map Value.string=l.flatMap (fun x=>[Value.string x]):=by
 induction l with
 |nil=>rfl
 |cons x l ih=>rw[List.map_cons,List.flatMap_cons,ih];rfl
theorem zbng (t:ByteArray):t++sNone=t:=by
 cases t with
 |mk d=>
  show ByteArray.append _ _=_
  simp[ByteArray.append]
theorem zbnh (m:Md):(acc epF m.ep (acc impT m.im (acc rqT m.rq sNone))).size≤(zhl m).size:=zqe _ _ _
theorem zbni (m:Md):(acc impT m.im (acc rqT m.rq sNone)).size≤(zhl m).size:=Nat.le_trans (zqe _ _ _) (zbnh m)
theorem zbwz (m:Md):(acc rqT m.rq sNone).size≤(zhl m).size:=Nat.le_trans (zqe _ _ _) (zbni m)
theorem zbry (s:ByteArray):rqT s=({data:=#[105,109,112,111,114,116,32]}:ByteArray)++zda s++({data:=#[59]}:ByteArray)++({data:=#[10]}:ByteArray):=by
 have l1:({data:=#[59,10]}:ByteArray)={data:=#[59]}++{data:=#[10]}:=zfk #[59] #[10]
 rw[rqT,l1]
 simp only[ByteArray.append_assoc]
theorem zbnj {x:Ep} (h:(x.loc.toList==[42,100,101,102,97,117,108,116])=false):epF x=expT x:=by rw[epF,h];rfl
theorem zbtz {x:Ep} (h:(x.loc.toList==[42,100,101,102,97,117,108,116])=true):epF x=sNone:=by rw[epF,h];rfl
theorem zzr (c:PC) (w:World) (ok: ∀i,i<c.m.ex.length→zgq c i) (hs: ∀s∈c.m.st,0≤s.expr∧s.expr<(c.m.ex.length:Int)) (hm:Small c.m) (h:PP c sNone w) (hlen:(zhl c.m).size≤140737488355328):
  Calls Tryz.prog 93 #[.pointer (some ⟨c.gp,0,none⟩)] w (PO c (zhl c.m) w):=by
 have HP0:=hidI h
 have SM:=hidI hm
 have OK:=hidI ok
 have HS:=hidI hs
 have HL:=hidI hlen
 obtain⟨f1,f2,f3,f4,f5⟩:=hm.few
 clear h hm ok hs hlen
 obtain⟨p0,p1,p2,p3,p4,p5,pf⟩:=zx HP0.out.2.2.1
 go_enter Tryz.func93,Tryz.ntmps93
 go_wp2
 go_loopg [16] c.m.rq.length (fun k i wr=>∃j:Nat,i= .int .i64 j∧j+k=c.m.rq.length∧PP c (acc rqT (c.m.rq.take j) sNone) wr∧Below c.B w wr∧KeepB c.b w wr)
 case atStart=>exact⟨0,rfl,by omega,HP0.out,Below.refl _ _,fun _ _ _ _ _ _ _=>rfl⟩
 case round=>
  obtain⟨j,rfl,hj,hp,hb,hk⟩:=hrel
  have HP:=hidI hp
  have HB:=hidI hb
  have HK:=hidI hk
  clear hp hb hk p0 p1 p2 p3 p4 p5 pf
  obtain⟨p0,p1,p2,p3,p4,p5,pf⟩:=zx HP.out.2.2.1
  by_cases hlt:j<c.m.rq.length
  ·have hlti:(j:Int)<(c.m.rq.length:Int):=by omega
   obtain⟨x,hxj⟩:=zqu hlt
   have hxm:=List.mem_of_getElem? hxj
   have HZ:Hid ((acc rqT (c.m.rq.take j) sNone++rqT x).size≤140737488355328):=by show _≤_;rw[←zib rqT hxj];exact Nat.le_trans (zqf rqT c.m.rq (j+1) sNone) (Nat.le_trans (zbwz c.m) HL.out)
   have HX:=hidI hxj
   obtain⟨j1,hj1⟩: ∃j1,j1=j+1:=⟨_,rfl⟩
   have ej:(j:Int)+1=(j1:Int):=by omega
   have HJ:=hidI hj1
   clear hj1
   obtain⟨g,hg,k0⟩: ∃g,c.S.rq.a=some ⟨g,0,none⟩∧wr.cell? ⟨g,j,none⟩=some (.string x):=by
    obtain⟨g,hg,hc⟩:=OwnR.elem (f:=fun x=>[Value.string x]) (m:=1) (fun _=>rfl) (show OwnR wr c.base 9 1 c.S.rq c.m.rq.length (c.m.rq.flatMap fun x=>[Value.string x]) by rw[←zbnf];exact HP.out.2.1.rq) hxj
    have k0:=hc 0 (by omega)
    simp only[Nat.mul_one,Nat.add_zero,List.getElem?_cons_zero] at k0
    exact⟨g,hg,k0⟩
   have hs1:=SM.out.rq x hxm
   have HG:Hid (Value.slice c.S.rq.a c.m.rq.length c.S.rq.cap=Value.slice (some ⟨g,0,none⟩) c.m.rq.length c.S.rq.cap):=by show _=_;rw[hg]
   clear hg hxj hxm p0 p1 p2 p3 p4 p5 pf
   rw[HG.out]
   obtain⟨p0,p1,p2,p3,p4,p5,pf⟩:=zx HP.out.2.2.1
   have hgl:=(Array.getElem?_eq_some_iff.1 HP.out.2.2.1).1
   go_wp2_with fail
   go_region_with (first|(go_at_call 162;refine (zna x _ (by omega)).mono ?_;rintro e w' ⟨rfl,rfl⟩)|(go_at_call 91;refine (putD c _ [{data:=#[105,109,112,111,114,116,32]},zda x,{data:=#[59]},{data:=#[10]}] wr HP.out (by have:=HZ.out;rw[zbry] at this;simp only[catT,List.foldl_cons,List.foldl_nil,ByteArray.size_append] at this ⊢;omega) (by simp)).mono ?_;rintro e w3 ⟨rfl,hp3,hb3,hk3⟩))
   all_goals
    have HP3:=hidI hp3
    have HB3:=hidI (HB.out.trans hb3)
    have HK3:=hidI (HK.out.trans hk3)
    clear hp3 hb3 hk3 p0 p1 p2 p3 p4 p5 pf hgl k0
    go_wp2
    rw[←HG.out]
    go_roundg (gk-1)
    case rel=>exact⟨j1,rfl,by have:=HJ.out;omega,by rw[HJ.out,zib rqT HX.out];exact (by have hp3:=HP3.out;rw[zbry];simp only[catT,List.foldl_cons,List.foldl_nil,←ByteArray.append_assoc] at hp3 ⊢;exact hp3),HB3.out,HK3.out⟩
    case measure=>omega
  ·have hlti: ¬(j:Int)<(c.m.rq.length:Int):=by omega
   obtain rfl:j=c.m.rq.length:=by omega
   have HN:Hid (PP c (acc impT (c.m.im.take 0) (acc rqT c.m.rq sNone)) wr):=by have:=HP.out;rw[List.take_length] at this;exact this
   go_wp2
   go_loopg [35] c.m.im.length (fun k i wr=>∃j:Nat,i= .int .i64 j∧j+k=c.m.im.length∧PP c (acc impT (c.m.im.take j) (acc rqT c.m.rq sNone)) wr∧Below c.B w wr∧KeepB c.b w wr)
   case atStart=>exact⟨0,rfl,by omega,HN.out,HB.out,HK.out⟩
   case round=>
    obtain⟨j,rfl,hj,hp,hb,hk⟩:=hrel
    clear HP HB HK HN
    have HP:=hidI hp
    have HB:=hidI hb
    have HK:=hidI hk
    clear hp hb hk p0 p1 p2 p3 p4 p5 pf
    obtain⟨p0,p1,p2,p3,p4,p5,pf⟩:=zx HP.out.2.2.1
    by_cases hlt:j<c.m.im.length
    ·have hlti:(j:Int)<(c.m.im.length:Int):=by omega
     obtain⟨x,hxj⟩:=zqu hlt
     have hxm:=List.mem_of_getElem? hxj
     have HZ:Hid ((acc impT (c.m.im.take j) (acc rqT c.m.rq sNone)++impT x).size≤140737488355328):=by show _≤_;rw[←zib impT hxj];exact Nat.le_trans (zqf impT c.m.im (j+1) (acc rqT c.m.rq sNone)) (Nat.le_trans (zbni c.m) HL.out)
     have HX:=hidI hxj
     obtain⟨j1,hj1⟩: ∃j1,j1=j+1:=⟨_,rfl⟩
     have ej:(j:Int)+1=(j1:Int):=by omega
     have HJ:=hidI hj1
     clear hj1
     obtain⟨g,hg,hcl⟩:=OwnR.elem (f:=imL) (m:=3) (fun _=>rfl) HP.out.2.1.im hxj
     have k0:=hcl 0 (by omega)
     have k1:=hcl 1 (by omega)
     have k2:=hcl 2 (by omega)
     simp only[imL,Nat.add_zero,List.getElem?_cons_zero,List.getElem?_cons_succ] at k0 k1 k2
     clear hcl
     have hs1:=(SM.out.im x hxm).1
     have HG:Hid (Value.slice c.S.im.a c.m.im.length c.S.im.cap=Value.slice (some ⟨g,0,none⟩) c.m.im.length c.S.im.cap):=by show _=_;rw[hg]
     clear hg hxj hxm p0 p1 p2 p3 p4 p5 pf
     rw[HG.out]
     go_upto_region 8 with fail
     have HW:Hid (Below wr.heap.size wr (wr.alloc (.cells #[.string x.spec,.string x.first,.string x.loc] 141))):=(Below.refl _ _).alloc (Nat.le_refl _) _
     refine zbk (R:=fun W=>W.heap[wr.heap.size]? =some (.cells #[.string x.spec,.string x.first,.string x.loc] 141 (0,0))∧PP c (acc impT (c.m.im.take j) (acc rqT c.m.rq sNone)) W∧Below c.B w W∧KeepB c.b w W) ⟨heap_alloc_new wr _,HP.out.later HW.out,HB.out.trans (HW.out.mono HP.out.1.2),HK.out.trans (KeepB.of_below HW.out)⟩ ?_
     obtain⟨gx,hgx⟩: ∃gx,gx=wr.heap.size:=⟨_,rfl⟩
     rw[←hgx]
     clear k0 k1 k2 HW
     rintro W ⟨xb,hp,hb,hk⟩
     clear hgx HP HB HK
     have XB:=hidI xb
     have HP:=hidI hp
     have HB:=hidI hb
     have HK:=hidI hk
     clear xb hp hb hk
     obtain⟨x0,x1,x2,xf⟩:=zhg XB.out
     go_wp2_with fail
     refine (zbtx c _ x W HP.out HZ.out (by omega)).mono ?_
     rintro e W2 ⟨rfl,hp2,hb2,hk2⟩
     have HP2:=hidI hp2
     have HB2:=hidI (HB.out.trans hb2)
     have HK2:=hidI (HK.out.trans hk2)
     clear hp2 hb2 hk2 x0 x1 x2 xf
     go_wp2
     rw[←HG.out]
     go_roundg (gk-1)
     case rel=>exact⟨j1,rfl,by have:=HJ.out;omega,by rw[HJ.out,zib impT HX.out];exact HP2.out,HB2.out,HK2.out⟩
     case measure=>omega
    ·have hlti: ¬(j:Int)<(c.m.im.length:Int):=by omega
     obtain rfl:j=c.m.im.length:=by omega
     have HN:Hid (PP c (acc epF (c.m.ep.take 0) (acc impT c.m.im (acc rqT c.m.rq sNone))) wr):=by have:=HP.out;rw[List.take_length] at this;exact this
     go_wp2
     go_loopg [49] c.m.ep.length (fun k i wr=>∃j:Nat,i= .int .i64 j∧j+k=c.m.ep.length∧PP c (acc epF (c.m.ep.take j) (acc impT c.m.im (acc rqT c.m.rq sNone))) wr∧Below c.B w wr∧KeepB c.b w wr)
     case atStart=>exact⟨0,rfl,by omega,HN.out,HB.out,HK.out⟩
     case round=>
      obtain⟨j,rfl,hj,hp,hb,hk⟩:=hrel
      clear HP HB HK HN
      have HP:=hidI hp
      have HB:=hidI hb
      have HK:=hidI hk
      clear hp hb hk p0 p1 p2 p3 p4 p5 pf
      obtain⟨p0,p1,p2,p3,p4,p5,pf⟩:=zx HP.out.2.2.1
      by_cases hlt:j<c.m.ep.length
      ·have hlti:(j:Int)<(c.m.ep.length:Int):=by omega
       obtain⟨x,hxj⟩:=zqu hlt
       have hxm:=List.mem_of_getElem? hxj
       have HZ:Hid ((acc epF (c.m.ep.take j) (acc impT c.m.im (acc rqT c.m.rq sNone))++epF x).size≤140737488355328):=by show _≤_;rw[←zib epF hxj];exact Nat.le_trans (zqf epF c.m.ep (j+1) (acc impT c.m.im (acc rqT c.m.rq sNone))) (Nat.le_trans (zbnh c.m) HL.out)
       have HX:=hidI hxj
       obtain⟨j1,hj1⟩: ∃j1,j1=j+1:=⟨_,rfl⟩
       have ej:(j:Int)+1=(j1:Int):=by omega
       have HJ:=hidI hj1
       clear hj1
       obtain⟨g,hg,hcl⟩:=OwnR.elem (f:=epL) (m:=4) (fun _=>rfl) HP.out.2.1.ep hxj
       have k0:=hcl 0 (by omega)
       have k1:=hcl 1 (by omega)
       have k2:=hcl 2 (by omega)
       have k3:=hcl 3 (by omega)
       simp only[epL,Nat.add_zero,List.getElem?_cons_zero,List.getElem?_cons_succ] at k0 k1 k2 k3
       clear hcl
       have hs1:=(SM.out.ep x hxm).1
       have HG:Hid (Value.slice c.S.ep.a c.m.ep.length c.S.ep.cap=Value.slice (some ⟨g,0,none⟩) c.m.ep.length c.S.ep.cap):=by show _=_;rw[hg]
       clear hg hxj hxm p0 p1 p2 p3 p4 p5 pf
       rw[HG.out]
       go_upto_region 13 with fail
       have HW:Hid (Below wr.heap.size wr (wr.alloc (.cells #[.int .i64 x.kind,.string x.name,.string x.loc,.string x.spec] 143))):=(Below.refl _ _).alloc (Nat.le_refl _) _
       refine zbk (R:=fun W=>W.heap[wr.heap.size]? =some (.cells #[.int .i64 x.kind,.string x.name,.string x.loc,.string x.spec] 143 (0,0))∧PP c (acc epF (c.m.ep.take j) (acc impT c.m.im (acc rqT c.m.rq sNone))) W∧Below c.B w W∧KeepB c.b w W) ⟨heap_alloc_new wr _,HP.out.later HW.out,HB.out.trans (HW.out.mono HP.out.1.2),HK.out.trans (KeepB.of_below HW.out)⟩ ?_
       obtain⟨gx,hgx⟩: ∃gx,gx=wr.heap.size:=⟨_,rfl⟩
       rw[←hgx]
       clear k0 k1 k2 k3 HW
       rintro W ⟨xb,hp,hb,hk⟩
       clear hgx HP HB HK
       have XB:=hidI xb
       have HP:=hidI hp
       have HB:=hidI hb
       have HK:=hidI hk
       clear xb hp hb hk
       obtain⟨x0,x1,x2,x3,xf⟩:=zlo XB.out
       cases e1:(x.loc.toList==[42,100,101,102,97,117,108,116]) with
       |false=>
        go_wp2_with fail
        refine (zbty c _ x W HP.out (by have:=HZ.out;rw[zbnj e1] at this;exact this) (by omega)).mono ?_
        rintro e W2 ⟨rfl,hp2,hb2,hk2⟩
        have HP2:=hidI hp2
        have HB2:=hidI (HB.out.trans hb2)
        have HK2:=hidI (HK.out.trans hk2)
        clear hp2 hb2 hk2 x0 x1 x2 x3 xf
        go_wp2
        rw[←HG.out]
        go_roundg (gk-1)
        case rel=>exact⟨j1,rfl,by have:=HJ.out;omega,by rw[HJ.out,zib epF HX.out];exact (by rw[zbnj e1];exact HP2.out),HB2.out,HK2.out⟩
        case measure=>omega
       |true=>
        go_wp2
        rw[←HG.out]
        go_roundg (gk-1)
        case rel=>exact⟨j1,rfl,by have:=HJ.out;omega,by rw[HJ.out,zib epF HX.out];exact (by rw[zbtz e1,zbng];exact HP.out),HB.out,HK.out⟩
        case measure=>omega
      ·have hlti: ¬(j:Int)<(c.m.ep.length:Int):=by omega
       obtain rfl:j=c.m.ep.length:=by omega
       have HN:Hid (PP c (acc (stFI c.m.ex) (c.m.st.take 0) (zme c.m)) wr):=by have:=HP.out;rw[List.take_length] at this;exact this
       go_wp2
       go_loopg [66] c.m.st.length (fun k i wr=>∃j:Nat,i= .int .i64 j∧j+k=c.m.st.length∧PP c (acc (stFI c.m.ex) (c.m.st.take j) (zme c.m)) wr∧Below c.B w wr∧KeepB c.b w wr)
       case atStart=>exact⟨0,rfl,by omega,HN.out,HB.out,HK.out⟩
       case round=>
        obtain⟨j,rfl,hj,hp,hb,hk⟩:=hrel
        clear HP HB HK HN
        have HP:=hidI hp
        have HB:=hidI hb
        have HK:=hidI hk
        clear hp hb hk p0 p1 p2 p3 p4 p5 pf
        obtain⟨p0,p1,p2,p3,p4,p5,pf⟩:=zx HP.out.2.2.1
        by_cases hlt:j<c.m.st.length
        ·have hlti:(j:Int)<(c.m.st.length:Int):=by omega
         obtain⟨x,hxj⟩:=zqu hlt
         have hxm:=List.mem_of_getElem? hxj
         have HZ:Hid ((acc (stFI c.m.ex) (c.m.st.take j) (zme c.m)++(stFI c.m.ex) x).size≤140737488355328):=by show _≤_;rw[←zib (stFI c.m.ex) hxj];exact Nat.le_trans (zqf (stFI c.m.ex) c.m.st (j+1) (zme c.m)) HL.out
         have HX:=hidI hxj
         obtain⟨j1,hj1⟩: ∃j1,j1=j+1:=⟨_,rfl⟩
         have ej:(j:Int)+1=(j1:Int):=by omega
         have HJ:=hidI hj1
         clear hj1
         obtain⟨ei,hei⟩: ∃n:Nat,x.expr=(n:Int):=⟨x.expr.toNat,by have:=HS.out x hxm;omega⟩
         have hel:ei<c.m.ex.length:=by have:=HS.out x hxm;omega
         obtain⟨g,hg,hcl⟩:=OwnR.elem (f:=smL) (m:=3) (fun _=>rfl) HP.out.2.1.st hxj
         have k0:=hcl 0 (by omega)
         have k1:=hcl 1 (by omega)
         have k2:=hcl 2 (by omega)
         simp only[smL,Nat.add_zero,List.getElem?_cons_zero,List.getElem?_cons_succ,hei] at k0 k1 k2
         clear hcl
         have HG:Hid (Value.slice c.S.st.a c.m.st.length c.S.st.cap=Value.slice (some ⟨g,0,none⟩) c.m.st.length c.S.st.cap):=by show _=_;rw[hg]
         clear hg hxj hxm p0 p1 p2 p3 p4 p5 pf
         rw[HG.out]
         go_upto_region 19 with fail
         have HW:Hid (Below wr.heap.size wr (wr.alloc (.cells #[.int .i64 x.kind,.string x.name,.int .i64 (ei:Int)] 61))):=(Below.refl _ _).alloc (Nat.le_refl _) _
         refine zbk (R:=fun W=>W.heap[wr.heap.size]? =some (.cells #[.int .i64 x.kind,.string x.name,.int .i64 (ei:Int)] 61 (0,0))∧PP c (acc (stFI c.m.ex) (c.m.st.take j) (zme c.m)) W∧Below c.B w W∧KeepB c.b w W) ⟨heap_alloc_new wr _,HP.out.later HW.out,HB.out.trans (HW.out.mono HP.out.1.2),HK.out.trans (KeepB.of_below HW.out)⟩ ?_
         obtain⟨gx,hgx⟩: ∃gx,gx=wr.heap.size:=⟨_,rfl⟩
         rw[←hgx]
         clear k0 k1 k2 HW
         rintro W ⟨xb,hp,hb,hk⟩
         clear hgx HP HB HK
         have XB:=hidI xb
         have HP:=hidI hp
         have HB:=hidI hb
         have HK:=hidI hk
         clear xb hp hb hk
         obtain⟨x0,x1,x2,xf⟩:=zhg XB.out
         go_wp2_with fail
         refine (zbne c _ x.kind x.name ei W (OK.out ei hel) HP.out (by have:=HZ.out;rw[stFI,hei,Int.toNat_natCast] at this;exact this)).mono ?_
         rintro e W2 ⟨rfl,hp2,hb2,hk2⟩
         have HP2:=hidI hp2
         have HB2:=hidI (HB.out.trans hb2)
         have HK2:=hidI (HK.out.trans hk2)
         clear hp2 hb2 hk2 x0 x1 x2 xf
         go_wp2
         rw[←HG.out]
         go_roundg (gk-1)
         case rel=>exact⟨j1,rfl,by have:=HJ.out;omega,by rw[HJ.out,zib (stFI c.m.ex) HX.out];exact (by rw[stFI,hei,Int.toNat_natCast];exact HP2.out),HB2.out,HK2.out⟩
         case measure=>omega
        ·have hlti: ¬(j:Int)<(c.m.st.length:Int):=by omega
         obtain rfl:j=c.m.st.length:=by omega
         have HN:Hid (PP c (zhl c.m) wr):=by have:=HP.out;rw[List.take_length] at this;exact this
         go_wp2
         go_end0
         exact⟨rfl,HN.out,HB.out,HK.out⟩
theorem zbde (c:PC) (t:ByteArray) (k num:Int) (name field sg:ByteArray) (l r:Nat) (w:World) (okl:zgq c l) (okr:zgq c r) (hr:r<c.m.ex.length) (h:PP c t w) (hlen:(t++(prX c.m.ex l++sg++zcl (sumK (c.m.ex.getD r exNo).kind) (prX c.m.ex r))).size≤140737488355328):
  Calls Tryz.prog 298 #[.pointer (some ⟨c.gp,0,none⟩),.agg #[.int .i64 k,.int .i64 num,.string name,.string field,.int .i64 (l:Int),.int .i64 (r:Int)],.string sg] w (PO c (t++(prX c.m.ex l++sg++zcl (sumK (c.m.ex.getD r exNo).kind) (prX c.m.ex r))) w):=by
 have HP:=hidI h
 obtain⟨kk,hkk⟩: ∃kk,(c.m.ex.getD r exNo).kind=kk:=⟨_,rfl⟩
 rw[hkk] at hlen ⊢
 have KK:=hidI hkk
 have HL:Hid (t.size+((prX c.m.ex l).size+sg.size+(zcl (sumK kk) (prX c.m.ex r)).size)≤140737488355328):=by show _≤_;simp only[ByteArray.size_append] at hlen;exact hlen
 obtain⟨T,hT⟩: ∃T,T=prX c.m.ex l++sg++zcl (sumK kk) (prX c.m.ex r):=⟨_,rfl⟩
 rw[←hT]
 have HT:=hidI hT
 have OKl:=hidI okl
 have OKr:=hidI okr
 have HR:=hidI hr
 clear h hlen okl okr hr hkk hT
 go_enter Tryz.func298,Tryz.ntmps298
 go_upto_region 1 with fail
 have HW:Hid (Below w.heap.size w (w.alloc (.cells #[.int .i64 k,.int .i64 num,.string name,.string field,.int .i64 (l:Int),.int .i64 (r:Int)] 145))):=(Below.refl _ _).alloc (Nat.le_refl _) _
 refine zbk (R:=fun W=>W.heap[w.heap.size]? =some (.cells #[.int .i64 k,.int .i64 num,.string name,.string field,.int .i64 (l:Int),.int .i64 (r:Int)] 145 (0,0))∧PP c t W∧Below c.B w W∧KeepB c.b w W) ⟨heap_alloc_new w _,HP.out.later HW.out,HW.out.mono HP.out.1.2,KeepB.of_below HW.out⟩ ?_
 obtain⟨gx,hgx⟩: ∃gx,gx=w.heap.size:=⟨_,rfl⟩
 have hne:gx≠c.b:=by
  rw[hgx]
  obtain⟨cur,hc⟩:=zeb HP.out.1.1
  have:=(Array.getElem?_eq_some_iff.1 hc).1
  omega
 rw[←hgx]
 rintro w1 ⟨hx,hp,hb,hk⟩
 clear hgx HW
 have X1:=hidI hx
 have HP1:=hidI hp
 have HB1:=hidI hb
 have HK1:=hidI hk
 clear hx hp hb hk
 obtain⟨x0,x1,x2,x3,x4,x5,xf⟩:=zx X1.out
 obtain⟨p0,p1,p2,p3,p4,p5,pf⟩:=zx HP1.out.2.2.1
 have hgl:=(Array.getElem?_eq_some_iff.1 HP1.out.2.2.1).1
 have hxl:=(Array.getElem?_eq_some_iff.1 X1.out).1
 go_wp2_with fail
 refine (zqt c t l false w1 OKl.out HP1.out (by have:=HL.out;simp only[zcl,Bool.false_eq_true,↓reduceIte,ByteArray.size_append] at this ⊢;omega)).mono ?_
 rintro e w2 ⟨rfl,hp,hb,hk⟩
 have HP2:=hidI hp
 have HB2:=hidI (HB1.out.trans hb)
 have HK2:=hidI (HK1.out.trans hk)
 have X2:=hidI ((hk _ _ _ _ X1.out hne (by decide)).trans X1.out)
 clear hp hb hk p0 p1 p2 p3 p4 p5 pf x0 x1 x2 x3 x4 x5 xf hgl hxl
 obtain⟨x0,x1,x2,x3,x4,x5,xf⟩:=zx X2.out
 obtain⟨p0,p1,p2,p3,p4,p5,pf⟩:=zx HP2.out.2.2.1
 have hgl:=(Array.getElem?_eq_some_iff.1 HP2.out.2.2.1).1
 have hxl:=(Array.getElem?_eq_some_iff.1 X2.out).1
 go_wp2_with fail
 refine (putA c _ [sg] w2 HP2.out (by have:=HL.out;simp only[catT,zcl,Bool.false_eq_true,↓reduceIte,List.foldl_cons,List.foldl_nil,ByteArray.size_append] at this ⊢;omega) (by simp)).mono ?_
 rintro e w3 ⟨rfl,hp,hb,hk⟩
 have HP3:=hidI hp
 have HB3:=hidI (HB2.out.trans hb)
 have HK3:=hidI (HK2.out.trans hk)
 have X3:=hidI ((hk _ _ _ _ X2.out hne (by decide)).trans X2.out)
 clear hp hb hk p0 p1 p2 p3 p4 p5 pf x0 x1 x2 x3 x4 x5 xf hgl hxl
 obtain⟨x0,x1,x2,x3,x4,x5,xf⟩:=zx X3.out
 obtain⟨p0,p1,p2,p3,p4,p5,pf⟩:=zx HP3.out.2.2.1
 have hgl:=(Array.getElem?_eq_some_iff.1 HP3.out.2.2.1).1
 have hxl:=(Array.getElem?_eq_some_iff.1 X3.out).1
 go_wp2_with fail
 have HPD:=hidI (HP3.out.later ((Below.refl w3.heap.size w3).drew))
 go_region_with (first|(go_at_call 300;refine (zux c _ r _ HPD.out HR.out).mono ?_;rintro e w' ⟨rfl,rfl⟩;rw[KK.out])|(go_at_call 245;refine (zlb _ _).mono ?_;rintro e w' ⟨rfl,rfl⟩)|(go_at_call 299;refine (zqt c _ r (sumK kk) _ OKr.out HPD.out (by have:=HL.out;simp only[catT,show ∀q,zcl false q=q from fun _=>rfl,List.foldl_cons,List.foldl_nil,ByteArray.size_append] at this ⊢;omega)).mono ?_;rintro e w4 ⟨rfl,hp,hb,hk⟩))
 all_goals (go_wp2;go_end0;exact⟨rfl,(by rw[HT.out];simp only[catT,show ∀q,zcl false q=q from fun _=>rfl,List.foldl_cons,List.foldl_nil,←ByteArray.append_assoc] at hp ⊢;exact hp),HB3.out.trans ((((Below.refl w3.heap.size w3).drew).mono HP3.out.1.2).trans hb),HK3.out.trans ((KeepB.of_below ((Below.refl w3.heap.size w3).drew)).trans hk)⟩)
theorem zbua (c:PC) (t:ByteArray) (i:Nat) (num:Int) (name field:ByteArray) (l r:Int) (w:World) (h:PP c t w) (hi:i<c.m.ex.length) (hx:c.m.ex.getD i exNo=⟨1,num,name,field,l,r⟩) (hn: -9223372036854775808≤num∧num≤9223372036854775807) (hlen:(t++(strOfNums (decL num))).size≤140737488355328):
  Calls Tryz.prog 249 #[.pointer (some ⟨c.gp,0,none⟩),.int .i64 (i:Int)] w (PO c (t++(strOfNums (decL num))) w):=by
 have HP:=hidI h
 obtain⟨T,hT⟩: ∃T,T=strOfNums (decL num):=⟨_,rfl⟩
 rw[←hT] at hlen ⊢
 have HT:=hidI hT
 have HL:=hidI hlen
 clear h hlen hT
 obtain⟨p0,p1,p2,p3,p4,p5,pf⟩:=zx HP.out.2.2.1
 obtain⟨g,hg,hgl,x0,x1,x2,x3,x4,x5⟩:=HP.out.2.1.expr hi
 rw[hx] at x0 x1 x2 x3 x4 x5
 dsimp only at x0 x1 x2 x3 x4 x5
 rw[hg] at p4
 have hii:(i:Int)<(c.m.ex.length:Int):=by omega
 clear hg hx
 go_enter Tryz.func249,Tryz.ntmps249
 go_upto_region 1 with fail
 have HW:Hid (Below w.heap.size w (w.alloc (.cells #[.int .i64 1,.int .i64 num,.string name,.string field,.int .i64 l,.int .i64 r] 145))):=(Below.refl _ _).alloc (Nat.le_refl _) _
 refine zbk (R:=fun W=>W.heap[w.heap.size]? =some (.cells #[.int .i64 1,.int .i64 num,.string name,.string field,.int .i64 l,.int .i64 r] 145 (0,0))∧PP c t W∧Below c.B w W∧KeepB c.b w W) ⟨heap_alloc_new w _,HP.out.later HW.out,HW.out.mono HP.out.1.2,KeepB.of_below HW.out⟩ ?_
 obtain⟨gx,hgx⟩: ∃gx,gx=w.heap.size:=⟨_,rfl⟩
 have hne:gx≠c.b:=by
  rw[hgx]
  obtain⟨cur,hc⟩:=zeb HP.out.1.1
  have:=(Array.getElem?_eq_some_iff.1 hc).1
  omega
 rw[←hgx]
 rintro w1 ⟨hx,hp,hb,hk⟩
 clear hgx HW hgl x0 x1 x2 x3 x4 x5 p0 p1 p2 p3 p4 p5 pf hii
 have X1:=hidI hx
 have HP1:=hidI hp
 have HB1:=hidI hb
 have HK1:=hidI hk
 clear hx hp hb hk
 obtain⟨x0,x1,x2,x3,x4,x5,xf⟩:=zx X1.out
 obtain⟨p0,p1,p2,p3,p4,p5,pf⟩:=zx HP1.out.2.2.1
 have hgl:=(Array.getElem?_eq_some_iff.1 HP1.out.2.2.1).1
 have hxl:=(Array.getElem?_eq_some_iff.1 X1.out).1
 have HN:=hidI hn
 go_wp2_with fail
 go_region_with (first|(go_at_call 297;refine (zboy num _ HN.out).mono ?_;rintro e w2 ⟨rfl,hb2⟩;have HB2:=hidI (((Below.refl w1.heap.size w1).drew).trans hb2);have HP2:=hidI (HP1.out.later HB2.out);have X2:=hidI ((HB2.out.block _ (Array.getElem?_eq_some_iff.1 X1.out).1).trans X1.out);clear hb2;obtain⟨y0,y1,y2,y3,y4,y5,yf⟩:=zx X2.out;obtain⟨q0,q1,q2,q3,q4,q5,qf⟩:=zx HP2.out.2.2.1;have hgl2:=(Array.getElem?_eq_some_iff.1 HP2.out.2.2.1).1;have hxl2:=(Array.getElem?_eq_some_iff.1 X2.out).1)|(go_at_call 91;refine (putA c t [strOfNums (decL num)] _ HP2.out (by have:=HL.out;rw[HT.out] at this;simp only[catT,List.foldl_cons,List.foldl_nil,ByteArray.size_append] at this ⊢;omega) (by simp)).mono ?_;rintro e w3 ⟨rfl,hp,hb3,hk3⟩))
 all_goals (have hb:=(HB2.out.mono HP1.out.1.2).trans hb3;have hk:=(KeepB.of_below (b:=c.b) HB2.out).trans hk3;go_wp2;go_end0;exact⟨rfl,(by rw[HT.out];exact hp),HB1.out.trans hb,HK1.out.trans hk⟩)
theorem zbub (c:PC) (t:ByteArray) (i:Nat) (num:Int) (name field:ByteArray) (l r:Int) (w:World) (h:PP c t w) (hi:i<c.m.ex.length) (hx:c.m.ex.getD i exNo=⟨2,num,name,field,l,r⟩) (hlen:(t++(name)).size≤140737488355328):
  Calls Tryz.prog 249 #[.pointer (some ⟨c.gp,0,none⟩),.int .i64 (i:Int)] w (PO c (t++(name)) w):=by
 have HP:=hidI h
 obtain⟨T,hT⟩: ∃T,T=name:=⟨_,rfl⟩
 rw[←hT] at hlen ⊢
 have HT:=hidI hT
 have HL:=hidI hlen
 clear h hlen hT
 obtain⟨p0,p1,p2,p3,p4,p5,pf⟩:=zx HP.out.2.2.1
 obtain⟨g,hg,hgl,x0,x1,x2,x3,x4,x5⟩:=HP.out.2.1.expr hi
 rw[hx] at x0 x1 x2 x3 x4 x5
 dsimp only at x0 x1 x2 x3 x4 x5
 rw[hg] at p4
 have hii:(i:Int)<(c.m.ex.length:Int):=by omega
 clear hg hx
 go_enter Tryz.func249,Tryz.ntmps249
 go_upto_region 1 with fail
 have HW:Hid (Below w.heap.size w (w.alloc (.cells #[.int .i64 2,.int .i64 num,.string name,.string field,.int .i64 l,.int .i64 r] 145))):=(Below.refl _ _).alloc (Nat.le_refl _) _
 refine zbk (R:=fun W=>W.heap[w.heap.size]? =some (.cells #[.int .i64 2,.int .i64 num,.string name,.string field,.int .i64 l,.int .i64 r] 145 (0,0))∧PP c t W∧Below c.B w W∧KeepB c.b w W) ⟨heap_alloc_new w _,HP.out.later HW.out,HW.out.mono HP.out.1.2,KeepB.of_below HW.out⟩ ?_
 obtain⟨gx,hgx⟩: ∃gx,gx=w.heap.size:=⟨_,rfl⟩
 have hne:gx≠c.b:=by
  rw[hgx]
  obtain⟨cur,hc⟩:=zeb HP.out.1.1
  have:=(Array.getElem?_eq_some_iff.1 hc).1
  omega
 rw[←hgx]
 rintro w1 ⟨hx,hp,hb,hk⟩
 clear hgx HW hgl x0 x1 x2 x3 x4 x5 p0 p1 p2 p3 p4 p5 pf hii
 have X1:=hidI hx
 have HP1:=hidI hp
 have HB1:=hidI hb
 have HK1:=hidI hk
 clear hx hp hb hk
 obtain⟨x0,x1,x2,x3,x4,x5,xf⟩:=zx X1.out
 obtain⟨p0,p1,p2,p3,p4,p5,pf⟩:=zx HP1.out.2.2.1
 have hgl:=(Array.getElem?_eq_some_iff.1 HP1.out.2.2.1).1
 have hxl:=(Array.getElem?_eq_some_iff.1 X1.out).1
 go_wp2_with fail
 go_region_with (go_at_call 91;refine (putD c t [name] w1 HP1.out (by have:=HL.out;rw[HT.out] at this;simp only[catT,List.foldl_cons,List.foldl_nil,ByteArray.size_append] at this ⊢;omega) (by simp)).mono ?_;rintro e w2 ⟨rfl,hp,hb,hk⟩)
 all_goals (go_wp2;go_end0;exact⟨rfl,(by rw[HT.out];exact hp),HB1.out.trans hb,HK1.out.trans hk⟩)
theorem zbuc (c:PC) (t:ByteArray) (i:Nat) (num:Int) (name field:ByteArray) (l r:Int) (w:World) (h:PP c t w) (hi:i<c.m.ex.length) (hx:c.m.ex.getD i exNo=⟨3,num,name,field,l,r⟩) (hlen:(t++(name++cParens)).size≤140737488355328):
  Calls Tryz.prog 249 #[.pointer (some ⟨c.gp,0,none⟩),.int .i64 (i:Int)] w (PO c (t++(name++cParens)) w):=by
 have HP:=hidI h
 obtain⟨T,hT⟩: ∃T,T=name++cParens:=⟨_,rfl⟩
 rw[←hT] at hlen ⊢
 have HT:=hidI hT
 have HL:=hidI hlen
 clear h hlen hT
 obtain⟨p0,p1,p2,p3,p4,p5,pf⟩:=zx HP.out.2.2.1
 obtain⟨g,hg,hgl,x0,x1,x2,x3,x4,x5⟩:=HP.out.2.1.expr hi
 rw[hx] at x0 x1 x2 x3 x4 x5
 dsimp only at x0 x1 x2 x3 x4 x5
 rw[hg] at p4
 have hii:(i:Int)<(c.m.ex.length:Int):=by omega
 clear hg hx
 go_enter Tryz.func249,Tryz.ntmps249
 go_upto_region 1 with fail
 have HW:Hid (Below w.heap.size w (w.alloc (.cells #[.int .i64 3,.int .i64 num,.string name,.string field,.int .i64 l,.int .i64 r] 145))):=(Below.refl _ _).alloc (Nat.le_refl _) _
 refine zbk (R:=fun W=>W.heap[w.heap.size]? =some (.cells #[.int .i64 3,.int .i64 num,.string name,.string field,.int .i64 l,.int .i64 r] 145 (0,0))∧PP c t W∧Below c.B w W∧KeepB c.b w W) ⟨heap_alloc_new w _,HP.out.later HW.out,HW.out.mono HP.out.1.2,KeepB.of_below HW.out⟩ ?_
 obtain⟨gx,hgx⟩: ∃gx,gx=w.heap.size:=⟨_,rfl⟩
 have hne:gx≠c.b:=by
  rw[hgx]
  obtain⟨cur,hc⟩:=zeb HP.out.1.1
  have:=(Array.getElem?_eq_some_iff.1 hc).1
  omega
 rw[←hgx]
 rintro w1 ⟨hx,hp,hb,hk⟩
 clear hgx HW hgl x0 x1 x2 x3 x4 x5 p0 p1 p2 p3 p4 p5 pf hii
 have X1:=hidI hx
 have HP1:=hidI hp
 have HB1:=hidI hb
 have HK1:=hidI hk
 clear hx hp hb hk
 obtain⟨x0,x1,x2,x3,x4,x5,xf⟩:=zx X1.out
 obtain⟨p0,p1,p2,p3,p4,p5,pf⟩:=zx HP1.out.2.2.1
 have hgl:=(Array.getElem?_eq_some_iff.1 HP1.out.2.2.1).1
 have hxl:=(Array.getElem?_eq_some_iff.1 X1.out).1
 go_wp2_with fail
 go_region_with (go_at_call 91;refine (putD c t [name,cParens] w1 HP1.out (by have:=HL.out;rw[HT.out] at this;simp only[catT,List.foldl_cons,List.foldl_nil,ByteArray.size_append] at this ⊢;omega) (by simp)).mono ?_;rintro e w2 ⟨rfl,hp,hb,hk⟩)
 all_goals (go_wp2;go_end0;exact⟨rfl,(by rw[HT.out];simp only[catT,List.foldl_cons,List.foldl_nil,←ByteArray.append_assoc] at hp ⊢;exact hp),HB1.out.trans hb,HK1.out.trans hk⟩)
theorem zbud (c:PC) (t:ByteArray) (i:Nat) (num:Int) (name field:ByteArray) (l r:Int) (w:World) (h:PP c t w) (hi:i<c.m.ex.length) (hx:c.m.ex.getD i exNo=⟨4,num,name,field,l,r⟩) (hlen:(t++(name++cPoint++field)).size≤140737488355328):
  Calls Tryz.prog 249 #[.pointer (some ⟨c.gp,0,none⟩),.int .i64 (i:Int)] w (PO c (t++(name++cPoint++field)) w):=by
 have HP:=hidI h
 obtain⟨T,hT⟩: ∃T,T=name++cPoint++field:=⟨_,rfl⟩
 rw[←hT] at hlen ⊢
 have HT:=hidI hT
 have HL:=hidI hlen
 clear h hlen hT
 obtain⟨p0,p1,p2,p3,p4,p5,pf⟩:=zx HP.out.2.2.1
 obtain⟨g,hg,hgl,x0,x1,x2,x3,x4,x5⟩:=HP.out.2.1.expr hi
 rw[hx] at x0 x1 x2 x3 x4 x5
 dsimp only at x0 x1 x2 x3 x4 x5
 rw[hg] at p4
 have hii:(i:Int)<(c.m.ex.length:Int):=by omega
 clear hg hx
 go_enter Tryz.func249,Tryz.ntmps249
 go_upto_region 1 with fail
 have HW:Hid (Below w.heap.size w (w.alloc (.cells #[.int .i64 4,.int .i64 num,.string name,.string field,.int .i64 l,.int .i64 r] 145))):=(Below.refl _ _).alloc (Nat.le_refl _) _
 refine zbk (R:=fun W=>W.heap[w.heap.size]? =some (.cells #[.int .i64 4,.int .i64 num,.string name,.string field,.int .i64 l,.int .i64 r] 145 (0,0))∧PP c t W∧Below c.B w W∧KeepB c.b w W) ⟨heap_alloc_new w _,HP.out.later HW.out,HW.out.mono HP.out.1.2,KeepB.of_below HW.out⟩ ?_
 obtain⟨gx,hgx⟩: ∃gx,gx=w.heap.size:=⟨_,rfl⟩
 have hne:gx≠c.b:=by
  rw[hgx]
  obtain⟨cur,hc⟩:=zeb HP.out.1.1
  have:=(Array.getElem?_eq_some_iff.1 hc).1
  omega
 rw[←hgx]
 rintro w1 ⟨hx,hp,hb,hk⟩
 clear hgx HW hgl x0 x1 x2 x3 x4 x5 p0 p1 p2 p3 p4 p5 pf hii
 have X1:=hidI hx
 have HP1:=hidI hp
 have HB1:=hidI hb
 have HK1:=hidI hk
 clear hx hp hb hk
 obtain⟨x0,x1,x2,x3,x4,x5,xf⟩:=zx X1.out
 obtain⟨p0,p1,p2,p3,p4,p5,pf⟩:=zx HP1.out.2.2.1
 have hgl:=(Array.getElem?_eq_some_iff.1 HP1.out.2.2.1).1
 have hxl:=(Array.getElem?_eq_some_iff.1 X1.out).1
 go_wp2_with fail
 go_region_with (go_at_call 91;refine (putD c t [name,cPoint,field] w1 HP1.out (by have:=HL.out;rw[HT.out] at this;simp only[catT,List.foldl_cons,List.foldl_nil,ByteArray.size_append] at this ⊢;omega) (by simp)).mono ?_;rintro e w2 ⟨rfl,hp,hb,hk⟩)
 all_goals (go_wp2;go_end0;exact⟨rfl,(by rw[HT.out];simp only[catT,List.foldl_cons,List.foldl_nil,←ByteArray.append_assoc] at hp ⊢;exact hp),HB1.out.trans hb,HK1.out.trans hk⟩)
theorem zbue (c:PC) (t:ByteArray) (i:Nat) (num:Int) (name field:ByteArray) (l r:Int) (w:World) (h:PP c t w) (hi:i<c.m.ex.length) (hx:c.m.ex.getD i exNo=⟨5,num,name,field,l,r⟩) (hlen:(t++(name++cPoint++field++cParens)).size≤140737488355328):
  Calls Tryz.prog 249 #[.pointer (some ⟨c.gp,0,none⟩),.int .i64 (i:Int)] w (PO c (t++(name++cPoint++field++cParens)) w):=by
 have HP:=hidI h
 obtain⟨T,hT⟩: ∃T,T=name++cPoint++field++cParens:=⟨_,rfl⟩
 rw[←hT] at hlen ⊢
 have HT:=hidI hT
 have HL:=hidI hlen
 clear h hlen hT
 obtain⟨p0,p1,p2,p3,p4,p5,pf⟩:=zx HP.out.2.2.1
 obtain⟨g,hg,hgl,x0,x1,x2,x3,x4,x5⟩:=HP.out.2.1.expr hi
 rw[hx] at x0 x1 x2 x3 x4 x5
 dsimp only at x0 x1 x2 x3 x4 x5
 rw[hg] at p4
 have hii:(i:Int)<(c.m.ex.length:Int):=by omega
 clear hg hx
 go_enter Tryz.func249,Tryz.ntmps249
 go_upto_region 1 with fail
 have HW:Hid (Below w.heap.size w (w.alloc (.cells #[.int .i64 5,.int .i64 num,.string name,.string field,.int .i64 l,.int .i64 r] 145))):=(Below.refl _ _).alloc (Nat.le_refl _) _
 refine zbk (R:=fun W=>W.heap[w.heap.size]? =some (.cells #[.int .i64 5,.int .i64 num,.string name,.string field,.int .i64 l,.int .i64 r] 145 (0,0))∧PP c t W∧Below c.B w W∧KeepB c.b w W) ⟨heap_alloc_new w _,HP.out.later HW.out,HW.out.mono HP.out.1.2,KeepB.of_below HW.out⟩ ?_
 obtain⟨gx,hgx⟩: ∃gx,gx=w.heap.size:=⟨_,rfl⟩
 have hne:gx≠c.b:=by
  rw[hgx]
  obtain⟨cur,hc⟩:=zeb HP.out.1.1
  have:=(Array.getElem?_eq_some_iff.1 hc).1
  omega
 rw[←hgx]
 rintro w1 ⟨hx,hp,hb,hk⟩
 clear hgx HW hgl x0 x1 x2 x3 x4 x5 p0 p1 p2 p3 p4 p5 pf hii
 have X1:=hidI hx
 have HP1:=hidI hp
 have HB1:=hidI hb
 have HK1:=hidI hk
 clear hx hp hb hk
 obtain⟨x0,x1,x2,x3,x4,x5,xf⟩:=zx X1.out
 obtain⟨p0,p1,p2,p3,p4,p5,pf⟩:=zx HP1.out.2.2.1
 have hgl:=(Array.getElem?_eq_some_iff.1 HP1.out.2.2.1).1
 have hxl:=(Array.getElem?_eq_some_iff.1 X1.out).1
 go_wp2_with fail
 go_region_with (go_at_call 91;refine (putD c t [name,cPoint,field,cParens] w1 HP1.out (by have:=HL.out;rw[HT.out] at this;simp only[catT,List.foldl_cons,List.foldl_nil,ByteArray.size_append] at this ⊢;omega) (by simp)).mono ?_;rintro e w2 ⟨rfl,hp,hb,hk⟩)
 all_goals (go_wp2;go_end0;exact⟨rfl,(by rw[HT.out];simp only[catT,List.foldl_cons,List.foldl_nil,←ByteArray.append_assoc] at hp ⊢;exact hp),HB1.out.trans hb,HK1.out.trans hk⟩)
theorem zbuf (c:PC) (t:ByteArray) (i:Nat) (num:Int) (name field:ByteArray) (l r:Nat) (w:World) (h:PP c t w) (hi:i<c.m.ex.length) (hx:c.m.ex.getD i exNo=⟨6,num,name,field,(l:Int),(r:Int)⟩) (okl:zgq c l) (okr:zgq c r) (hr:r<c.m.ex.length) (hlen:(t++(prX c.m.ex l++tPlus++zcl (sumK (c.m.ex.getD r exNo).kind) (prX c.m.ex r))).size≤140737488355328):
  Calls Tryz.prog 249 #[.pointer (some ⟨c.gp,0,none⟩),.int .i64 (i:Int)] w (PO c (t++(prX c.m.ex l++tPlus++zcl (sumK (c.m.ex.getD r exNo).kind) (prX c.m.ex r))) w):=by
 have HP:=hidI h
 obtain⟨T,hT⟩: ∃T,T=prX c.m.ex l++tPlus++zcl (sumK (c.m.ex.getD r exNo).kind) (prX c.m.ex r):=⟨_,rfl⟩
 rw[←hT] at hlen ⊢
 have HT:=hidI hT
 have HL:=hidI hlen
 clear h hlen hT
 obtain⟨p0,p1,p2,p3,p4,p5,pf⟩:=zx HP.out.2.2.1
 obtain⟨g,hg,hgl,x0,x1,x2,x3,x4,x5⟩:=HP.out.2.1.expr hi
 rw[hx] at x0 x1 x2 x3 x4 x5
 dsimp only at x0 x1 x2 x3 x4 x5
 rw[hg] at p4
 have hii:(i:Int)<(c.m.ex.length:Int):=by omega
 clear hg hx
 go_enter Tryz.func249,Tryz.ntmps249
 go_upto_region 1 with fail
 have HW:Hid (Below w.heap.size w (w.alloc (.cells #[.int .i64 6,.int .i64 num,.string name,.string field,.int .i64 (l:Int),.int .i64 (r:Int)] 145))):=(Below.refl _ _).alloc (Nat.le_refl _) _
 refine zbk (R:=fun W=>W.heap[w.heap.size]? =some (.cells #[.int .i64 6,.int .i64 num,.string name,.string field,.int .i64 (l:Int),.int .i64 (r:Int)] 145 (0,0))∧PP c t W∧Below c.B w W∧KeepB c.b w W) ⟨heap_alloc_new w _,HP.out.later HW.out,HW.out.mono HP.out.1.2,KeepB.of_below HW.out⟩ ?_
 obtain⟨gx,hgx⟩: ∃gx,gx=w.heap.size:=⟨_,rfl⟩
 have hne:gx≠c.b:=by
  rw[hgx]
  obtain⟨cur,hc⟩:=zeb HP.out.1.1
  have:=(Array.getElem?_eq_some_iff.1 hc).1
  omega
 rw[←hgx]
 rintro w1 ⟨hx,hp,hb,hk⟩
 clear hgx HW hgl x0 x1 x2 x3 x4 x5 p0 p1 p2 p3 p4 p5 pf hii
 have X1:=hidI hx
 have HP1:=hidI hp
 have HB1:=hidI hb
 have HK1:=hidI hk
 clear hx hp hb hk
 obtain⟨x0,x1,x2,x3,x4,x5,xf⟩:=zx X1.out
 obtain⟨p0,p1,p2,p3,p4,p5,pf⟩:=zx HP1.out.2.2.1
 have hgl:=(Array.getElem?_eq_some_iff.1 HP1.out.2.2.1).1
 have hxl:=(Array.getElem?_eq_some_iff.1 X1.out).1
 go_wp2_with fail
 refine (zbde c t 6 num name field tPlus l r w1 okl okr hr HP1.out (by rw[←HT.out];exact HL.out)).mono ?_
 rw[←HT.out]
 rintro e w2 ⟨rfl,hp,hb,hk⟩
 have HP2:=hidI hp
 clear hp
 go_wp2
 go_end0
 exact⟨rfl,HP2.out,HB1.out.trans hb,HK1.out.trans hk⟩
theorem zbug (c:PC) (t:ByteArray) (i:Nat) (num:Int) (name field:ByteArray) (l r:Nat) (w:World) (h:PP c t w) (hi:i<c.m.ex.length) (hx:c.m.ex.getD i exNo=⟨7,num,name,field,(l:Int),(r:Int)⟩) (okl:zgq c l) (okr:zgq c r) (hr:r<c.m.ex.length) (hlen:(t++(prX c.m.ex l++tMinus++zcl (sumK (c.m.ex.getD r exNo).kind) (prX c.m.ex r))).size≤140737488355328):
  Calls Tryz.prog 249 #[.pointer (some ⟨c.gp,0,none⟩),.int .i64 (i:Int)] w (PO c (t++(prX c.m.ex l++tMinus++zcl (sumK (c.m.ex.getD r exNo).kind) (prX c.m.ex r))) w):=by
 have HP:=hidI h
 obtain⟨T,hT⟩: ∃T,T=prX c.m.ex l++tMinus++zcl (sumK (c.m.ex.getD r exNo).kind) (prX c.m.ex r):=⟨_,rfl⟩
 rw[←hT] at hlen ⊢
 have HT:=hidI hT
 have HL:=hidI hlen
 clear h hlen hT
 obtain⟨p0,p1,p2,p3,p4,p5,pf⟩:=zx HP.out.2.2.1
 obtain⟨g,hg,hgl,x0,x1,x2,x3,x4,x5⟩:=HP.out.2.1.expr hi
 rw[hx] at x0 x1 x2 x3 x4 x5
 dsimp only at x0 x1 x2 x3 x4 x5
 rw[hg] at p4
 have hii:(i:Int)<(c.m.ex.length:Int):=by omega
 clear hg hx
 go_enter Tryz.func249,Tryz.ntmps249
 go_upto_region 1 with fail
 have HW:Hid (Below w.heap.size w (w.alloc (.cells #[.int .i64 7,.int .i64 num,.string name,.string field,.int .i64 (l:Int),.int .i64 (r:Int)] 145))):=(Below.refl _ _).alloc (Nat.le_refl _) _
 refine zbk (R:=fun W=>W.heap[w.heap.size]? =some (.cells #[.int .i64 7,.int .i64 num,.string name,.string field,.int .i64 (l:Int),.int .i64 (r:Int)] 145 (0,0))∧PP c t W∧Below c.B w W∧KeepB c.b w W) ⟨heap_alloc_new w _,HP.out.later HW.out,HW.out.mono HP.out.1.2,KeepB.of_below HW.out⟩ ?_
 obtain⟨gx,hgx⟩: ∃gx,gx=w.heap.size:=⟨_,rfl⟩
 have hne:gx≠c.b:=by
  rw[hgx]
  obtain⟨cur,hc⟩:=zeb HP.out.1.1
  have:=(Array.getElem?_eq_some_iff.1 hc).1
  omega
 rw[←hgx]
 rintro w1 ⟨hx,hp,hb,hk⟩
 clear hgx HW hgl x0 x1 x2 x3 x4 x5 p0 p1 p2 p3 p4 p5 pf hii
 have X1:=hidI hx
 have HP1:=hidI hp
 have HB1:=hidI hb
 have HK1:=hidI hk
 clear hx hp hb hk
 obtain⟨x0,x1,x2,x3,x4,x5,xf⟩:=zx X1.out
 obtain⟨p0,p1,p2,p3,p4,p5,pf⟩:=zx HP1.out.2.2.1
 have hgl:=(Array.getElem?_eq_some_iff.1 HP1.out.2.2.1).1
 have hxl:=(Array.getElem?_eq_some_iff.1 X1.out).1
 go_wp2_with fail
 refine (zbde c t 7 num name field tMinus l r w1 okl okr hr HP1.out (by rw[←HT.out];exact HL.out)).mono ?_
 rw[←HT.out]
 rintro e w2 ⟨rfl,hp,hb,hk⟩
 have HP2:=hidI hp
 clear hp
 go_wp2
 go_end0
 exact⟨rfl,HP2.out,HB1.out.trans hb,HK1.out.trans hk⟩
theorem zbuh (c:PC) (t:ByteArray) (i:Nat) (num:Int) (name field:ByteArray) (l r:Nat) (w:World) (h:PP c t w) (hi:i<c.m.ex.length) (hx:c.m.ex.getD i exNo=⟨8,num,name,field,(l:Int),(r:Int)⟩) (okl:zgq c l) (okr:zgq c r) (hl:l<c.m.ex.length) (hr:r<c.m.ex.length) (hlen:(t++(zcl (sumK (c.m.ex.getD l exNo).kind) (prX c.m.ex l)++tStar++zcl (twoK (c.m.ex.getD r exNo).kind) (prX c.m.ex r))).size≤140737488355328):
  Calls Tryz.prog 249 #[.pointer (some ⟨c.gp,0,none⟩),.int .i64 (i:Int)] w (PO c (t++(zcl (sumK (c.m.ex.getD l exNo).kind) (prX c.m.ex l)++tStar++zcl (twoK (c.m.ex.getD r exNo).kind) (prX c.m.ex r))) w):=by
 have HP:=hidI h
 obtain⟨T,hT⟩: ∃T,T=zcl (sumK (c.m.ex.getD l exNo).kind) (prX c.m.ex l)++tStar++zcl (twoK (c.m.ex.getD r exNo).kind) (prX c.m.ex r):=⟨_,rfl⟩
 rw[←hT] at hlen ⊢
 have HT:=hidI hT
 have HL:=hidI hlen
 clear h hlen hT
 obtain⟨p0,p1,p2,p3,p4,p5,pf⟩:=zx HP.out.2.2.1
 obtain⟨g,hg,hgl,x0,x1,x2,x3,x4,x5⟩:=HP.out.2.1.expr hi
 rw[hx] at x0 x1 x2 x3 x4 x5
 dsimp only at x0 x1 x2 x3 x4 x5
 rw[hg] at p4
 have hii:(i:Int)<(c.m.ex.length:Int):=by omega
 clear hg hx
 go_enter Tryz.func249,Tryz.ntmps249
 go_upto_region 1 with fail
 have HW:Hid (Below w.heap.size w (w.alloc (.cells #[.int .i64 8,.int .i64 num,.string name,.string field,.int .i64 (l:Int),.int .i64 (r:Int)] 145))):=(Below.refl _ _).alloc (Nat.le_refl _) _
 refine zbk (R:=fun W=>W.heap[w.heap.size]? =some (.cells #[.int .i64 8,.int .i64 num,.string name,.string field,.int .i64 (l:Int),.int .i64 (r:Int)] 145 (0,0))∧PP c t W∧Below c.B w W∧KeepB c.b w W) ⟨heap_alloc_new w _,HP.out.later HW.out,HW.out.mono HP.out.1.2,KeepB.of_below HW.out⟩ ?_
 obtain⟨gx,hgx⟩: ∃gx,gx=w.heap.size:=⟨_,rfl⟩
 have hne:gx≠c.b:=by
  rw[hgx]
  obtain⟨cur,hc⟩:=zeb HP.out.1.1
  have:=(Array.getElem?_eq_some_iff.1 hc).1
  omega
 rw[←hgx]
 rintro w1 ⟨hx,hp,hb,hk⟩
 clear hgx HW hgl x0 x1 x2 x3 x4 x5 p0 p1 p2 p3 p4 p5 pf hii
 have X1:=hidI hx
 have HP1:=hidI hp
 have HB1:=hidI hb
 have HK1:=hidI hk
 clear hx hp hb hk
 obtain⟨x0,x1,x2,x3,x4,x5,xf⟩:=zx X1.out
 obtain⟨p0,p1,p2,p3,p4,p5,pf⟩:=zx HP1.out.2.2.1
 have hgl:=(Array.getElem?_eq_some_iff.1 HP1.out.2.2.1).1
 have hxl:=(Array.getElem?_eq_some_iff.1 X1.out).1
 have OKl:=hidI okl
 have OKr:=hidI okr
 have HR:=hidI hr
 have HLL:=hidI hl
 obtain⟨kk,hkk⟩: ∃kk,(c.m.ex.getD r exNo).kind=kk:=⟨_,rfl⟩
 obtain⟨kl,hkl⟩: ∃kl,(c.m.ex.getD l exNo).kind=kl:=⟨_,rfl⟩
 have HU:Hid (T=zcl (sumK kl) (prX c.m.ex l)++tStar++zcl (twoK kk) (prX c.m.ex r)):=by show _=_;rw[←hkk,←hkl];exact HT.out
 have KK:=hidI hkk
 have KL:=hidI hkl
 clear okl okr hr hl hkk hkl HT
 go_upto_region 17 with fail
 go_cut [] from 82 to 90 (fun wx=>PP c (t++zcl (sumK kl) (prX c.m.ex l)) wx∧Below c.B w1 wx∧KeepB c.b w1 wx)
 case first=>
  go_wp2_with fail
  have HPD:=hidI (HP1.out.later ((Below.refl w1.heap.size w1).drew))
  go_region_with (first|(go_at_call 300;refine (zux c _ l _ HPD.out HLL.out).mono ?_;rintro e w' ⟨rfl,rfl⟩;rw[KL.out])|(go_at_call 245;refine (zlb _ _).mono ?_;rintro e w' ⟨rfl,rfl⟩)|(go_at_call 299;refine (zqt c _ l (sumK kl) _ OKl.out HPD.out (by have:=HL.out;rw[HU.out] at this;simp only[ByteArray.size_append] at this ⊢;omega)).mono ?_;rintro e w2 ⟨rfl,hp,hb,hk⟩))
  all_goals (go_wp2_with fail;go_meet;exact⟨hp,(((Below.refl w1.heap.size w1).drew).mono HP1.out.1.2).trans hb,(KeepB.of_below ((Below.refl w1.heap.size w1).drew)).trans hk⟩)
 case rest=>
 obtain⟨hp,hb,hk⟩:=hcut
 rename_i w2
 have HP2:=hidI hp
 have HB2:=hidI (HB1.out.trans hb)
 have HK2:=hidI (HK1.out.trans hk)
 have X2:=hidI ((hk _ _ _ _ X1.out hne (by decide)).trans X1.out)
 clear hp hb hk p0 p1 p2 p3 p4 p5 pf x0 x1 x2 x3 x4 x5 xf hgl hxl
 obtain⟨x0,x1,x2,x3,x4,x5,xf⟩:=zx X2.out
 obtain⟨p0,p1,p2,p3,p4,p5,pf⟩:=zx HP2.out.2.2.1
 have hgl:=(Array.getElem?_eq_some_iff.1 HP2.out.2.2.1).1
 have hxl:=(Array.getElem?_eq_some_iff.1 X2.out).1
 go_wp2_with fail
 refine (putA c _ [tStar] _ HP2.out (by have:=HL.out;rw[HU.out] at this;simp only[catT,List.foldl_cons,List.foldl_nil,ByteArray.size_append] at this ⊢;omega) (by simp)).mono ?_
 rintro e w3 ⟨rfl,hp,hb,hk⟩
 have HP3:=hidI hp
 have HB3:=hidI (HB2.out.trans hb)
 have HK3:=hidI (HK2.out.trans hk)
 have X3:=hidI ((hk _ _ _ _ X2.out hne (by decide)).trans X2.out)
 clear hp hb hk p0 p1 p2 p3 p4 p5 pf x0 x1 x2 x3 x4 x5 xf hgl hxl
 obtain⟨x0,x1,x2,x3,x4,x5,xf⟩:=zx X3.out
 obtain⟨p0,p1,p2,p3,p4,p5,pf⟩:=zx HP3.out.2.2.1
 have hgl:=(Array.getElem?_eq_some_iff.1 HP3.out.2.2.1).1
 have hxl:=(Array.getElem?_eq_some_iff.1 X3.out).1
 go_wp2_with fail
 have HPD:=hidI (HP3.out.later ((Below.refl w3.heap.size w3).drew))
 go_region_with (first|(go_at_call 300;refine (zux c _ r _ HPD.out HR.out).mono ?_;rintro e w' ⟨rfl,rfl⟩;rw[KK.out])|(go_at_call 158;refine (zsf _ _).mono ?_;rintro e w' ⟨rfl,rfl⟩)|(go_at_call 299;refine (zqt c _ r (twoK kk) _ OKr.out HPD.out (by have:=HL.out;rw[HU.out] at this;simp only[catT,List.foldl_cons,List.foldl_nil,ByteArray.size_append] at this ⊢;omega)).mono ?_;rintro e w4 ⟨rfl,hp,hb,hk⟩))
 all_goals (go_wp2;go_end0;exact⟨rfl,(by rw[HU.out];simp only[catT,List.foldl_cons,List.foldl_nil,←ByteArray.append_assoc] at hp ⊢;exact hp),HB3.out.trans ((((Below.refl w3.heap.size w3).drew).mono HP3.out.1.2).trans hb),HK3.out.trans ((KeepB.of_below ((Below.refl w3.heap.size w3).drew)).trans hk)⟩)
theorem zbui (c:PC) (t:ByteArray) (i:Nat) (k num:Int) (name field:ByteArray) (l r:Int) (w:World) (h:PP c t w) (hi:i<c.m.ex.length) (hx:c.m.ex.getD i exNo=⟨k,num,name,field,l,r⟩) (k1:(k==1)=false) (k2:(k==2)=false) (k3:(k==3)=false) (k4:(k==4)=false) (k5:(k==5)=false) (k6:(k==6)=false) (k7:(k==7)=false) (k8:(k==8)=false) (hlen:(t++(sNone)).size≤140737488355328):
  Calls Tryz.prog 249 #[.pointer (some ⟨c.gp,0,none⟩),.int .i64 (i:Int)] w (PO c (t++(sNone)) w):=by
 have HP:=hidI h
 obtain⟨T,hT⟩: ∃T,T=sNone:=⟨_,rfl⟩
 rw[←hT] at hlen ⊢
 have HT:=hidI hT
 have HL:=hidI hlen
 clear h hlen hT
 obtain⟨p0,p1,p2,p3,p4,p5,pf⟩:=zx HP.out.2.2.1
 obtain⟨g,hg,hgl,x0,x1,x2,x3,x4,x5⟩:=HP.out.2.1.expr hi
 rw[hx] at x0 x1 x2 x3 x4 x5
 dsimp only at x0 x1 x2 x3 x4 x5
 rw[hg] at p4
 have hii:(i:Int)<(c.m.ex.length:Int):=by omega
 clear hg hx
 go_enter Tryz.func249,Tryz.ntmps249
 go_upto_region 1 with fail
 have HW:Hid (Below w.heap.size w (w.alloc (.cells #[.int .i64 k,.int .i64 num,.string name,.string field,.int .i64 l,.int .i64 r] 145))):=(Below.refl _ _).alloc (Nat.le_refl _) _
 refine zbk (R:=fun W=>W.heap[w.heap.size]? =some (.cells #[.int .i64 k,.int .i64 num,.string name,.string field,.int .i64 l,.int .i64 r] 145 (0,0))∧PP c t W∧Below c.B w W∧KeepB c.b w W) ⟨heap_alloc_new w _,HP.out.later HW.out,HW.out.mono HP.out.1.2,KeepB.of_below HW.out⟩ ?_
 obtain⟨gx,hgx⟩: ∃gx,gx=w.heap.size:=⟨_,rfl⟩
 have hne:gx≠c.b:=by
  rw[hgx]
  obtain⟨cur,hc⟩:=zeb HP.out.1.1
  have:=(Array.getElem?_eq_some_iff.1 hc).1
  omega
 rw[←hgx]
 rintro w1 ⟨hx,hp,hb,hk⟩
 clear hgx HW hgl x0 x1 x2 x3 x4 x5 p0 p1 p2 p3 p4 p5 pf hii
 have X1:=hidI hx
 have HP1:=hidI hp
 have HB1:=hidI hb
 have HK1:=hidI hk
 clear hx hp hb hk
 obtain⟨x0,x1,x2,x3,x4,x5,xf⟩:=zx X1.out
 obtain⟨p0,p1,p2,p3,p4,p5,pf⟩:=zx HP1.out.2.2.1
 have hgl:=(Array.getElem?_eq_some_iff.1 HP1.out.2.2.1).1
 have hxl:=(Array.getElem?_eq_some_iff.1 X1.out).1
 go_wp2
 go_end0
 exact⟨rfl,(by rw[HT.out,show t++sNone=t from ByteArray.append_empty];exact HP1.out),HB1.out,HK1.out⟩
theorem zbnk (c:PC) (hn:Nums c.m.ex) (ha:zmb c.m.ex) (n:Nat): ∀i,i<n→i<c.m.ex.length→zgq c i:=by
 induction n with
 |zero=>intro i hi;omega
 |succ n ih=>
  intro i hin hi t w h hw
  by_cases hlt:i<n
  ·exact ih i hlt hi t w h hw
  ·have he: ∀j,j<i→zgq c j:=fun j hj=>ih j (by omega) (by omega)
   have hnu:=hn (c.m.ex.getD i exNo) (by rw[zpb hi];exact List.getElem_mem hi)
   have hah:=zuc ha (i:=i)
   rw[zbav ha] at hw ⊢
   obtain⟨x,hx⟩: ∃x,c.m.ex.getD i exNo=x:=⟨_,rfl⟩
   rw[hx] at hw hnu hah ⊢
   obtain⟨k,num,name,field,l,r⟩:=x
   simp only at hw hnu hah ⊢
   by_cases k1:(k==1)=true
   ·rw[if_pos k1] at hw ⊢
    have e:=eq_of_beq k1
    subst e
    exact zbua c t i num name field l r w h hi hx hnu hw
   rw[if_neg k1] at hw ⊢
   by_cases k2:(k==2)=true
   ·rw[if_pos k2] at hw ⊢
    have e:=eq_of_beq k2
    subst e
    exact zbub c t i num name field l r w h hi hx hw
   rw[if_neg k2] at hw ⊢
   by_cases k3:(k==3)=true
   ·rw[if_pos k3] at hw ⊢
    have e:=eq_of_beq k3
    subst e
    exact zbuc c t i num name field l r w h hi hx hw
   rw[if_neg k3] at hw ⊢
   by_cases k4:(k==4)=true
   ·rw[if_pos k4] at hw ⊢
    have e:=eq_of_beq k4
    subst e
    exact zbud c t i num name field l r w h hi hx hw
   rw[if_neg k4] at hw ⊢
   by_cases k5:(k==5)=true
   ·rw[if_pos k5] at hw ⊢
    have e:=eq_of_beq k5
    subst e
    exact zbue c t i num name field l r w h hi hx hw
   rw[if_neg k5] at hw ⊢
   by_cases k6:(k==6)=true
   ·rw[if_pos k6] at hw ⊢
    have e:=eq_of_beq k6
    subst e
    have hah:=hah (by decide)
    obtain⟨l,rfl⟩: ∃n:Nat,l=(n:Int):=⟨l.toNat,by omega⟩
    obtain⟨r,rfl⟩: ∃n:Nat,r=(n:Int):=⟨r.toNat,by omega⟩
    simp only[Int.toNat_natCast] at hw ⊢
    exact zbuf c t i num name field l r w h hi hx (he l (by omega)) (he r (by omega)) (by omega) hw
   rw[if_neg k6] at hw ⊢
   by_cases k7:(k==7)=true
   ·rw[if_pos k7] at hw ⊢
    have e:=eq_of_beq k7
    subst e
    have hah:=hah (by decide)
    obtain⟨l,rfl⟩: ∃n:Nat,l=(n:Int):=⟨l.toNat,by omega⟩
    obtain⟨r,rfl⟩: ∃n:Nat,r=(n:Int):=⟨r.toNat,by omega⟩
    simp only[Int.toNat_natCast] at hw ⊢
    exact zbug c t i num name field l r w h hi hx (he l (by omega)) (he r (by omega)) (by omega) hw
   rw[if_neg k7] at hw ⊢
   by_cases k8:(k==8)=true
   ·rw[if_pos k8] at hw ⊢
    have e:=eq_of_beq k8
    subst e
    have hah:=hah (by decide)
    obtain⟨l,rfl⟩: ∃n:Nat,l=(n:Int):=⟨l.toNat,by omega⟩
    obtain⟨r,rfl⟩: ∃n:Nat,r=(n:Int):=⟨r.toNat,by omega⟩
    simp only[Int.toNat_natCast] at hw ⊢
    exact zbuh c t i num name field l r w h hi hx (he l (by omega)) (he r (by omega)) (by omega) (by omega) hw
   rw[if_neg k8] at hw ⊢
   exact zbui c t i k num name field l r w h hi hx (Bool.eq_false_iff.2 k1) (Bool.eq_false_iff.2 k2) (Bool.eq_false_iff.2 k3) (Bool.eq_false_iff.2 k4) (Bool.eq_false_iff.2 k5) (Bool.eq_false_iff.2 k6) (Bool.eq_false_iff.2 k7) (Bool.eq_false_iff.2 k8) hw
theorem zwi (base:Nat) (S:Sv) (m:Md) (scr:Bool) (w:World) (h:OwnMd w base S m) (hm:Small m) (hsz:Tree m→(zhl m).size≤140737488355328):
  Calls Tryz.prog 41 #[modD S m,.bool scr] w fun e w'=>PrintOut (zhl m) m e∧Below w.heap.size w w':=by
 have HH:=hidI h
 have SM:=hidI hm
 have HU:=hidI hsz
 obtain⟨f1,f2,f3,f4,f5⟩:=hm.few
 clear h hm hsz
 unfold modD
 go_enter Tryz.func41,Tryz.ntmps41
 go_wp2_with fail
 refine (zbdb base S m _ (HH.out.alloc _) f5 f4).mono ?_
 rintro e w1 ⟨⟨b,rfl,hb⟩,bel⟩
 have HT:=hidI hb
 have HB1:Hid (Below w.heap.size w w1):=((Below.refl _ _).alloc (Nat.le_refl _) _).trans (bel.mono (by rw[zq];omega))
 have HX1:Hid (w1.heap[w.heap.size]? =some (.cells #[.slice S.rq.a m.rq.length S.rq.cap,.slice S.im.a m.im.length S.im.cap,.slice S.ep.a m.ep.length S.ep.cap,.slice S.st.a m.st.length S.st.cap,.slice S.ex.a m.ex.length S.ex.cap] 59 (0,0))):=(bel.block _ (by rw[zq];omega)).trans (heap_alloc_new w _)
 have HO1:=hidI (HH.out.later HB1.out)
 clear hb bel
 cases b with
 |false=>
  go_wp2
  go_ret
  exact⟨.inr ⟨(fun t=>by have:=HT.out.2 t;cases this),rfl⟩,HB1.out⟩
 |true=>
  have TR:=hidI (HT.out.1 rfl)
  have HZ:=hidI (HU.out TR.out)
  go_upto_region 4 with fail
  have HA:Hid (Below w1.heap.size w1 (w1.alloc (.cells #[.pointer none,.slice none 0 0] 127))):=(Below.refl _ _).alloc (Nat.le_refl _) _
  have hz:=(Array.getElem?_eq_some_iff.1 HX1.out).1
  refine zbk (R:=fun W=>(Lib.IsBuilder 127 5 w1.heap.size w1.heap.size [] W∧w1.heap.size≤W.heap.size)∧OwnMd W base S m∧W.heap[w.heap.size]? =some (.cells #[.slice S.rq.a m.rq.length S.rq.cap,.slice S.im.a m.im.length S.im.cap,.slice S.ep.a m.ep.length S.ep.cap,.slice S.st.a m.st.length S.st.cap,.slice S.ex.a m.ex.length S.ex.cap] 59 (0,0))∧Below w.heap.size w W) ⟨⟨Lib.fresh_isBuilder _ _ w1,HA.out.size⟩,HO1.out.later HA.out,(HA.out.block _ hz).trans HX1.out,HB1.out.trans (HA.out.mono HB1.out.size)⟩ ?_
  obtain⟨b,hbb⟩: ∃b,b=w1.heap.size:=⟨_,rfl⟩
  have hwb:w.heap.size≤b:=by rw[hbb];exact HB1.out.size
  rw[←hbb]
  rintro W ⟨⟨hbl,hbs⟩,ho,hx,hb⟩
  clear hz HA HX1 HO1 HB1 HH hbb w1
  have BL:=hidI hbl
  have HO:=hidI ho
  have HX:=hidI hx
  have HB:=hidI hb
  clear hbl ho hx hb
  obtain⟨c0,c1,c2,c3,c4,cf⟩:=zbh HX.out
  go_upto_region 6 with fail
  have HA:Hid (Below W.heap.size W (W.alloc (.cells #[.slice S.rq.a m.rq.length S.rq.cap,.slice S.im.a m.im.length S.im.cap,.slice S.ep.a m.ep.length S.ep.cap,.slice S.st.a m.st.length S.st.cap,.slice S.ex.a m.ex.length S.ex.cap,.func (.func 91) #[] #[.pointer (some ⟨b,0,none⟩)]] 135))):=(Below.refl _ _).alloc (Nat.le_refl _) _
  have HPP:Hid (PP ⟨b,b,W.heap.size,base,S,m⟩ sNone (W.alloc (.cells #[.slice S.rq.a m.rq.length S.rq.cap,.slice S.im.a m.im.length S.im.cap,.slice S.ep.a m.ep.length S.ep.cap,.slice S.st.a m.st.length S.st.cap,.slice S.ex.a m.ex.length S.ex.cap,.func (.func 91) #[] #[.pointer (some ⟨b,0,none⟩)]] 135))):=by
   refine⟨⟨zyt BL.out HA.out,Nat.le_trans hbs HA.out.size⟩,HO.out.later HA.out,heap_alloc_new W _,?_⟩
   obtain⟨cur,hc⟩:=zeb BL.out
   have:=(Array.getElem?_eq_some_iff.1 hc).1
   show W.heap.size≠b
   omega
  have HBA:=hidI (HB.out.trans (HA.out.mono HB.out.size))
  go_wp2_with fail
  refine (zzr ⟨b,b,W.heap.size,base,S,m⟩ _ (fun i hi=>zbnk _ SM.out.nums TR.out.ahead _ i hi hi) TR.out.stm SM.out HPP.out HZ.out).mono ?_
  rintro e w3 ⟨rfl,hp,hb3,hk3⟩
  have HP3:=hidI hp
  have HB3:=hidI (HBA.out.trans (hb3.mono hwb))
  clear hp hb3 hk3 c0 c1 c2 c3 c4 cf
  go_wp2_with fail
  refine (Tryz.Builder_String_any b b (zhl m).data.toList w3 HP3.out.1.1 HP3.out.1.2).mono ?_
  rintro e w4 ⟨rfl,hb4⟩
  have HB4:=hidI (HB3.out.trans (hb4.mono hwb))
  clear hb4
  go_wp2
  go_ret
  exact⟨.inl ⟨TR.out,rfl⟩,HB4.out⟩
theorem zuy {C:Cx} {exp:Bool} {q:PS} {x:PS×Ep} (h:zgo C exp q= .ok x):q.pos<x.1.pos:=by
 obtain⟨a,h1,h2⟩:=zc h
 obtain⟨b,h3,h4⟩:=zc h2
 have h5:=zrn h3
 rw[(zcj h1).1] at h5
 cases h4
 exact h5
/-- What a reader of a list may end with: a row beside the parser. -/
def LOut (C:Cx) (gt cap base gp:Nat) (t:TypeId) (size:Nat) (f:Ep→List Value) (y:PRL) (S:Sv) (w:World) (e:Ending) (w':World):Prop:=
 match y with
 | .ok a=>∃r S',e= .returned (.slice r.a a.2.length r.cap)∧IM C gt cap base gp S' a.1 w'∧IS gp S w S' w'∧Fr t size w' w.heap.size r a.2.length (a.2.flatMap f) S'∧0<a.2.length∧a.2.length≤4000
 | .error p=>e=Pan p∧Below base w w'
theorem zbdf {C:Cx} {gt cap base gp:Nat} {S:Sv} {q:PS} {w:World} (h:IM C gt cap base gp S q w) (t:TypeId) (size:Nat):Fr t size (w.alloc (.cells #[] t)) w.heap.size ⟨some ⟨w.heap.size,0,none⟩,0⟩ 0 [] S:=by
 refine⟨World.ownsRow_lit w #[] 0 (Nat.le_refl _) (by unfold maxLen;omega) (Nat.zero_mul _).symm,fun k g hs=>?_⟩
 have h1:w.heap.size=k:=by simpa [Rw.blk,Value.ownBlock] using g
 have:=(h.mem.own.has hs).2
 omega
theorem zxk (C:Cx) (gt cap base gp:Nat) (S:Sv) (q:PS) (w:World) (h:IM C gt cap base gp S q w):
  Calls Tryz.prog 284 #[.pointer (some ⟨gp,0,none⟩)] w (LOut C gt cap base gp 141 3 (fun e=>imL (toIm e)) (zdd C false q []) S w):=by
 obtain⟨i0,hi,hz0,hz1,hz2⟩:=info_parts Tryz.infoImp
 have HH:=hidI h
 clear h
 go_enter Tryz.func284,Tryz.ntmps284
 go_wp2
 go_loopg [3] (C.ts.length+1) (fun k v wr=>∃(S':Sv) (q':PS) (r:Rw) (l:List Ep),v= .slice r.a l.length r.cap∧zdd C false q []=zdd C false q' l∧C.ts.length-q'.pos<k∧l.length+(C.ts.length-q'.pos)≤C.ts.length∧IM C gt cap base gp S' q' wr∧IS gp S w S' wr∧Fr 141 3 wr w.heap.size r l.length (l.flatMap (fun e=>imL (toIm e))) S')
 case atStart=>exact⟨S,q,⟨some ⟨w.heap.size,0,none⟩,0⟩,[],rfl,rfl,by omega,by simp,HH.out.alloc _,(IS.refl _ _ _).alloc _,zbdf HH.out _ _⟩
 case round=>
  obtain⟨S',q',r,l,rfl,hy,hk,hl,m',s',f'⟩:=hrel
  have HY:=hidI hy
  have HZ:=hidI (HY.out.trans (zwd C false q' l))
  have HMr:Hid (IM C gt cap base gp S' q' wr):=m'
  have HSr:Hid (IS gp S w S' wr):=s'
  have HFr:Hid (Fr 141 3 wr w.heap.size r l.length (l.flatMap (fun e=>imL (toIm e))) S'):=f'
  have hfew:=m'.mem.few
  clear hy m' s' f'
  go_wp2_with fail
  refine (zuv C gt cap base gp S' q' _ HMr.out).mono ?_
  cases hn1:zgo C false q' with
  |error p=>
   rintro e w1 ⟨rfl,hb⟩
   have HB:Hid (Below base w w1):=(HH.out.back HSr.out).trans hb
   have HX:Hid (zdd C false q []= .error p):=bdE HZ.out hn1
   unfold Pan
   go_wp2
   refine⟨rfl,?_⟩
   rw[HX.out]
   exact⟨rfl,HB.out⟩
  |ok a1=>
   rintro e w1 ⟨rfl,S1,m,s⟩
   have HF1:Hid (Fr 141 3 w1 w.heap.size r l.length (l.flatMap (fun e=>imL (toIm e))) S1):=HFr.out.step HMr.out (by decide) s
   have HM1:=hidI m
   have HS1:Hid (IS gp S w S1 w1):=HSr.out.trans s
   clear m s
   have HY1:=hidI (bdO HZ.out hn1)
   have hpp:=zuy hn1
   have hip:=HM1.out.mem.inv.pos
   unfold imV
   have hown:=fun o1=>(HF1.out.later ((Below.refl w1.heap.size w1).alloc (Nat.le_refl _) o1)).1
   have hsz:=fun o1=>(HS1.out.alloc o1).size
   go_wp2_with (at_builtin;refine zhp _ rfl _ _ 54 rfl w.heap.size 141 i0 _ 3 48 Tryz.underlying54 hi hz0 hz1 hz2 rfl (by decide) (by decide) r l.length _ (by rfl) (hown _) w1.heap.size (imL (toIm a1.2)) (by rfl) (by exact heap_alloc_new w1 _) rfl (zbgi _) (by omega) (hsz _) ?_;intro r' w2 hr hgr hat;have HR:Hid (OwnR w2 w.heap.size 141 3 r' (l.length+1) _):=hr;have HM2:Hid (IM C gt cap base gp S1 a1.1 w2):=(HM1.out.alloc _).aside hgr (fun k g=>⟨HF1.out.2 k g,HF1.out.ngp HM1.out (by decide) g,HF1.out.ngt HM1.out (by decide) g⟩);have HS2:Hid (IS gp S w S1 w2):=(HS1.out.alloc _).aside hgr (fun k g=>(HF1.out.1.typed g).1);have HF2:Hid (Fr 141 3 w2 w.heap.size r' (l.length+1) _ S1):=(HF1.out.later ((Below.refl _ _).alloc (Nat.le_refl _) _)).grown (HM1.out.alloc _) hr hat;clear hr hgr hat hown hsz)
   have el:(l++[a1.2]).length=l.length+1:=by simp
   have HF3:Hid (Fr 141 3 w2 w.heap.size r' (l++[a1.2]).length ((l++[a1.2]).flatMap (fun e=>imL (toIm e))) S1):=by
    show Fr _ _ _ _ _ _ _ _
    rw[el,List.flatMap_append]
    simpa using HF2.out
   have HEL:=hidI el
   clear el HF2 HR
   go_wp2_with fail
   cases hc:isT C a1.1.pos 4 zet with
   |true=>
    have hlt:=zcm hc (by decide)
    have HC:=hidI (HY1.out.trans (if_pos hc))
    refine (zm C gt cap base gp S1 (a1.1) 4 zet _ HM2.out (by decide)).mono ?_
    rintro e w3 ⟨rfl,m,s⟩
    rw[hc] at m ⊢
    have HM3:=hidI m
    have HS3:Hid (IS gp S w S1 w3):=HS2.out.trans s
    have hs3:=s
    clear m s
    have HF4:Hid (Fr 141 3 w3 w.heap.size r' (l++[a1.2]).length ((l++[a1.2]).flatMap (fun e=>imL (toIm e))) S1):=HF3.out.step HM2.out (by decide) hs3
    clear hs3
    go_wp2
    go_roundg (gk-1)
    case rel=>exact⟨S1,adv a1.1,r',l++[a1.2],by rw[HEL.out],HC.out,by rw[zr];omega,by rw[zr,HEL.out];omega,HM3.out,HS3.out,HF4.out⟩
    case measure=>omega
   |false=>
    have HC:=hidI (HY1.out.trans (if_neg (by rw[hc];decide)))
    refine (zm C gt cap base gp S1 (a1.1) 4 zet _ HM2.out (by decide)).mono ?_
    rintro e w3 ⟨rfl,m,s⟩
    rw[hc] at m ⊢
    have HM3:=hidI m
    have HS3:Hid (IS gp S w S1 w3):=HS2.out.trans s
    have HF4:Hid (Fr 141 3 w3 w.heap.size r' (l++[a1.2]).length ((l++[a1.2]).flatMap (fun e=>imL (toIm e))) S1):=HF3.out.step HM2.out (by decide) s
    clear m s
    go_wp2_with fail
    refine (zfi C gt cap base gp S1 a1.1 125 _ HM3.out).mono ?_
    cases hn4:tokP C 4 zcz a1.1 with
    |error p=>
     rintro e w4 ⟨rfl,hb⟩
     have HB:Hid (Below base w w4):=(HH.out.back HS3.out).trans hb
     have HX:Hid (zdd C false q []= .error p):=bdE HC.out hn4
     unfold Pan
     go_wp2
     refine⟨rfl,?_⟩
     rw[HX.out]
     exact⟨rfl,HB.out⟩
    |ok a4=>
     rintro e w4 ⟨rfl,S4,m,s⟩
     have HF5:Hid (Fr 141 3 w4 w.heap.size r' (l++[a1.2]).length ((l++[a1.2]).flatMap (fun e=>imL (toIm e))) S4):=HF4.out.step HM3.out (by decide) s
     have HM4:=hidI m
     have HS4:Hid (IS gp S w S4 w4):=HS3.out.trans s
     clear m s
     have HY4:=hidI (bdO HC.out hn4)
     go_wp2
     go_ret
     rw[HY4.out]
     exact⟨r',S4,by rw[HEL.out];rfl,HM4.out,HS4.out,HF5.out,by show 0<(l++[a1.2]).length;rw[HEL.out];omega,by show (l++[a1.2]).length≤4000;rw[HEL.out];omega⟩
def impFromI (C:Cx) (l:List Ep) (q:PS):PR:=bd (tokP C 1 zbl q) fun a=>bd (zbf C a) fun b=>bd (tokP C 4 cSemi b.1) fun c=>zbb (fun e=>zbx C (zhk b.2 e)) l (.ok c)
theorem zjp {α:Type} (f:α→PS→PR) (p:Nat): ∀l:List α,zbb f l (.error p)= .error p
 |[]=>rfl
 |_::l=>zjp f p l
theorem znv {α:Type} (f:α→PS→PR) {l:List α} {j:Nat} {x:α} (h:l[j]? =some x) (q:PS):zbb f (l.drop j) (.ok q)=zbb f (l.drop (j+1)) (f x q):=by
 obtain⟨hj,rfl⟩:=List.getElem?_eq_some_iff.1 h
 rw[List.drop_eq_getElem_cons hj]
 rfl
theorem zbjy {C:Cx} {x:Im} {q a:PS} (h:zbx C x q= .ok a):a.pos=q.pos:=by
 unfold zbx at h
 split at h
 ·cases h
 ·cases h
  rfl
theorem zwj {C:Cx} {x:Ep} {q a:PS} (h:zo C x q= .ok a):a.pos=q.pos:=by
 unfold zo at h
 split at h
 ·cases h
 ·split at h
  ·cases h
   rfl
  ·cases h
   rfl
theorem zpm {α:Type} {l:List α} {j:Nat} (h:j<l.length): ∃x,l[j]? =some x:=⟨_,List.getElem?_eq_getElem h⟩
theorem zxl (C:Cx) (gt cap base gp b0 g:Nat) (r:Rw) (S:Sv) (q:PS) (l:List Ep) (w:World) (h:IM C gt cap base gp S q w) (hC:zgb C) (hl:l.length≤4000) (hf:Fr 141 3 w b0 r l.length (l.flatMap (fun e=>imL (toIm e))) S) (hg:r.a=some ⟨g,0,none⟩):
  Calls Tryz.prog 283 #[.pointer (some ⟨gp,0,none⟩),.slice (some ⟨g,0,none⟩) l.length r.cap] w (IOut C gt cap base gp (impFromI C l q) id (fun _=>.tuple #[]) S w):=by
 have HH:=hidI h
 have HF:=hidI hf
 have HG:=hidI hg
 have HY:=hidI (impFromI.eq_1 C l q)
 clear h hf hg
 go_enter Tryz.func283,Tryz.ntmps283
 go_wp2_with fail
 refine (zhr C gt cap base gp S q zbl _ HH.out).mono ?_
 cases hn1:tokP C 1 zbl q with
 |error p=>
  rintro e w1 ⟨rfl,hb⟩
  have HB:Hid (Below base w w1):=(HH.out.back (IS.refl _ _ _)).trans hb
  have HX:Hid (impFromI C l q= .error p):=bdE HY.out hn1
  unfold Pan
  go_wp2
  refine⟨rfl,?_⟩
  rw[HX.out]
  exact⟨rfl,HB.out⟩
 |ok a1=>
  rintro e w1 ⟨rfl,S1,m,s⟩
  have HF1:Hid (Fr 141 3 w1 b0 r l.length (l.flatMap (fun e=>imL (toIm e))) S1):=HF.out.step HH.out (by decide) s
  have HM1:=hidI m
  have HS1:=hidI s
  clear m s
  have HY1:=hidI (bdO HY.out hn1)
  go_wp2_with fail
  refine (zmd C gt cap base gp S1 a1 _ HM1.out hC).mono ?_
  cases hn2:zbf C a1 with
  |error p=>
   rintro e w2 ⟨rfl,hb⟩
   have HB:Hid (Below base w w2):=(HH.out.back HS1.out).trans hb
   have HX:Hid (impFromI C l q= .error p):=bdE HY1.out hn2
   unfold Pan
   go_wp2
   refine⟨rfl,?_⟩
   rw[HX.out]
   exact⟨rfl,HB.out⟩
  |ok a2=>
   rintro e w2 ⟨rfl,S2,m,s⟩
   have HF2:Hid (Fr 141 3 w2 b0 r l.length (l.flatMap (fun e=>imL (toIm e))) S2):=HF1.out.step HM1.out (by decide) s
   have HM2:=hidI m
   have HS2:Hid (IS gp S w S2 w2):=HS1.out.trans s
   clear m s
   have HY2:=hidI (bdO HY1.out hn2)
   go_wp2_with fail
   refine (zfi C gt cap base gp S2 a2.1 59 _ HM2.out).mono ?_
   cases hn3:tokP C 4 cSemi (a2.1) with
   |error p=>
    rintro e w3 ⟨rfl,hb⟩
    have HB:Hid (Below base w w3):=(HH.out.back HS2.out).trans hb
    have HX:Hid (impFromI C l q= .error p):=bdE HY2.out hn3
    unfold Pan
    go_wp2
    refine⟨rfl,?_⟩
    rw[HX.out]
    exact⟨rfl,HB.out⟩
   |ok a3=>
    rintro e w3 ⟨rfl,S3,m,s⟩
    have HF3:Hid (Fr 141 3 w3 b0 r l.length (l.flatMap (fun e=>imL (toIm e))) S3):=HF2.out.step HM2.out (by decide) s
    have HM3:=hidI m
    have HS3:Hid (IS gp S w S3 w3):=HS2.out.trans s
    clear m s
    have HY3:=hidI (bdO HY2.out hn3)
    have hpos:0<a3.pos:=by rw[(zdf hn3).1];exact Nat.succ_pos _
    generalize ha2:a2.2=sp at*
    clear ha2
    go_wp2
    go_loopg [15] l.length (fun k i wr=>∃(j:Nat) (S':Sv) (q':PS),i= .int .i64 j∧j+k=l.length∧impFromI C l q=zbb (fun e=>zbx C (zhk sp e)) (l.drop j) (.ok q')∧0<q'.pos∧IM C gt cap base gp S' q' wr∧IS gp S w S' wr∧Fr 141 3 wr b0 r l.length (l.flatMap (fun e=>imL (toIm e))) S')
    case atStart=>exact⟨0,S3,a3,rfl,by omega,HY3.out,hpos,HM3.out,HS3.out,HF3.out⟩
    case round=>
     obtain⟨j,S',q',rfl,hj,hy,hp',m',s',f'⟩:=hrel
     have HYr:=hidI hy
     have HMr:Hid (IM C gt cap base gp S' q' wr):=m'
     have HSr:Hid (IS gp S w S' wr):=s'
     have HFr:Hid (Fr 141 3 wr b0 r l.length (l.flatMap (fun e=>imL (toIm e))) S'):=f'
     clear hy m' s' f'
     by_cases hlt:j<l.length
     ·have hlti:(j:Int)<(l.length:Int):=by omega
      obtain⟨x,hx⟩:=zpm hlt
      obtain⟨g',hg',hcl⟩:=OwnR.elem (f:=fun e=>imL (toIm e)) (m:=3) (fun _=>rfl) HFr.out.1 hx
      have eg:g'=g:=by have:=hg'.symm.trans HG.out;simpa using this
      subst eg
      have k0:=hcl 0 (by omega)
      have k1:=hcl 1 (by omega)
      have k2:=hcl 2 (by omega)
      simp only[imL,toIm,Nat.add_zero,List.getElem?_cons_zero,List.getElem?_cons_succ] at k0 k1 k2
      have HZ:=hidI (HYr.out.trans (znv (fun e=>zbx C (zhk sp e)) hx q'))
      clear hcl hg' hx
      obtain⟨j1,hj1⟩: ∃j1,j1=j+1:=⟨_,rfl⟩
      have ej:(j:Int)+1=(j1:Int):=by omega
      rw[←hj1] at HZ
      have hgl:=(Array.getElem?_eq_some_iff.1 (HFr.out.1.typed (by rw[Rw.blk,HG.out];rfl)).2.2.choose_spec).1
      have hgp:=HMr.out.lt
      have HJ:=hidI hj1
      clear hj1
      go_wp2_with fail
      refine (zbij C gt cap base gp S' q' (zhk sp x) _ (HMr.out.alloc _) hp').mono ?_
      cases hn:zbx C (zhk sp x) q' with
      |error p=>
       rintro e w5 ⟨rfl,hb⟩
       have HB:Hid (Below base w w5):=(HH.out.back (HSr.out.alloc _)).trans hb
       have HX:Hid (impFromI C l q= .error p):=by show _=_;rw[HZ.out,hn];exact zjp _ _ _
       unfold Pan
       go_wp2
       refine⟨rfl,?_⟩
       rw[HX.out]
       exact⟨rfl,HB.out⟩
      |ok a5=>
       rintro e w5 ⟨rfl,S5,m,s⟩
       have HM5:=hidI m
       have HS5:Hid (IS gp S w S5 w5):=(HSr.out.alloc _).trans s
       have HF5:Hid (Fr 141 3 w5 b0 r l.length (l.flatMap (fun e=>imL (toIm e))) S5):=(HFr.out.later ((Below.refl _ _).alloc (Nat.le_refl _) _)).step (HMr.out.alloc _) (by decide) s
       have HY5:Hid (impFromI C l q=zbb (fun e=>zbx C (zhk sp e)) (l.drop j1) (.ok a5)):=by show _=_;rw[HZ.out,hn]
       have HP5:Hid (0<a5.pos):=by show 0<a5.pos;rw[zbjy hn];exact hp'
       clear m s
       go_wp2
       go_roundg (gk-1)
       case rel=>exact⟨j1,S5,a5,rfl,by have:=HJ.out;omega,HY5.out,HP5.out,HM5.out,HS5.out,HF5.out⟩
       case measure=>omega
     ·have hlti: ¬(j:Int)<(l.length:Int):=by omega
      have HZ:Hid (impFromI C l q= .ok q'):=by show _=_;rw[HYr.out,List.drop_eq_nil_of_le (by omega)];rfl
      go_wp2
      go_end0
      rw[HZ.out]
      exact⟨rfl,S',HMr.out,HSr.out⟩
theorem zlw (C:Cx) (gt cap base gp b0:Nat) (r:Rw) (S:Sv) (q:PS) (l:List Ep) (w:World) (h:IM C gt cap base gp S q w) (hC:zgb C) (hl:l.length≤4000) (h0:l.length≠0) (hf:Fr 141 3 w b0 r l.length (l.flatMap (fun e=>imL (toIm e))) S):
  Calls Tryz.prog 283 #[.pointer (some ⟨gp,0,none⟩),.slice r.a l.length r.cap] w (IOut C gt cap base gp (impFromI C l q) id (fun _=>.tuple #[]) S w):=by
 rcases hf.1.nil_or with ⟨_,_,e⟩|⟨g,hg⟩
 ·exact absurd e h0
 ·rw[hg]
  exact zxl C gt cap base gp b0 g r S q l w h hC hl hf hg
end Go.Proofs.YtlnohpdiiileeaaGreat
