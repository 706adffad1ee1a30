/- Facts and walks that the theorem stands on. -/
import Derived.Deep.RegionWith
import Derived.Test.YtgcbmogmniahjaaGreatG28
namespace Go.Proofs.YtgcbmogmniahjaaGreat
open Go.Proofs.Tryz
set_option maxRecDepth 100000
set_option maxHeartbeats 12800000
open Go.RowKit Go.PlainAid Go.Sort
theorem zc1 (c:PC) (t:BA) (q:List BA) (w:World) (h:PP c t w) (z:(zt t q).size<=140737488355328) (J:q.length<=4294967296):
  Calls prog 171 #[.slice (some ⟨w.heap.size,0,none⟩) q.length q.length,.pointer (some ⟨c.b,0,none⟩)] (w.alloc (.cells (q.map Value.string).toArray 9)).drew (PO c (zt t q) w):=by
 have A:Below w.heap.size w (w.alloc (.cells (q.map Value.string).toArray 9)).drew:=((Below.refl _ _).alloc (Nat.le_refl _) _).drew;refine (zls c t q w.heap.size _ (h.later A) (heap_alloc_new w _) z J).mono ?_;rintro e K ⟨D,H,E,I⟩;exact⟨D,H,(A.mono h.1.2).trans E,(KeepB.of_below A).trans I⟩
def zc2 (x:Im):BA:=
 if x.first.toList==[42] then ({data:=#[105,109,112,111,114,116,32]}:BA)++({data:=#[42,32,97,115,32]}:BA)++x.loc
 else if x.first.toList==[100,101,102,97,117,108,116] then ({data:=#[105,109,112,111,114,116,32]}:BA)++x.loc
 else ({data:=#[105,109,112,111,114,116,32]}:BA)++zca x.first x.loc
theorem zs9 {x:Im} (e:(x.first.toList==[42])=true):zc2 x=({data:=#[105,109,112,111,114,116,32]}:BA)++({data:=#[42,32,97,115,32]}:BA)++x.loc:=by rw[zc2,e];rfl
theorem zsA {x:Im} (e:(x.first.toList==[42])=false) (h:(x.first.toList==[100,101,102,97,117,108,116])=true):zc2 x=({data:=#[105,109,112,111,114,116,32]}:BA)++x.loc:=by rw[zc2,e,h];rfl
theorem zsB {x:Im} (e:(x.first.toList==[42])=false) (h:(x.first.toList==[100,101,102,97,117,108,116])=false):zc2 x=({data:=#[105,109,112,111,114,116,32]}:BA)++zca x.first x.loc:=by rw[zc2,e,h];rfl
theorem zci (a b:Array UInt8):(⟨a++b⟩:BA)=⟨a⟩++⟨b⟩:=by
 apply ByteArray.ext;simp
theorem zeN (x:Im):zac x=zc2 x++({data:=#[32,102,114,111,109,32]}:BA)++zaz x.spec++({data:=#[59]}:BA)++({data:=#[10]}:BA):=by
 have z:({data:=#[59,10]}:BA)={data:=#[59]}++{data:=#[10]}:=zci #[59] #[10];have q:({data:=#[105,109,112,111,114,116,32,42,32,97,115,32]}:BA)={data:=#[105,109,112,111,114,116,32]}++{data:=#[42,32,97,115,32]}:=zci #[105,109,112,111,114,116,32] #[42,32,97,115,32];have w:({data:=#[105,109,112,111,114,116,32,123,32]}:BA)={data:=#[105,109,112,111,114,116,32]}++{data:=#[123,32]}:=zci #[105,109,112,111,114,116,32] #[123,32];have h:({data:=#[32,125,32,102,114,111,109,32]}:BA)={data:=#[32,125]}++{data:=#[32,102,114,111,109,32]}:=zci #[32,125] #[32,102,114,111,109,32];unfold zac zc2 zca;rw[z,q,w,h]
 split
 ·simp only[ByteArray.append_assoc]
 ·split<;>simp only[ByteArray.append_assoc]
theorem zsC (x:Im):(({data:=#[105,109,112,111,114,116,32]}:BA)).size<=(zac x).size:=by
 rw[zeN,zc2]
 split
 ·simp only[ByteArray.size_append];omega
 ·split<;>(simp only[ByteArray.size_append];omega)
theorem zsD (c:PC) (t:BA) (x:Im) (w:World) (h:PP c t w) (D:(t++zac x).size<=140737488355328) (h1:x.spec.size<=1099511627776):
  Calls prog 202 #[.pointer (some ⟨c.gp,0,none⟩),imV x] w (PO c (t++zac x) w):=by
 have HP:=zc h;have M:=zc D;clear h D;have HZ:Hid (t.size+(zac x).size<=140737488355328/\(({data:=#[105,109,112,111,114,116,32]}:BA)).size<=(zac x).size):=⟨by have:=M.o;rw[ByteArray.size_append] at this;exact this,zsC x⟩;unfold imV;go_enter func202,ntmps202;go_upto_region 1 with fail;have HW:Hid (Below w.heap.size w (w.alloc (.cells #[.string x.spec,.string x.first,.string x.loc] 95))):=(Below.refl _ _).alloc (Nat.le_refl _) _;refine zy (R:=fun W=>W.heap[w.heap.size]? =some (.cells #[.string x.spec,.string x.first,.string x.loc] 95 (0,0))/\PP c t W/\Below c.B w W/\KeepB c.b w W) ⟨heap_alloc_new w _,HP.o.later HW.o,HW.o.mono HP.o.1.2,KeepB.of_below HW.o⟩ ?_;obtain⟨gx,L⟩: ∃gx,gx=w.heap.size:=⟨_,rfl⟩;have V:gx≠c.b:=by
  rw[L];obtain⟨aj,hc⟩:=zch HP.o.1.1;have:=(aLt hc);omega
 rw[<-L];rintro W ⟨hx,hp,hb,hk⟩;clear L HW;have X:=zc hx;have J:=zc hp;have Y:=zc hb;have aa:=zc hk;clear hx hp hb hk;obtain⟨x0,x1,x2,xf⟩:=zq X.o;obtain⟨p0,p1,p2,p3,p4,p5,pf⟩:=zw J.o.2.2.1;go_wp2_with fail;refine (zbK c t [{data:=#[105,109,112,111,114,116,32]}] W J.o (by have:=HZ.o;simp only[zt,List.foldl_cons,List.foldl_nil,ByteArray.size_append] at this ⊢;omega) (by simp)).mono ?_;rintro e O ⟨rfl,U,ab,I⟩;have E:=zc U;have af:=zc (Y.o.trans ab);have ad:=zc (aa.o.trans I);have X1:=zc ((I _ _ _ _ X.o V (by decide)).trans X.o);clear U ab I p0 p1 p2 p3 p4 p5 pf x0 x1 x2 xf J Y aa X;obtain⟨x0,x1,x2,xf⟩:=zq X1.o;obtain⟨p0,p1,p2,p3,p4,p5,pf⟩:=zw E.o.2.2.1;have ac:=(aLt E.o.2.2.1);have N:=(aLt X1.o);have D:=M.o;go_upto_block 0 with fail
 go_cut [] from 12 to 37 (fun wx=>PP c (t++zc2 x) wx/\Below c.B O wx/\KeepB c.b O wx)
 case first=>
  cases e1:(x.first.toList==[42]) with
  |true=>
   have H:Hid (zc2 x=({data:=#[105,109,112,111,114,116,32]}:BA)++({data:=#[42,32,97,115,32]}:BA)++x.loc):=zs9 e1;go_wp2_with fail;go_region_with (go_at_call 171;refine (zc1 c _ [{data:=#[42,32,97,115,32]},x.loc] O E.o (by have:=M.o;rw[zeN,H.o] at this;simp only[zt,List.foldl_cons,List.foldl_nil,ByteArray.size_append] at this ⊢;omega) (by simp)).mono ?_;rintro e w2 ⟨rfl,q,A,z⟩)
   all_goals (go_wp2_with fail;go_meet;exact⟨by rw[H.o];simp only[zt,List.foldl_cons,List.foldl_nil,<-ByteArray.append_assoc] at q ⊢;exact q,A,z⟩)
  |false=>
   cases e2:(x.first.toList==[100,101,102,97,117,108,116]) with
   |true=>
    have H:Hid (zc2 x=({data:=#[105,109,112,111,114,116,32]}:BA)++x.loc):=zsA e1 e2;go_wp2_with fail;go_region_with (go_at_call 171;refine (zc1 c _ [x.loc] O E.o (by have:=M.o;rw[zeN,H.o] at this;simp only[zt,List.foldl_cons,List.foldl_nil,ByteArray.size_append] at this ⊢;omega) (by simp)).mono ?_;rintro e w2 ⟨rfl,q,A,z⟩)
    all_goals (go_wp2_with fail;go_meet;exact⟨by rw[H.o];simp only[zt,List.foldl_cons,List.foldl_nil,<-ByteArray.append_assoc] at q ⊢;exact q,A,z⟩)
   |false=>
    have H:Hid (zc2 x=({data:=#[105,109,112,111,114,116,32]}:BA)++zca x.first x.loc):=zsB e1 e2;go_wp2_with fail;refine (zic c _ x.first x.loc O E.o (by have:=M.o;rw[zeN,H.o] at this;simp only[zt,List.foldl_cons,List.foldl_nil,ByteArray.size_append] at this ⊢;omega)).mono ?_;rintro e w2 ⟨rfl,q,A,z⟩;go_wp2_with fail;go_meet;exact⟨by rw[H.o];simp only[zt,List.foldl_cons,List.foldl_nil,<-ByteArray.append_assoc] at q ⊢;exact q,A,z⟩
 case rest=>
 obtain⟨q,A,z⟩:=hcut
 rename_i w2
 have K:=zc q;have ag:=zc (af.o.trans A);have ae:=zc (ad.o.trans z);have X2:=zc ((z _ _ _ _ X1.o V (by decide)).trans X1.o);clear q A z p0 p1 p2 p3 p4 p5 pf x0 x1 x2 xf ac N;obtain⟨p0,p1,p2,p3,p4,p5,pf⟩:=zw K.o.2.2.1;obtain⟨x0,x1,x2,xf⟩:=zq X2.o;have ac:=(aLt K.o.2.2.1);have N:=(aLt X2.o);go_wp2_with fail;go_region_with (first|(go_at_call 201;refine (zgH x.spec _ h1).mono ?_;rintro e w' ⟨rfl,rfl⟩)|(go_at_call 171;refine (zc1 c _ [{data:=#[32,102,114,111,109,32]},zaz x.spec,{data:=#[59]},{data:=#[10]}] _ K.o (by have:=M.o;rw[zeN] at this;simp only[zt,List.foldl_cons,List.foldl_nil,ByteArray.size_append] at this ⊢;omega) (by simp)).mono ?_;rintro e w3 ⟨rfl,Z,ai,ah⟩))
 all_goals (go_wp2;go_end0;exact⟨rfl,(by rw[zeN];simp only[zt,List.foldl_cons,List.foldl_nil,<-ByteArray.append_assoc] at Z ⊢;exact Z),ag.o.trans ai,ae.o.trans ah⟩)
def zc3 (x:Ep):BA:=
 if x.kind==3 then ({data:=#[101,120,112,111,114,116,32]}:BA)++({data:=#[42,32,102,114,111,109,32]}:BA)++zaz x.spec
 else if x.kind==2 then ({data:=#[101,120,112,111,114,116,32]}:BA)++zca x.loc x.name++({data:=#[32,102,114,111,109,32]}:BA)++zaz x.spec
 else ({data:=#[101,120,112,111,114,116,32]}:BA)++zca x.loc x.name
theorem zsE {x:Ep} (e:(x.kind==3)=true):zc3 x=({data:=#[101,120,112,111,114,116,32]}:BA)++({data:=#[42,32,102,114,111,109,32]}:BA)++zaz x.spec:=by rw[zc3,e];rfl
theorem zsF {x:Ep} (e:(x.kind==3)=false) (h:(x.kind==2)=true):zc3 x=({data:=#[101,120,112,111,114,116,32]}:BA)++zca x.loc x.name++({data:=#[32,102,114,111,109,32]}:BA)++zaz x.spec:=by rw[zc3,e,h];rfl
theorem zsG {x:Ep} (e:(x.kind==3)=false) (h:(x.kind==2)=false):zc3 x=({data:=#[101,120,112,111,114,116,32]}:BA)++zca x.loc x.name:=by rw[zc3,e,h];rfl
theorem zer (x:Ep):zbr x=zc3 x++({data:=#[59]}:BA)++({data:=#[10]}:BA):=by
 have q:({data:=#[59,10]}:BA)={data:=#[59]}++{data:=#[10]}:=zci #[59] #[10];have w:({data:=#[101,120,112,111,114,116,32,42,32,102,114,111,109,32]}:BA)={data:=#[101,120,112,111,114,116,32]}++{data:=#[42,32,102,114,111,109,32]}:=zci #[101,120,112,111,114,116,32] #[42,32,102,114,111,109,32];have A:({data:=#[101,120,112,111,114,116,32,123,32]}:BA)={data:=#[101,120,112,111,114,116,32]}++{data:=#[123,32]}:=zci #[101,120,112,111,114,116,32] #[123,32];have h:({data:=#[32,125,32,102,114,111,109,32]}:BA)={data:=#[32,125]}++{data:=#[32,102,114,111,109,32]}:=zci #[32,125] #[32,102,114,111,109,32];have z:({data:=#[32,125,59,10]}:BA)={data:=#[32,125]}++{data:=#[59,10]}:=zci #[32,125] #[59,10];unfold zbr zc3 zca;rw[z,q,w,A,h]
 split
 ·simp only[ByteArray.append_assoc]
 ·split<;>simp only[ByteArray.append_assoc]
theorem zsH (x:Ep):(({data:=#[101,120,112,111,114,116,32]}:BA)).size<=(zbr x).size:=by
 rw[zer,zc3]
 split
 ·simp only[ByteArray.size_append];omega
 ·split<;>(simp only[ByteArray.size_append];omega)
theorem zsI (c:PC) (t:BA) (x:Ep) (w:World) (h:PP c t w) (I:(t++zbr x).size<=140737488355328) (h1:x.spec.size<=1099511627776):
  Calls prog 203 #[.pointer (some ⟨c.gp,0,none⟩),epV x] w (PO c (t++zbr x) w):=by
 have HP:=zc h;have HL:=zc I;clear h I;have HZ:Hid (t.size+(zbr x).size<=140737488355328/\(({data:=#[101,120,112,111,114,116,32]}:BA)).size<=(zbr x).size):=⟨by have:=HL.o;rw[ByteArray.size_append] at this;exact this,zsH x⟩;unfold epV;go_enter func203,ntmps203;go_upto_region 1 with fail;have HW:Hid (Below w.heap.size w (w.alloc (.cells #[.int .i64 x.kind,.string x.name,.string x.loc,.string x.spec] 97))):=(Below.refl _ _).alloc (Nat.le_refl _) _;refine zy (R:=fun W=>W.heap[w.heap.size]? =some (.cells #[.int .i64 x.kind,.string x.name,.string x.loc,.string x.spec] 97 (0,0))/\PP c t W/\Below c.B w W/\KeepB c.b w W) ⟨heap_alloc_new w _,HP.o.later HW.o,HW.o.mono HP.o.1.2,KeepB.of_below HW.o⟩ ?_;obtain⟨gx,ac⟩: ∃gx,gx=w.heap.size:=⟨_,rfl⟩;have ag:gx≠c.b:=by
  rw[ac];obtain⟨ap,hc⟩:=zch HP.o.1.1;have:=(aLt hc);omega
 rw[<-ac];rintro W ⟨hx,hp,hb,hk⟩;clear ac HW;have X:=zc hx;have ab:=zc hp;have ah:=zc hb;have ai:=zc hk;clear hx hp hb hk;obtain⟨x0,x1,x2,x3,xf⟩:=zbH X.o;obtain⟨p0,p1,Y,U,N,M,Z⟩:=zw ab.o.2.2.1;go_wp2_with fail;refine (zbK c t [{data:=#[101,120,112,111,114,116,32]}] W ab.o (by have:=HZ.o;simp only[zt,List.foldl_cons,List.foldl_nil,ByteArray.size_append] at this ⊢;omega) (by simp)).mono ?_;rintro e w1 ⟨rfl,af,ak,V⟩;have J:=zc af;have an:=zc (ah.o.trans ak);have al:=zc (ai.o.trans V);have X1:=zc ((V _ _ _ _ X.o ag (by decide)).trans X.o);clear af ak V p0 p1 Y U N M Z x0 x1 x2 x3 xf ab ah ai X;obtain⟨x0,x1,x2,x3,xf⟩:=zbH X1.o;obtain⟨p0,p1,Y,U,N,M,Z⟩:=zw J.o.2.2.1;have ae:=(aLt J.o.2.2.1);have O:=(aLt X1.o);have I:=HL.o;go_upto_block 0 with fail
 go_cut [] from 12 to 45 (fun wx=>PP c (t++zc3 x) wx/\Below c.B w1 wx/\KeepB c.b w1 wx)
 case first=>
  cases e1:(x.kind==3) with
  |true=>
   have L:Hid (zc3 x=({data:=#[101,120,112,111,114,116,32]}:BA)++({data:=#[42,32,102,114,111,109,32]}:BA)++zaz x.spec):=zsE e1;go_wp2_with fail;go_region_with (first|(go_at_call 201;refine (zgH x.spec _ h1).mono ?_;rintro e w' ⟨rfl,rfl⟩)|(go_at_call 171;refine (zc1 c _ [{data:=#[42,32,102,114,111,109,32]},zaz x.spec] w1 J.o (by have:=HL.o;rw[zer,L.o] at this;simp only[zt,List.foldl_cons,List.foldl_nil,ByteArray.size_append] at this ⊢;omega) (by simp)).mono ?_;rintro e w2 ⟨rfl,q,D,z⟩))
   all_goals (go_wp2_with fail;go_meet;exact⟨by rw[L.o];simp only[zt,List.foldl_cons,List.foldl_nil,<-ByteArray.append_assoc] at q ⊢;exact q,D,z⟩)
  |false=>
   cases e2:(x.kind==2) with
   |true=>
    have L:Hid (zc3 x=({data:=#[101,120,112,111,114,116,32]}:BA)++zca x.loc x.name++({data:=#[32,102,114,111,109,32]}:BA)++zaz x.spec):=zsF e1 e2;go_wp2_with fail;refine (zic c _ x.loc x.name w1 J.o (by have:=HL.o;rw[zer,L.o] at this;simp only[zt,List.foldl_cons,List.foldl_nil,ByteArray.size_append] at this ⊢;omega)).mono ?_;rintro e w3 ⟨rfl,A,K,E⟩;have H:=zc A;have X3:=zc ((E _ _ _ _ X1.o ag (by decide)).trans X1.o);have aa:=zc K;have ad:=zc E;clear A K E p0 p1 Y U N M Z x0 x1 x2 x3 xf ae O;obtain⟨p0,p1,Y,U,N,M,Z⟩:=zw H.o.2.2.1;obtain⟨x0,x1,x2,x3,xf⟩:=zbH X3.o;have ae:=(aLt H.o.2.2.1);have O:=(aLt X3.o);go_wp2_with fail;go_region_with (first|(go_at_call 201;refine (zgH x.spec _ h1).mono ?_;rintro e w' ⟨rfl,rfl⟩)|(go_at_call 171;refine (zc1 c _ [{data:=#[32,102,114,111,109,32]},zaz x.spec] w3 H.o (by have:=HL.o;rw[zer,L.o] at this;simp only[zt,List.foldl_cons,List.foldl_nil,ByteArray.size_append] at this ⊢;omega) (by simp)).mono ?_;rintro e w2 ⟨rfl,q,D,z⟩))
    all_goals (go_wp2_with fail;go_meet;exact⟨by rw[L.o];simp only[zt,List.foldl_cons,List.foldl_nil,<-ByteArray.append_assoc] at q ⊢;exact q,aa.o.trans D,ad.o.trans z⟩)
   |false=>
    have L:Hid (zc3 x=({data:=#[101,120,112,111,114,116,32]}:BA)++zca x.loc x.name):=zsG e1 e2;go_wp2_with fail;refine (zic c _ x.loc x.name w1 J.o (by have:=HL.o;rw[zer,L.o] at this;simp only[zt,List.foldl_cons,List.foldl_nil,ByteArray.size_append] at this ⊢;omega)).mono ?_;rintro e w2 ⟨rfl,q,D,z⟩;go_wp2_with fail;go_meet;exact⟨by rw[L.o];simp only[zt,List.foldl_cons,List.foldl_nil,<-ByteArray.append_assoc] at q ⊢;exact q,D,z⟩
 case rest=>
 obtain⟨q,D,z⟩:=hcut
 rename_i w2
 have aj:=zc q;have ao:=zc (an.o.trans D);have am:=zc (al.o.trans z);clear q D z p0 p1 Y U N M Z x0 x1 x2 x3 xf ae O;obtain⟨p0,p1,Y,U,N,M,Z⟩:=zw aj.o.2.2.1;go_wp2_with fail;refine (zbK c _ [{data:=#[59]},{data:=#[10]}] _ aj.o (by have:=HL.o;rw[zer] at this;simp only[zt,List.foldl_cons,List.foldl_nil,ByteArray.size_append] at this ⊢;omega) (by simp)).mono ?_;rintro e w3 ⟨rfl,A,K,E⟩;have H:=zc A;have aa:=zc (ao.o.trans K);have ad:=zc (am.o.trans E);clear A K E p0 p1 Y U N M Z;go_wp2;go_end0;exact⟨rfl,(by have A:=H.o;rw[zer];simp only[zt,List.foldl_cons,List.foldl_nil,<-ByteArray.append_assoc] at A ⊢;exact A),aa.o,ad.o⟩
theorem zid (c:PC) (t:BA) (i:Nat) (w:World) (h:PP c t w) (J:i<c.m.ex.length):
  Calls prog 244 #[.pointer (some ⟨c.gp,0,none⟩),.int .i64 (i:Int)] w fun e H=>e= .returned (.int .i64 (c.m.ex.getD i zh).kind)/\H=w:=by
 obtain⟨p0,X,N,L,E,M,V⟩:=zw h.2.2.1;obtain⟨g,z,K,D,x1,Y,U,O,Z⟩:=h.2.1.expr J;rw[z] at E;have I:(i:Int)<(c.m.ex.length:Int):=by omega
 obtain⟨A,q⟩: ∃A,(c.m.ex.getD i zh).kind=A:=⟨_,rfl⟩;rw[q] at D;rw[q];clear h z q;go_enter func244,ntmps244;go_wp2;go_ret;exact⟨rfl,rfl⟩
def zc4 (c:PC) (i:Nat):Prop:=∀(t:BA) (w:World),PP c t w->(t++prX c.m.ex i).size<=140737488355328->Calls prog 225 #[.pointer (some ⟨c.gp,0,none⟩),.int .i64 (i:Int)] w (PO c (t++prX c.m.ex i) w)
theorem zgI (c:PC) (t:BA) (i:Nat) (o:Bool) (w:World) (ok:zc4 c i) (h:PP c t w) (q:(t++zH o (prX c.m.ex i)).size<=140737488355328):
  Calls prog 243 #[.pointer (some ⟨c.gp,0,none⟩),.int .i64 (i:Int),.bool o] w (PO c (t++zH o (prX c.m.ex i)) w):=by
 have OK:=zc ok;have HP:=zc h;clear ok h;obtain⟨p0,p1,p2,X,Z,Y,pf⟩:=zw HP.o.2.2.1;cases o with
 |false=>
  have M:Hid ((t++prX c.m.ex i).size<=140737488355328):=q;clear q;go_enter func243,ntmps243;go_wp2_with fail;refine (OK.o t w HP.o M.o).mono ?_;rintro e w1 ⟨rfl,z,E,A⟩;have I:=zc z;have J:=zc E;have H:=zc A;clear z E A p0 p1 p2 X Z Y pf;go_wp2;refine bodyPost_ret (results_none rfl _ _ _) rfl ?_;exact⟨rfl,I.o,J.o,H.o⟩
 |true=>
  have M:Hid ((t++(zo++prX c.m.ex i++za6)).size<=140737488355328):=q;clear q;go_enter func243,ntmps243;go_wp2_with fail;refine (zbK c t [zo] w HP.o (by have:=M.o;simp only[zt,List.foldl_cons,List.foldl_nil,ByteArray.size_append] at this ⊢;omega) (by simp)).mono ?_;rintro e w1 ⟨rfl,z,E,A⟩;have I:=zc z;have J:=zc E;have H:=zc A;clear z E A p0 p1 p2 X Z Y pf;go_wp2_with fail;refine (OK.o _ w1 I.o (by have:=M.o;simp only[zt,List.foldl_cons,List.foldl_nil,ByteArray.size_append] at this ⊢;omega)).mono ?_;rintro e w2 ⟨rfl,L,N,K⟩;have U:=zc L;have ad:=zc (J.o.trans N);have ac:=zc (H.o.trans K);clear L N K;obtain⟨p0,p1,p2,X,Z,Y,pf⟩:=zw U.o.2.2.1;go_wp2_with fail;refine (zbK c _ [za6] w2 U.o (by have:=M.o;simp only[zt,List.foldl_cons,List.foldl_nil,ByteArray.size_append] at this ⊢;omega) (by simp)).mono ?_;rintro e w3 ⟨rfl,D,V,O⟩;have ab:=zc D;have aa:=zc (ad.o.trans V);have ae:=zc (ac.o.trans O);clear D V O p0 p1 p2 X Z Y pf;go_wp2;go_end0;exact⟨rfl,(by have D:=ab.o;unfold zH;rw[if_pos rfl];simp only[zt,List.foldl_cons,List.foldl_nil,<-ByteArray.append_assoc] at D ⊢;exact D),aa.o,ae.o⟩
def zaT (k:Int) (n:BA):BA:=
 if n.toList==[42,100,101,102,97,117,108,116] then ({data:=#[101,120,112,111,114,116,32]}:BA)++({data:=#[100,101,102,97,117,108,116]}:BA)++({data:=#[32]}:BA)
 else if k==1 then ({data:=#[108,101,116,32]}:BA)++n++({data:=#[32,61,32]}:BA)
 else if k==2 then ({data:=#[102,117,110,99,116,105,111,110,32]}:BA)++n++({data:=#[40,41,32,123,32,114,101,116,117,114,110,32]}:BA)
 else if k==3 then n++({data:=#[32,61,32]}:BA)
 else if k==4 then ({data:=#[112,114,105,110,116,40]}:BA)
 else if k==5 then ({data:=#[116,104,114,111,119,32]}:BA)
 else ({data:=#[102,97,105,108,32]}:BA)
def zaO (k:Int) (n:BA):BA:=
 if n.toList==[42,100,101,102,97,117,108,116] then ({data:=#[59]}:BA) else if k==2 then ({data:=#[59,32,125]}:BA) else if k==4 then ({data:=#[41,59]}:BA) else ({data:=#[59]}:BA)
theorem zlt {k:Int} {n:BA} (e:(n.toList==[42,100,101,102,97,117,108,116])=true):zaT k n=({data:=#[101,120,112,111,114,116,32]}:BA)++({data:=#[100,101,102,97,117,108,116]}:BA)++({data:=#[32]}:BA):=by rw[zaT,e];rfl
theorem zlu {k:Int} {n:BA} (e:(n.toList==[42,100,101,102,97,117,108,116])=true):zaO k n=({data:=#[59]}:BA):=by rw[zaO,e];rfl
theorem zlv {k:Int} {n:BA} (e:(n.toList==[42,100,101,102,97,117,108,116])=false) (h:(k==1)=true):zaT k n=({data:=#[108,101,116,32]}:BA)++n++({data:=#[32,61,32]}:BA):=by rw[zaT,e,h];rfl
theorem zlw {k:Int} {n:BA} (e:(n.toList==[42,100,101,102,97,117,108,116])=false) (h:(k==1)=true):zaO k n=({data:=#[59]}:BA):=by have q:=eq_of_beq h;subst q;rw[zaO,e];rfl
theorem zlx {k:Int} {n:BA} (e:(n.toList==[42,100,101,102,97,117,108,116])=false) (q:(k==1)=false) (h:(k==2)=true):zaT k n=({data:=#[102,117,110,99,116,105,111,110,32]}:BA)++n++({data:=#[40,41,32,123,32,114,101,116,117,114,110,32]}:BA):=by rw[zaT,e,q,h];rfl
theorem zly {k:Int} {n:BA} (e:(n.toList==[42,100,101,102,97,117,108,116])=false) (h:(k==2)=true):zaO k n=({data:=#[59,32,125]}:BA):=by rw[zaO,e,h];rfl
theorem zlz {k:Int} {n:BA} (e:(n.toList==[42,100,101,102,97,117,108,116])=false) (w:(k==1)=false) (q:(k==2)=false) (h:(k==3)=true):zaT k n=n++({data:=#[32,61,32]}:BA):=by rw[zaT,e,w,q,h];rfl
theorem zl0 {k:Int} {n:BA} (e:(n.toList==[42,100,101,102,97,117,108,116])=false) (h:(k==3)=true):zaO k n=({data:=#[59]}:BA):=by have q:=eq_of_beq h;subst q;rw[zaO,e];rfl
theorem zl1 {k:Int} {n:BA} (e:(n.toList==[42,100,101,102,97,117,108,116])=false) (z:(k==1)=false) (q:(k==2)=false) (h:(k==3)=false) (w:(k==4)=true):zaT k n=({data:=#[112,114,105,110,116,40]}:BA):=by rw[zaT,e,z,q,h,w];rfl
theorem zl2 {k:Int} {n:BA} (e:(n.toList==[42,100,101,102,97,117,108,116])=false) (h:(k==2)=false) (q:(k==4)=true):zaO k n=({data:=#[41,59]}:BA):=by rw[zaO,e,h,q];rfl
theorem zl3 {k:Int} {n:BA} (e:(n.toList==[42,100,101,102,97,117,108,116])=false) (q:(k==1)=false) (A:(k==2)=false) (w:(k==3)=false) (z:(k==4)=false) (h:(k==5)=true):zaT k n=({data:=#[116,104,114,111,119,32]}:BA):=by rw[zaT,e,q,A,w,z,h];rfl
theorem zl4 {k:Int} {n:BA} (e:(n.toList==[42,100,101,102,97,117,108,116])=false) (h:(k==2)=false) (q:(k==4)=false):zaO k n=({data:=#[59]}:BA):=by rw[zaO,e,h,q];rfl
theorem zl5 {k:Int} {n:BA} (e:(n.toList==[42,100,101,102,97,117,108,116])=false) (q:(k==1)=false) (A:(k==2)=false) (w:(k==3)=false) (z:(k==4)=false) (h:(k==5)=false):zaT k n=({data:=#[102,97,105,108,32]}:BA):=by rw[zaT,e,q,A,w,z,h];rfl
theorem zl6 {k:Int} {n:BA} (e:(n.toList==[42,100,101,102,97,117,108,116])=false) (h:(k==2)=false) (q:(k==4)=false):zaO k n=({data:=#[59]}:BA):=by rw[zaO,e,h,q];rfl
theorem zl7 (k:Int) (n e:BA):zdl k n e=zaT k n++e++zaO k n++({data:=#[10]}:BA):=by
 have I:({data:=#[59,10]}:BA)=({data:=#[59]}:BA)++({data:=#[10]}:BA):=zci #[59] #[10];have H:({data:=#[59,32,125,10]}:BA)=({data:=#[59,32,125]}:BA)++({data:=#[10]}:BA):=zci #[59,32,125] #[10];have K:({data:=#[41,59,10]}:BA)=({data:=#[41,59]}:BA)++({data:=#[10]}:BA):=zci #[41,59] #[10];have E:({data:=#[101,120,112,111,114,116,32,100,101,102,97,117,108,116,32]}:BA)=({data:=#[101,120,112,111,114,116,32,100,101,102,97,117,108,116]}:BA)++({data:=#[32]}:BA):=zci #[101,120,112,111,114,116,32,100,101,102,97,117,108,116] #[32];have J:({data:=#[101,120,112,111,114,116,32,100,101,102,97,117,108,116]}:BA)=({data:=#[101,120,112,111,114,116,32]}:BA)++({data:=#[100,101,102,97,117,108,116]}:BA):=zci #[101,120,112,111,114,116,32] #[100,101,102,97,117,108,116];unfold zdl za4;rw[I,H,K,E,J];cases h:(n.toList==[42,100,101,102,97,117,108,116]) with
 |true=>rw[zlt h,zlu h];simp only[↓reduceIte,ByteArray.append_assoc]
 |false=>
  cases w:(k==1) with
  |true=>rw[zlv h w,zlw h w];simp only[↓reduceIte,Bool.false_eq_true,ByteArray.append_assoc]
  |false=>
   cases q:(k==2) with
   |true=>rw[zlx h w q,zly h q];simp only[↓reduceIte,Bool.false_eq_true,ByteArray.append_assoc]
   |false=>
    cases A:(k==3) with
    |true=>rw[zlz h w q A,zl0 h A];simp only[↓reduceIte,Bool.false_eq_true,ByteArray.append_assoc]
    |false=>
     cases z:(k==4) with
     |true=>rw[zl1 h w q A z,zl2 h q z];simp only[↓reduceIte,Bool.false_eq_true,ByteArray.append_assoc]
     |false=>
      cases D:(k==5) with
      |true=>rw[zl3 h w q A z D,zl4 h q z];simp only[↓reduceIte,Bool.false_eq_true,ByteArray.append_assoc]
      |false=>
       rw[zl5 h w q A z D,zl6 h q z];simp only[↓reduceIte,Bool.false_eq_true,ByteArray.append_assoc]
theorem zsJ (k:Int) (n e:BA):(zdl k n e).size=(zaT k n).size+e.size+(zaO k n).size+1:=by
 rw[zl7,ByteArray.size_append,ByteArray.size_append,ByteArray.size_append];rfl
theorem zsK (c:PC) (t:BA) (k:Int) (n:BA) (i:Nat) (w:World) (ok:zc4 c i) (h:PP c t w) (M:(t++zdl k n (prX c.m.ex i)).size<=140737488355328):
  Calls prog 204 #[.pointer (some ⟨c.gp,0,none⟩),.agg #[.int .i64 k,.string n,.int .i64 (i:Int)]] w (PO c (t++zdl k n (prX c.m.ex i)) w):=by
 have HP:=zc h;have OK:=zc ok;have U:Hid (t.size+((zaT k n).size+(prX c.m.ex i).size+(zaO k n).size+1)<=140737488355328):=by show _<=_;rw[ByteArray.size_append,zsJ] at M;exact M
 clear h M ok;go_enter func204,ntmps204;go_upto_region 1 with fail;have HW:Hid (Below w.heap.size w (w.alloc (.cells #[.int .i64 k,.string n,.int .i64 (i:Int)] 102))):=(Below.refl _ _).alloc (Nat.le_refl _) _;refine zy (R:=fun W=>W.heap[w.heap.size]? =some (.cells #[.int .i64 k,.string n,.int .i64 (i:Int)] 102 (0,0))/\PP c t W/\Below c.B w W/\KeepB c.b w W) ⟨heap_alloc_new w _,HP.o.later HW.o,HW.o.mono HP.o.1.2,KeepB.of_below HW.o⟩ ?_;obtain⟨gx,X⟩: ∃gx,gx=w.heap.size:=⟨_,rfl⟩;have ah:gx≠c.b:=by
  rw[X];obtain⟨av,hc⟩:=zch HP.o.1.1;have:=(aLt hc);omega
 rw[<-X];rintro N ⟨hx,hp,hb,hk⟩;clear X HW;have X1:=zc hx;have H:=zc hp;have an:=zc hb;have ak:=zc hk;clear hx hp hb hk;obtain⟨x0,x1,x2,xf⟩:=zq X1.o;obtain⟨p0,p1,p2,p3,p4,p5,pf⟩:=zw H.o.2.2.1;have au:=(aLt H.o.2.2.1);have ag:=(aLt X1.o);go_upto_block 0 with fail
 go_cut [4] from 5 to 76 (fun s4 wx=>s4= .string (zaO k n)/\PP c (t++zaT k n) wx/\Below c.B N wx/\KeepB c.b N wx)
 case first=>
  cases I:(n.toList==[42,100,101,102,97,117,108,116]) with
  |true=>
   have E:Hid (zaT k n=({data:=#[101,120,112,111,114,116,32]}:BA)++({data:=#[100,101,102,97,117,108,116]}:BA)++({data:=#[32]}:BA)):=zlt I;have K:Hid (zaO k n=({data:=#[59]}:BA)):=zlu I;have J:Hid ((zt t [{data:=#[101,120,112,111,114,116,32]},{data:=#[100,101,102,97,117,108,116]},{data:=#[32]}]).size<=140737488355328):=by show _<=_;have:=U.o;rw[E.o] at this;simp only[zt,List.foldl_cons,List.foldl_nil,ByteArray.size_append] at this ⊢;omega
   go_wp2_with fail;refine (zbK c t [{data:=#[101,120,112,111,114,116,32]},{data:=#[100,101,102,97,117,108,116]},{data:=#[32]}] N H.o J.o (by simp)).mono ?_;rintro e Y ⟨rfl,q,D,A⟩;go_wp2_with fail;go_meet;exact⟨by rw[K.o],by rw[E.o];simp only[zt,List.foldl_cons,List.foldl_nil,<-ByteArray.append_assoc] at q ⊢;exact q,D,A⟩
  |false=>
   cases V:(k==1) with
   |true=>
    have E:Hid (zaT k n=({data:=#[108,101,116,32]}:BA)++n++({data:=#[32,61,32]}:BA)):=zlv I V;have K:Hid (zaO k n=({data:=#[59]}:BA)):=zlw I V;have J:Hid ((zt t [{data:=#[108,101,116,32]},n,{data:=#[32,61,32]}]).size<=140737488355328):=by show _<=_;have:=U.o;rw[E.o] at this;simp only[zt,List.foldl_cons,List.foldl_nil,ByteArray.size_append] at this ⊢;omega
    go_wp2_with fail;go_region_with (go_at_call 171;refine (zc1 c t [{data:=#[108,101,116,32]},n,{data:=#[32,61,32]}] N H.o J.o (by simp)).mono ?_;rintro e Y ⟨rfl,q,D,A⟩)
    all_goals (go_wp2_with fail;go_meet;exact⟨by rw[K.o],by rw[E.o];simp only[zt,List.foldl_cons,List.foldl_nil,<-ByteArray.append_assoc] at q ⊢;exact q,D,A⟩)
   |false=>
    cases O:(k==2) with
    |true=>
     have E:Hid (zaT k n=({data:=#[102,117,110,99,116,105,111,110,32]}:BA)++n++({data:=#[40,41,32,123,32,114,101,116,117,114,110,32]}:BA)):=zlx I V O;have K:Hid (zaO k n=({data:=#[59,32,125]}:BA)):=zly I O;have J:Hid ((zt t [{data:=#[102,117,110,99,116,105,111,110,32]},n,{data:=#[40,41,32,123,32,114,101,116,117,114,110,32]}]).size<=140737488355328):=by show _<=_;have:=U.o;rw[E.o] at this;simp only[zt,List.foldl_cons,List.foldl_nil,ByteArray.size_append] at this ⊢;omega
     go_wp2_with fail;go_region_with (go_at_call 171;refine (zc1 c t [{data:=#[102,117,110,99,116,105,111,110,32]},n,{data:=#[40,41,32,123,32,114,101,116,117,114,110,32]}] N H.o J.o (by simp)).mono ?_;rintro e Y ⟨rfl,q,D,A⟩)
     all_goals (go_wp2_with fail;go_meet;exact⟨by rw[K.o],by rw[E.o];simp only[zt,List.foldl_cons,List.foldl_nil,<-ByteArray.append_assoc] at q ⊢;exact q,D,A⟩)
    |false=>
     cases h3:(k==3) with
     |true=>
      have E:Hid (zaT k n=n++({data:=#[32,61,32]}:BA)):=zlz I V O h3;have K:Hid (zaO k n=({data:=#[59]}:BA)):=zl0 I h3;have J:Hid ((zt t [n,{data:=#[32,61,32]}]).size<=140737488355328):=by show _<=_;have:=U.o;rw[E.o] at this;simp only[zt,List.foldl_cons,List.foldl_nil,ByteArray.size_append] at this ⊢;omega
      go_wp2_with fail;go_region_with (go_at_call 171;refine (zc1 c t [n,{data:=#[32,61,32]}] N H.o J.o (by simp)).mono ?_;rintro e Y ⟨rfl,q,D,A⟩)
      all_goals (go_wp2_with fail;go_meet;exact⟨by rw[K.o],by rw[E.o];simp only[zt,List.foldl_cons,List.foldl_nil,<-ByteArray.append_assoc] at q ⊢;exact q,D,A⟩)
     |false=>
      cases Z:(k==4) with
      |true=>
       have E:Hid (zaT k n=({data:=#[112,114,105,110,116,40]}:BA)):=zl1 I V O h3 Z;have K:Hid (zaO k n=({data:=#[41,59]}:BA)):=zl2 I O Z;have J:Hid ((zt t [{data:=#[112,114,105,110,116,40]}]).size<=140737488355328):=by show _<=_;have:=U.o;rw[E.o] at this;simp only[zt,List.foldl_cons,List.foldl_nil,ByteArray.size_append] at this ⊢;omega
       go_wp2_with fail;refine (zbK c t [{data:=#[112,114,105,110,116,40]}] N H.o J.o (by simp)).mono ?_;rintro e Y ⟨rfl,q,D,A⟩;go_wp2_with fail;go_meet;exact⟨by rw[K.o],by rw[E.o];exact q,D,A⟩
      |false=>
       cases h5:(k==5) with
       |true=>
        have E:Hid (zaT k n=({data:=#[116,104,114,111,119,32]}:BA)):=zl3 I V O h3 Z h5;have K:Hid (zaO k n=({data:=#[59]}:BA)):=zl4 I O Z;have J:Hid ((zt t [{data:=#[116,104,114,111,119,32]}]).size<=140737488355328):=by show _<=_;have:=U.o;rw[E.o] at this;simp only[zt,List.foldl_cons,List.foldl_nil,ByteArray.size_append] at this ⊢;omega
        go_wp2_with fail;refine (zbK c t [{data:=#[116,104,114,111,119,32]}] N H.o J.o (by simp)).mono ?_;rintro e Y ⟨rfl,q,D,A⟩;go_wp2_with fail;go_meet;exact⟨by rw[K.o],by rw[E.o];exact q,D,A⟩
       |false=>
        have E:Hid (zaT k n=({data:=#[102,97,105,108,32]}:BA)):=zl5 I V O h3 Z h5;have K:Hid (zaO k n=({data:=#[59]}:BA)):=zl6 I O Z;have J:Hid ((zt t [{data:=#[102,97,105,108,32]}]).size<=140737488355328):=by show _<=_;have:=U.o;rw[E.o] at this;simp only[zt,List.foldl_cons,List.foldl_nil,ByteArray.size_append] at this ⊢;omega
        go_wp2_with fail;refine (zbK c t [{data:=#[102,97,105,108,32]}] N H.o J.o (by simp)).mono ?_;rintro e Y ⟨rfl,q,D,A⟩;go_wp2_with fail;go_meet;exact⟨by rw[K.o],by rw[E.o];exact q,D,A⟩
 case rest=>
 rename_i s4 Y
 obtain⟨rfl,q,D,A⟩:=hcut;have aq:=zc q;have ao:=zc (an.o.trans D);have am:=zc (ak.o.trans A);have X2:=zc ((A _ _ _ _ X1.o ah (by decide)).trans X1.o);clear q D A p0 p1 p2 p3 p4 p5 pf x0 x1 x2 xf au ag;obtain⟨x0,x1,x2,xf⟩:=zq X2.o;go_wp2_with fail;refine (OK.o _ _ aq.o (by have:=U.o;simp only[ByteArray.size_append] at this ⊢;omega)).mono ?_;rintro e w3 ⟨rfl,L,af,ad⟩;have aa:=zc L;have ai:=zc (ao.o.trans af);have ar:=zc (am.o.trans ad);clear L af ad x0 x1 x2 xf;obtain⟨p0,p1,p2,p3,p4,p5,pf⟩:=zw aa.o.2.2.1;go_wp2_with fail;refine (zbK c _ [zaO k n,{data:=#[10]}] _ aa.o (by have:=U.o;have z:(({data:=#[10]}:BA)).size=1:=rfl;simp only[zt,List.foldl_cons,List.foldl_nil,ByteArray.size_append,z] at this ⊢;omega) (by simp)).mono ?_;rintro e w4 ⟨rfl,ac,ae,ab⟩;have al:=zc ac;have ap:=zc (ai.o.trans ae);have aj:=zc (ar.o.trans ab);clear ac ae ab p0 p1 p2 p3 p4 p5 pf;go_wp2;go_end0;exact⟨rfl,(by have L:=al.o;rw[zl7];simp only[zt,List.foldl_cons,List.foldl_nil,<-ByteArray.append_assoc] at L ⊢;exact L),ap.o,aj.o⟩
theorem zgJ {α:Type} {l:List α} {j:Nat} (h:j<l.length): ∃x,l[j]? =some x:=⟨_,List.getElem?_eq_getElem h⟩
theorem zsL (l:List BA):l.map Value.string=l.flatMap (fun x=>[Value.string x]):=by
 induction l with
 |nil=>rfl
 |cons x l h=>rw[List.map_cons,List.flatMap_cons,h];rfl
theorem zsM (t:BA):t++sNone=t:=by
 cases t with
 |mk d=>
  show ByteArray.append _ _=_;simp[ByteArray.append]
theorem zl8 (m:Md):(acc epF m.ep (acc zac m.im (acc rqT m.rq sNone))).size<=(zbI m).size:=zee _ _ _
theorem zl9 (m:Md):(acc zac m.im (acc rqT m.rq sNone)).size<=(zbI m).size:=Nat.le_trans (zee _ _ _) (zl8 m)
theorem zsN (m:Md):(acc rqT m.rq sNone).size<=(zbI m).size:=Nat.le_trans (zee _ _ _) (zl9 m)
theorem zlA (s:BA):rqT s=({data:=#[105,109,112,111,114,116,32]}:BA)++zaz s++({data:=#[59]}:BA)++({data:=#[10]}:BA):=by
 have h:({data:=#[59,10]}:BA)={data:=#[59]}++{data:=#[10]}:=zci #[59] #[10];rw[rqT,h];simp only[ByteArray.append_assoc]
theorem zlB {x:Ep} (h:(x.loc.toList==[42,100,101,102,97,117,108,116])=false):epF x=zbr x:=by rw[epF,h];rfl
theorem zsO {x:Ep} (h:(x.loc.toList==[42,100,101,102,97,117,108,116])=true):epF x=sNone:=by rw[epF,h];rfl
theorem zsP (c:PC) (w:World) (ok: ∀i,i<c.m.ex.length->zc4 c i) (hs: ∀s∈c.m.st,0<=s.expr/\s.expr<(c.m.ex.length:Int)) (hm:Small c.m) (h:PP c sNone w) (ae:(zbI c.m).size<=140737488355328):
  Calls prog 172 #[.pointer (some ⟨c.gp,0,none⟩)] w (PO c (zbI c.m) w):=by
 have ag:=zc h;have SM:=zc hm;have OK:=zc ok;have HS:=zc hs;have HL:=zc ae;obtain⟨f1,f2,f3,f4,f5⟩:=hm.few;clear h hm ok hs ae;obtain⟨p0,p1,p2,Z,p4,p5,pf⟩:=zw ag.o.2.2.1;go_enter func172,ntmps172;go_wp2;go_loopg [16] c.m.rq.length (fun k i wr=>∃j:Nat,i= .int .i64 j/\j+k=c.m.rq.length/\PP c (acc rqT (c.m.rq.take j) sNone) wr/\Below c.B w wr/\KeepB c.b w wr)
 case atStart=>exact⟨0,rfl,by omega,ag.o,Below.refl _ _,fun _ _ _ _ _ _ _=>rfl⟩
 case round=>
  obtain⟨j,rfl,hj,N,L,M⟩:=hrel;have z:=zc N;have H:=zc L;have E:=zc M;clear N L M p0 p1 p2 Z p4 p5 pf;obtain⟨p0,p1,p2,Z,p4,p5,pf⟩:=zw z.o.2.2.1;by_cases Y:j<c.m.rq.length
  ·have J:(j:Int)<(c.m.rq.length:Int):=by omega
   obtain⟨x,q⟩:=zgJ Y;have D:=List.mem_of_getElem? q;have HZ:Hid ((acc rqT (c.m.rq.take j) sNone++rqT x).size<=140737488355328):=by show _<=_;rw[<-zcz rqT q];exact Nat.le_trans (zdD rqT c.m.rq (j+1) sNone) (Nat.le_trans (zsN c.m) HL.o)
   have HX:=zc q;obtain⟨K,I⟩: ∃K,K=j+1:=⟨_,rfl⟩;have ej:(j:Int)+1=(K:Int):=by omega
   have HJ:=zc I;clear I;obtain⟨g,hg,k0⟩: ∃g,c.S.rq.a=some ⟨g,0,none⟩/\wr.cell? ⟨g,j,none⟩=some (.string x):=by
    obtain⟨g,hg,hc⟩:=OwnR.elem (f:=fun x=>[Value.string x]) (m:=1) (fun _=>rfl) (show OwnR wr c.base 9 1 c.S.rq c.m.rq.length (c.m.rq.flatMap fun x=>[Value.string x]) by rw[<-zsL];exact z.o.2.1.rq) q;have k0:=hc 0 (by omega);simp only[Nat.mul_one,Nat.add_zero,List.getElem?_cons_zero] at k0;exact⟨g,hg,k0⟩
   have ai:=SM.o.rq x D;have HG:Hid (Value.slice c.S.rq.a c.m.rq.length c.S.rq.cap=Value.slice (some ⟨g,0,none⟩) c.m.rq.length c.S.rq.cap):=by show _=_;rw[hg]
   clear hg q D p0 p1 p2 Z p4 p5 pf;rw[HG.o];obtain⟨p0,p1,p2,Z,p4,p5,pf⟩:=zw z.o.2.2.1;have ak:=(aLt z.o.2.2.1);go_wp2_with fail;go_region_with (first|(go_at_call 201;refine (zgH x _ (by omega)).mono ?_;rintro e w' ⟨rfl,rfl⟩)|(go_at_call 171;refine (zc1 c _ [{data:=#[105,109,112,111,114,116,32]},zaz x,{data:=#[59]},{data:=#[10]}] wr z.o (by have:=HZ.o;rw[zlA] at this;simp only[zt,List.foldl_cons,List.foldl_nil,ByteArray.size_append] at this ⊢;omega) (by simp)).mono ?_;rintro e w3 ⟨rfl,aa,ah,aj⟩))
   all_goals
    have al:=zc aa;have am:=zc (H.o.trans ah);have ao:=zc (E.o.trans aj);clear aa ah aj p0 p1 p2 Z p4 p5 pf ak k0;go_wp2;rw[<-HG.o];go_roundg (gk-1)
    case rel=>exact⟨K,rfl,by have:=HJ.o;omega,by rw[HJ.o,zcz rqT HX.o];exact (by have aa:=al.o;rw[zlA];simp only[zt,List.foldl_cons,List.foldl_nil,<-ByteArray.append_assoc] at aa ⊢;exact aa),am.o,ao.o⟩
    case measure=>omega
  ·have J: ¬(j:Int)<(c.m.rq.length:Int):=by omega
   obtain rfl:j=c.m.rq.length:=by omega
   have HN:Hid (PP c (acc zac (c.m.im.take 0) (acc rqT c.m.rq sNone)) wr):=by have:=z.o;rw[List.take_length] at this;exact this
   go_wp2;go_loopg [35] c.m.im.length (fun k i wr=>∃j:Nat,i= .int .i64 j/\j+k=c.m.im.length/\PP c (acc zac (c.m.im.take j) (acc rqT c.m.rq sNone)) wr/\Below c.B w wr/\KeepB c.b w wr)
   case atStart=>exact⟨0,rfl,by omega,HN.o,H.o,E.o⟩
   case round=>
    obtain⟨j,rfl,hj,N,L,M⟩:=hrel;clear z H E HN;have z:=zc N;have H:=zc L;have E:=zc M;clear N L M p0 p1 p2 Z p4 p5 pf;obtain⟨p0,p1,p2,Z,p4,p5,pf⟩:=zw z.o.2.2.1;by_cases Y:j<c.m.im.length
    ·have J:(j:Int)<(c.m.im.length:Int):=by omega
     obtain⟨x,q⟩:=zgJ Y;have D:=List.mem_of_getElem? q;have HZ:Hid ((acc zac (c.m.im.take j) (acc rqT c.m.rq sNone)++zac x).size<=140737488355328):=by show _<=_;rw[<-zcz zac q];exact Nat.le_trans (zdD zac c.m.im (j+1) (acc rqT c.m.rq sNone)) (Nat.le_trans (zl9 c.m) HL.o)
     have HX:=zc q;obtain⟨K,I⟩: ∃K,K=j+1:=⟨_,rfl⟩;have ej:(j:Int)+1=(K:Int):=by omega
     have HJ:=zc I;clear I;obtain⟨g,hg,A⟩:=OwnR.elem (f:=imL) (m:=3) (fun _=>rfl) z.o.2.1.im q;have k0:=A 0 (by omega);have k1:=A 1 (by omega);have k2:=A 2 (by omega);simp only[imL,Nat.add_zero,List.getElem?_cons_zero,List.getElem?_cons_succ] at k0 k1 k2;clear A;have ai:=(SM.o.im x D).1;have HG:Hid (Value.slice c.S.im.a c.m.im.length c.S.im.cap=Value.slice (some ⟨g,0,none⟩) c.m.im.length c.S.im.cap):=by show _=_;rw[hg]
     clear hg q D p0 p1 p2 Z p4 p5 pf;rw[HG.o];go_upto_region 8 with fail;have HW:Hid (Below wr.heap.size wr (wr.alloc (.cells #[.string x.spec,.string x.first,.string x.loc] 95))):=(Below.refl _ _).alloc (Nat.le_refl _) _;refine zy (R:=fun W=>W.heap[wr.heap.size]? =some (.cells #[.string x.spec,.string x.first,.string x.loc] 95 (0,0))/\PP c (acc zac (c.m.im.take j) (acc rqT c.m.rq sNone)) W/\Below c.B w W/\KeepB c.b w W) ⟨heap_alloc_new wr _,z.o.later HW.o,H.o.trans (HW.o.mono z.o.1.2),E.o.trans (KeepB.of_below HW.o)⟩ ?_;obtain⟨gx,O⟩: ∃gx,gx=wr.heap.size:=⟨_,rfl⟩;rw[<-O];clear k0 k1 k2 HW;rintro W ⟨xb,N,L,M⟩;clear O z H E;have XB:=zc xb;have z:=zc N;have H:=zc L;have E:=zc M;clear xb N L M;obtain⟨x0,x1,x2,xf⟩:=zq XB.o;go_wp2_with fail;refine (zsD c _ x W z.o HZ.o (by omega)).mono ?_;rintro e W2 ⟨rfl,X,V,U⟩;have ab:=zc X;have ac:=zc (H.o.trans V);have ad:=zc (E.o.trans U);clear X V U x0 x1 x2 xf;go_wp2;rw[<-HG.o];go_roundg (gk-1)
     case rel=>exact⟨K,rfl,by have:=HJ.o;omega,by rw[HJ.o,zcz zac HX.o];exact ab.o,ac.o,ad.o⟩
     case measure=>omega
    ·have J: ¬(j:Int)<(c.m.im.length:Int):=by omega
     obtain rfl:j=c.m.im.length:=by omega
     have HN:Hid (PP c (acc epF (c.m.ep.take 0) (acc zac c.m.im (acc rqT c.m.rq sNone))) wr):=by have:=z.o;rw[List.take_length] at this;exact this
     go_wp2;go_loopg [49] c.m.ep.length (fun k i wr=>∃j:Nat,i= .int .i64 j/\j+k=c.m.ep.length/\PP c (acc epF (c.m.ep.take j) (acc zac c.m.im (acc rqT c.m.rq sNone))) wr/\Below c.B w wr/\KeepB c.b w wr)
     case atStart=>exact⟨0,rfl,by omega,HN.o,H.o,E.o⟩
     case round=>
      obtain⟨j,rfl,hj,N,L,M⟩:=hrel;clear z H E HN;have z:=zc N;have H:=zc L;have E:=zc M;clear N L M p0 p1 p2 Z p4 p5 pf;obtain⟨p0,p1,p2,Z,p4,p5,pf⟩:=zw z.o.2.2.1;by_cases Y:j<c.m.ep.length
      ·have J:(j:Int)<(c.m.ep.length:Int):=by omega
       obtain⟨x,q⟩:=zgJ Y;have D:=List.mem_of_getElem? q;have HZ:Hid ((acc epF (c.m.ep.take j) (acc zac c.m.im (acc rqT c.m.rq sNone))++epF x).size<=140737488355328):=by show _<=_;rw[<-zcz epF q];exact Nat.le_trans (zdD epF c.m.ep (j+1) (acc zac c.m.im (acc rqT c.m.rq sNone))) (Nat.le_trans (zl8 c.m) HL.o)
       have HX:=zc q;obtain⟨K,I⟩: ∃K,K=j+1:=⟨_,rfl⟩;have ej:(j:Int)+1=(K:Int):=by omega
       have HJ:=zc I;clear I;obtain⟨g,hg,A⟩:=OwnR.elem (f:=epL) (m:=4) (fun _=>rfl) z.o.2.1.ep q;have k0:=A 0 (by omega);have k1:=A 1 (by omega);have k2:=A 2 (by omega);have k3:=A 3 (by omega);simp only[epL,Nat.add_zero,List.getElem?_cons_zero,List.getElem?_cons_succ] at k0 k1 k2 k3;clear A;have ai:=(SM.o.ep x D).1;have HG:Hid (Value.slice c.S.ep.a c.m.ep.length c.S.ep.cap=Value.slice (some ⟨g,0,none⟩) c.m.ep.length c.S.ep.cap):=by show _=_;rw[hg]
       clear hg q D p0 p1 p2 Z p4 p5 pf;rw[HG.o];go_upto_region 13 with fail;have HW:Hid (Below wr.heap.size wr (wr.alloc (.cells #[.int .i64 x.kind,.string x.name,.string x.loc,.string x.spec] 97))):=(Below.refl _ _).alloc (Nat.le_refl _) _;refine zy (R:=fun W=>W.heap[wr.heap.size]? =some (.cells #[.int .i64 x.kind,.string x.name,.string x.loc,.string x.spec] 97 (0,0))/\PP c (acc epF (c.m.ep.take j) (acc zac c.m.im (acc rqT c.m.rq sNone))) W/\Below c.B w W/\KeepB c.b w W) ⟨heap_alloc_new wr _,z.o.later HW.o,H.o.trans (HW.o.mono z.o.1.2),E.o.trans (KeepB.of_below HW.o)⟩ ?_;obtain⟨gx,O⟩: ∃gx,gx=wr.heap.size:=⟨_,rfl⟩;rw[<-O];clear k0 k1 k2 k3 HW;rintro W ⟨xb,N,L,M⟩;clear O z H E;have XB:=zc xb;have z:=zc N;have H:=zc L;have E:=zc M;clear xb N L M;obtain⟨x0,x1,x2,x3,xf⟩:=zbH XB.o;cases e1:(x.loc.toList==[42,100,101,102,97,117,108,116]) with
       |false=>
        go_wp2_with fail;refine (zsI c _ x W z.o (by have:=HZ.o;rw[zlB e1] at this;exact this) (by omega)).mono ?_;rintro e W2 ⟨rfl,X,V,U⟩;have ab:=zc X;have ac:=zc (H.o.trans V);have ad:=zc (E.o.trans U);clear X V U x0 x1 x2 x3 xf;go_wp2;rw[<-HG.o];go_roundg (gk-1)
        case rel=>exact⟨K,rfl,by have:=HJ.o;omega,by rw[HJ.o,zcz epF HX.o];exact (by rw[zlB e1];exact ab.o),ac.o,ad.o⟩
        case measure=>omega
       |true=>
        go_wp2;rw[<-HG.o];go_roundg (gk-1)
        case rel=>exact⟨K,rfl,by have:=HJ.o;omega,by rw[HJ.o,zcz epF HX.o];exact (by rw[zsO e1,zsM];exact z.o),H.o,E.o⟩
        case measure=>omega
      ·have J: ¬(j:Int)<(c.m.ep.length:Int):=by omega
       obtain rfl:j=c.m.ep.length:=by omega
       have HN:Hid (PP c (acc (zcC c.m.ex) (c.m.st.take 0) (zce c.m)) wr):=by have:=z.o;rw[List.take_length] at this;exact this
       go_wp2;go_loopg [66] c.m.st.length (fun k i wr=>∃j:Nat,i= .int .i64 j/\j+k=c.m.st.length/\PP c (acc (zcC c.m.ex) (c.m.st.take j) (zce c.m)) wr/\Below c.B w wr/\KeepB c.b w wr)
       case atStart=>exact⟨0,rfl,by omega,HN.o,H.o,E.o⟩
       case round=>
        obtain⟨j,rfl,hj,N,L,M⟩:=hrel;clear z H E HN;have z:=zc N;have H:=zc L;have E:=zc M;clear N L M p0 p1 p2 Z p4 p5 pf;obtain⟨p0,p1,p2,Z,p4,p5,pf⟩:=zw z.o.2.2.1;by_cases Y:j<c.m.st.length
        ·have J:(j:Int)<(c.m.st.length:Int):=by omega
         obtain⟨x,q⟩:=zgJ Y;have D:=List.mem_of_getElem? q;have HZ:Hid ((acc (zcC c.m.ex) (c.m.st.take j) (zce c.m)++(zcC c.m.ex) x).size<=140737488355328):=by show _<=_;rw[<-zcz (zcC c.m.ex) q];exact Nat.le_trans (zdD (zcC c.m.ex) c.m.st (j+1) (zce c.m)) HL.o
         have HX:=zc q;obtain⟨K,I⟩: ∃K,K=j+1:=⟨_,rfl⟩;have ej:(j:Int)+1=(K:Int):=by omega
         have HJ:=zc I;clear I;obtain⟨ei,af⟩: ∃n:Nat,x.expr=(n:Int):=⟨x.expr.toNat,by have:=HS.o x D;omega⟩;have an:ei<c.m.ex.length:=by have:=HS.o x D;omega
         obtain⟨g,hg,A⟩:=OwnR.elem (f:=smL) (m:=3) (fun _=>rfl) z.o.2.1.st q;have k0:=A 0 (by omega);have k1:=A 1 (by omega);have k2:=A 2 (by omega);simp only[smL,Nat.add_zero,List.getElem?_cons_zero,List.getElem?_cons_succ,af] at k0 k1 k2;clear A;have HG:Hid (Value.slice c.S.st.a c.m.st.length c.S.st.cap=Value.slice (some ⟨g,0,none⟩) c.m.st.length c.S.st.cap):=by show _=_;rw[hg]
         clear hg q D p0 p1 p2 Z p4 p5 pf;rw[HG.o];go_upto_region 19 with fail;have HW:Hid (Below wr.heap.size wr (wr.alloc (.cells #[.int .i64 x.kind,.string x.name,.int .i64 (ei:Int)] 102))):=(Below.refl _ _).alloc (Nat.le_refl _) _;refine zy (R:=fun W=>W.heap[wr.heap.size]? =some (.cells #[.int .i64 x.kind,.string x.name,.int .i64 (ei:Int)] 102 (0,0))/\PP c (acc (zcC c.m.ex) (c.m.st.take j) (zce c.m)) W/\Below c.B w W/\KeepB c.b w W) ⟨heap_alloc_new wr _,z.o.later HW.o,H.o.trans (HW.o.mono z.o.1.2),E.o.trans (KeepB.of_below HW.o)⟩ ?_;obtain⟨gx,O⟩: ∃gx,gx=wr.heap.size:=⟨_,rfl⟩;rw[<-O];clear k0 k1 k2 HW;rintro W ⟨xb,N,L,M⟩;clear O z H E;have XB:=zc xb;have z:=zc N;have H:=zc L;have E:=zc M;clear xb N L M;obtain⟨x0,x1,x2,xf⟩:=zq XB.o;go_wp2_with fail;refine (zsK c _ x.kind x.name ei W (OK.o ei an) z.o (by have:=HZ.o;rw[zcC,af,Int.toNat_natCast] at this;exact this)).mono ?_;rintro e W2 ⟨rfl,X,V,U⟩;have ab:=zc X;have ac:=zc (H.o.trans V);have ad:=zc (E.o.trans U);clear X V U x0 x1 x2 xf;go_wp2;rw[<-HG.o];go_roundg (gk-1)
         case rel=>exact⟨K,rfl,by have:=HJ.o;omega,by rw[HJ.o,zcz (zcC c.m.ex) HX.o];exact (by rw[zcC,af,Int.toNat_natCast];exact ab.o),ac.o,ad.o⟩
         case measure=>omega
        ·have J: ¬(j:Int)<(c.m.st.length:Int):=by omega
         obtain rfl:j=c.m.st.length:=by omega
         have HN:Hid (PP c (zbI c.m) wr):=by have:=z.o;rw[List.take_length] at this;exact this
         go_wp2;go_end0;exact⟨rfl,HN.o,H.o,E.o⟩
theorem zlC (c:PC) (t:BA) (k N:Int) (E z Y:BA) (l r:Nat) (w:World) (ac:zc4 c l) (aa:zc4 c r) (hr:r<c.m.ex.length) (h:PP c t w) (A:(t++(prX c.m.ex l++Y++zH (zP (c.m.ex.getD r zh).kind) (prX c.m.ex r))).size<=140737488355328):
  Calls prog 242 #[.pointer (some ⟨c.gp,0,none⟩),.agg #[.int .i64 k,.int .i64 N,.string E,.string z,.int .i64 (l:Int),.int .i64 (r:Int)],.string Y] w (PO c (t++(prX c.m.ex l++Y++zH (zP (c.m.ex.getD r zh).kind) (prX c.m.ex r))) w):=by
 have HP:=zc h;obtain⟨kk,M⟩: ∃kk,(c.m.ex.getD r zh).kind=kk:=⟨_,rfl⟩;rw[M] at A ⊢;have KK:=zc M;have HL:Hid (t.size+((prX c.m.ex l).size+Y.size+(zH (zP kk) (prX c.m.ex r)).size)<=140737488355328):=by show _<=_;simp only[ByteArray.size_append] at A;exact A
 obtain⟨T,hT⟩: ∃T,T=prX c.m.ex l++Y++zH (zP kk) (prX c.m.ex r):=⟨_,rfl⟩;rw[<-hT];have HT:=zc hT;have ae:=zc ac;have ad:=zc aa;have HR:=zc hr;clear h A ac aa hr M hT;go_enter func242,ntmps242;go_upto_region 1 with fail;have HW:Hid (Below w.heap.size w (w.alloc (.cells #[.int .i64 k,.int .i64 N,.string E,.string z,.int .i64 (l:Int),.int .i64 (r:Int)] 100))):=(Below.refl _ _).alloc (Nat.le_refl _) _;refine zy (R:=fun W=>W.heap[w.heap.size]? =some (.cells #[.int .i64 k,.int .i64 N,.string E,.string z,.int .i64 (l:Int),.int .i64 (r:Int)] 100 (0,0))/\PP c t W/\Below c.B w W/\KeepB c.b w W) ⟨heap_alloc_new w _,HP.o.later HW.o,HW.o.mono HP.o.1.2,KeepB.of_below HW.o⟩ ?_;obtain⟨gx,V⟩: ∃gx,gx=w.heap.size:=⟨_,rfl⟩;have Z:gx≠c.b:=by
  rw[V];obtain⟨al,hc⟩:=zch HP.o.1.1;have:=(aLt hc);omega
 rw[<-V];rintro w1 ⟨hx,H,I,D⟩;clear V HW;have X1:=zc hx;have O:=zc H;have ai:=zc I;have ag:=zc D;clear hx H I D;obtain⟨x0,x1,x2,x3,x4,x5,xf⟩:=zw X1.o;obtain⟨p0,p1,p2,p3,p4,p5,pf⟩:=zw O.o.2.2.1;have L:=(aLt O.o.2.2.1);have J:=(aLt X1.o);go_wp2_with fail;refine (zgI c t l false w1 ae.o O.o (by have:=HL.o;simp only[zH,Bool.false_eq_true,↓reduceIte,ByteArray.size_append] at this ⊢;omega)).mono ?_;rintro e w2 ⟨rfl,H,I,D⟩;have U:=zc H;have aj:=zc (ai.o.trans I);have ah:=zc (ag.o.trans D);have X2:=zc ((D _ _ _ _ X1.o Z (by decide)).trans X1.o);clear H I D p0 p1 p2 p3 p4 p5 pf x0 x1 x2 x3 x4 x5 xf L J;obtain⟨x0,x1,x2,x3,x4,x5,xf⟩:=zw X2.o;obtain⟨p0,p1,p2,p3,p4,p5,pf⟩:=zw U.o.2.2.1;have L:=(aLt U.o.2.2.1);have J:=(aLt X2.o);go_wp2_with fail;refine (zbK c _ [Y] w2 U.o (by have:=HL.o;simp only[zt,zH,Bool.false_eq_true,↓reduceIte,List.foldl_cons,List.foldl_nil,ByteArray.size_append] at this ⊢;omega) (by simp)).mono ?_;rintro e X ⟨rfl,H,I,D⟩;have K:=zc H;have af:=zc (aj.o.trans I);have ak:=zc (ah.o.trans D);have X3:=zc ((D _ _ _ _ X2.o Z (by decide)).trans X2.o);clear H I D p0 p1 p2 p3 p4 p5 pf x0 x1 x2 x3 x4 x5 xf L J;obtain⟨x0,x1,x2,x3,x4,x5,xf⟩:=zw X3.o;obtain⟨p0,p1,p2,p3,p4,p5,pf⟩:=zw K.o.2.2.1;have L:=(aLt K.o.2.2.1);have J:=(aLt X3.o);go_wp2_with fail;have ab:=zc (K.o.later ((Below.refl X.heap.size X).drew));go_region_with (first|(go_at_call 244;refine (zid c _ r _ ab.o HR.o).mono ?_;rintro e w' ⟨rfl,rfl⟩;rw[KK.o])|(go_at_call 222;refine (zfF _ _).mono ?_;rintro e w' ⟨rfl,rfl⟩)|(go_at_call 243;refine (zgI c _ r (zP kk) _ ad.o ab.o (by have:=HL.o;simp only[zt,show ∀q,zH false q=q from fun _=>rfl,List.foldl_cons,List.foldl_nil,ByteArray.size_append] at this ⊢;omega)).mono ?_;rintro e w4 ⟨rfl,H,I,D⟩))
 all_goals (go_wp2;go_end0;exact⟨rfl,(by rw[HT.o];simp only[zt,show ∀q,zH false q=q from fun _=>rfl,List.foldl_cons,List.foldl_nil,<-ByteArray.append_assoc] at H ⊢;exact H),af.o.trans ((((Below.refl X.heap.size X).drew).mono K.o.1.2).trans I),ak.o.trans ((KeepB.of_below ((Below.refl X.heap.size X).drew)).trans D)⟩)
theorem zsQ (c:PC) (t:BA) (i:Nat) (q:Int) (A z:BA) (l r:Int) (w:World) (h:PP c t w) (hi:i<c.m.ex.length) (L:c.m.ex.getD i zh=⟨1,q,A,z,l,r⟩) (hn: -9223372036854775808<=q/\q<=9223372036854775807) (D:(t++(strOfNums (zbT q))).size<=140737488355328):
  Calls prog 225 #[.pointer (some ⟨c.gp,0,none⟩),.int .i64 (i:Int)] w (PO c (t++(strOfNums (zbT q))) w):=by
 have N:=zc h;obtain⟨T,hT⟩: ∃T,T=strOfNums (zbT q):=⟨_,rfl⟩;rw[<-hT] at D ⊢;have HT:=zc hT;have HL:=zc D;clear h D hT;obtain⟨p0,p1,p2,p3,p4,p5,pf⟩:=zw N.o.2.2.1;obtain⟨g,hg,M,O,x1,x2,V,U,x5⟩:=N.o.2.1.expr hi;rw[L] at O x1 x2 V U x5;dsimp only at O x1 x2 V U x5;rw[hg] at p4;have ab:(i:Int)<(c.m.ex.length:Int):=by omega
 clear hg L;go_enter func225,ntmps225;go_upto_region 1 with fail;have HW:Hid (Below w.heap.size w (w.alloc (.cells #[.int .i64 1,.int .i64 q,.string A,.string z,.int .i64 l,.int .i64 r] 100))):=(Below.refl _ _).alloc (Nat.le_refl _) _;refine zy (R:=fun W=>W.heap[w.heap.size]? =some (.cells #[.int .i64 1,.int .i64 q,.string A,.string z,.int .i64 l,.int .i64 r] 100 (0,0))/\PP c t W/\Below c.B w W/\KeepB c.b w W) ⟨heap_alloc_new w _,N.o.later HW.o,HW.o.mono N.o.1.2,KeepB.of_below HW.o⟩ ?_;obtain⟨gx,J⟩: ∃gx,gx=w.heap.size:=⟨_,rfl⟩;have ai:gx≠c.b:=by
  rw[J];obtain⟨aj,hc⟩:=zch N.o.1.1;have:=(aLt hc);omega
 rw[<-J];rintro w1 ⟨L,Z,X,Y⟩;clear J HW M O x1 x2 V U x5 p0 p1 p2 p3 p4 p5 pf ab;have X1:=zc L;have E:=zc Z;have ac:=zc X;have aa:=zc Y;clear L Z X Y;obtain⟨O,x1,x2,V,U,x5,xf⟩:=zw X1.o;obtain⟨p0,p1,p2,p3,p4,p5,pf⟩:=zw E.o.2.2.1;have M:=(aLt E.o.2.2.1);have ah:=(aLt X1.o);have HN:=zc hn;go_wp2_with fail;go_region_with (first|(go_at_call 241;refine (zq9 q _ HN.o).mono ?_;rintro e w2 ⟨rfl,K⟩;have H:=zc (((Below.refl w1.heap.size w1).drew).trans K);have I:=zc (E.o.later H.o);have X2:=zc ((H.o.block _ (aLt X1.o)).trans X1.o);clear K;obtain⟨y0,y1,y2,y3,y4,y5,yf⟩:=zw X2.o;obtain⟨q0,q1,q2,q3,q4,q5,qf⟩:=zw I.o.2.2.1;have af:=(aLt I.o.2.2.1);have ag:=(aLt X2.o))|(go_at_call 171;refine (zbK c t [strOfNums (zbT q)] _ I.o (by have:=HL.o;rw[HT.o] at this;simp only[zt,List.foldl_cons,List.foldl_nil,ByteArray.size_append] at this ⊢;omega) (by simp)).mono ?_;rintro e w3 ⟨rfl,Z,ae,ad⟩))
 all_goals (have X:=(H.o.mono E.o.1.2).trans ae;have Y:=(KeepB.of_below (b:=c.b) H.o).trans ad;go_wp2;go_end0;exact⟨rfl,(by rw[HT.o];exact Z),ac.o.trans X,aa.o.trans Y⟩)
theorem zsR (c:PC) (t:BA) (i:Nat) (D:Int) (q z:BA) (l r:Int) (w:World) (h:PP c t w) (hi:i<c.m.ex.length) (I:c.m.ex.getD i zh=⟨2,D,q,z,l,r⟩) (A:(t++(q)).size<=140737488355328):
  Calls prog 225 #[.pointer (some ⟨c.gp,0,none⟩),.int .i64 (i:Int)] w (PO c (t++(q)) w):=by
 have K:=zc h;obtain⟨T,hT⟩: ∃T,T=q:=⟨_,rfl⟩;rw[<-hT] at A ⊢;have HT:=zc hT;have HL:=zc A;clear h A hT;obtain⟨p0,p1,p2,p3,p4,p5,pf⟩:=zw K.o.2.2.1;obtain⟨g,hg,J,L,x1,Y,N,M,Z⟩:=K.o.2.1.expr hi;rw[I] at L x1 Y N M Z;dsimp only at L x1 Y N M Z;rw[hg] at p4;have ab:(i:Int)<(c.m.ex.length:Int):=by omega
 clear hg I;go_enter func225,ntmps225;go_upto_region 1 with fail;have X:Hid (Below w.heap.size w (w.alloc (.cells #[.int .i64 2,.int .i64 D,.string q,.string z,.int .i64 l,.int .i64 r] 100))):=(Below.refl _ _).alloc (Nat.le_refl _) _;refine zy (R:=fun W=>W.heap[w.heap.size]? =some (.cells #[.int .i64 2,.int .i64 D,.string q,.string z,.int .i64 l,.int .i64 r] 100 (0,0))/\PP c t W/\Below c.B w W/\KeepB c.b w W) ⟨heap_alloc_new w _,K.o.later X.o,X.o.mono K.o.1.2,KeepB.of_below X.o⟩ ?_;obtain⟨gx,H⟩: ∃gx,gx=w.heap.size:=⟨_,rfl⟩;have ae:gx≠c.b:=by
  rw[H];obtain⟨af,hc⟩:=zch K.o.1.1;have:=(aLt hc);omega
 rw[<-H];rintro w1 ⟨I,V,O,U⟩;clear H X J L x1 Y N M Z p0 p1 p2 p3 p4 p5 pf ab;have X1:=zc I;have E:=zc V;have ac:=zc O;have aa:=zc U;clear I V O U;obtain⟨L,x1,Y,N,M,Z,xf⟩:=zw X1.o;obtain⟨p0,p1,p2,p3,p4,p5,pf⟩:=zw E.o.2.2.1;have J:=(aLt E.o.2.2.1);have ad:=(aLt X1.o);go_wp2_with fail;go_region_with (go_at_call 171;refine (zc1 c t [q] w1 E.o (by have:=HL.o;rw[HT.o] at this;simp only[zt,List.foldl_cons,List.foldl_nil,ByteArray.size_append] at this ⊢;omega) (by simp)).mono ?_;rintro e w2 ⟨rfl,V,O,U⟩)
 all_goals (go_wp2;go_end0;exact⟨rfl,(by rw[HT.o];exact V),ac.o.trans O,aa.o.trans U⟩)
theorem zsS (c:PC) (t:BA) (i:Nat) (D:Int) (q z:BA) (l r:Int) (w:World) (h:PP c t w) (hi:i<c.m.ex.length) (J:c.m.ex.getD i zh=⟨3,D,q,z,l,r⟩) (A:(t++(q++cParens)).size<=140737488355328):
  Calls prog 225 #[.pointer (some ⟨c.gp,0,none⟩),.int .i64 (i:Int)] w (PO c (t++(q++cParens)) w):=by
 have L:=zc h;obtain⟨T,hT⟩: ∃T,T=q++cParens:=⟨_,rfl⟩;rw[<-hT] at A ⊢;have HT:=zc hT;have HL:=zc A;clear h A hT;obtain⟨p0,p1,p2,p3,p4,p5,pf⟩:=zw L.o.2.2.1;obtain⟨g,hg,K,M,x1,Y,O,N,Z⟩:=L.o.2.1.expr hi;rw[J] at M x1 Y O N Z;dsimp only at M x1 Y O N Z;rw[hg] at p4;have ab:(i:Int)<(c.m.ex.length:Int):=by omega
 clear hg J;go_enter func225,ntmps225;go_upto_region 1 with fail;have X:Hid (Below w.heap.size w (w.alloc (.cells #[.int .i64 3,.int .i64 D,.string q,.string z,.int .i64 l,.int .i64 r] 100))):=(Below.refl _ _).alloc (Nat.le_refl _) _;refine zy (R:=fun W=>W.heap[w.heap.size]? =some (.cells #[.int .i64 3,.int .i64 D,.string q,.string z,.int .i64 l,.int .i64 r] 100 (0,0))/\PP c t W/\Below c.B w W/\KeepB c.b w W) ⟨heap_alloc_new w _,L.o.later X.o,X.o.mono L.o.1.2,KeepB.of_below X.o⟩ ?_;obtain⟨gx,H⟩: ∃gx,gx=w.heap.size:=⟨_,rfl⟩;have ae:gx≠c.b:=by
  rw[H];obtain⟨af,hc⟩:=zch L.o.1.1;have:=(aLt hc);omega
 rw[<-H];rintro w1 ⟨J,I,U,V⟩;clear H X K M x1 Y O N Z p0 p1 p2 p3 p4 p5 pf ab;have X1:=zc J;have E:=zc I;have ac:=zc U;have aa:=zc V;clear J I U V;obtain⟨M,x1,Y,O,N,Z,xf⟩:=zw X1.o;obtain⟨p0,p1,p2,p3,p4,p5,pf⟩:=zw E.o.2.2.1;have K:=(aLt E.o.2.2.1);have ad:=(aLt X1.o);go_wp2_with fail;go_region_with (go_at_call 171;refine (zc1 c t [q,cParens] w1 E.o (by have:=HL.o;rw[HT.o] at this;simp only[zt,List.foldl_cons,List.foldl_nil,ByteArray.size_append] at this ⊢;omega) (by simp)).mono ?_;rintro e w2 ⟨rfl,I,U,V⟩)
 all_goals (go_wp2;go_end0;exact⟨rfl,(by rw[HT.o];simp only[zt,List.foldl_cons,List.foldl_nil,<-ByteArray.append_assoc] at I ⊢;exact I),ac.o.trans U,aa.o.trans V⟩)
theorem zsT (c:PC) (t:BA) (i:Nat) (D:Int) (z q:BA) (l r:Int) (w:World) (h:PP c t w) (hi:i<c.m.ex.length) (J:c.m.ex.getD i zh=⟨4,D,z,q,l,r⟩) (A:(t++(z++cPoint++q)).size<=140737488355328):
  Calls prog 225 #[.pointer (some ⟨c.gp,0,none⟩),.int .i64 (i:Int)] w (PO c (t++(z++cPoint++q)) w):=by
 have L:=zc h;obtain⟨T,hT⟩: ∃T,T=z++cPoint++q:=⟨_,rfl⟩;rw[<-hT] at A ⊢;have HT:=zc hT;have HL:=zc A;clear h A hT;obtain⟨p0,p1,p2,p3,p4,p5,pf⟩:=zw L.o.2.2.1;obtain⟨g,hg,K,M,x1,Y,O,N,Z⟩:=L.o.2.1.expr hi;rw[J] at M x1 Y O N Z;dsimp only at M x1 Y O N Z;rw[hg] at p4;have ab:(i:Int)<(c.m.ex.length:Int):=by omega
 clear hg J;go_enter func225,ntmps225;go_upto_region 1 with fail;have X:Hid (Below w.heap.size w (w.alloc (.cells #[.int .i64 4,.int .i64 D,.string z,.string q,.int .i64 l,.int .i64 r] 100))):=(Below.refl _ _).alloc (Nat.le_refl _) _;refine zy (R:=fun W=>W.heap[w.heap.size]? =some (.cells #[.int .i64 4,.int .i64 D,.string z,.string q,.int .i64 l,.int .i64 r] 100 (0,0))/\PP c t W/\Below c.B w W/\KeepB c.b w W) ⟨heap_alloc_new w _,L.o.later X.o,X.o.mono L.o.1.2,KeepB.of_below X.o⟩ ?_;obtain⟨gx,H⟩: ∃gx,gx=w.heap.size:=⟨_,rfl⟩;have ae:gx≠c.b:=by
  rw[H];obtain⟨af,hc⟩:=zch L.o.1.1;have:=(aLt hc);omega
 rw[<-H];rintro w1 ⟨J,I,U,V⟩;clear H X K M x1 Y O N Z p0 p1 p2 p3 p4 p5 pf ab;have X1:=zc J;have E:=zc I;have ac:=zc U;have aa:=zc V;clear J I U V;obtain⟨M,x1,Y,O,N,Z,xf⟩:=zw X1.o;obtain⟨p0,p1,p2,p3,p4,p5,pf⟩:=zw E.o.2.2.1;have K:=(aLt E.o.2.2.1);have ad:=(aLt X1.o);go_wp2_with fail;go_region_with (go_at_call 171;refine (zc1 c t [z,cPoint,q] w1 E.o (by have:=HL.o;rw[HT.o] at this;simp only[zt,List.foldl_cons,List.foldl_nil,ByteArray.size_append] at this ⊢;omega) (by simp)).mono ?_;rintro e w2 ⟨rfl,I,U,V⟩)
 all_goals (go_wp2;go_end0;exact⟨rfl,(by rw[HT.o];simp only[zt,List.foldl_cons,List.foldl_nil,<-ByteArray.append_assoc] at I ⊢;exact I),ac.o.trans U,aa.o.trans V⟩)
theorem zsU (c:PC) (t:BA) (i:Nat) (D:Int) (z q:BA) (l r:Int) (w:World) (h:PP c t w) (hi:i<c.m.ex.length) (J:c.m.ex.getD i zh=⟨5,D,z,q,l,r⟩) (A:(t++(z++cPoint++q++cParens)).size<=140737488355328):
  Calls prog 225 #[.pointer (some ⟨c.gp,0,none⟩),.int .i64 (i:Int)] w (PO c (t++(z++cPoint++q++cParens)) w):=by
 have L:=zc h;obtain⟨T,hT⟩: ∃T,T=z++cPoint++q++cParens:=⟨_,rfl⟩;rw[<-hT] at A ⊢;have HT:=zc hT;have HL:=zc A;clear h A hT;obtain⟨p0,p1,p2,p3,p4,p5,pf⟩:=zw L.o.2.2.1;obtain⟨g,hg,K,M,x1,Y,O,N,Z⟩:=L.o.2.1.expr hi;rw[J] at M x1 Y O N Z;dsimp only at M x1 Y O N Z;rw[hg] at p4;have ab:(i:Int)<(c.m.ex.length:Int):=by omega
 clear hg J;go_enter func225,ntmps225;go_upto_region 1 with fail;have X:Hid (Below w.heap.size w (w.alloc (.cells #[.int .i64 5,.int .i64 D,.string z,.string q,.int .i64 l,.int .i64 r] 100))):=(Below.refl _ _).alloc (Nat.le_refl _) _;refine zy (R:=fun W=>W.heap[w.heap.size]? =some (.cells #[.int .i64 5,.int .i64 D,.string z,.string q,.int .i64 l,.int .i64 r] 100 (0,0))/\PP c t W/\Below c.B w W/\KeepB c.b w W) ⟨heap_alloc_new w _,L.o.later X.o,X.o.mono L.o.1.2,KeepB.of_below X.o⟩ ?_;obtain⟨gx,H⟩: ∃gx,gx=w.heap.size:=⟨_,rfl⟩;have ae:gx≠c.b:=by
  rw[H];obtain⟨af,hc⟩:=zch L.o.1.1;have:=(aLt hc);omega
 rw[<-H];rintro w1 ⟨J,I,U,V⟩;clear H X K M x1 Y O N Z p0 p1 p2 p3 p4 p5 pf ab;have X1:=zc J;have E:=zc I;have ac:=zc U;have aa:=zc V;clear J I U V;obtain⟨M,x1,Y,O,N,Z,xf⟩:=zw X1.o;obtain⟨p0,p1,p2,p3,p4,p5,pf⟩:=zw E.o.2.2.1;have K:=(aLt E.o.2.2.1);have ad:=(aLt X1.o);go_wp2_with fail;go_region_with (go_at_call 171;refine (zc1 c t [z,cPoint,q,cParens] w1 E.o (by have:=HL.o;rw[HT.o] at this;simp only[zt,List.foldl_cons,List.foldl_nil,ByteArray.size_append] at this ⊢;omega) (by simp)).mono ?_;rintro e w2 ⟨rfl,I,U,V⟩)
 all_goals (go_wp2;go_end0;exact⟨rfl,(by rw[HT.o];simp only[zt,List.foldl_cons,List.foldl_nil,<-ByteArray.append_assoc] at I ⊢;exact I),ac.o.trans U,aa.o.trans V⟩)
theorem zsV (c:PC) (t:BA) (i:Nat) (D:Int) (z q:BA) (l r:Nat) (w:World) (h:PP c t w) (hi:i<c.m.ex.length) (J:c.m.ex.getD i zh=⟨6,D,z,q,(l:Int),(r:Int)⟩) (ae:zc4 c l) (ac:zc4 c r) (hr:r<c.m.ex.length) (A:(t++(prX c.m.ex l++tPlus++zH (zP (c.m.ex.getD r zh).kind) (prX c.m.ex r))).size<=140737488355328):
  Calls prog 225 #[.pointer (some ⟨c.gp,0,none⟩),.int .i64 (i:Int)] w (PO c (t++(prX c.m.ex l++tPlus++zH (zP (c.m.ex.getD r zh).kind) (prX c.m.ex r))) w):=by
 have L:=zc h;obtain⟨T,hT⟩: ∃T,T=prX c.m.ex l++tPlus++zH (zP (c.m.ex.getD r zh).kind) (prX c.m.ex r):=⟨_,rfl⟩;rw[<-hT] at A ⊢;have HT:=zc hT;have HL:=zc A;clear h A hT;obtain⟨p0,p1,p2,p3,p4,p5,pf⟩:=zw L.o.2.2.1;obtain⟨g,hg,K,M,x1,Y,O,N,Z⟩:=L.o.2.1.expr hi;rw[J] at M x1 Y O N Z;dsimp only at M x1 Y O N Z;rw[hg] at p4;have ab:(i:Int)<(c.m.ex.length:Int):=by omega
 clear hg J;go_enter func225,ntmps225;go_upto_region 1 with fail;have X:Hid (Below w.heap.size w (w.alloc (.cells #[.int .i64 6,.int .i64 D,.string z,.string q,.int .i64 (l:Int),.int .i64 (r:Int)] 100))):=(Below.refl _ _).alloc (Nat.le_refl _) _;refine zy (R:=fun W=>W.heap[w.heap.size]? =some (.cells #[.int .i64 6,.int .i64 D,.string z,.string q,.int .i64 (l:Int),.int .i64 (r:Int)] 100 (0,0))/\PP c t W/\Below c.B w W/\KeepB c.b w W) ⟨heap_alloc_new w _,L.o.later X.o,X.o.mono L.o.1.2,KeepB.of_below X.o⟩ ?_;obtain⟨gx,H⟩: ∃gx,gx=w.heap.size:=⟨_,rfl⟩;have ah:gx≠c.b:=by
  rw[H];obtain⟨ai,hc⟩:=zch L.o.1.1;have:=(aLt hc);omega
 rw[<-H];rintro w1 ⟨J,I,U,V⟩;clear H X K M x1 Y O N Z p0 p1 p2 p3 p4 p5 pf ab;have X1:=zc J;have E:=zc I;have ad:=zc U;have aa:=zc V;clear J I U V;obtain⟨M,x1,Y,O,N,Z,xf⟩:=zw X1.o;obtain⟨p0,p1,p2,p3,p4,p5,pf⟩:=zw E.o.2.2.1;have K:=(aLt E.o.2.2.1);have ag:=(aLt X1.o);go_wp2_with fail;refine (zlC c t 6 D z q tPlus l r w1 ae ac hr E.o (by rw[<-HT.o];exact HL.o)).mono ?_;rw[<-HT.o];rintro e w2 ⟨rfl,I,U,V⟩;have af:=zc I;clear I;go_wp2;go_end0;exact⟨rfl,af.o,ad.o.trans U,aa.o.trans V⟩
theorem zsW (c:PC) (t:BA) (i:Nat) (D:Int) (z q:BA) (l r:Nat) (w:World) (h:PP c t w) (hi:i<c.m.ex.length) (J:c.m.ex.getD i zh=⟨7,D,z,q,(l:Int),(r:Int)⟩) (ae:zc4 c l) (ac:zc4 c r) (hr:r<c.m.ex.length) (A:(t++(prX c.m.ex l++tMinus++zH (zP (c.m.ex.getD r zh).kind) (prX c.m.ex r))).size<=140737488355328):
  Calls prog 225 #[.pointer (some ⟨c.gp,0,none⟩),.int .i64 (i:Int)] w (PO c (t++(prX c.m.ex l++tMinus++zH (zP (c.m.ex.getD r zh).kind) (prX c.m.ex r))) w):=by
 have L:=zc h;obtain⟨T,hT⟩: ∃T,T=prX c.m.ex l++tMinus++zH (zP (c.m.ex.getD r zh).kind) (prX c.m.ex r):=⟨_,rfl⟩;rw[<-hT] at A ⊢;have HT:=zc hT;have HL:=zc A;clear h A hT;obtain⟨p0,p1,p2,p3,p4,p5,pf⟩:=zw L.o.2.2.1;obtain⟨g,hg,K,M,x1,Y,O,N,Z⟩:=L.o.2.1.expr hi;rw[J] at M x1 Y O N Z;dsimp only at M x1 Y O N Z;rw[hg] at p4;have ab:(i:Int)<(c.m.ex.length:Int):=by omega
 clear hg J;go_enter func225,ntmps225;go_upto_region 1 with fail;have X:Hid (Below w.heap.size w (w.alloc (.cells #[.int .i64 7,.int .i64 D,.string z,.string q,.int .i64 (l:Int),.int .i64 (r:Int)] 100))):=(Below.refl _ _).alloc (Nat.le_refl _) _;refine zy (R:=fun W=>W.heap[w.heap.size]? =some (.cells #[.int .i64 7,.int .i64 D,.string z,.string q,.int .i64 (l:Int),.int .i64 (r:Int)] 100 (0,0))/\PP c t W/\Below c.B w W/\KeepB c.b w W) ⟨heap_alloc_new w _,L.o.later X.o,X.o.mono L.o.1.2,KeepB.of_below X.o⟩ ?_;obtain⟨gx,H⟩: ∃gx,gx=w.heap.size:=⟨_,rfl⟩;have ah:gx≠c.b:=by
  rw[H];obtain⟨ai,hc⟩:=zch L.o.1.1;have:=(aLt hc);omega
 rw[<-H];rintro w1 ⟨J,I,U,V⟩;clear H X K M x1 Y O N Z p0 p1 p2 p3 p4 p5 pf ab;have X1:=zc J;have E:=zc I;have ad:=zc U;have aa:=zc V;clear J I U V;obtain⟨M,x1,Y,O,N,Z,xf⟩:=zw X1.o;obtain⟨p0,p1,p2,p3,p4,p5,pf⟩:=zw E.o.2.2.1;have K:=(aLt E.o.2.2.1);have ag:=(aLt X1.o);go_wp2_with fail;refine (zlC c t 7 D z q tMinus l r w1 ae ac hr E.o (by rw[<-HT.o];exact HL.o)).mono ?_;rw[<-HT.o];rintro e w2 ⟨rfl,I,U,V⟩;have af:=zc I;clear I;go_wp2;go_end0;exact⟨rfl,af.o,ad.o.trans U,aa.o.trans V⟩
theorem zsX (c:PC) (t:BA) (i:Nat) (ac:Int) (H q:BA) (l r:Nat) (w:World) (h:PP c t w) (hi:i<c.m.ex.length) (hx:c.m.ex.getD i zh=⟨8,ac,H,q,(l:Int),(r:Int)⟩) (ah:zc4 c l) (ag:zc4 c r) (hl:l<c.m.ex.length) (hr:r<c.m.ex.length) (I:(t++(zH (zP (c.m.ex.getD l zh).kind) (prX c.m.ex l)++tStar++zH (zZ (c.m.ex.getD r zh).kind) (prX c.m.ex r))).size<=140737488355328):
  Calls prog 225 #[.pointer (some ⟨c.gp,0,none⟩),.int .i64 (i:Int)] w (PO c (t++(zH (zP (c.m.ex.getD l zh).kind) (prX c.m.ex l)++tStar++zH (zZ (c.m.ex.getD r zh).kind) (prX c.m.ex r))) w):=by
 have HP:=zc h;obtain⟨T,hT⟩: ∃T,T=zH (zP (c.m.ex.getD l zh).kind) (prX c.m.ex l)++tStar++zH (zZ (c.m.ex.getD r zh).kind) (prX c.m.ex r):=⟨_,rfl⟩;rw[<-hT] at I ⊢;have HT:=zc hT;have HL:=zc I;clear h I hT;obtain⟨p0,p1,p2,p3,p4,p5,pf⟩:=zw HP.o.2.2.1;obtain⟨g,hg,D,N,Z,X,V,U,Y⟩:=HP.o.2.1.expr hi;rw[hx] at N Z X V U Y;dsimp only at N Z X V U Y;rw[hg] at p4;have ao:(i:Int)<(c.m.ex.length:Int):=by omega
 clear hg hx;go_enter func225,ntmps225;go_upto_region 1 with fail;have HW:Hid (Below w.heap.size w (w.alloc (.cells #[.int .i64 8,.int .i64 ac,.string H,.string q,.int .i64 (l:Int),.int .i64 (r:Int)] 100))):=(Below.refl _ _).alloc (Nat.le_refl _) _;refine zy (R:=fun W=>W.heap[w.heap.size]? =some (.cells #[.int .i64 8,.int .i64 ac,.string H,.string q,.int .i64 (l:Int),.int .i64 (r:Int)] 100 (0,0))/\PP c t W/\Below c.B w W/\KeepB c.b w W) ⟨heap_alloc_new w _,HP.o.later HW.o,HW.o.mono HP.o.1.2,KeepB.of_below HW.o⟩ ?_;obtain⟨gx,ae⟩: ∃gx,gx=w.heap.size:=⟨_,rfl⟩;have af:gx≠c.b:=by
  rw[ae];obtain⟨au,hc⟩:=zch HP.o.1.1;have:=(aLt hc);omega
 rw[<-ae];rintro O ⟨hx,A,E,z⟩;clear ae HW D N Z X V U Y p0 p1 p2 p3 p4 p5 pf ao;have X1:=zc hx;have M:=zc A;have ap:=zc E;have am:=zc z;clear hx A E z;obtain⟨N,Z,X,V,U,Y,xf⟩:=zw X1.o;obtain⟨p0,p1,p2,p3,p4,p5,pf⟩:=zw M.o.2.2.1;have D:=(aLt M.o.2.2.1);have K:=(aLt X1.o);have aj:=zc ah;have ai:=zc ag;have HR:=zc hr;have ak:=zc hl;obtain⟨kk,ab⟩: ∃kk,(c.m.ex.getD r zh).kind=kk:=⟨_,rfl⟩;obtain⟨kl,aa⟩: ∃kl,(c.m.ex.getD l zh).kind=kl:=⟨_,rfl⟩;have HU:Hid (T=zH (zP kl) (prX c.m.ex l)++tStar++zH (zZ kk) (prX c.m.ex r)):=by show _=_;rw[<-ab,<-aa];exact HT.o
 have KK:=zc ab;have KL:=zc aa;clear ah ag hr hl ab aa HT;go_upto_region 17 with fail;go_cut [] from 82 to 90 (fun wx=>PP c (t++zH (zP kl) (prX c.m.ex l)) wx/\Below c.B O wx/\KeepB c.b O wx)
 case first=>
  go_wp2_with fail;have J:=zc (M.o.later ((Below.refl O.heap.size O).drew));go_region_with (first|(go_at_call 244;refine (zid c _ l _ J.o ak.o).mono ?_;rintro e w' ⟨rfl,rfl⟩;rw[KL.o])|(go_at_call 222;refine (zfF _ _).mono ?_;rintro e w' ⟨rfl,rfl⟩)|(go_at_call 243;refine (zgI c _ l (zP kl) _ aj.o J.o (by have:=HL.o;rw[HU.o] at this;simp only[ByteArray.size_append] at this ⊢;omega)).mono ?_;rintro e w2 ⟨rfl,A,E,z⟩))
  all_goals (go_wp2_with fail;go_meet;exact⟨A,(((Below.refl O.heap.size O).drew).mono M.o.1.2).trans E,(KeepB.of_below ((Below.refl O.heap.size O).drew)).trans z⟩)
 case rest=>
 obtain⟨A,E,z⟩:=hcut
 rename_i w2
 have ad:=zc A;have aq:=zc (ap.o.trans E);have an:=zc (am.o.trans z);have X2:=zc ((z _ _ _ _ X1.o af (by decide)).trans X1.o);clear A E z p0 p1 p2 p3 p4 p5 pf N Z X V U Y xf D K;obtain⟨N,Z,X,V,U,Y,xf⟩:=zw X2.o;obtain⟨p0,p1,p2,p3,p4,p5,pf⟩:=zw ad.o.2.2.1;have D:=(aLt ad.o.2.2.1);have K:=(aLt X2.o);go_wp2_with fail;refine (zbK c _ [tStar] _ ad.o (by have:=HL.o;rw[HU.o] at this;simp only[zt,List.foldl_cons,List.foldl_nil,ByteArray.size_append] at this ⊢;omega) (by simp)).mono ?_;rintro e w3 ⟨rfl,A,E,z⟩;have L:=zc A;have al:=zc (aq.o.trans E);have ar:=zc (an.o.trans z);have X3:=zc ((z _ _ _ _ X2.o af (by decide)).trans X2.o);clear A E z p0 p1 p2 p3 p4 p5 pf N Z X V U Y xf D K;obtain⟨N,Z,X,V,U,Y,xf⟩:=zw X3.o;obtain⟨p0,p1,p2,p3,p4,p5,pf⟩:=zw L.o.2.2.1;have D:=(aLt L.o.2.2.1);have K:=(aLt X3.o);go_wp2_with fail;have J:=zc (L.o.later ((Below.refl w3.heap.size w3).drew));go_region_with (first|(go_at_call 244;refine (zid c _ r _ J.o HR.o).mono ?_;rintro e w' ⟨rfl,rfl⟩;rw[KK.o])|(go_at_call 198;refine (zlj _ _).mono ?_;rintro e w' ⟨rfl,rfl⟩)|(go_at_call 243;refine (zgI c _ r (zZ kk) _ ai.o J.o (by have:=HL.o;rw[HU.o] at this;simp only[zt,List.foldl_cons,List.foldl_nil,ByteArray.size_append] at this ⊢;omega)).mono ?_;rintro e w4 ⟨rfl,A,E,z⟩))
 all_goals (go_wp2;go_end0;exact⟨rfl,(by rw[HU.o];simp only[zt,List.foldl_cons,List.foldl_nil,<-ByteArray.append_assoc] at A ⊢;exact A),al.o.trans ((((Below.refl w3.heap.size w3).drew).mono L.o.1.2).trans E),ar.o.trans ((KeepB.of_below ((Below.refl w3.heap.size w3).drew)).trans z)⟩)
theorem zsY (c:PC) (t:BA) (i:Nat) (k D:Int) (z q:BA) (l r:Int) (w:World) (h:PP c t w) (hi:i<c.m.ex.length) (J:c.m.ex.getD i zh=⟨k,D,z,q,l,r⟩) (k1:(k==1)=false) (k2:(k==2)=false) (k3:(k==3)=false) (k4:(k==4)=false) (k5:(k==5)=false) (k6:(k==6)=false) (k7:(k==7)=false) (k8:(k==8)=false) (A:(t++(sNone)).size<=140737488355328):
  Calls prog 225 #[.pointer (some ⟨c.gp,0,none⟩),.int .i64 (i:Int)] w (PO c (t++(sNone)) w):=by
 have K:=zc h;obtain⟨T,Z⟩: ∃T,T=sNone:=⟨_,rfl⟩;rw[<-Z] at A ⊢;have HT:=zc Z;have HL:=zc A;clear h A Z;obtain⟨p0,p1,p2,p3,Y,p5,pf⟩:=zw K.o.2.2.1;obtain⟨g,hg,I,L,X,U,N,M,V⟩:=K.o.2.1.expr hi;rw[J] at L X U N M V;dsimp only at L X U N M V;rw[hg] at Y;have ab:(i:Int)<(c.m.ex.length:Int):=by omega
 clear hg J;go_enter func225,ntmps225;go_upto_region 1 with fail;have O:Hid (Below w.heap.size w (w.alloc (.cells #[.int .i64 k,.int .i64 D,.string z,.string q,.int .i64 l,.int .i64 r] 100))):=(Below.refl _ _).alloc (Nat.le_refl _) _;refine zy (R:=fun W=>W.heap[w.heap.size]? =some (.cells #[.int .i64 k,.int .i64 D,.string z,.string q,.int .i64 l,.int .i64 r] 100 (0,0))/\PP c t W/\Below c.B w W/\KeepB c.b w W) ⟨heap_alloc_new w _,K.o.later O.o,O.o.mono K.o.1.2,KeepB.of_below O.o⟩ ?_;obtain⟨gx,H⟩: ∃gx,gx=w.heap.size:=⟨_,rfl⟩;have ae:gx≠c.b:=by
  rw[H];obtain⟨af,hc⟩:=zch K.o.1.1;have:=(aLt hc);omega
 rw[<-H];rintro w1 ⟨J,hp,hb,hk⟩;clear H O I L X U N M V p0 p1 p2 p3 Y p5 pf ab;have X1:=zc J;have E:=zc hp;have ac:=zc hb;have aa:=zc hk;clear J hp hb hk;obtain⟨L,X,U,N,M,V,xf⟩:=zw X1.o;obtain⟨p0,p1,p2,p3,Y,p5,pf⟩:=zw E.o.2.2.1;have I:=(aLt E.o.2.2.1);have ad:=(aLt X1.o);go_wp2;go_end0;exact⟨rfl,(by rw[HT.o,show t++sNone=t from ByteArray.append_empty];exact E.o),ac.o,aa.o⟩
theorem zsZ (c:PC) (hn:zaU c.m.ex) (ha:zb3 c.m.ex) (n:Nat): ∀i,i<n->i<c.m.ex.length->zc4 c i:=by
 induction n with
 |zero=>intro i H;omega
 |succ n ih=>
  intro i aa H t w h z;by_cases Z:i<n
  ·exact ih i Z H t w h z
  ·have K: ∀j,j<i->zc4 c j:=fun j hj=>ih j (by omega) (by omega);have J:=hn (c.m.ex.getD i zh) (by rw[zdV H];exact List.getElem_mem H);have E:=zfU ha (i:=i);rw[zhg ha] at z ⊢;obtain⟨x,I⟩: ∃x,c.m.ex.getD i zh=x:=⟨_,rfl⟩;rw[I] at z J E ⊢;obtain⟨k,D,A,q,l,r⟩:=x;simp only at z J E ⊢;by_cases L:(k==1)=true
   ·rw[if_pos L] at z ⊢;have e:=eq_of_beq L;subst e;exact zsQ c t i D A q l r w h H I J z
   rw[if_neg L] at z ⊢;by_cases X:(k==2)=true
   ·rw[if_pos X] at z ⊢;have e:=eq_of_beq X;subst e;exact zsR c t i D A q l r w h H I z
   rw[if_neg X] at z ⊢;by_cases O:(k==3)=true
   ·rw[if_pos O] at z ⊢;have e:=eq_of_beq O;subst e;exact zsS c t i D A q l r w h H I z
   rw[if_neg O] at z ⊢;by_cases Y:(k==4)=true
   ·rw[if_pos Y] at z ⊢;have e:=eq_of_beq Y;subst e;exact zsT c t i D A q l r w h H I z
   rw[if_neg Y] at z ⊢;by_cases U:(k==5)=true
   ·rw[if_pos U] at z ⊢;have e:=eq_of_beq U;subst e;exact zsU c t i D A q l r w h H I z
   rw[if_neg U] at z ⊢;by_cases V:(k==6)=true
   ·rw[if_pos V] at z ⊢;have e:=eq_of_beq V;subst e;have E:=E (by decide);obtain⟨l,rfl⟩: ∃n:Nat,l=(n:Int):=⟨l.toNat,by omega⟩;obtain⟨r,rfl⟩: ∃n:Nat,r=(n:Int):=⟨r.toNat,by omega⟩;simp only[Int.toNat_natCast] at z ⊢;exact zsV c t i D A q l r w h H I (K l (by omega)) (K r (by omega)) (by omega) z
   rw[if_neg V] at z ⊢;by_cases N:(k==7)=true
   ·rw[if_pos N] at z ⊢;have e:=eq_of_beq N;subst e;have E:=E (by decide);obtain⟨l,rfl⟩: ∃n:Nat,l=(n:Int):=⟨l.toNat,by omega⟩;obtain⟨r,rfl⟩: ∃n:Nat,r=(n:Int):=⟨r.toNat,by omega⟩;simp only[Int.toNat_natCast] at z ⊢;exact zsW c t i D A q l r w h H I (K l (by omega)) (K r (by omega)) (by omega) z
   rw[if_neg N] at z ⊢;by_cases M:(k==8)=true
   ·rw[if_pos M] at z ⊢;have e:=eq_of_beq M;subst e;have E:=E (by decide);obtain⟨l,rfl⟩: ∃n:Nat,l=(n:Int):=⟨l.toNat,by omega⟩;obtain⟨r,rfl⟩: ∃n:Nat,r=(n:Int):=⟨r.toNat,by omega⟩;simp only[Int.toNat_natCast] at z ⊢;exact zsX c t i D A q l r w h H I (K l (by omega)) (K r (by omega)) (by omega) (by omega) z
   rw[if_neg M] at z ⊢;exact zsY c t i k D A q l r w h H I (Bool.eq_false_iff.2 L) (Bool.eq_false_iff.2 X) (Bool.eq_false_iff.2 O) (Bool.eq_false_iff.2 Y) (Bool.eq_false_iff.2 U) (Bool.eq_false_iff.2 V) (Bool.eq_false_iff.2 N) (Bool.eq_false_iff.2 M) z
theorem zta (base:Nat) (S:Sv) (m:Md) (aa:Bool) (w:World) (h:OwnMd w base S m) (hm:Small m) (M:Tree m->(zbI m).size<=140737488355328):
  Calls prog 136 #[zl S m,.bool aa] w fun e w'=>PrintOut (zbI m) m e/\Below w.heap.size w w':=by
 have HH:=zc h;have SM:=zc hm;have HU:=zc M;obtain⟨f1,f2,f3,f4,f5⟩:=hm.few;clear h hm M;unfold zl;go_enter func136,ntmps136;go_wp2_with fail;refine (zsz base S m _ (HH.o.alloc _) f5 f4).mono ?_;rintro e z ⟨⟨b,rfl,J⟩,D⟩;have HT:=zc J;have q:Hid (Below w.heap.size w z):=((Below.refl _ _).alloc (Nat.le_refl _) _).trans (D.mono (by rw[zg];omega));have H:Hid (z.heap[w.heap.size]? =some (.cells #[.slice S.rq.a m.rq.length S.rq.cap,.slice S.im.a m.im.length S.im.cap,.slice S.ep.a m.ep.length S.ep.cap,.slice S.st.a m.st.length S.st.cap,.slice S.ex.a m.ex.length S.ex.cap] 54 (0,0))):=(D.block _ (by rw[zg];omega)).trans (heap_alloc_new w _);have N:=zc (HH.o.later q.o);clear J D;cases b with
 |false=>
  go_wp2;go_ret;exact⟨.inr ⟨(fun t=>by have:=HT.o.2 t;cases this),rfl⟩,q.o⟩
 |true=>
  have V:=zc (HT.o.1 rfl);have HZ:=zc (HU.o V.o);go_upto_region 4 with fail;have A:Hid (Below z.heap.size z (z.alloc (.cells #[.pointer none,.slice none 0 0] 175))):=(Below.refl _ _).alloc (Nat.le_refl _) _;have hz:=(aLt H.o);refine zy (R:=fun W=>(Lib.IsBuilder 175 5 z.heap.size z.heap.size [] W/\z.heap.size<=W.heap.size)/\OwnMd W base S m/\W.heap[w.heap.size]? =some (.cells #[.slice S.rq.a m.rq.length S.rq.cap,.slice S.im.a m.im.length S.im.cap,.slice S.ep.a m.ep.length S.ep.cap,.slice S.st.a m.st.length S.st.cap,.slice S.ex.a m.ex.length S.ex.cap] 54 (0,0))/\Below w.heap.size w W) ⟨⟨Lib.fresh_isBuilder _ _ z,A.o.size⟩,N.o.later A.o,(A.o.block _ hz).trans H.o,q.o.trans (A.o.mono q.o.size)⟩ ?_;obtain⟨b,E⟩: ∃b,b=z.heap.size:=⟨_,rfl⟩;have K:w.heap.size<=b:=by rw[E];exact q.o.size
  rw[<-E];rintro W ⟨⟨I,X⟩,ho,hx,J⟩;clear hz A H N q HH E z;have BL:=zc I;have HO:=zc ho;have HX:=zc hx;have HB:=zc J;clear I ho hx J;obtain⟨c0,c1,c2,c3,c4,cf⟩:=zj HX.o;go_upto_region 6 with fail;have A:Hid (Below W.heap.size W (W.alloc (.cells #[.slice S.rq.a m.rq.length S.rq.cap,.slice S.im.a m.im.length S.im.cap,.slice S.ep.a m.ep.length S.ep.cap,.slice S.st.a m.st.length S.st.cap,.slice S.ex.a m.ex.length S.ex.cap,.func (.func 171) #[] #[.pointer (some ⟨b,0,none⟩)]] 215))):=(Below.refl _ _).alloc (Nat.le_refl _) _;have ad:Hid (PP ⟨b,b,W.heap.size,base,S,m⟩ sNone (W.alloc (.cells #[.slice S.rq.a m.rq.length S.rq.cap,.slice S.im.a m.im.length S.im.cap,.slice S.ep.a m.ep.length S.ep.cap,.slice S.st.a m.st.length S.st.cap,.slice S.ex.a m.ex.length S.ex.cap,.func (.func 171) #[] #[.pointer (some ⟨b,0,none⟩)]] 215))):=by
   refine⟨⟨zlr BL.o A.o,Nat.le_trans X A.o.size⟩,HO.o.later A.o,heap_alloc_new W _,?_⟩;obtain⟨ae,hc⟩:=zch BL.o;have:=(aLt hc);show W.heap.size≠b;omega
  have Y:=zc (HB.o.trans (A.o.mono HB.o.size));go_wp2_with fail;refine (zsP ⟨b,b,W.heap.size,base,S,m⟩ _ (fun i hi=>zsZ _ SM.o.nums V.o.ahead _ i hi hi) V.o.stm SM.o ad.o HZ.o).mono ?_;rintro e w3 ⟨rfl,hp,U,ab⟩;have L:=zc hp;have Z:=zc (Y.o.trans (U.mono K));clear hp U ab c0 c1 c2 c3 c4 cf;go_wp2_with fail;refine (Tryz.Builder_String_any b b (zbI m).data.toList w3 L.o.1.1 L.o.1.2).mono ?_;rintro e w4 ⟨rfl,O⟩;have ac:=zc (Z.o.trans (O.mono K));clear O;go_wp2;go_ret;exact⟨.inl ⟨V.o,rfl⟩,ac.o⟩
theorem zie {C:Cx} {w:Bool} {q:PS} {x:PS×Ep} (h:zb8 C w q= .ok x):q.pos<x.1.pos:=by
 obtain⟨a,E,A⟩:=zn h;obtain⟨b,H,D⟩:=zn A;have z:=zfl H;rw[(zb1 E).1] at z;cases D;exact z
def zlD (C:Cx) (gt cap base gp:Nat) (t:TypeId) (size:Nat) (f:Ep->List Value) (y:PRL) (S:Sv) (w:World) (e:Ending) (w':World):Prop:=
 match y with
 | .ok a=>∃r S',e= .returned (.slice r.a a.2.length r.cap)/\IM C gt cap base gp S' a.1 w'/\IS gp S w S' w'/\Fr t size w' w.heap.size r a.2.length (a.2.flatMap f) S'/\0<a.2.length/\a.2.length<=4000
 | .error p=>e=Pan p/\Below base w w'
theorem zlE {C:Cx} {E z base A:Nat} {S:Sv} {q:PS} {w:World} (h:IM C E z base A S q w) (t:TypeId) (size:Nat):Fr t size (w.alloc (.cells #[] t)) w.heap.size ⟨some ⟨w.heap.size,0,none⟩,0⟩ 0 [] S:=by
 refine⟨World.ownsRow_lit w #[] 0 (Nat.le_refl _) (by unfold maxLen;omega) (Nat.zero_mul _).symm,fun k g D=>?_⟩;have H:w.heap.size=k:=by simpa [Rw.blk,Value.ownBlock] using g
 have:=(h.mem.own.has D).2;omega
theorem ztb (C:Cx) (U A base H:Nat) (S:Sv) (q:PS) (w:World) (h:IM C U A base H S q w):
  Calls prog 231 #[.pointer (some ⟨H,0,none⟩)] w (zlD C U A base H 95 3 (fun e=>imL (zbe e)) (za2 C false q []) S w):=by
 obtain⟨i0,hi,an,ap,ar⟩:=info_parts Tryz.infoImp;go_enter func231,ntmps231;go_wp2;go_loopg [3] (C.ts.length+1) (fun k v wr=>∃(S':Sv) (V:PS) (r:Rw) (l:List Ep),v= .slice r.a l.length r.cap/\za2 C false q []=za2 C false V l/\C.ts.length-V.pos<k/\l.length+(C.ts.length-V.pos)<=C.ts.length/\IM C U A base H S' V wr/\IS H S w S' wr/\Fr 95 3 wr w.heap.size r l.length (l.flatMap (fun e=>imL (zbe e))) S')
 case atStart=>exact⟨S,q,⟨some ⟨w.heap.size,0,none⟩,0⟩,[],rfl,rfl,by omega,by simp,h.alloc _,(IS.refl _ _ _).alloc _,zlE h _ _⟩
 case round=>
  obtain⟨S',V,r,l,rfl,hy,hk,hl,m',s',f'⟩:=hrel;have HY:=zc hy;have HZ:=zc (HY.o.trans (zkq C false V l));have ac:=m';have al:=s';have aq:Hid (Fr 95 3 wr w.heap.size r l.length (l.flatMap (fun e=>imL (zbe e))) S'):=f';have aw:=m'.mem.few;clear hy m' s' f';go_wp2_with fail;refine (zqq C U A base H S' V _ ac).mono ?_;cases Y:zb8 C false V with
  |error p=>
   rintro e X ⟨rfl,hb⟩;have HB:=(h.back al).trans hb;have HX:Hid (za2 C false q []= .error p):=bdE HZ.o Y;unfold Pan;go_wp2;refine⟨rfl,?_⟩;rw[HX.o];exact⟨rfl,HB⟩
  |ok z=>
   rintro e X ⟨rfl,I,m,s⟩;have E:Hid (Fr 95 3 X w.heap.size r l.length (l.flatMap (fun e=>imL (zbe e))) I):=aq.o.step ac (by decide) s;have K:=zc m;have af:Hid (IS H S w I X):=al.trans s;clear m s;have ah:=zc (bdO HZ.o Y);have az:=zie Y;have ay:=K.o.mem.inv.pos;unfold imV;have N:=fun o1=>(E.o.later ((Below.refl X.heap.size X).alloc (Nat.le_refl _) o1)).1;have ai:=fun o1=>(af.o.alloc o1).size;go_wp2_with (at_builtin;refine zba _ rfl _ _ 49 rfl w.heap.size 95 i0 _ 3 48 underlying49 hi an ap ar rfl (by decide) (by decide) r l.length _ (by rfl) (N _) X.heap.size (imL (zbe z.2)) (by rfl) (by exact heap_alloc_new X _) rfl (zju _) (by omega) (ai _) ?_;intro O w2 hr aa ae;have HR:Hid (OwnR w2 w.heap.size 95 3 O (l.length+1) _):=hr;have L:Hid (IM C U A base H I z.1 w2):=(K.o.alloc _).aside aa (fun k g=>⟨E.o.2 k g,E.o.ngp K.o (by decide) g,E.o.ngt K.o (by decide) g⟩);have ag:Hid (IS H S w I w2):=(af.o.alloc _).aside aa (fun k g=>(E.o.1.typed g).1);have aj:Hid (Fr 95 3 w2 w.heap.size O (l.length+1) _ I):=(E.o.later ((Below.refl _ _).alloc (Nat.le_refl _) _)).grown (K.o.alloc _) hr ae;clear hr aa ae N ai);have el:(l++[z.2]).length=l.length+1:=by simp
   have ak:Hid (Fr 95 3 w2 w.heap.size O (l++[z.2]).length ((l++[z.2]).flatMap (fun e=>imL (zbe e))) I):=by
    show Fr ..;rw[el,List.flatMap_append]
    simpa using aj.o
   have J:=zc el;clear el aj HR;go_wp2_with fail;cases hc:isT C z.1.pos 4 zbD with
   |true=>
    have ax:=za7 hc (by decide);have HC:=zc (ah.o.trans (if_pos hc));refine (zN C U A base H I (z.1) 4 zbD _ L.o (by decide)).mono ?_;rintro e w3 ⟨rfl,D,s⟩;rw[hc] at D ⊢;have M:=ag.o.trans s;have ad:=s;clear s;have Z:Hid (Fr 95 3 w3 w.heap.size O (l++[z.2]).length ((l++[z.2]).flatMap (fun e=>imL (zbe e))) I):=ak.o.step L.o (by decide) ad;clear ad;go_wp2;go_roundg (gk-1)
    case rel=>exact⟨I,adv z.1,O,l++[z.2],by rw[J.o],HC.o,by rw[zz];omega,by rw[zz,J.o];omega,D,M,Z.o⟩
    case measure=>omega
   |false=>
    have HC:=zc (ah.o.trans (if_neg (by rw[hc];decide)));refine (zN C U A base H I (z.1) 4 zbD _ L.o (by decide)).mono ?_;rintro e w3 ⟨rfl,D,s⟩;rw[hc] at D ⊢;have M:=ag.o.trans s;have Z:Hid (Fr 95 3 w3 w.heap.size O (l++[z.2]).length ((l++[z.2]).flatMap (fun e=>imL (zbe e))) I):=ak.o.step L.o (by decide) s;clear s;go_wp2_with fail;refine (zcy C U A base H I z.1 125 _ D).mono ?_;cases ab:zd C 4 zb0 z.1 with
    |error p=>
     rintro e w4 ⟨rfl,hb⟩;have HB:=(h.back M).trans hb;have HX:Hid (za2 C false q []= .error p):=bdE HC.o ab;unfold Pan;go_wp2;refine⟨rfl,?_⟩;rw[HX.o];exact⟨rfl,HB⟩
    |ok a4=>
     rintro e w4 ⟨rfl,S4,ao,s⟩;have av:Hid (Fr 95 3 w4 w.heap.size O (l++[z.2]).length ((l++[z.2]).flatMap (fun e=>imL (zbe e))) S4):=Z.o.step D (by decide) s;have am:=M.trans s;clear s;have au:=zc (bdO HC.o ab);go_wp2;go_ret;rw[au.o];exact⟨O,S4,by rw[J.o];rfl,ao,am,av.o,by show 0<(l++[z.2]).length;rw[J.o];omega,by show (l++[z.2]).length<=4000;rw[J.o];omega⟩
def impFromI (C:Cx) (l:List Ep) (q:PS):PR:=bd (zd C 1 zV q) fun a=>bd (zK C a) fun b=>bd (zd C 4 cSemi b.1) fun c=>zY (fun e=>zal C (zcb b.2 e)) l (.ok c)
theorem zgK {α:Type} (f:α->PS->PR) (p:Nat): ∀l:List α,zY f l (.error p)= .error p
 |[]=>rfl
 |_::l=>zgK f p l
theorem zif {α:Type} (f:α->PS->PR) {l:List α} {j:Nat} {x:α} (h:l[j]? =some x) (q:PS):zY f (l.drop j) (.ok q)=zY f (l.drop (j+1)) (f x q):=by
 obtain⟨w,rfl⟩:=List.getElem?_eq_some_iff.1 h;rw[List.drop_eq_getElem_cons w];rfl
theorem ztc {C:Cx} {x:Im} {q a:PS} (h:zal C x q= .ok a):a.pos=q.pos:=by
 unfold zal at h
 split at h
 ·cases h
 ·cases h;rfl
theorem zlF {C:Cx} {x:Ep} {q a:PS} (h:zp C x q= .ok a):a.pos=q.pos:=by
 unfold zp at h
 split at h
 ·cases h
 ·split at h
  ·cases h;rfl
  ·cases h;rfl
theorem zfG {α:Type} {l:List α} {j:Nat} (h:j<l.length): ∃x,l[j]? =some x:=⟨_,List.getElem?_eq_getElem h⟩
theorem ztd (C:Cx) (M z base A b0 g:Nat) (r:Rw) (S:Sv) (q:PS) (l:List Ep) (w:World) (h:IM C M z base A S q w) (hC:zbo C) (hl:l.length<=4000) (hf:Fr 95 3 w b0 r l.length (l.flatMap (fun e=>imL (zbe e))) S) (hg:r.a=some ⟨g,0,none⟩):
  Calls prog 230 #[.pointer (some ⟨A,0,none⟩),.slice (some ⟨g,0,none⟩) l.length r.cap] w (zT C M z base A (impFromI C l q) id (fun _=>.tuple #[]) S w):=by
 have HF:=zc hf;have HG:=zc hg;have HY:=zc (impFromI.eq_1 C l q);clear hf hg;go_enter func230,ntmps230;go_wp2_with fail;refine (zeB C M z base A S q zV _ h).mono ?_;cases Z:zd C 1 zV q with
 |error p=>
  rintro e w1 ⟨rfl,I⟩;have U:Below base w w1:=(h.back (IS.refl _ _ _)).trans I;have X:Hid (impFromI C l q= .error p):=bdE HY.o Z;unfold Pan;go_wp2;refine⟨rfl,?_⟩;rw[X.o];exact⟨rfl,U⟩
 |ok a1=>
  rintro e w1 ⟨rfl,S1,ak,J⟩;have am:Hid (Fr 95 3 w1 b0 r l.length (l.flatMap (fun e=>imL (zbe e))) S1):=HF.o.step h (by decide) J;have ag:=zc (bdO HY.o Z);go_wp2_with fail;refine (zgk C M z base A S1 a1 _ ak hC).mono ?_;cases aj:zK C a1 with
  |error p=>
   rintro e w2 ⟨rfl,I⟩;have U:=(h.back J).trans I;have X:Hid (impFromI C l q= .error p):=bdE ag.o aj;unfold Pan;go_wp2;refine⟨rfl,?_⟩;rw[X.o];exact⟨rfl,U⟩
  |ok a2=>
   rintro e w2 ⟨rfl,S2,ah,s⟩;have ax:Hid (Fr 95 3 w2 b0 r l.length (l.flatMap (fun e=>imL (zbe e))) S2):=am.o.step ak (by decide) s;have ac:=J.trans s;clear s;have ai:=zc (bdO ag.o aj);go_wp2_with fail;refine (zcy C M z base A S2 a2.1 59 _ ah).mono ?_;cases L:zd C 4 cSemi (a2.1) with
   |error p=>
    rintro e w3 ⟨rfl,I⟩;have U:=(h.back ac).trans I;have X:Hid (impFromI C l q= .error p):=bdE ai.o L;unfold Pan;go_wp2;refine⟨rfl,?_⟩;rw[X.o];exact⟨rfl,U⟩
   |ok a3=>
    rintro e w3 ⟨rfl,S3,aw,s⟩;have ay:Hid (Fr 95 3 w3 b0 r l.length (l.flatMap (fun e=>imL (zbe e))) S3):=ax.o.step ah (by decide) s;have aq:=ac.trans s;clear s;have ap:=zc (bdO ai.o L);have ad:0<a3.pos:=by rw[(zbS L).1];exact Nat.succ_pos _
    generalize az:a2.2=sp at*;clear az;go_wp2;go_loopg [15] l.length (fun k i wr=>∃(j:Nat) (N:Sv) (H:PS),i= .int .i64 j/\j+k=l.length/\impFromI C l q=zY (fun e=>zal C (zcb sp e)) (l.drop j) (.ok H)/\0<H.pos/\IM C M z base A N H wr/\IS A S w N wr/\Fr 95 3 wr b0 r l.length (l.flatMap (fun e=>imL (zbe e))) N)
    case atStart=>exact⟨0,S3,a3,rfl,by omega,ap.o,ad,aw,aq,ay.o⟩
    case round=>
     obtain⟨j,N,H,rfl,hj,hy,aa,m',s',f'⟩:=hrel;have ae:=zc hy;have D:=m';have O:=s';have V:Hid (Fr 95 3 wr b0 r l.length (l.flatMap (fun e=>imL (zbe e))) N):=f';clear hy m' s' f';by_cases an:j<l.length
     ·have af:(j:Int)<(l.length:Int):=by omega
      obtain⟨x,hx⟩:=zfG an;obtain⟨g',ab,E⟩:=OwnR.elem (f:=fun e=>imL (zbe e)) (m:=3) (fun _=>rfl) V.o.1 hx;have eg:g'=g:=by have:=ab.symm.trans HG.o;simpa using this
      subst eg;have k0:=E 0 (by omega);have k1:=E 1 (by omega);have k2:=E 2 (by omega);simp only[imL,zbe,Nat.add_zero,List.getElem?_cons_zero,List.getElem?_cons_succ] at k0 k1 k2;have HZ:=zc (ae.o.trans (zif (fun e=>zal C (zcb sp e)) hx H));clear E ab hx;obtain⟨Y,K⟩: ∃Y,Y=j+1:=⟨_,rfl⟩;have ej:(j:Int)+1=(Y:Int):=by omega
      rw[<-K] at HZ;have aA:=(aLt (V.o.1.typed (by rw[Rw.blk,HG.o];rfl)).2.2.choose_spec);have aB:=D.lt;have HJ:=zc K;clear K;go_wp2_with fail;refine (znK C M z base A N H (zcb sp x) _ (D.alloc _) aa).mono ?_;cases hn:zal C (zcb sp x) H with
      |error p=>
       rintro e w5 ⟨rfl,I⟩;have U:Below base w w5:=(h.back (O.alloc _)).trans I;have X:Hid (impFromI C l q= .error p):=by show _=_;rw[HZ.o,hn];exact zgK _ _ _
       unfold Pan;go_wp2;refine⟨rfl,?_⟩;rw[X.o];exact⟨rfl,U⟩
      |ok a5=>
       rintro e w5 ⟨rfl,S5,al,s⟩;have ar:IS A S w S5 w5:=(O.alloc _).trans s;have au:Hid (Fr 95 3 w5 b0 r l.length (l.flatMap (fun e=>imL (zbe e))) S5):=(V.o.later ((Below.refl _ _).alloc (Nat.le_refl _) _)).step (D.alloc _) (by decide) s;have ao:Hid (impFromI C l q=zY (fun e=>zal C (zcb sp e)) (l.drop Y) (.ok a5)):=by show _=_;rw[HZ.o,hn]
       have av:Hid (0<a5.pos):=by show 0<a5.pos;rw[ztc hn];exact aa
       clear s;go_wp2;go_roundg (gk-1)
       case rel=>exact⟨Y,S5,a5,rfl,by have:=HJ.o;omega,ao.o,av.o,al,ar,au.o⟩
       case measure=>omega
     ·have af: ¬(j:Int)<(l.length:Int):=by omega
      have HZ:Hid (impFromI C l q= .ok H):=by show _=_;rw[ae.o,List.drop_eq_nil_of_le (by omega)];rfl
      go_wp2;go_end0;rw[HZ.o];exact⟨rfl,N,D,O⟩
theorem zig (C:Cx) (D z base A b0:Nat) (r:Rw) (S:Sv) (q:PS) (l:List Ep) (w:World) (h:IM C D z base A S q w) (I:zbo C) (J:l.length<=4000) (K:l.length≠0) (E:Fr 95 3 w b0 r l.length (l.flatMap (fun e=>imL (zbe e))) S):
  Calls prog 230 #[.pointer (some ⟨A,0,none⟩),.slice r.a l.length r.cap] w (zT C D z base A (impFromI C l q) id (fun _=>.tuple #[]) S w):=by
 rcases E.1.nil_or with ⟨_,_,e⟩|⟨g,H⟩
 ·exact absurd e K
 ·rw[H];exact ztd C D z base A b0 g r S q l w h I J E H
theorem zlG {C:Cx} {E z base A:Nat} {S:Sv} {q:PS} {w:World} (h:IM C E z base A S q w) (t:TypeId) (xs:List Value):Fr t xs.length (w.alloc (.cells xs.toArray t)) w.heap.size ⟨some ⟨w.heap.size,0,none⟩,1⟩ 1 xs S:=by
 refine⟨?_,fun k g D=>?_⟩
 ·have:=World.ownsRow_lit (e:=t) (size:=xs.length) w xs.toArray 1 (Nat.le_refl _) (by unfold maxLen;omega) (by simp)
  simpa [OwnR] using this
 ·have H:w.heap.size=k:=by simpa [Rw.blk,Value.ownBlock] using g
  have:=(h.mem.own.has D).2;omega
def zaP (C:Cx) (q:PS):PR:=
 if (ze C q.pos).kind==3 then bd (zK C q) fun a=>zd C 4 cSemi a.1
 else if isT C q.pos 4 zM then bd (za2 C false (adv q) []) fun a=>impFromI C a.2 a.1
 else if isT C q.pos 4 zx then bd (zd C 1 sAs (adv q)) fun a=>bd (zm C false a) fun b=>impFromI C [⟨0,b.2,zx,sNone⟩] b.1
 else bd (zm C false q) fun b=>impFromI C [⟨0,b.2,sDefault,sNone⟩] b.1
theorem zte (C:Cx) (K z base D:Nat) (S:Sv) (q:PS) (w:World) (h:IM C K z base D S q w) (hC:zbo C) (hk:((ze C q.pos).kind==3)=true):
  Calls prog 216 #[.pointer (some ⟨D,0,none⟩)] w (zT C K z base D (zaP C q) id (fun _=>.tuple #[]) S w):=by
 have aa:=zdb;have Z:Hid (zaP C q=bd (zK C q) fun a=>zd C 4 cSemi a.1):=if_pos hk;go_enter func216,ntmps216;go_wp2_with fail;refine (zb7 C K z base D S q _ h).mono ?_;rintro e w1 ⟨rfl,A⟩;unfold tkV;have X:=h.later A;have H:IS D S w S w1:=IS.below A;clear A;go_wp2_with fail;refine (zgk C K z base D S q _ X hC).mono ?_;cases L:zK C q with
 |error p=>
  rintro e w2 ⟨rfl,A⟩;have N:=(h.back H).trans A;have Y:Hid (zaP C q= .error p):=bdE Z.o L;unfold Pan;go_wp2;refine⟨rfl,?_⟩;rw[Y.o];exact⟨rfl,N⟩
 |ok a2=>
  rintro e w2 ⟨rfl,S2,M,s⟩;have I:=H.trans s;clear s;have E:=zc (bdO Z.o L);go_wp2_with fail;refine (zcy C K z base D S2 a2.1 59 _ M).mono ?_;cases J:zd C 4 cSemi a2.1 with
  |error p=>
   rintro e w3 ⟨rfl,A⟩;have N:=(h.back I).trans A;have Y:Hid (zaP C q= .error p):=E.o.trans J;unfold Pan;go_wp2;refine⟨rfl,?_⟩;rw[Y.o];exact⟨rfl,N⟩
  |ok a3=>
   rintro e w3 ⟨rfl,S3,O,s⟩;have V:=I.trans s;clear s;have U:=zc (E.o.trans J);go_wp2;go_end0;rw[U.o];exact⟨rfl,S3,O,V⟩
theorem ztf (C:Cx) (E z base A:Nat) (S:Sv) (q:PS) (w:World) (h:IM C E z base A S q w) (hC:zbo C) (hk:((ze C q.pos).kind==3)=false) (h1:isT C q.pos 4 zM=true):
  Calls prog 216 #[.pointer (some ⟨A,0,none⟩)] w (zT C E z base A (zaP C q) id (fun _=>.tuple #[]) S w):=by
 have ac:=zdb;have HY:Hid (zaP C q=bd (za2 C false (adv q) []) fun a=>impFromI C a.2 a.1):=by show _=_;rw[zaP,hk,h1];rfl
 go_enter func216,ntmps216;go_wp2_with fail;refine (zb7 C E z base A S q _ h).mono ?_;rintro e w1 ⟨rfl,D⟩;unfold tkV;have ab:=h.later D;have V:IS A S w S w1:=IS.below D;clear D;go_wp2_with fail;refine (zN C E z base A S q 4 zM _ ab (by decide)).mono ?_;rintro e w2 ⟨rfl,I,s⟩;rw[h1] at I ⊢;have J:=V.trans s;clear s;go_wp2_with fail;refine (ztb C E z base A S (adv q) _ I).mono ?_;cases K:za2 C false (adv q) [] with
 |error p=>
  rintro e w3 ⟨rfl,D⟩;have X:=(h.back J).trans D;have HX:Hid (zaP C q= .error p):=bdE HY.o K;unfold Pan;go_wp2;refine⟨rfl,?_⟩;rw[HX.o];exact⟨rfl,X⟩
 |ok N=>
  rintro e w3 ⟨r,S3,rfl,Y,s,f,l0,l1⟩;have M:=J.trans s;have Z:=zc f;clear s f;have L:=zc (bdO HY.o K);go_wp2_with fail;refine (zig C E z base A _ r S3 N.1 N.2 _ Y hC l1 (by omega) Z.o).mono ?_;cases H:impFromI C N.2 N.1 with
  |error p=>
   rintro e w4 ⟨rfl,D⟩;have X:=(h.back M).trans D;have HX:Hid (zaP C q= .error p):=L.o.trans H;unfold Pan;go_wp2;refine⟨rfl,?_⟩;rw[HX.o];exact⟨rfl,X⟩
  |ok a4=>
   rintro e w4 ⟨rfl,S4,U,s⟩;have O:=M.trans s;clear s;have aa:=zc (L.o.trans H);go_wp2;go_end0;rw[aa.o];exact⟨rfl,S4,U,O⟩
theorem ztg (C:Cx) (E z base A:Nat) (S:Sv) (q:PS) (w:World) (h:IM C E z base A S q w) (hC:zbo C) (hk:((ze C q.pos).kind==3)=false) (h1:isT C q.pos 4 zM=false) (h2:isT C q.pos 4 zx=true):
  Calls prog 216 #[.pointer (some ⟨A,0,none⟩)] w (zT C E z base A (zaP C q) id (fun _=>.tuple #[]) S w):=by
 have ah:=zdb;have HY:Hid (zaP C q=bd (zd C 1 sAs (adv q)) fun a=>bd (zm C false a) fun b=>impFromI C [⟨0,b.2,zx,sNone⟩] b.1):=by show _=_;rw[zaP,hk,h1,h2];rfl
 go_enter func216,ntmps216;go_wp2_with fail;refine (zb7 C E z base A S q _ h).mono ?_;rintro e w1 ⟨rfl,D⟩;unfold tkV;have af:=h.later D;have ab:IS A S w S w1:=IS.below D;clear D;go_wp2_with fail;refine (zN C E z base A S q 4 zM _ af (by decide)).mono ?_;rintro e w2 ⟨rfl,K,s⟩;rw[h1] at K ⊢;have ac:=ab.trans s;clear s;go_wp2_with fail;refine (zN C E z base A S q 4 zx _ K (by decide)).mono ?_;rintro e w3 ⟨rfl,V,s⟩;rw[h2] at V ⊢;have X:=ac.trans s;clear s;go_wp2_with fail;refine (zeB C E z base A S (adv q) sAs _ V).mono ?_;cases H:zd C 1 sAs (adv q) with
 |error p=>
  rintro e w4 ⟨rfl,D⟩;have N:=(h.back X).trans D;have HX:Hid (zaP C q= .error p):=bdE HY.o H;unfold Pan;go_wp2;refine⟨rfl,?_⟩;rw[HX.o];exact⟨rfl,N⟩
 |ok a4=>
  rintro e w4 ⟨rfl,S4,aa,s⟩;have I:=X.trans s;clear s;have Y:=zc (bdO HY.o H);go_wp2_with fail;refine (zd1 C E z base A S4 a4 _ aa).mono ?_;cases J:zm C false a4 with
  |error p=>
   rintro e w5 ⟨rfl,D⟩;have N:=(h.back I).trans D;have HX:Hid (zaP C q= .error p):=bdE Y.o J;unfold Pan;go_wp2;refine⟨rfl,?_⟩;rw[HX.o];exact⟨rfl,N⟩
  |ok U=>
   rintro e w5 ⟨rfl,S5,L,s⟩;have Z:=I.trans s;clear s;have M:=zc (bdO Y.o J);go_wp2_with fail;refine (zig C E z base A _ ⟨some ⟨w5.heap.size,0,none⟩,1⟩ S5 U.1 [⟨0,U.2,zx,sNone⟩] _ (L.alloc _) hC (by simp) (by simp) (zlG L 95 (imL (zbe ⟨0,U.2,zx,sNone⟩)))).mono ?_;cases O:impFromI C [⟨0,U.2,zx,sNone⟩] U.1 with
   |error p=>
    rintro e w6 ⟨rfl,D⟩;have N:Below base w w6:=(h.back (Z.alloc _)).trans D;have HX:Hid (zaP C q= .error p):=M.o.trans O;unfold Pan;go_wp2;refine⟨rfl,?_⟩;rw[HX.o];exact⟨rfl,N⟩
   |ok a6=>
    rintro e w6 ⟨rfl,S6,ad,s⟩;have ae:IS A S w S6 w6:=(Z.alloc _).trans s;clear s;have ag:=zc (M.o.trans O);go_wp2;go_end0;rw[ag.o];exact⟨rfl,S6,ad,ae⟩
theorem zth (C:Cx) (E z base A:Nat) (S:Sv) (q:PS) (w:World) (h:IM C E z base A S q w) (hC:zbo C) (hk:((ze C q.pos).kind==3)=false) (h1:isT C q.pos 4 zM=false) (h2:isT C q.pos 4 zx=false):
  Calls prog 216 #[.pointer (some ⟨A,0,none⟩)] w (zT C E z base A (zaP C q) id (fun _=>.tuple #[]) S w):=by
 have ac:=zdb;have HY:Hid (zaP C q=bd (zm C false q) fun b=>impFromI C [⟨0,b.2,sDefault,sNone⟩] b.1):=by show _=_;rw[zaP,hk,h1,h2];rfl
 go_enter func216,ntmps216;go_wp2_with fail;refine (zb7 C E z base A S q _ h).mono ?_;rintro e w1 ⟨rfl,D⟩;unfold tkV;have ab:=h.later D;have X:IS A S w S w1:=IS.below D;clear D;go_wp2_with fail;refine (zN C E z base A S q 4 zM _ ab (by decide)).mono ?_;rintro e w2 ⟨rfl,K,s⟩;rw[h1] at K ⊢;have Y:=X.trans s;clear s;go_wp2_with fail;refine (zN C E z base A S q 4 zx _ K (by decide)).mono ?_;rintro e w3 ⟨rfl,N,s⟩;rw[h2] at N ⊢;have O:=Y.trans s;clear s;go_wp2_with fail;refine (zd1 C E z base A S q _ N).mono ?_;cases H:zm C false q with
 |error p=>
  rintro e w4 ⟨rfl,D⟩;have HB:=(h.back O).trans D;have HX:Hid (zaP C q= .error p):=bdE HY.o H;unfold Pan;go_wp2;refine⟨rfl,?_⟩;rw[HX.o];exact⟨rfl,HB⟩
 |ok M=>
  rintro e w4 ⟨rfl,S4,L,s⟩;have I:=O.trans s;clear s;have U:=zc (bdO HY.o H);go_wp2_with fail;refine (zig C E z base A _ ⟨some ⟨w4.heap.size,0,none⟩,1⟩ S4 M.1 [⟨0,M.2,sDefault,sNone⟩] _ (L.alloc _) hC (by simp) (by simp) (zlG L 95 (imL (zbe ⟨0,M.2,sDefault,sNone⟩)))).mono ?_;cases J:impFromI C [⟨0,M.2,sDefault,sNone⟩] M.1 with
  |error p=>
   rintro e w5 ⟨rfl,D⟩;have HB:Below base w w5:=(h.back (I.alloc _)).trans D;have HX:Hid (zaP C q= .error p):=U.o.trans J;unfold Pan;go_wp2;refine⟨rfl,?_⟩;rw[HX.o];exact⟨rfl,HB⟩
  |ok a5=>
   rintro e w5 ⟨rfl,S5,V,s⟩;have aa:IS A S w S5 w5:=(I.alloc _).trans s;clear s;have Z:=zc (U.o.trans J);go_wp2;go_end0;rw[Z.o];exact⟨rfl,S5,V,aa⟩
theorem zti (C:Cx) (D z base A:Nat) (S:Sv) (q:PS) (w:World) (h:IM C D z base A S q w) (H:zbo C):
  Calls prog 216 #[.pointer (some ⟨A,0,none⟩)] w (zT C D z base A (zaP C q) id (fun _=>.tuple #[]) S w):=by
 cases E:((ze C q.pos).kind==3) with
 |true=>exact zte C D z base A S q w h H E
 |false=>
  cases I:isT C q.pos 4 zM with
  |true=>exact ztf C D z base A S q w h H E I
  |false=>
   cases J:isT C q.pos 4 zx with
   |true=>exact ztg C D z base A S q w h H E I J
   |false=>exact zth C D z base A S q w h H E I J
end Go.Proofs.YtgcbmogmniahjaaGreat
