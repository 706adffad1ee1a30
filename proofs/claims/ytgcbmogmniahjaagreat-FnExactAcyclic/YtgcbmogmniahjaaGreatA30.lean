/- Facts and walks that the theorem stands on. -/
import Derived.Deep.RegionWith
import Derived.Test.YtgcbmogmniahjaaGreatA28
namespace Go.Proofs.YtgcbmogmniahjaaGreat
open Go.Proofs.Tryz
set_option maxRecDepth 100000
set_option maxHeartbeats 12800000
open Go.RowKit Go.PlainAid Go.Sort
theorem zc6 (c:PC) (t:BA) (q:List BA) (w:World) (h:PP c t w) (z:(zt t q).size<=140737488355328) (L:q.length<=4294967296):
  Calls prog 171 #[.slice (some ⟨w.heap.size,0,none⟩) q.length q.length,.pointer (some ⟨c.b,0,none⟩)] (w.alloc (.cells (q.map Value.string).toArray 9)).drew (PO c (zt t q) w):=by
 have A:Below w.heap.size w (w.alloc (.cells (q.map Value.string).toArray 9)).drew:=((Below.refl _ _).alloc (Nat.le_refl _) _).drew;refine (zl8 c t q w.heap.size _ (h.later A) (heap_alloc_new w _) z L).mono ?_;rintro e M ⟨H,J,I,K⟩;exact⟨H,J,(A.mono h.1.2).trans I,(KeepB.of_below A).trans K⟩
def zc7 (x:Im):BA:=
 if x.first.toList==[42] then ({data:=#[105,109,112,111,114,116,32]}:BA)++({data:=#[42,32,97,115,32]}:BA)++x.loc
 else if x.first.toList==[100,101,102,97,117,108,116] then ({data:=#[105,109,112,111,114,116,32]}:BA)++x.loc
 else ({data:=#[105,109,112,111,114,116,32]}:BA)++zcd x.first x.loc
theorem zsY {x:Im} (e:(x.first.toList==[42])=true):zc7 x=({data:=#[105,109,112,111,114,116,32]}:BA)++({data:=#[42,32,97,115,32]}:BA)++x.loc:=by rw[zc7,e];rfl
theorem zsZ {x:Im} (e:(x.first.toList==[42])=false) (h:(x.first.toList==[100,101,102,97,117,108,116])=true):zc7 x=({data:=#[105,109,112,111,114,116,32]}:BA)++x.loc:=by rw[zc7,e,h];rfl
theorem zta {x:Im} (e:(x.first.toList==[42])=false) (h:(x.first.toList==[100,101,102,97,117,108,116])=false):zc7 x=({data:=#[105,109,112,111,114,116,32]}:BA)++zcd x.first x.loc:=by rw[zc7,e,h];rfl
theorem zcm (a b:Array UInt8):(⟨a++b⟩:BA)=⟨a⟩++⟨b⟩:=by
 apply ByteArray.ext;simp
theorem zeV (x:Im):zad x=zc7 x++({data:=#[32,102,114,111,109,32]}:BA)++za1 x.spec++({data:=#[59]}:BA)++({data:=#[10]}:BA):=by
 have z:({data:=#[59,10]}:BA)={data:=#[59]}++{data:=#[10]}:=zcm #[59] #[10];have q:({data:=#[105,109,112,111,114,116,32,42,32,97,115,32]}:BA)={data:=#[105,109,112,111,114,116,32]}++{data:=#[42,32,97,115,32]}:=zcm #[105,109,112,111,114,116,32] #[42,32,97,115,32];have w:({data:=#[105,109,112,111,114,116,32,123,32]}:BA)={data:=#[105,109,112,111,114,116,32]}++{data:=#[123,32]}:=zcm #[105,109,112,111,114,116,32] #[123,32];have h:({data:=#[32,125,32,102,114,111,109,32]}:BA)={data:=#[32,125]}++{data:=#[32,102,114,111,109,32]}:=zcm #[32,125] #[32,102,114,111,109,32];unfold zad zc7 zcd;rw[z,q,w,h]
 split
 ·simp only[ByteArray.append_assoc]
 ·split<;>simp only[ByteArray.append_assoc]
theorem ztb (x:Im):(({data:=#[105,109,112,111,114,116,32]}:BA)).size<=(zad x).size:=by
 rw[zeV,zc7]
 split
 ·simp only[ByteArray.size_append];omega
 ·split<;>(simp only[ByteArray.size_append];omega)
theorem ztc (c:PC) (t:BA) (x:Im) (w:World) (h:PP c t w) (H:(t++zad x).size<=140737488355328) (h1:x.spec.size<=1099511627776):
  Calls prog 202 #[.pointer (some ⟨c.gp,0,none⟩),imV x] w (PO c (t++zad x) w):=by
 have HP:=zc h;have O:=zc H;clear h H;have HZ:Hid (t.size+(zad x).size<=140737488355328/\(({data:=#[105,109,112,111,114,116,32]}:BA)).size<=(zad x).size):=⟨by have:=O.o;rw[ByteArray.size_append] at this;exact this,ztb x⟩;unfold imV;go_enter func202,ntmps202;go_upto_region 1 with fail;have HW:Hid (Below w.heap.size w (w.alloc (.cells #[.string x.spec,.string x.first,.string x.loc] 95))):=(Below.refl _ _).alloc (Nat.le_refl _) _;refine zx (R:=fun W=>W.heap[w.heap.size]? =some (.cells #[.string x.spec,.string x.first,.string x.loc] 95 (0,0))/\PP c t W/\Below c.B w W/\KeepB c.b w W) ⟨heap_alloc_new w _,HP.o.later HW.o,HW.o.mono HP.o.1.2,KeepB.of_below HW.o⟩ ?_;obtain⟨gx,N⟩: ∃gx,gx=w.heap.size:=⟨_,rfl⟩;have Z:gx≠c.b:=by
  rw[N];obtain⟨al,hc⟩:=zcl HP.o.1.1;have:=(aLt hc);omega
 rw[<-N];rintro W ⟨hx,hp,hb,hk⟩;clear N HW;have X:=zc hx;have L:=zc hp;have aa:=zc hb;have ac:=zc hk;clear hx hp hb hk;obtain⟨x0,x1,x2,xf⟩:=zo X.o;obtain⟨p0,p1,p2,p3,p4,p5,pf⟩:=zw L.o.2.2.1;go_wp2_with fail;refine (zbN c t [{data:=#[105,109,112,111,114,116,32]}] W L.o (by have:=HZ.o;simp only[zt,List.foldl_cons,List.foldl_nil,ByteArray.size_append] at this ⊢;omega) (by simp)).mono ?_;rintro e V ⟨rfl,Y,ad,K⟩;have I:=zc Y;have ah:=zc (aa.o.trans ad);have af:=zc (ac.o.trans K);have X1:=zc ((K _ _ _ _ X.o Z (by decide)).trans X.o);clear Y ad K p0 p1 p2 p3 p4 p5 pf x0 x1 x2 xf L aa ac X;obtain⟨x0,x1,x2,xf⟩:=zo X1.o;obtain⟨p0,p1,p2,p3,p4,p5,pf⟩:=zw I.o.2.2.1;have ae:=(aLt I.o.2.2.1);have U:=(aLt X1.o);have H:=O.o;go_upto_block 0 with fail
 go_cut [] from 12 to 37 (fun wx=>PP c (t++zc7 x) wx/\Below c.B V wx/\KeepB c.b V wx)
 case first=>
  cases e1:(x.first.toList==[42]) with
  |true=>
   have J:Hid (zc7 x=({data:=#[105,109,112,111,114,116,32]}:BA)++({data:=#[42,32,97,115,32]}:BA)++x.loc):=zsY e1;go_wp2_with fail;go_region_with (go_at_call 171;refine (zc6 c _ [{data:=#[42,32,97,115,32]},x.loc] V I.o (by have:=O.o;rw[zeV,J.o] at this;simp only[zt,List.foldl_cons,List.foldl_nil,ByteArray.size_append] at this ⊢;omega) (by simp)).mono ?_;rintro e w2 ⟨rfl,q,A,z⟩)
   all_goals (go_wp2_with fail;go_meet;exact⟨by rw[J.o];simp only[zt,List.foldl_cons,List.foldl_nil,<-ByteArray.append_assoc] at q ⊢;exact q,A,z⟩)
  |false=>
   cases e2:(x.first.toList==[100,101,102,97,117,108,116]) with
   |true=>
    have J:Hid (zc7 x=({data:=#[105,109,112,111,114,116,32]}:BA)++x.loc):=zsZ e1 e2;go_wp2_with fail;go_region_with (go_at_call 171;refine (zc6 c _ [x.loc] V I.o (by have:=O.o;rw[zeV,J.o] at this;simp only[zt,List.foldl_cons,List.foldl_nil,ByteArray.size_append] at this ⊢;omega) (by simp)).mono ?_;rintro e w2 ⟨rfl,q,A,z⟩)
    all_goals (go_wp2_with fail;go_meet;exact⟨by rw[J.o];simp only[zt,List.foldl_cons,List.foldl_nil,<-ByteArray.append_assoc] at q ⊢;exact q,A,z⟩)
   |false=>
    have J:Hid (zc7 x=({data:=#[105,109,112,111,114,116,32]}:BA)++zcd x.first x.loc):=zta e1 e2;go_wp2_with fail;refine (zit c _ x.first x.loc V I.o (by have:=O.o;rw[zeV,J.o] at this;simp only[zt,List.foldl_cons,List.foldl_nil,ByteArray.size_append] at this ⊢;omega)).mono ?_;rintro e w2 ⟨rfl,q,A,z⟩;go_wp2_with fail;go_meet;exact⟨by rw[J.o];simp only[zt,List.foldl_cons,List.foldl_nil,<-ByteArray.append_assoc] at q ⊢;exact q,A,z⟩
 case rest=>
 obtain⟨q,A,z⟩:=hcut
 rename_i w2
 have M:=zc q;have ai:=zc (ah.o.trans A);have ag:=zc (af.o.trans z);have X2:=zc ((z _ _ _ _ X1.o Z (by decide)).trans X1.o);clear q A z p0 p1 p2 p3 p4 p5 pf x0 x1 x2 xf ae U;obtain⟨p0,p1,p2,p3,p4,p5,pf⟩:=zw M.o.2.2.1;obtain⟨x0,x1,x2,xf⟩:=zo X2.o;have ae:=(aLt M.o.2.2.1);have U:=(aLt X2.o);go_wp2_with fail;go_region_with (first|(go_at_call 201;refine (zgR x.spec _ h1).mono ?_;rintro e w' ⟨rfl,rfl⟩)|(go_at_call 171;refine (zc6 c _ [{data:=#[32,102,114,111,109,32]},za1 x.spec,{data:=#[59]},{data:=#[10]}] _ M.o (by have:=O.o;rw[zeV] at this;simp only[zt,List.foldl_cons,List.foldl_nil,ByteArray.size_append] at this ⊢;omega) (by simp)).mono ?_;rintro e w3 ⟨rfl,ab,ak,aj⟩))
 all_goals (go_wp2;go_end0;exact⟨rfl,(by rw[zeV];simp only[zt,List.foldl_cons,List.foldl_nil,<-ByteArray.append_assoc] at ab ⊢;exact ab),ai.o.trans ak,ag.o.trans aj⟩)
def zc8 (x:Ep):BA:=
 if x.kind==3 then ({data:=#[101,120,112,111,114,116,32]}:BA)++({data:=#[42,32,102,114,111,109,32]}:BA)++za1 x.spec
 else if x.kind==2 then ({data:=#[101,120,112,111,114,116,32]}:BA)++zcd x.loc x.name++({data:=#[32,102,114,111,109,32]}:BA)++za1 x.spec
 else ({data:=#[101,120,112,111,114,116,32]}:BA)++zcd x.loc x.name
theorem ztd {x:Ep} (e:(x.kind==3)=true):zc8 x=({data:=#[101,120,112,111,114,116,32]}:BA)++({data:=#[42,32,102,114,111,109,32]}:BA)++za1 x.spec:=by rw[zc8,e];rfl
theorem zte {x:Ep} (e:(x.kind==3)=false) (h:(x.kind==2)=true):zc8 x=({data:=#[101,120,112,111,114,116,32]}:BA)++zcd x.loc x.name++({data:=#[32,102,114,111,109,32]}:BA)++za1 x.spec:=by rw[zc8,e,h];rfl
theorem ztf {x:Ep} (e:(x.kind==3)=false) (h:(x.kind==2)=false):zc8 x=({data:=#[101,120,112,111,114,116,32]}:BA)++zcd x.loc x.name:=by rw[zc8,e,h];rfl
theorem zez (x:Ep):zbu x=zc8 x++({data:=#[59]}:BA)++({data:=#[10]}:BA):=by
 have q:({data:=#[59,10]}:BA)={data:=#[59]}++{data:=#[10]}:=zcm #[59] #[10];have w:({data:=#[101,120,112,111,114,116,32,42,32,102,114,111,109,32]}:BA)={data:=#[101,120,112,111,114,116,32]}++{data:=#[42,32,102,114,111,109,32]}:=zcm #[101,120,112,111,114,116,32] #[42,32,102,114,111,109,32];have A:({data:=#[101,120,112,111,114,116,32,123,32]}:BA)={data:=#[101,120,112,111,114,116,32]}++{data:=#[123,32]}:=zcm #[101,120,112,111,114,116,32] #[123,32];have h:({data:=#[32,125,32,102,114,111,109,32]}:BA)={data:=#[32,125]}++{data:=#[32,102,114,111,109,32]}:=zcm #[32,125] #[32,102,114,111,109,32];have z:({data:=#[32,125,59,10]}:BA)={data:=#[32,125]}++{data:=#[59,10]}:=zcm #[32,125] #[59,10];unfold zbu zc8 zcd;rw[z,q,w,A,h]
 split
 ·simp only[ByteArray.append_assoc]
 ·split<;>simp only[ByteArray.append_assoc]
theorem ztg (x:Ep):(({data:=#[101,120,112,111,114,116,32]}:BA)).size<=(zbu x).size:=by
 rw[zez,zc8]
 split
 ·simp only[ByteArray.size_append];omega
 ·split<;>(simp only[ByteArray.size_append];omega)
theorem zth (c:PC) (t:BA) (x:Ep) (w:World) (h:PP c t w) (K:(t++zbu x).size<=140737488355328) (h1:x.spec.size<=1099511627776):
  Calls prog 203 #[.pointer (some ⟨c.gp,0,none⟩),epV x] w (PO c (t++zbu x) w):=by
 have HP:=zc h;have HL:=zc K;clear h K;have HZ:Hid (t.size+(zbu x).size<=140737488355328/\(({data:=#[101,120,112,111,114,116,32]}:BA)).size<=(zbu x).size):=⟨by have:=HL.o;rw[ByteArray.size_append] at this;exact this,ztg x⟩;unfold epV;go_enter func203,ntmps203;go_upto_region 1 with fail;have HW:Hid (Below w.heap.size w (w.alloc (.cells #[.int .i64 x.kind,.string x.name,.string x.loc,.string x.spec] 97))):=(Below.refl _ _).alloc (Nat.le_refl _) _;refine zx (R:=fun W=>W.heap[w.heap.size]? =some (.cells #[.int .i64 x.kind,.string x.name,.string x.loc,.string x.spec] 97 (0,0))/\PP c t W/\Below c.B w W/\KeepB c.b w W) ⟨heap_alloc_new w _,HP.o.later HW.o,HW.o.mono HP.o.1.2,KeepB.of_below HW.o⟩ ?_;obtain⟨gx,ac⟩: ∃gx,gx=w.heap.size:=⟨_,rfl⟩;have ag:gx≠c.b:=by
  rw[ac];obtain⟨ap,hc⟩:=zcl HP.o.1.1;have:=(aLt hc);omega
 rw[<-ac];rintro W ⟨hx,hp,hb,hk⟩;clear ac HW;have X:=zc hx;have ab:=zc hp;have ah:=zc hb;have ai:=zc hk;clear hx hp hb hk;obtain⟨x0,x1,x2,x3,xf⟩:=zbJ X.o;obtain⟨p0,p1,p2,Y,U,O,pf⟩:=zw ab.o.2.2.1;go_wp2_with fail;refine (zbN c t [{data:=#[101,120,112,111,114,116,32]}] W ab.o (by have:=HZ.o;simp only[zt,List.foldl_cons,List.foldl_nil,ByteArray.size_append] at this ⊢;omega) (by simp)).mono ?_;rintro e w1 ⟨rfl,af,ak,Z⟩;have L:=zc af;have an:=zc (ah.o.trans ak);have al:=zc (ai.o.trans Z);have X1:=zc ((Z _ _ _ _ X.o ag (by decide)).trans X.o);clear af ak Z p0 p1 p2 Y U O pf x0 x1 x2 x3 xf ab ah ai X;obtain⟨x0,x1,x2,x3,xf⟩:=zbJ X1.o;obtain⟨p0,p1,p2,Y,U,O,pf⟩:=zw L.o.2.2.1;have ae:=(aLt L.o.2.2.1);have V:=(aLt X1.o);have K:=HL.o;go_upto_block 0 with fail
 go_cut [] from 12 to 45 (fun wx=>PP c (t++zc8 x) wx/\Below c.B w1 wx/\KeepB c.b w1 wx)
 case first=>
  cases e1:(x.kind==3) with
  |true=>
   have N:Hid (zc8 x=({data:=#[101,120,112,111,114,116,32]}:BA)++({data:=#[42,32,102,114,111,109,32]}:BA)++za1 x.spec):=ztd e1;go_wp2_with fail;go_region_with (first|(go_at_call 201;refine (zgR x.spec _ h1).mono ?_;rintro e w' ⟨rfl,rfl⟩)|(go_at_call 171;refine (zc6 c _ [{data:=#[42,32,102,114,111,109,32]},za1 x.spec] w1 L.o (by have:=HL.o;rw[zez,N.o] at this;simp only[zt,List.foldl_cons,List.foldl_nil,ByteArray.size_append] at this ⊢;omega) (by simp)).mono ?_;rintro e w2 ⟨rfl,q,H,z⟩))
   all_goals (go_wp2_with fail;go_meet;exact⟨by rw[N.o];simp only[zt,List.foldl_cons,List.foldl_nil,<-ByteArray.append_assoc] at q ⊢;exact q,H,z⟩)
  |false=>
   cases e2:(x.kind==2) with
   |true=>
    have N:Hid (zc8 x=({data:=#[101,120,112,111,114,116,32]}:BA)++zcd x.loc x.name++({data:=#[32,102,114,111,109,32]}:BA)++za1 x.spec):=zte e1 e2;go_wp2_with fail;refine (zit c _ x.loc x.name w1 L.o (by have:=HL.o;rw[zez,N.o] at this;simp only[zt,List.foldl_cons,List.foldl_nil,ByteArray.size_append] at this ⊢;omega)).mono ?_;rintro e w3 ⟨rfl,A,M,I⟩;have J:=zc A;have X3:=zc ((I _ _ _ _ X1.o ag (by decide)).trans X1.o);have aa:=zc M;have ad:=zc I;clear A M I p0 p1 p2 Y U O pf x0 x1 x2 x3 xf ae V;obtain⟨p0,p1,p2,Y,U,O,pf⟩:=zw J.o.2.2.1;obtain⟨x0,x1,x2,x3,xf⟩:=zbJ X3.o;have ae:=(aLt J.o.2.2.1);have V:=(aLt X3.o);go_wp2_with fail;go_region_with (first|(go_at_call 201;refine (zgR x.spec _ h1).mono ?_;rintro e w' ⟨rfl,rfl⟩)|(go_at_call 171;refine (zc6 c _ [{data:=#[32,102,114,111,109,32]},za1 x.spec] w3 J.o (by have:=HL.o;rw[zez,N.o] at this;simp only[zt,List.foldl_cons,List.foldl_nil,ByteArray.size_append] at this ⊢;omega) (by simp)).mono ?_;rintro e w2 ⟨rfl,q,H,z⟩))
    all_goals (go_wp2_with fail;go_meet;exact⟨by rw[N.o];simp only[zt,List.foldl_cons,List.foldl_nil,<-ByteArray.append_assoc] at q ⊢;exact q,aa.o.trans H,ad.o.trans z⟩)
   |false=>
    have N:Hid (zc8 x=({data:=#[101,120,112,111,114,116,32]}:BA)++zcd x.loc x.name):=ztf e1 e2;go_wp2_with fail;refine (zit c _ x.loc x.name w1 L.o (by have:=HL.o;rw[zez,N.o] at this;simp only[zt,List.foldl_cons,List.foldl_nil,ByteArray.size_append] at this ⊢;omega)).mono ?_;rintro e w2 ⟨rfl,q,H,z⟩;go_wp2_with fail;go_meet;exact⟨by rw[N.o];simp only[zt,List.foldl_cons,List.foldl_nil,<-ByteArray.append_assoc] at q ⊢;exact q,H,z⟩
 case rest=>
 obtain⟨q,H,z⟩:=hcut
 rename_i w2
 have aj:=zc q;have ao:=zc (an.o.trans H);have am:=zc (al.o.trans z);clear q H z p0 p1 p2 Y U O pf x0 x1 x2 x3 xf ae V;obtain⟨p0,p1,p2,Y,U,O,pf⟩:=zw aj.o.2.2.1;go_wp2_with fail;refine (zbN c _ [{data:=#[59]},{data:=#[10]}] _ aj.o (by have:=HL.o;rw[zez] at this;simp only[zt,List.foldl_cons,List.foldl_nil,ByteArray.size_append] at this ⊢;omega) (by simp)).mono ?_;rintro e w3 ⟨rfl,A,M,I⟩;have J:=zc A;have aa:=zc (ao.o.trans M);have ad:=zc (am.o.trans I);clear A M I p0 p1 p2 Y U O pf;go_wp2;go_end0;exact⟨rfl,(by have A:=J.o;rw[zez];simp only[zt,List.foldl_cons,List.foldl_nil,<-ByteArray.append_assoc] at A ⊢;exact A),aa.o,ad.o⟩
theorem ziu (c:PC) (t:BA) (i:Nat) (w:World) (h:PP c t w) (K:i<c.m.ex.length):
  Calls prog 244 #[.pointer (some ⟨c.gp,0,none⟩),.int .i64 (i:Int)] w fun e w'=>e= .returned (.int .i64 (c.m.ex.getD i zh).kind)/\w'=w:=by
 obtain⟨p0,Y,O,M,I,N,X⟩:=zw h.2.2.1;obtain⟨g,z,L,H,x1,Z,V,U,x5⟩:=h.2.1.expr K;rw[z] at I;have J:(i:Int)<(c.m.ex.length:Int):=by omega
 obtain⟨A,q⟩: ∃A,(c.m.ex.getD i zh).kind=A:=⟨_,rfl⟩;rw[q] at H;rw[q];clear h z q;go_enter func244,ntmps244;go_wp2;go_ret;exact⟨rfl,rfl⟩
def zc9 (c:PC) (i:Nat):Prop:=∀(t:BA) (w:World),PP c t w->(t++prX c.m.ex i).size<=140737488355328->Calls prog 225 #[.pointer (some ⟨c.gp,0,none⟩),.int .i64 (i:Int)] w (PO c (t++prX c.m.ex i) w)
theorem zgS (c:PC) (t:BA) (i:Nat) (o:Bool) (w:World) (ok:zc9 c i) (h:PP c t w) (q:(t++zJ o (prX c.m.ex i)).size<=140737488355328):
  Calls prog 243 #[.pointer (some ⟨c.gp,0,none⟩),.int .i64 (i:Int),.bool o] w (PO c (t++zJ o (prX c.m.ex i)) w):=by
 have OK:=zc ok;have HP:=zc h;clear ok h;obtain⟨p0,p1,p2,Z,p4,p5,pf⟩:=zw HP.o.2.2.1;cases o with
 |false=>
  have O:Hid ((t++prX c.m.ex i).size<=140737488355328):=q;clear q;go_enter func243,ntmps243;go_wp2_with fail;refine (OK.o t w HP.o O.o).mono ?_;rintro e w1 ⟨rfl,z,I,A⟩;have K:=zc z;have L:=zc I;have J:=zc A;clear z I A p0 p1 p2 Z p4 p5 pf;go_wp2;refine bodyPost_ret (results_none rfl _ _ _) rfl ?_;exact⟨rfl,K.o,L.o,J.o⟩
 |true=>
  have O:Hid ((t++(zp++prX c.m.ex i++za8)).size<=140737488355328):=q;clear q;go_enter func243,ntmps243;go_wp2_with fail;refine (zbN c t [zp] w HP.o (by have:=O.o;simp only[zt,List.foldl_cons,List.foldl_nil,ByteArray.size_append] at this ⊢;omega) (by simp)).mono ?_;rintro e w1 ⟨rfl,z,I,A⟩;have K:=zc z;have L:=zc I;have J:=zc A;clear z I A p0 p1 p2 Z p4 p5 pf;go_wp2_with fail;refine (OK.o _ w1 K.o (by have:=O.o;simp only[zt,List.foldl_cons,List.foldl_nil,ByteArray.size_append] at this ⊢;omega)).mono ?_;rintro e w2 ⟨rfl,N,U,M⟩;have X:=zc N;have ad:=zc (L.o.trans U);have ac:=zc (J.o.trans M);clear N U M;obtain⟨p0,p1,p2,Z,p4,p5,pf⟩:=zw X.o.2.2.1;go_wp2_with fail;refine (zbN c _ [za8] w2 X.o (by have:=O.o;simp only[zt,List.foldl_cons,List.foldl_nil,ByteArray.size_append] at this ⊢;omega) (by simp)).mono ?_;rintro e w3 ⟨rfl,H,Y,V⟩;have ab:=zc H;have aa:=zc (ad.o.trans Y);have ae:=zc (ac.o.trans V);clear H Y V p0 p1 p2 Z p4 p5 pf;go_wp2;go_end0;exact⟨rfl,(by have H:=ab.o;unfold zJ;rw[if_pos rfl];simp only[zt,List.foldl_cons,List.foldl_nil,<-ByteArray.append_assoc] at H ⊢;exact H),aa.o,ae.o⟩
def zaV (k:Int) (n:BA):BA:=
 if n.toList==[42,100,101,102,97,117,108,116] then ({data:=#[101,120,112,111,114,116,32]}:BA)++({data:=#[100,101,102,97,117,108,116]}:BA)++({data:=#[32]}:BA)
 else if k==1 then ({data:=#[108,101,116,32]}:BA)++n++({data:=#[32,61,32]}:BA)
 else if k==2 then ({data:=#[102,117,110,99,116,105,111,110,32]}:BA)++n++({data:=#[40,41,32,123,32,114,101,116,117,114,110,32]}:BA)
 else if k==3 then n++({data:=#[32,61,32]}:BA)
 else if k==4 then ({data:=#[112,114,105,110,116,40]}:BA)
 else if k==5 then ({data:=#[116,104,114,111,119,32]}:BA)
 else ({data:=#[102,97,105,108,32]}:BA)
def zaQ (k:Int) (n:BA):BA:=
 if n.toList==[42,100,101,102,97,117,108,116] then ({data:=#[59]}:BA) else if k==2 then ({data:=#[59,32,125]}:BA) else if k==4 then ({data:=#[41,59]}:BA) else ({data:=#[59]}:BA)
theorem zl9 {k:Int} {n:BA} (e:(n.toList==[42,100,101,102,97,117,108,116])=true):zaV k n=({data:=#[101,120,112,111,114,116,32]}:BA)++({data:=#[100,101,102,97,117,108,116]}:BA)++({data:=#[32]}:BA):=by rw[zaV,e];rfl
theorem zlA {k:Int} {n:BA} (e:(n.toList==[42,100,101,102,97,117,108,116])=true):zaQ k n=({data:=#[59]}:BA):=by rw[zaQ,e];rfl
theorem zlB {k:Int} {n:BA} (e:(n.toList==[42,100,101,102,97,117,108,116])=false) (h:(k==1)=true):zaV k n=({data:=#[108,101,116,32]}:BA)++n++({data:=#[32,61,32]}:BA):=by rw[zaV,e,h];rfl
theorem zlC {k:Int} {n:BA} (e:(n.toList==[42,100,101,102,97,117,108,116])=false) (h:(k==1)=true):zaQ k n=({data:=#[59]}:BA):=by have q:=eq_of_beq h;subst q;rw[zaQ,e];rfl
theorem zlD {k:Int} {n:BA} (e:(n.toList==[42,100,101,102,97,117,108,116])=false) (q:(k==1)=false) (h:(k==2)=true):zaV k n=({data:=#[102,117,110,99,116,105,111,110,32]}:BA)++n++({data:=#[40,41,32,123,32,114,101,116,117,114,110,32]}:BA):=by rw[zaV,e,q,h];rfl
theorem zlE {k:Int} {n:BA} (e:(n.toList==[42,100,101,102,97,117,108,116])=false) (h:(k==2)=true):zaQ k n=({data:=#[59,32,125]}:BA):=by rw[zaQ,e,h];rfl
theorem zlF {k:Int} {n:BA} (e:(n.toList==[42,100,101,102,97,117,108,116])=false) (w:(k==1)=false) (q:(k==2)=false) (h:(k==3)=true):zaV k n=n++({data:=#[32,61,32]}:BA):=by rw[zaV,e,w,q,h];rfl
theorem zlG {k:Int} {n:BA} (e:(n.toList==[42,100,101,102,97,117,108,116])=false) (h:(k==3)=true):zaQ k n=({data:=#[59]}:BA):=by have q:=eq_of_beq h;subst q;rw[zaQ,e];rfl
theorem zlH {k:Int} {n:BA} (e:(n.toList==[42,100,101,102,97,117,108,116])=false) (z:(k==1)=false) (q:(k==2)=false) (h:(k==3)=false) (w:(k==4)=true):zaV k n=({data:=#[112,114,105,110,116,40]}:BA):=by rw[zaV,e,z,q,h,w];rfl
theorem zlI {k:Int} {n:BA} (e:(n.toList==[42,100,101,102,97,117,108,116])=false) (h:(k==2)=false) (q:(k==4)=true):zaQ k n=({data:=#[41,59]}:BA):=by rw[zaQ,e,h,q];rfl
theorem zlJ {k:Int} {n:BA} (e:(n.toList==[42,100,101,102,97,117,108,116])=false) (q:(k==1)=false) (A:(k==2)=false) (w:(k==3)=false) (z:(k==4)=false) (h:(k==5)=true):zaV k n=({data:=#[116,104,114,111,119,32]}:BA):=by rw[zaV,e,q,A,w,z,h];rfl
theorem zlK {k:Int} {n:BA} (e:(n.toList==[42,100,101,102,97,117,108,116])=false) (h:(k==2)=false) (q:(k==4)=false):zaQ k n=({data:=#[59]}:BA):=by rw[zaQ,e,h,q];rfl
theorem zlL {k:Int} {n:BA} (e:(n.toList==[42,100,101,102,97,117,108,116])=false) (q:(k==1)=false) (A:(k==2)=false) (w:(k==3)=false) (z:(k==4)=false) (h:(k==5)=false):zaV k n=({data:=#[102,97,105,108,32]}:BA):=by rw[zaV,e,q,A,w,z,h];rfl
theorem zlM {k:Int} {n:BA} (e:(n.toList==[42,100,101,102,97,117,108,116])=false) (h:(k==2)=false) (q:(k==4)=false):zaQ k n=({data:=#[59]}:BA):=by rw[zaQ,e,h,q];rfl
theorem zlN (k:Int) (n e:BA):zdq k n e=zaV k n++e++zaQ k n++({data:=#[10]}:BA):=by
 have K:({data:=#[59,10]}:BA)=({data:=#[59]}:BA)++({data:=#[10]}:BA):=zcm #[59] #[10];have J:({data:=#[59,32,125,10]}:BA)=({data:=#[59,32,125]}:BA)++({data:=#[10]}:BA):=zcm #[59,32,125] #[10];have M:({data:=#[41,59,10]}:BA)=({data:=#[41,59]}:BA)++({data:=#[10]}:BA):=zcm #[41,59] #[10];have I:({data:=#[101,120,112,111,114,116,32,100,101,102,97,117,108,116,32]}:BA)=({data:=#[101,120,112,111,114,116,32,100,101,102,97,117,108,116]}:BA)++({data:=#[32]}:BA):=zcm #[101,120,112,111,114,116,32,100,101,102,97,117,108,116] #[32];have L:({data:=#[101,120,112,111,114,116,32,100,101,102,97,117,108,116]}:BA)=({data:=#[101,120,112,111,114,116,32]}:BA)++({data:=#[100,101,102,97,117,108,116]}:BA):=zcm #[101,120,112,111,114,116,32] #[100,101,102,97,117,108,116];unfold zdq za6;rw[K,J,M,I,L];cases h:(n.toList==[42,100,101,102,97,117,108,116]) with
 |true=>rw[zl9 h,zlA h];simp only[↓reduceIte,ByteArray.append_assoc]
 |false=>
  cases w:(k==1) with
  |true=>rw[zlB h w,zlC h w];simp only[↓reduceIte,Bool.false_eq_true,ByteArray.append_assoc]
  |false=>
   cases q:(k==2) with
   |true=>rw[zlD h w q,zlE h q];simp only[↓reduceIte,Bool.false_eq_true,ByteArray.append_assoc]
   |false=>
    cases A:(k==3) with
    |true=>rw[zlF h w q A,zlG h A];simp only[↓reduceIte,Bool.false_eq_true,ByteArray.append_assoc]
    |false=>
     cases z:(k==4) with
     |true=>rw[zlH h w q A z,zlI h q z];simp only[↓reduceIte,Bool.false_eq_true,ByteArray.append_assoc]
     |false=>
      cases H:(k==5) with
      |true=>rw[zlJ h w q A z H,zlK h q z];simp only[↓reduceIte,Bool.false_eq_true,ByteArray.append_assoc]
      |false=>
       rw[zlL h w q A z H,zlM h q z];simp only[↓reduceIte,Bool.false_eq_true,ByteArray.append_assoc]
theorem zti (k:Int) (n e:BA):(zdq k n e).size=(zaV k n).size+e.size+(zaQ k n).size+1:=by
 rw[zlN,ByteArray.size_append,ByteArray.size_append,ByteArray.size_append];rfl
theorem ztj (c:PC) (t:BA) (k:Int) (n:BA) (i:Nat) (w:World) (ok:zc9 c i) (h:PP c t w) (O:(t++zdq k n (prX c.m.ex i)).size<=140737488355328):
  Calls prog 204 #[.pointer (some ⟨c.gp,0,none⟩),.agg #[.int .i64 k,.string n,.int .i64 (i:Int)]] w (PO c (t++zdq k n (prX c.m.ex i)) w):=by
 have HP:=zc h;have OK:=zc ok;have X:Hid (t.size+((zaV k n).size+(prX c.m.ex i).size+(zaQ k n).size+1)<=140737488355328):=by show _<=_;rw[ByteArray.size_append,zti] at O;exact O
 clear h O ok;go_enter func204,ntmps204;go_upto_region 1 with fail;have HW:Hid (Below w.heap.size w (w.alloc (.cells #[.int .i64 k,.string n,.int .i64 (i:Int)] 102))):=(Below.refl _ _).alloc (Nat.le_refl _) _;refine zx (R:=fun W=>W.heap[w.heap.size]? =some (.cells #[.int .i64 k,.string n,.int .i64 (i:Int)] 102 (0,0))/\PP c t W/\Below c.B w W/\KeepB c.b w W) ⟨heap_alloc_new w _,HP.o.later HW.o,HW.o.mono HP.o.1.2,KeepB.of_below HW.o⟩ ?_;obtain⟨gx,Z⟩: ∃gx,gx=w.heap.size:=⟨_,rfl⟩;have ah:gx≠c.b:=by
  rw[Z];obtain⟨av,hc⟩:=zcl HP.o.1.1;have:=(aLt hc);omega
 rw[<-Z];rintro U ⟨hx,hp,hb,hk⟩;clear Z HW;have X1:=zc hx;have J:=zc hp;have an:=zc hb;have ak:=zc hk;clear hx hp hb hk;obtain⟨x0,x1,x2,xf⟩:=zo X1.o;obtain⟨p0,p1,p2,p3,p4,p5,pf⟩:=zw J.o.2.2.1;have au:=(aLt J.o.2.2.1);have ag:=(aLt X1.o);go_upto_block 0 with fail
 go_cut [4] from 5 to 76 (fun s4 wx=>s4= .string (zaQ k n)/\PP c (t++zaV k n) wx/\Below c.B U wx/\KeepB c.b U wx)
 case first=>
  cases K:(n.toList==[42,100,101,102,97,117,108,116]) with
  |true=>
   have I:Hid (zaV k n=({data:=#[101,120,112,111,114,116,32]}:BA)++({data:=#[100,101,102,97,117,108,116]}:BA)++({data:=#[32]}:BA)):=zl9 K;have M:Hid (zaQ k n=({data:=#[59]}:BA)):=zlA K;have L:Hid ((zt t [{data:=#[101,120,112,111,114,116,32]},{data:=#[100,101,102,97,117,108,116]},{data:=#[32]}]).size<=140737488355328):=by show _<=_;have:=X.o;rw[I.o] at this;simp only[zt,List.foldl_cons,List.foldl_nil,ByteArray.size_append] at this ⊢;omega
   go_wp2_with fail;refine (zbN c t [{data:=#[101,120,112,111,114,116,32]},{data:=#[100,101,102,97,117,108,116]},{data:=#[32]}] U J.o L.o (by simp)).mono ?_;rintro e w2 ⟨rfl,q,H,A⟩;go_wp2_with fail;go_meet;exact⟨by rw[M.o],by rw[I.o];simp only[zt,List.foldl_cons,List.foldl_nil,<-ByteArray.append_assoc] at q ⊢;exact q,H,A⟩
  |false=>
   cases Y:(k==1) with
   |true=>
    have I:Hid (zaV k n=({data:=#[108,101,116,32]}:BA)++n++({data:=#[32,61,32]}:BA)):=zlB K Y;have M:Hid (zaQ k n=({data:=#[59]}:BA)):=zlC K Y;have L:Hid ((zt t [{data:=#[108,101,116,32]},n,{data:=#[32,61,32]}]).size<=140737488355328):=by show _<=_;have:=X.o;rw[I.o] at this;simp only[zt,List.foldl_cons,List.foldl_nil,ByteArray.size_append] at this ⊢;omega
    go_wp2_with fail;go_region_with (go_at_call 171;refine (zc6 c t [{data:=#[108,101,116,32]},n,{data:=#[32,61,32]}] U J.o L.o (by simp)).mono ?_;rintro e w2 ⟨rfl,q,H,A⟩)
    all_goals (go_wp2_with fail;go_meet;exact⟨by rw[M.o],by rw[I.o];simp only[zt,List.foldl_cons,List.foldl_nil,<-ByteArray.append_assoc] at q ⊢;exact q,H,A⟩)
   |false=>
    cases V:(k==2) with
    |true=>
     have I:Hid (zaV k n=({data:=#[102,117,110,99,116,105,111,110,32]}:BA)++n++({data:=#[40,41,32,123,32,114,101,116,117,114,110,32]}:BA)):=zlD K Y V;have M:Hid (zaQ k n=({data:=#[59,32,125]}:BA)):=zlE K V;have L:Hid ((zt t [{data:=#[102,117,110,99,116,105,111,110,32]},n,{data:=#[40,41,32,123,32,114,101,116,117,114,110,32]}]).size<=140737488355328):=by show _<=_;have:=X.o;rw[I.o] at this;simp only[zt,List.foldl_cons,List.foldl_nil,ByteArray.size_append] at this ⊢;omega
     go_wp2_with fail;go_region_with (go_at_call 171;refine (zc6 c t [{data:=#[102,117,110,99,116,105,111,110,32]},n,{data:=#[40,41,32,123,32,114,101,116,117,114,110,32]}] U J.o L.o (by simp)).mono ?_;rintro e w2 ⟨rfl,q,H,A⟩)
     all_goals (go_wp2_with fail;go_meet;exact⟨by rw[M.o],by rw[I.o];simp only[zt,List.foldl_cons,List.foldl_nil,<-ByteArray.append_assoc] at q ⊢;exact q,H,A⟩)
    |false=>
     cases h3:(k==3) with
     |true=>
      have I:Hid (zaV k n=n++({data:=#[32,61,32]}:BA)):=zlF K Y V h3;have M:Hid (zaQ k n=({data:=#[59]}:BA)):=zlG K h3;have L:Hid ((zt t [n,{data:=#[32,61,32]}]).size<=140737488355328):=by show _<=_;have:=X.o;rw[I.o] at this;simp only[zt,List.foldl_cons,List.foldl_nil,ByteArray.size_append] at this ⊢;omega
      go_wp2_with fail;go_region_with (go_at_call 171;refine (zc6 c t [n,{data:=#[32,61,32]}] U J.o L.o (by simp)).mono ?_;rintro e w2 ⟨rfl,q,H,A⟩)
      all_goals (go_wp2_with fail;go_meet;exact⟨by rw[M.o],by rw[I.o];simp only[zt,List.foldl_cons,List.foldl_nil,<-ByteArray.append_assoc] at q ⊢;exact q,H,A⟩)
     |false=>
      cases h4:(k==4) with
      |true=>
       have I:Hid (zaV k n=({data:=#[112,114,105,110,116,40]}:BA)):=zlH K Y V h3 h4;have M:Hid (zaQ k n=({data:=#[41,59]}:BA)):=zlI K V h4;have L:Hid ((zt t [{data:=#[112,114,105,110,116,40]}]).size<=140737488355328):=by show _<=_;have:=X.o;rw[I.o] at this;simp only[zt,List.foldl_cons,List.foldl_nil,ByteArray.size_append] at this ⊢;omega
       go_wp2_with fail;refine (zbN c t [{data:=#[112,114,105,110,116,40]}] U J.o L.o (by simp)).mono ?_;rintro e w2 ⟨rfl,q,H,A⟩;go_wp2_with fail;go_meet;exact⟨by rw[M.o],by rw[I.o];exact q,H,A⟩
      |false=>
       cases h5:(k==5) with
       |true=>
        have I:Hid (zaV k n=({data:=#[116,104,114,111,119,32]}:BA)):=zlJ K Y V h3 h4 h5;have M:Hid (zaQ k n=({data:=#[59]}:BA)):=zlK K V h4;have L:Hid ((zt t [{data:=#[116,104,114,111,119,32]}]).size<=140737488355328):=by show _<=_;have:=X.o;rw[I.o] at this;simp only[zt,List.foldl_cons,List.foldl_nil,ByteArray.size_append] at this ⊢;omega
        go_wp2_with fail;refine (zbN c t [{data:=#[116,104,114,111,119,32]}] U J.o L.o (by simp)).mono ?_;rintro e w2 ⟨rfl,q,H,A⟩;go_wp2_with fail;go_meet;exact⟨by rw[M.o],by rw[I.o];exact q,H,A⟩
       |false=>
        have I:Hid (zaV k n=({data:=#[102,97,105,108,32]}:BA)):=zlL K Y V h3 h4 h5;have M:Hid (zaQ k n=({data:=#[59]}:BA)):=zlM K V h4;have L:Hid ((zt t [{data:=#[102,97,105,108,32]}]).size<=140737488355328):=by show _<=_;have:=X.o;rw[I.o] at this;simp only[zt,List.foldl_cons,List.foldl_nil,ByteArray.size_append] at this ⊢;omega
        go_wp2_with fail;refine (zbN c t [{data:=#[102,97,105,108,32]}] U J.o L.o (by simp)).mono ?_;rintro e w2 ⟨rfl,q,H,A⟩;go_wp2_with fail;go_meet;exact⟨by rw[M.o],by rw[I.o];exact q,H,A⟩
 case rest=>
 rename_i s4 w2
 obtain⟨rfl,q,H,A⟩:=hcut;have aq:=zc q;have ao:=zc (an.o.trans H);have am:=zc (ak.o.trans A);have X2:=zc ((A _ _ _ _ X1.o ah (by decide)).trans X1.o);clear q H A p0 p1 p2 p3 p4 p5 pf x0 x1 x2 xf au ag;obtain⟨x0,x1,x2,xf⟩:=zo X2.o;go_wp2_with fail;refine (OK.o _ _ aq.o (by have:=X.o;simp only[ByteArray.size_append] at this ⊢;omega)).mono ?_;rintro e w3 ⟨rfl,N,af,ad⟩;have aa:=zc N;have ai:=zc (ao.o.trans af);have ar:=zc (am.o.trans ad);clear N af ad x0 x1 x2 xf;obtain⟨p0,p1,p2,p3,p4,p5,pf⟩:=zw aa.o.2.2.1;go_wp2_with fail;refine (zbN c _ [zaQ k n,{data:=#[10]}] _ aa.o (by have:=X.o;have z:(({data:=#[10]}:BA)).size=1:=rfl;simp only[zt,List.foldl_cons,List.foldl_nil,ByteArray.size_append,z] at this ⊢;omega) (by simp)).mono ?_;rintro e w4 ⟨rfl,ac,ae,ab⟩;have al:=zc ac;have ap:=zc (ai.o.trans ae);have aj:=zc (ar.o.trans ab);clear ac ae ab p0 p1 p2 p3 p4 p5 pf;go_wp2;go_end0;exact⟨rfl,(by have N:=al.o;rw[zlN];simp only[zt,List.foldl_cons,List.foldl_nil,<-ByteArray.append_assoc] at N ⊢;exact N),ap.o,aj.o⟩
theorem zgT {α:Type} {l:List α} {j:Nat} (h:j<l.length): ∃x,l[j]? =some x:=⟨_,List.getElem?_eq_getElem h⟩
theorem ztk (l:List BA):l.map Value.string=l.flatMap (fun x=>[Value.string x]):=by
 induction l with
 |nil=>rfl
 |cons x l h=>rw[List.map_cons,List.flatMap_cons,h];rfl
theorem ztl (t:BA):t++sNone=t:=by
 cases t with
 |mk d=>
  show ByteArray.append _ _=_;simp[ByteArray.append]
theorem zlO (m:Md):(acc epF m.ep (acc zad m.im (acc rqT m.rq sNone))).size<=(zbK m).size:=zem _ _ _
theorem zlP (m:Md):(acc zad m.im (acc rqT m.rq sNone)).size<=(zbK m).size:=Nat.le_trans (zem _ _ _) (zlO m)
theorem ztm (m:Md):(acc rqT m.rq sNone).size<=(zbK m).size:=Nat.le_trans (zem _ _ _) (zlP m)
theorem zlQ (s:BA):rqT s=({data:=#[105,109,112,111,114,116,32]}:BA)++za1 s++({data:=#[59]}:BA)++({data:=#[10]}:BA):=by
 have h:({data:=#[59,10]}:BA)={data:=#[59]}++{data:=#[10]}:=zcm #[59] #[10];rw[rqT,h];simp only[ByteArray.append_assoc]
theorem zlR {x:Ep} (h:(x.loc.toList==[42,100,101,102,97,117,108,116])=false):epF x=zbu x:=by rw[epF,h];rfl
theorem ztn {x:Ep} (h:(x.loc.toList==[42,100,101,102,97,117,108,116])=true):epF x=sNone:=by rw[epF,h];rfl
theorem zto (c:PC) (w:World) (ok: ∀i,i<c.m.ex.length->zc9 c i) (hs: ∀s∈c.m.st,0<=s.expr/\s.expr<(c.m.ex.length:Int)) (hm:Small c.m) (h:PP c sNone w) (af:(zbK c.m).size<=140737488355328):
  Calls prog 172 #[.pointer (some ⟨c.gp,0,none⟩)] w (PO c (zbK c.m) w):=by
 have ah:=zc h;have SM:=zc hm;have OK:=zc ok;have HS:=zc hs;have HL:=zc af;obtain⟨f1,f2,f3,f4,f5⟩:=hm.few;clear h hm ok hs af;obtain⟨p0,p1,p2,p3,p4,p5,pf⟩:=zw ah.o.2.2.1;go_enter func172,ntmps172;go_wp2;go_loopg [16] c.m.rq.length (fun k i wr=>∃j:Nat,i= .int .i64 j/\j+k=c.m.rq.length/\PP c (acc rqT (c.m.rq.take j) sNone) wr/\Below c.B w wr/\KeepB c.b w wr)
 case atStart=>exact⟨0,rfl,by omega,ah.o,Below.refl _ _,fun _ _ _ _ _ _ _=>rfl⟩
 case round=>
  obtain⟨j,rfl,hj,U,N,O⟩:=hrel;have z:=zc U;have J:=zc N;have I:=zc O;clear U N O p0 p1 p2 p3 p4 p5 pf;obtain⟨p0,p1,p2,p3,p4,p5,pf⟩:=zw z.o.2.2.1;by_cases aa:j<c.m.rq.length
  ·have L:(j:Int)<(c.m.rq.length:Int):=by omega
   obtain⟨x,q⟩:=zgT aa;have H:=List.mem_of_getElem? q;have HZ:Hid ((acc rqT (c.m.rq.take j) sNone++rqT x).size<=140737488355328):=by show _<=_;rw[<-zc4 rqT q];exact Nat.le_trans (zdL rqT c.m.rq (j+1) sNone) (Nat.le_trans (ztm c.m) HL.o)
   have HX:=zc q;obtain⟨M,K⟩: ∃M,M=j+1:=⟨_,rfl⟩;have ej:(j:Int)+1=(M:Int):=by omega
   have HJ:=zc K;clear K;obtain⟨g,hg,k0⟩: ∃g,c.S.rq.a=some ⟨g,0,none⟩/\wr.cell? ⟨g,j,none⟩=some (.string x):=by
    obtain⟨g,hg,hc⟩:=OwnR.elem (f:=fun x=>[Value.string x]) (m:=1) (fun _=>rfl) (show OwnR wr c.base 9 1 c.S.rq c.m.rq.length (c.m.rq.flatMap fun x=>[Value.string x]) by rw[<-ztk];exact z.o.2.1.rq) q;have k0:=hc 0 (by omega);simp only[Nat.mul_one,Nat.add_zero,List.getElem?_cons_zero] at k0;exact⟨g,hg,k0⟩
   have aj:=SM.o.rq x H;have HG:Hid (Value.slice c.S.rq.a c.m.rq.length c.S.rq.cap=Value.slice (some ⟨g,0,none⟩) c.m.rq.length c.S.rq.cap):=by show _=_;rw[hg]
   clear hg q H p0 p1 p2 p3 p4 p5 pf;rw[HG.o];obtain⟨p0,p1,p2,p3,p4,p5,pf⟩:=zw z.o.2.2.1;have al:=(aLt z.o.2.2.1);go_wp2_with fail;go_region_with (first|(go_at_call 201;refine (zgR x _ (by omega)).mono ?_;rintro e w' ⟨rfl,rfl⟩)|(go_at_call 171;refine (zc6 c _ [{data:=#[105,109,112,111,114,116,32]},za1 x,{data:=#[59]},{data:=#[10]}] wr z.o (by have:=HZ.o;rw[zlQ] at this;simp only[zt,List.foldl_cons,List.foldl_nil,ByteArray.size_append] at this ⊢;omega) (by simp)).mono ?_;rintro e w3 ⟨rfl,ab,ai,ak⟩))
   all_goals
    have am:=zc ab;have an:=zc (J.o.trans ai);have ap:=zc (I.o.trans ak);clear ab ai ak p0 p1 p2 p3 p4 p5 pf al k0;go_wp2;rw[<-HG.o];go_roundg (gk-1)
    case rel=>exact⟨M,rfl,by have:=HJ.o;omega,by rw[HJ.o,zc4 rqT HX.o];exact (by have ab:=am.o;rw[zlQ];simp only[zt,List.foldl_cons,List.foldl_nil,<-ByteArray.append_assoc] at ab ⊢;exact ab),an.o,ap.o⟩
    case measure=>omega
  ·have L: ¬(j:Int)<(c.m.rq.length:Int):=by omega
   obtain rfl:j=c.m.rq.length:=by omega
   have HN:Hid (PP c (acc zad (c.m.im.take 0) (acc rqT c.m.rq sNone)) wr):=by have:=z.o;rw[List.take_length] at this;exact this
   go_wp2;go_loopg [35] c.m.im.length (fun k i wr=>∃j:Nat,i= .int .i64 j/\j+k=c.m.im.length/\PP c (acc zad (c.m.im.take j) (acc rqT c.m.rq sNone)) wr/\Below c.B w wr/\KeepB c.b w wr)
   case atStart=>exact⟨0,rfl,by omega,HN.o,J.o,I.o⟩
   case round=>
    obtain⟨j,rfl,hj,U,N,O⟩:=hrel;clear z J I HN;have z:=zc U;have J:=zc N;have I:=zc O;clear U N O p0 p1 p2 p3 p4 p5 pf;obtain⟨p0,p1,p2,p3,p4,p5,pf⟩:=zw z.o.2.2.1;by_cases aa:j<c.m.im.length
    ·have L:(j:Int)<(c.m.im.length:Int):=by omega
     obtain⟨x,q⟩:=zgT aa;have H:=List.mem_of_getElem? q;have HZ:Hid ((acc zad (c.m.im.take j) (acc rqT c.m.rq sNone)++zad x).size<=140737488355328):=by show _<=_;rw[<-zc4 zad q];exact Nat.le_trans (zdL zad c.m.im (j+1) (acc rqT c.m.rq sNone)) (Nat.le_trans (zlP c.m) HL.o)
     have HX:=zc q;obtain⟨M,K⟩: ∃M,M=j+1:=⟨_,rfl⟩;have ej:(j:Int)+1=(M:Int):=by omega
     have HJ:=zc K;clear K;obtain⟨g,hg,A⟩:=OwnR.elem (f:=imL) (m:=3) (fun _=>rfl) z.o.2.1.im q;have k0:=A 0 (by omega);have k1:=A 1 (by omega);have k2:=A 2 (by omega);simp only[imL,Nat.add_zero,List.getElem?_cons_zero,List.getElem?_cons_succ] at k0 k1 k2;clear A;have aj:=(SM.o.im x H).1;have HG:Hid (Value.slice c.S.im.a c.m.im.length c.S.im.cap=Value.slice (some ⟨g,0,none⟩) c.m.im.length c.S.im.cap):=by show _=_;rw[hg]
     clear hg q H p0 p1 p2 p3 p4 p5 pf;rw[HG.o];go_upto_region 8 with fail;have HW:Hid (Below wr.heap.size wr (wr.alloc (.cells #[.string x.spec,.string x.first,.string x.loc] 95))):=(Below.refl _ _).alloc (Nat.le_refl _) _;refine zx (R:=fun W=>W.heap[wr.heap.size]? =some (.cells #[.string x.spec,.string x.first,.string x.loc] 95 (0,0))/\PP c (acc zad (c.m.im.take j) (acc rqT c.m.rq sNone)) W/\Below c.B w W/\KeepB c.b w W) ⟨heap_alloc_new wr _,z.o.later HW.o,J.o.trans (HW.o.mono z.o.1.2),I.o.trans (KeepB.of_below HW.o)⟩ ?_;obtain⟨gx,V⟩: ∃gx,gx=wr.heap.size:=⟨_,rfl⟩;rw[<-V];clear k0 k1 k2 HW;rintro W ⟨xb,U,N,O⟩;clear V z J I;have XB:=zc xb;have z:=zc U;have J:=zc N;have I:=zc O;clear xb U N O;obtain⟨x0,x1,x2,xf⟩:=zo XB.o;go_wp2_with fail;refine (ztc c _ x W z.o HZ.o (by omega)).mono ?_;rintro e W2 ⟨rfl,Z,Y,X⟩;have ac:=zc Z;have ad:=zc (J.o.trans Y);have ae:=zc (I.o.trans X);clear Z Y X x0 x1 x2 xf;go_wp2;rw[<-HG.o];go_roundg (gk-1)
     case rel=>exact⟨M,rfl,by have:=HJ.o;omega,by rw[HJ.o,zc4 zad HX.o];exact ac.o,ad.o,ae.o⟩
     case measure=>omega
    ·have L: ¬(j:Int)<(c.m.im.length:Int):=by omega
     obtain rfl:j=c.m.im.length:=by omega
     have HN:Hid (PP c (acc epF (c.m.ep.take 0) (acc zad c.m.im (acc rqT c.m.rq sNone))) wr):=by have:=z.o;rw[List.take_length] at this;exact this
     go_wp2;go_loopg [49] c.m.ep.length (fun k i wr=>∃j:Nat,i= .int .i64 j/\j+k=c.m.ep.length/\PP c (acc epF (c.m.ep.take j) (acc zad c.m.im (acc rqT c.m.rq sNone))) wr/\Below c.B w wr/\KeepB c.b w wr)
     case atStart=>exact⟨0,rfl,by omega,HN.o,J.o,I.o⟩
     case round=>
      obtain⟨j,rfl,hj,U,N,O⟩:=hrel;clear z J I HN;have z:=zc U;have J:=zc N;have I:=zc O;clear U N O p0 p1 p2 p3 p4 p5 pf;obtain⟨p0,p1,p2,p3,p4,p5,pf⟩:=zw z.o.2.2.1;by_cases aa:j<c.m.ep.length
      ·have L:(j:Int)<(c.m.ep.length:Int):=by omega
       obtain⟨x,q⟩:=zgT aa;have H:=List.mem_of_getElem? q;have HZ:Hid ((acc epF (c.m.ep.take j) (acc zad c.m.im (acc rqT c.m.rq sNone))++epF x).size<=140737488355328):=by show _<=_;rw[<-zc4 epF q];exact Nat.le_trans (zdL epF c.m.ep (j+1) (acc zad c.m.im (acc rqT c.m.rq sNone))) (Nat.le_trans (zlO c.m) HL.o)
       have HX:=zc q;obtain⟨M,K⟩: ∃M,M=j+1:=⟨_,rfl⟩;have ej:(j:Int)+1=(M:Int):=by omega
       have HJ:=zc K;clear K;obtain⟨g,hg,A⟩:=OwnR.elem (f:=epL) (m:=4) (fun _=>rfl) z.o.2.1.ep q;have k0:=A 0 (by omega);have k1:=A 1 (by omega);have k2:=A 2 (by omega);have k3:=A 3 (by omega);simp only[epL,Nat.add_zero,List.getElem?_cons_zero,List.getElem?_cons_succ] at k0 k1 k2 k3;clear A;have aj:=(SM.o.ep x H).1;have HG:Hid (Value.slice c.S.ep.a c.m.ep.length c.S.ep.cap=Value.slice (some ⟨g,0,none⟩) c.m.ep.length c.S.ep.cap):=by show _=_;rw[hg]
       clear hg q H p0 p1 p2 p3 p4 p5 pf;rw[HG.o];go_upto_region 13 with fail;have HW:Hid (Below wr.heap.size wr (wr.alloc (.cells #[.int .i64 x.kind,.string x.name,.string x.loc,.string x.spec] 97))):=(Below.refl _ _).alloc (Nat.le_refl _) _;refine zx (R:=fun W=>W.heap[wr.heap.size]? =some (.cells #[.int .i64 x.kind,.string x.name,.string x.loc,.string x.spec] 97 (0,0))/\PP c (acc epF (c.m.ep.take j) (acc zad c.m.im (acc rqT c.m.rq sNone))) W/\Below c.B w W/\KeepB c.b w W) ⟨heap_alloc_new wr _,z.o.later HW.o,J.o.trans (HW.o.mono z.o.1.2),I.o.trans (KeepB.of_below HW.o)⟩ ?_;obtain⟨gx,V⟩: ∃gx,gx=wr.heap.size:=⟨_,rfl⟩;rw[<-V];clear k0 k1 k2 k3 HW;rintro W ⟨xb,U,N,O⟩;clear V z J I;have XB:=zc xb;have z:=zc U;have J:=zc N;have I:=zc O;clear xb U N O;obtain⟨x0,x1,x2,x3,xf⟩:=zbJ XB.o;cases e1:(x.loc.toList==[42,100,101,102,97,117,108,116]) with
       |false=>
        go_wp2_with fail;refine (zth c _ x W z.o (by have:=HZ.o;rw[zlR e1] at this;exact this) (by omega)).mono ?_;rintro e W2 ⟨rfl,Z,Y,X⟩;have ac:=zc Z;have ad:=zc (J.o.trans Y);have ae:=zc (I.o.trans X);clear Z Y X x0 x1 x2 x3 xf;go_wp2;rw[<-HG.o];go_roundg (gk-1)
        case rel=>exact⟨M,rfl,by have:=HJ.o;omega,by rw[HJ.o,zc4 epF HX.o];exact (by rw[zlR e1];exact ac.o),ad.o,ae.o⟩
        case measure=>omega
       |true=>
        go_wp2;rw[<-HG.o];go_roundg (gk-1)
        case rel=>exact⟨M,rfl,by have:=HJ.o;omega,by rw[HJ.o,zc4 epF HX.o];exact (by rw[ztn e1,ztl];exact z.o),J.o,I.o⟩
        case measure=>omega
      ·have L: ¬(j:Int)<(c.m.ep.length:Int):=by omega
       obtain rfl:j=c.m.ep.length:=by omega
       have HN:Hid (PP c (acc (zcH c.m.ex) (c.m.st.take 0) (zci c.m)) wr):=by have:=z.o;rw[List.take_length] at this;exact this
       go_wp2;go_loopg [66] c.m.st.length (fun k i wr=>∃j:Nat,i= .int .i64 j/\j+k=c.m.st.length/\PP c (acc (zcH c.m.ex) (c.m.st.take j) (zci c.m)) wr/\Below c.B w wr/\KeepB c.b w wr)
       case atStart=>exact⟨0,rfl,by omega,HN.o,J.o,I.o⟩
       case round=>
        obtain⟨j,rfl,hj,U,N,O⟩:=hrel;clear z J I HN;have z:=zc U;have J:=zc N;have I:=zc O;clear U N O p0 p1 p2 p3 p4 p5 pf;obtain⟨p0,p1,p2,p3,p4,p5,pf⟩:=zw z.o.2.2.1;by_cases aa:j<c.m.st.length
        ·have L:(j:Int)<(c.m.st.length:Int):=by omega
         obtain⟨x,q⟩:=zgT aa;have H:=List.mem_of_getElem? q;have HZ:Hid ((acc (zcH c.m.ex) (c.m.st.take j) (zci c.m)++(zcH c.m.ex) x).size<=140737488355328):=by show _<=_;rw[<-zc4 (zcH c.m.ex) q];exact Nat.le_trans (zdL (zcH c.m.ex) c.m.st (j+1) (zci c.m)) HL.o
         have HX:=zc q;obtain⟨M,K⟩: ∃M,M=j+1:=⟨_,rfl⟩;have ej:(j:Int)+1=(M:Int):=by omega
         have HJ:=zc K;clear K;obtain⟨ei,ag⟩: ∃n:Nat,x.expr=(n:Int):=⟨x.expr.toNat,by have:=HS.o x H;omega⟩;have ao:ei<c.m.ex.length:=by have:=HS.o x H;omega
         obtain⟨g,hg,A⟩:=OwnR.elem (f:=smL) (m:=3) (fun _=>rfl) z.o.2.1.st q;have k0:=A 0 (by omega);have k1:=A 1 (by omega);have k2:=A 2 (by omega);simp only[smL,Nat.add_zero,List.getElem?_cons_zero,List.getElem?_cons_succ,ag] at k0 k1 k2;clear A;have HG:Hid (Value.slice c.S.st.a c.m.st.length c.S.st.cap=Value.slice (some ⟨g,0,none⟩) c.m.st.length c.S.st.cap):=by show _=_;rw[hg]
         clear hg q H p0 p1 p2 p3 p4 p5 pf;rw[HG.o];go_upto_region 19 with fail;have HW:Hid (Below wr.heap.size wr (wr.alloc (.cells #[.int .i64 x.kind,.string x.name,.int .i64 (ei:Int)] 102))):=(Below.refl _ _).alloc (Nat.le_refl _) _;refine zx (R:=fun W=>W.heap[wr.heap.size]? =some (.cells #[.int .i64 x.kind,.string x.name,.int .i64 (ei:Int)] 102 (0,0))/\PP c (acc (zcH c.m.ex) (c.m.st.take j) (zci c.m)) W/\Below c.B w W/\KeepB c.b w W) ⟨heap_alloc_new wr _,z.o.later HW.o,J.o.trans (HW.o.mono z.o.1.2),I.o.trans (KeepB.of_below HW.o)⟩ ?_;obtain⟨gx,V⟩: ∃gx,gx=wr.heap.size:=⟨_,rfl⟩;rw[<-V];clear k0 k1 k2 HW;rintro W ⟨xb,U,N,O⟩;clear V z J I;have XB:=zc xb;have z:=zc U;have J:=zc N;have I:=zc O;clear xb U N O;obtain⟨x0,x1,x2,xf⟩:=zo XB.o;go_wp2_with fail;refine (ztj c _ x.kind x.name ei W (OK.o ei ao) z.o (by have:=HZ.o;rw[zcH,ag,Int.toNat_natCast] at this;exact this)).mono ?_;rintro e W2 ⟨rfl,Z,Y,X⟩;have ac:=zc Z;have ad:=zc (J.o.trans Y);have ae:=zc (I.o.trans X);clear Z Y X x0 x1 x2 xf;go_wp2;rw[<-HG.o];go_roundg (gk-1)
         case rel=>exact⟨M,rfl,by have:=HJ.o;omega,by rw[HJ.o,zc4 (zcH c.m.ex) HX.o];exact (by rw[zcH,ag,Int.toNat_natCast];exact ac.o),ad.o,ae.o⟩
         case measure=>omega
        ·have L: ¬(j:Int)<(c.m.st.length:Int):=by omega
         obtain rfl:j=c.m.st.length:=by omega
         have HN:Hid (PP c (zbK c.m) wr):=by have:=z.o;rw[List.take_length] at this;exact this
         go_wp2;go_end0;exact⟨rfl,HN.o,J.o,I.o⟩
theorem zlS (c:PC) (t:BA) (k U:Int) (I z sg:BA) (l r:Nat) (w:World) (ad:zc9 c l) (ab:zc9 c r) (hr:r<c.m.ex.length) (h:PP c t w) (A:(t++(prX c.m.ex l++sg++zJ (zQ (c.m.ex.getD r zh).kind) (prX c.m.ex r))).size<=140737488355328):
  Calls prog 242 #[.pointer (some ⟨c.gp,0,none⟩),.agg #[.int .i64 k,.int .i64 U,.string I,.string z,.int .i64 (l:Int),.int .i64 (r:Int)],.string sg] w (PO c (t++(prX c.m.ex l++sg++zJ (zQ (c.m.ex.getD r zh).kind) (prX c.m.ex r))) w):=by
 have HP:=zc h;obtain⟨kk,O⟩: ∃kk,(c.m.ex.getD r zh).kind=kk:=⟨_,rfl⟩;rw[O] at A ⊢;have KK:=zc O;have HL:Hid (t.size+((prX c.m.ex l).size+sg.size+(zJ (zQ kk) (prX c.m.ex r)).size)<=140737488355328):=by show _<=_;simp only[ByteArray.size_append] at A;exact A
 obtain⟨T,hT⟩: ∃T,T=prX c.m.ex l++sg++zJ (zQ kk) (prX c.m.ex r):=⟨_,rfl⟩;rw[<-hT];have HT:=zc hT;have af:=zc ad;have ae:=zc ab;have HR:=zc hr;clear h A ad ab hr O hT;go_enter func242,ntmps242;go_upto_region 1 with fail;have HW:Hid (Below w.heap.size w (w.alloc (.cells #[.int .i64 k,.int .i64 U,.string I,.string z,.int .i64 (l:Int),.int .i64 (r:Int)] 100))):=(Below.refl _ _).alloc (Nat.le_refl _) _;refine zx (R:=fun W=>W.heap[w.heap.size]? =some (.cells #[.int .i64 k,.int .i64 U,.string I,.string z,.int .i64 (l:Int),.int .i64 (r:Int)] 100 (0,0))/\PP c t W/\Below c.B w W/\KeepB c.b w W) ⟨heap_alloc_new w _,HP.o.later HW.o,HW.o.mono HP.o.1.2,KeepB.of_below HW.o⟩ ?_;obtain⟨gx,Y⟩: ∃gx,gx=w.heap.size:=⟨_,rfl⟩;have aa:gx≠c.b:=by
  rw[Y];obtain⟨am,hc⟩:=zcl HP.o.1.1;have:=(aLt hc);omega
 rw[<-Y];rintro w1 ⟨hx,J,K,H⟩;clear Y HW;have X1:=zc hx;have V:=zc J;have aj:=zc K;have ah:=zc H;clear hx J K H;obtain⟨x0,x1,x2,x3,x4,x5,xf⟩:=zw X1.o;obtain⟨p0,p1,p2,p3,p4,p5,pf⟩:=zw V.o.2.2.1;have N:=(aLt V.o.2.2.1);have L:=(aLt X1.o);go_wp2_with fail;refine (zgS c t l false w1 af.o V.o (by have:=HL.o;simp only[zJ,Bool.false_eq_true,↓reduceIte,ByteArray.size_append] at this ⊢;omega)).mono ?_;rintro e w2 ⟨rfl,J,K,H⟩;have X:=zc J;have ak:=zc (aj.o.trans K);have ai:=zc (ah.o.trans H);have X2:=zc ((H _ _ _ _ X1.o aa (by decide)).trans X1.o);clear J K H p0 p1 p2 p3 p4 p5 pf x0 x1 x2 x3 x4 x5 xf N L;obtain⟨x0,x1,x2,x3,x4,x5,xf⟩:=zw X2.o;obtain⟨p0,p1,p2,p3,p4,p5,pf⟩:=zw X.o.2.2.1;have N:=(aLt X.o.2.2.1);have L:=(aLt X2.o);go_wp2_with fail;refine (zbN c _ [sg] w2 X.o (by have:=HL.o;simp only[zt,zJ,Bool.false_eq_true,↓reduceIte,List.foldl_cons,List.foldl_nil,ByteArray.size_append] at this ⊢;omega) (by simp)).mono ?_;rintro e Z ⟨rfl,J,K,H⟩;have M:=zc J;have ag:=zc (ak.o.trans K);have al:=zc (ai.o.trans H);have X3:=zc ((H _ _ _ _ X2.o aa (by decide)).trans X2.o);clear J K H p0 p1 p2 p3 p4 p5 pf x0 x1 x2 x3 x4 x5 xf N L;obtain⟨x0,x1,x2,x3,x4,x5,xf⟩:=zw X3.o;obtain⟨p0,p1,p2,p3,p4,p5,pf⟩:=zw M.o.2.2.1;have N:=(aLt M.o.2.2.1);have L:=(aLt X3.o);go_wp2_with fail;have ac:=zc (M.o.later ((Below.refl Z.heap.size Z).drew));go_region_with (first|(go_at_call 244;refine (ziu c _ r _ ac.o HR.o).mono ?_;rintro e w' ⟨rfl,rfl⟩;rw[KK.o])|(go_at_call 222;refine (zfO _ _).mono ?_;rintro e w' ⟨rfl,rfl⟩)|(go_at_call 243;refine (zgS c _ r (zQ kk) _ ae.o ac.o (by have:=HL.o;simp only[zt,show ∀q,zJ false q=q from fun _=>rfl,List.foldl_cons,List.foldl_nil,ByteArray.size_append] at this ⊢;omega)).mono ?_;rintro e w4 ⟨rfl,J,K,H⟩))
 all_goals (go_wp2;go_end0;exact⟨rfl,(by rw[HT.o];simp only[zt,show ∀q,zJ false q=q from fun _=>rfl,List.foldl_cons,List.foldl_nil,<-ByteArray.append_assoc] at J ⊢;exact J),ag.o.trans ((((Below.refl Z.heap.size Z).drew).mono M.o.1.2).trans K),al.o.trans ((KeepB.of_below ((Below.refl Z.heap.size Z).drew)).trans H)⟩)
theorem ztp (c:PC) (t:BA) (i:Nat) (q:Int) (A z:BA) (l r:Int) (w:World) (h:PP c t w) (hi:i<c.m.ex.length) (N:c.m.ex.getD i zh=⟨1,q,A,z,l,r⟩) (hn: -9223372036854775808<=q/\q<=9223372036854775807) (H:(t++(strOfNums (zbW q))).size<=140737488355328):
  Calls prog 225 #[.pointer (some ⟨c.gp,0,none⟩),.int .i64 (i:Int)] w (PO c (t++(strOfNums (zbW q))) w):=by
 have U:=zc h;obtain⟨T,hT⟩: ∃T,T=strOfNums (zbW q):=⟨_,rfl⟩;rw[<-hT] at H ⊢;have HT:=zc hT;have HL:=zc H;clear h H hT;obtain⟨p0,p1,p2,p3,p4,p5,pf⟩:=zw U.o.2.2.1;obtain⟨g,hg,O,V,x1,x2,Y,X,x5⟩:=U.o.2.1.expr hi;rw[N] at V x1 x2 Y X x5;dsimp only at V x1 x2 Y X x5;rw[hg] at p4;have ab:(i:Int)<(c.m.ex.length:Int):=by omega
 clear hg N;go_enter func225,ntmps225;go_upto_region 1 with fail;have HW:Hid (Below w.heap.size w (w.alloc (.cells #[.int .i64 1,.int .i64 q,.string A,.string z,.int .i64 l,.int .i64 r] 100))):=(Below.refl _ _).alloc (Nat.le_refl _) _;refine zx (R:=fun W=>W.heap[w.heap.size]? =some (.cells #[.int .i64 1,.int .i64 q,.string A,.string z,.int .i64 l,.int .i64 r] 100 (0,0))/\PP c t W/\Below c.B w W/\KeepB c.b w W) ⟨heap_alloc_new w _,U.o.later HW.o,HW.o.mono U.o.1.2,KeepB.of_below HW.o⟩ ?_;obtain⟨gx,L⟩: ∃gx,gx=w.heap.size:=⟨_,rfl⟩;have ai:gx≠c.b:=by
  rw[L];obtain⟨aj,hc⟩:=zcl U.o.1.1;have:=(aLt hc);omega
 rw[<-L];rintro w1 ⟨N,hp,Z,hk⟩;clear L HW O V x1 x2 Y X x5 p0 p1 p2 p3 p4 p5 pf ab;have X1:=zc N;have I:=zc hp;have ac:=zc Z;have aa:=zc hk;clear N hp Z hk;obtain⟨V,x1,x2,Y,X,x5,xf⟩:=zw X1.o;obtain⟨p0,p1,p2,p3,p4,p5,pf⟩:=zw I.o.2.2.1;have O:=(aLt I.o.2.2.1);have ah:=(aLt X1.o);have HN:=zc hn;go_wp2_with fail;go_region_with (first|(go_at_call 241;refine (zqY q _ HN.o).mono ?_;rintro e w2 ⟨rfl,M⟩;have J:=zc (((Below.refl w1.heap.size w1).drew).trans M);have K:=zc (I.o.later J.o);have X2:=zc ((J.o.block _ (aLt X1.o)).trans X1.o);clear M;obtain⟨y0,y1,y2,y3,y4,y5,yf⟩:=zw X2.o;obtain⟨q0,q1,q2,q3,q4,q5,qf⟩:=zw K.o.2.2.1;have af:=(aLt K.o.2.2.1);have ag:=(aLt X2.o))|(go_at_call 171;refine (zbN c t [strOfNums (zbW q)] _ K.o (by have:=HL.o;rw[HT.o] at this;simp only[zt,List.foldl_cons,List.foldl_nil,ByteArray.size_append] at this ⊢;omega) (by simp)).mono ?_;rintro e w3 ⟨rfl,hp,ae,ad⟩))
 all_goals (have Z:=(J.o.mono I.o.1.2).trans ae;have hk:=(KeepB.of_below (b:=c.b) J.o).trans ad;go_wp2;go_end0;exact⟨rfl,(by rw[HT.o];exact hp),ac.o.trans Z,aa.o.trans hk⟩)
theorem ztq (c:PC) (t:BA) (i:Nat) (H:Int) (q z:BA) (l r:Int) (w:World) (h:PP c t w) (hi:i<c.m.ex.length) (K:c.m.ex.getD i zh=⟨2,H,q,z,l,r⟩) (A:(t++(q)).size<=140737488355328):
  Calls prog 225 #[.pointer (some ⟨c.gp,0,none⟩),.int .i64 (i:Int)] w (PO c (t++(q)) w):=by
 have M:=zc h;obtain⟨T,hT⟩: ∃T,T=q:=⟨_,rfl⟩;rw[<-hT] at A ⊢;have HT:=zc hT;have HL:=zc A;clear h A hT;obtain⟨p0,p1,p2,p3,p4,p5,pf⟩:=zw M.o.2.2.1;obtain⟨g,hg,L,N,x1,x2,U,O,x5⟩:=M.o.2.1.expr hi;rw[K] at N x1 x2 U O x5;dsimp only at N x1 x2 U O x5;rw[hg] at p4;have ab:(i:Int)<(c.m.ex.length:Int):=by omega
 clear hg K;go_enter func225,ntmps225;go_upto_region 1 with fail;have Z:Hid (Below w.heap.size w (w.alloc (.cells #[.int .i64 2,.int .i64 H,.string q,.string z,.int .i64 l,.int .i64 r] 100))):=(Below.refl _ _).alloc (Nat.le_refl _) _;refine zx (R:=fun W=>W.heap[w.heap.size]? =some (.cells #[.int .i64 2,.int .i64 H,.string q,.string z,.int .i64 l,.int .i64 r] 100 (0,0))/\PP c t W/\Below c.B w W/\KeepB c.b w W) ⟨heap_alloc_new w _,M.o.later Z.o,Z.o.mono M.o.1.2,KeepB.of_below Z.o⟩ ?_;obtain⟨gx,J⟩: ∃gx,gx=w.heap.size:=⟨_,rfl⟩;have ae:gx≠c.b:=by
  rw[J];obtain⟨af,hc⟩:=zcl M.o.1.1;have:=(aLt hc);omega
 rw[<-J];rintro w1 ⟨K,Y,V,X⟩;clear J Z L N x1 x2 U O x5 p0 p1 p2 p3 p4 p5 pf ab;have X1:=zc K;have I:=zc Y;have ac:=zc V;have aa:=zc X;clear K Y V X;obtain⟨N,x1,x2,U,O,x5,xf⟩:=zw X1.o;obtain⟨p0,p1,p2,p3,p4,p5,pf⟩:=zw I.o.2.2.1;have L:=(aLt I.o.2.2.1);have ad:=(aLt X1.o);go_wp2_with fail;go_region_with (go_at_call 171;refine (zc6 c t [q] w1 I.o (by have:=HL.o;rw[HT.o] at this;simp only[zt,List.foldl_cons,List.foldl_nil,ByteArray.size_append] at this ⊢;omega) (by simp)).mono ?_;rintro e w2 ⟨rfl,Y,V,X⟩)
 all_goals (go_wp2;go_end0;exact⟨rfl,(by rw[HT.o];exact Y),ac.o.trans V,aa.o.trans X⟩)
theorem ztr (c:PC) (t:BA) (i:Nat) (H:Int) (q z:BA) (l r:Int) (w:World) (h:PP c t w) (hi:i<c.m.ex.length) (L:c.m.ex.getD i zh=⟨3,H,q,z,l,r⟩) (A:(t++(q++cParens)).size<=140737488355328):
  Calls prog 225 #[.pointer (some ⟨c.gp,0,none⟩),.int .i64 (i:Int)] w (PO c (t++(q++cParens)) w):=by
 have N:=zc h;obtain⟨T,hT⟩: ∃T,T=q++cParens:=⟨_,rfl⟩;rw[<-hT] at A ⊢;have HT:=zc hT;have HL:=zc A;clear h A hT;obtain⟨p0,p1,p2,p3,p4,p5,pf⟩:=zw N.o.2.2.1;obtain⟨g,hg,M,O,x1,x2,V,U,x5⟩:=N.o.2.1.expr hi;rw[L] at O x1 x2 V U x5;dsimp only at O x1 x2 V U x5;rw[hg] at p4;have ab:(i:Int)<(c.m.ex.length:Int):=by omega
 clear hg L;go_enter func225,ntmps225;go_upto_region 1 with fail;have Z:Hid (Below w.heap.size w (w.alloc (.cells #[.int .i64 3,.int .i64 H,.string q,.string z,.int .i64 l,.int .i64 r] 100))):=(Below.refl _ _).alloc (Nat.le_refl _) _;refine zx (R:=fun W=>W.heap[w.heap.size]? =some (.cells #[.int .i64 3,.int .i64 H,.string q,.string z,.int .i64 l,.int .i64 r] 100 (0,0))/\PP c t W/\Below c.B w W/\KeepB c.b w W) ⟨heap_alloc_new w _,N.o.later Z.o,Z.o.mono N.o.1.2,KeepB.of_below Z.o⟩ ?_;obtain⟨gx,J⟩: ∃gx,gx=w.heap.size:=⟨_,rfl⟩;have ae:gx≠c.b:=by
  rw[J];obtain⟨af,hc⟩:=zcl N.o.1.1;have:=(aLt hc);omega
 rw[<-J];rintro w1 ⟨L,K,X,Y⟩;clear J Z M O x1 x2 V U x5 p0 p1 p2 p3 p4 p5 pf ab;have X1:=zc L;have I:=zc K;have ac:=zc X;have aa:=zc Y;clear L K X Y;obtain⟨O,x1,x2,V,U,x5,xf⟩:=zw X1.o;obtain⟨p0,p1,p2,p3,p4,p5,pf⟩:=zw I.o.2.2.1;have M:=(aLt I.o.2.2.1);have ad:=(aLt X1.o);go_wp2_with fail;go_region_with (go_at_call 171;refine (zc6 c t [q,cParens] w1 I.o (by have:=HL.o;rw[HT.o] at this;simp only[zt,List.foldl_cons,List.foldl_nil,ByteArray.size_append] at this ⊢;omega) (by simp)).mono ?_;rintro e w2 ⟨rfl,K,X,Y⟩)
 all_goals (go_wp2;go_end0;exact⟨rfl,(by rw[HT.o];simp only[zt,List.foldl_cons,List.foldl_nil,<-ByteArray.append_assoc] at K ⊢;exact K),ac.o.trans X,aa.o.trans Y⟩)
theorem zts (c:PC) (t:BA) (i:Nat) (H:Int) (z q:BA) (l r:Int) (w:World) (h:PP c t w) (hi:i<c.m.ex.length) (L:c.m.ex.getD i zh=⟨4,H,z,q,l,r⟩) (A:(t++(z++cPoint++q)).size<=140737488355328):
  Calls prog 225 #[.pointer (some ⟨c.gp,0,none⟩),.int .i64 (i:Int)] w (PO c (t++(z++cPoint++q)) w):=by
 have N:=zc h;obtain⟨T,hT⟩: ∃T,T=z++cPoint++q:=⟨_,rfl⟩;rw[<-hT] at A ⊢;have HT:=zc hT;have HL:=zc A;clear h A hT;obtain⟨p0,p1,p2,p3,p4,p5,pf⟩:=zw N.o.2.2.1;obtain⟨g,hg,M,O,x1,x2,V,U,x5⟩:=N.o.2.1.expr hi;rw[L] at O x1 x2 V U x5;dsimp only at O x1 x2 V U x5;rw[hg] at p4;have ab:(i:Int)<(c.m.ex.length:Int):=by omega
 clear hg L;go_enter func225,ntmps225;go_upto_region 1 with fail;have Z:Hid (Below w.heap.size w (w.alloc (.cells #[.int .i64 4,.int .i64 H,.string z,.string q,.int .i64 l,.int .i64 r] 100))):=(Below.refl _ _).alloc (Nat.le_refl _) _;refine zx (R:=fun W=>W.heap[w.heap.size]? =some (.cells #[.int .i64 4,.int .i64 H,.string z,.string q,.int .i64 l,.int .i64 r] 100 (0,0))/\PP c t W/\Below c.B w W/\KeepB c.b w W) ⟨heap_alloc_new w _,N.o.later Z.o,Z.o.mono N.o.1.2,KeepB.of_below Z.o⟩ ?_;obtain⟨gx,J⟩: ∃gx,gx=w.heap.size:=⟨_,rfl⟩;have ae:gx≠c.b:=by
  rw[J];obtain⟨af,hc⟩:=zcl N.o.1.1;have:=(aLt hc);omega
 rw[<-J];rintro w1 ⟨L,K,X,Y⟩;clear J Z M O x1 x2 V U x5 p0 p1 p2 p3 p4 p5 pf ab;have X1:=zc L;have I:=zc K;have ac:=zc X;have aa:=zc Y;clear L K X Y;obtain⟨O,x1,x2,V,U,x5,xf⟩:=zw X1.o;obtain⟨p0,p1,p2,p3,p4,p5,pf⟩:=zw I.o.2.2.1;have M:=(aLt I.o.2.2.1);have ad:=(aLt X1.o);go_wp2_with fail;go_region_with (go_at_call 171;refine (zc6 c t [z,cPoint,q] w1 I.o (by have:=HL.o;rw[HT.o] at this;simp only[zt,List.foldl_cons,List.foldl_nil,ByteArray.size_append] at this ⊢;omega) (by simp)).mono ?_;rintro e w2 ⟨rfl,K,X,Y⟩)
 all_goals (go_wp2;go_end0;exact⟨rfl,(by rw[HT.o];simp only[zt,List.foldl_cons,List.foldl_nil,<-ByteArray.append_assoc] at K ⊢;exact K),ac.o.trans X,aa.o.trans Y⟩)
theorem ztt (c:PC) (t:BA) (i:Nat) (H:Int) (z q:BA) (l r:Int) (w:World) (h:PP c t w) (hi:i<c.m.ex.length) (L:c.m.ex.getD i zh=⟨5,H,z,q,l,r⟩) (A:(t++(z++cPoint++q++cParens)).size<=140737488355328):
  Calls prog 225 #[.pointer (some ⟨c.gp,0,none⟩),.int .i64 (i:Int)] w (PO c (t++(z++cPoint++q++cParens)) w):=by
 have N:=zc h;obtain⟨T,hT⟩: ∃T,T=z++cPoint++q++cParens:=⟨_,rfl⟩;rw[<-hT] at A ⊢;have HT:=zc hT;have HL:=zc A;clear h A hT;obtain⟨p0,p1,p2,p3,p4,p5,pf⟩:=zw N.o.2.2.1;obtain⟨g,hg,M,O,x1,x2,V,U,x5⟩:=N.o.2.1.expr hi;rw[L] at O x1 x2 V U x5;dsimp only at O x1 x2 V U x5;rw[hg] at p4;have ab:(i:Int)<(c.m.ex.length:Int):=by omega
 clear hg L;go_enter func225,ntmps225;go_upto_region 1 with fail;have Z:Hid (Below w.heap.size w (w.alloc (.cells #[.int .i64 5,.int .i64 H,.string z,.string q,.int .i64 l,.int .i64 r] 100))):=(Below.refl _ _).alloc (Nat.le_refl _) _;refine zx (R:=fun W=>W.heap[w.heap.size]? =some (.cells #[.int .i64 5,.int .i64 H,.string z,.string q,.int .i64 l,.int .i64 r] 100 (0,0))/\PP c t W/\Below c.B w W/\KeepB c.b w W) ⟨heap_alloc_new w _,N.o.later Z.o,Z.o.mono N.o.1.2,KeepB.of_below Z.o⟩ ?_;obtain⟨gx,J⟩: ∃gx,gx=w.heap.size:=⟨_,rfl⟩;have ae:gx≠c.b:=by
  rw[J];obtain⟨af,hc⟩:=zcl N.o.1.1;have:=(aLt hc);omega
 rw[<-J];rintro w1 ⟨L,K,X,Y⟩;clear J Z M O x1 x2 V U x5 p0 p1 p2 p3 p4 p5 pf ab;have X1:=zc L;have I:=zc K;have ac:=zc X;have aa:=zc Y;clear L K X Y;obtain⟨O,x1,x2,V,U,x5,xf⟩:=zw X1.o;obtain⟨p0,p1,p2,p3,p4,p5,pf⟩:=zw I.o.2.2.1;have M:=(aLt I.o.2.2.1);have ad:=(aLt X1.o);go_wp2_with fail;go_region_with (go_at_call 171;refine (zc6 c t [z,cPoint,q,cParens] w1 I.o (by have:=HL.o;rw[HT.o] at this;simp only[zt,List.foldl_cons,List.foldl_nil,ByteArray.size_append] at this ⊢;omega) (by simp)).mono ?_;rintro e w2 ⟨rfl,K,X,Y⟩)
 all_goals (go_wp2;go_end0;exact⟨rfl,(by rw[HT.o];simp only[zt,List.foldl_cons,List.foldl_nil,<-ByteArray.append_assoc] at K ⊢;exact K),ac.o.trans X,aa.o.trans Y⟩)
theorem ztu (c:PC) (t:BA) (i:Nat) (H:Int) (z q:BA) (l r:Nat) (w:World) (h:PP c t w) (hi:i<c.m.ex.length) (L:c.m.ex.getD i zh=⟨6,H,z,q,(l:Int),(r:Int)⟩) (ae:zc9 c l) (ac:zc9 c r) (hr:r<c.m.ex.length) (A:(t++(prX c.m.ex l++tPlus++zJ (zQ (c.m.ex.getD r zh).kind) (prX c.m.ex r))).size<=140737488355328):
  Calls prog 225 #[.pointer (some ⟨c.gp,0,none⟩),.int .i64 (i:Int)] w (PO c (t++(prX c.m.ex l++tPlus++zJ (zQ (c.m.ex.getD r zh).kind) (prX c.m.ex r))) w):=by
 have N:=zc h;obtain⟨T,hT⟩: ∃T,T=prX c.m.ex l++tPlus++zJ (zQ (c.m.ex.getD r zh).kind) (prX c.m.ex r):=⟨_,rfl⟩;rw[<-hT] at A ⊢;have HT:=zc hT;have HL:=zc A;clear h A hT;obtain⟨p0,p1,p2,p3,p4,p5,pf⟩:=zw N.o.2.2.1;obtain⟨g,hg,M,O,x1,x2,V,U,x5⟩:=N.o.2.1.expr hi;rw[L] at O x1 x2 V U x5;dsimp only at O x1 x2 V U x5;rw[hg] at p4;have ab:(i:Int)<(c.m.ex.length:Int):=by omega
 clear hg L;go_enter func225,ntmps225;go_upto_region 1 with fail;have Z:Hid (Below w.heap.size w (w.alloc (.cells #[.int .i64 6,.int .i64 H,.string z,.string q,.int .i64 (l:Int),.int .i64 (r:Int)] 100))):=(Below.refl _ _).alloc (Nat.le_refl _) _;refine zx (R:=fun W=>W.heap[w.heap.size]? =some (.cells #[.int .i64 6,.int .i64 H,.string z,.string q,.int .i64 (l:Int),.int .i64 (r:Int)] 100 (0,0))/\PP c t W/\Below c.B w W/\KeepB c.b w W) ⟨heap_alloc_new w _,N.o.later Z.o,Z.o.mono N.o.1.2,KeepB.of_below Z.o⟩ ?_;obtain⟨gx,J⟩: ∃gx,gx=w.heap.size:=⟨_,rfl⟩;have ah:gx≠c.b:=by
  rw[J];obtain⟨ai,hc⟩:=zcl N.o.1.1;have:=(aLt hc);omega
 rw[<-J];rintro w1 ⟨L,K,X,Y⟩;clear J Z M O x1 x2 V U x5 p0 p1 p2 p3 p4 p5 pf ab;have X1:=zc L;have I:=zc K;have ad:=zc X;have aa:=zc Y;clear L K X Y;obtain⟨O,x1,x2,V,U,x5,xf⟩:=zw X1.o;obtain⟨p0,p1,p2,p3,p4,p5,pf⟩:=zw I.o.2.2.1;have M:=(aLt I.o.2.2.1);have ag:=(aLt X1.o);go_wp2_with fail;refine (zlS c t 6 H z q tPlus l r w1 ae ac hr I.o (by rw[<-HT.o];exact HL.o)).mono ?_;rw[<-HT.o];rintro e w2 ⟨rfl,K,X,Y⟩;have af:=zc K;clear K;go_wp2;go_end0;exact⟨rfl,af.o,ad.o.trans X,aa.o.trans Y⟩
theorem ztv (c:PC) (t:BA) (i:Nat) (H:Int) (z q:BA) (l r:Nat) (w:World) (h:PP c t w) (hi:i<c.m.ex.length) (L:c.m.ex.getD i zh=⟨7,H,z,q,(l:Int),(r:Int)⟩) (ae:zc9 c l) (ac:zc9 c r) (hr:r<c.m.ex.length) (A:(t++(prX c.m.ex l++tMinus++zJ (zQ (c.m.ex.getD r zh).kind) (prX c.m.ex r))).size<=140737488355328):
  Calls prog 225 #[.pointer (some ⟨c.gp,0,none⟩),.int .i64 (i:Int)] w (PO c (t++(prX c.m.ex l++tMinus++zJ (zQ (c.m.ex.getD r zh).kind) (prX c.m.ex r))) w):=by
 have N:=zc h;obtain⟨T,hT⟩: ∃T,T=prX c.m.ex l++tMinus++zJ (zQ (c.m.ex.getD r zh).kind) (prX c.m.ex r):=⟨_,rfl⟩;rw[<-hT] at A ⊢;have HT:=zc hT;have HL:=zc A;clear h A hT;obtain⟨p0,p1,p2,p3,p4,p5,pf⟩:=zw N.o.2.2.1;obtain⟨g,hg,M,O,x1,x2,V,U,x5⟩:=N.o.2.1.expr hi;rw[L] at O x1 x2 V U x5;dsimp only at O x1 x2 V U x5;rw[hg] at p4;have ab:(i:Int)<(c.m.ex.length:Int):=by omega
 clear hg L;go_enter func225,ntmps225;go_upto_region 1 with fail;have Z:Hid (Below w.heap.size w (w.alloc (.cells #[.int .i64 7,.int .i64 H,.string z,.string q,.int .i64 (l:Int),.int .i64 (r:Int)] 100))):=(Below.refl _ _).alloc (Nat.le_refl _) _;refine zx (R:=fun W=>W.heap[w.heap.size]? =some (.cells #[.int .i64 7,.int .i64 H,.string z,.string q,.int .i64 (l:Int),.int .i64 (r:Int)] 100 (0,0))/\PP c t W/\Below c.B w W/\KeepB c.b w W) ⟨heap_alloc_new w _,N.o.later Z.o,Z.o.mono N.o.1.2,KeepB.of_below Z.o⟩ ?_;obtain⟨gx,J⟩: ∃gx,gx=w.heap.size:=⟨_,rfl⟩;have ah:gx≠c.b:=by
  rw[J];obtain⟨ai,hc⟩:=zcl N.o.1.1;have:=(aLt hc);omega
 rw[<-J];rintro w1 ⟨L,K,X,Y⟩;clear J Z M O x1 x2 V U x5 p0 p1 p2 p3 p4 p5 pf ab;have X1:=zc L;have I:=zc K;have ad:=zc X;have aa:=zc Y;clear L K X Y;obtain⟨O,x1,x2,V,U,x5,xf⟩:=zw X1.o;obtain⟨p0,p1,p2,p3,p4,p5,pf⟩:=zw I.o.2.2.1;have M:=(aLt I.o.2.2.1);have ag:=(aLt X1.o);go_wp2_with fail;refine (zlS c t 7 H z q tMinus l r w1 ae ac hr I.o (by rw[<-HT.o];exact HL.o)).mono ?_;rw[<-HT.o];rintro e w2 ⟨rfl,K,X,Y⟩;have af:=zc K;clear K;go_wp2;go_end0;exact⟨rfl,af.o,ad.o.trans X,aa.o.trans Y⟩
theorem ztw (c:PC) (t:BA) (i:Nat) (ac:Int) (J q:BA) (l r:Nat) (w:World) (h:PP c t w) (hi:i<c.m.ex.length) (hx:c.m.ex.getD i zh=⟨8,ac,J,q,(l:Int),(r:Int)⟩) (ah:zc9 c l) (ag:zc9 c r) (hl:l<c.m.ex.length) (hr:r<c.m.ex.length) (K:(t++(zJ (zQ (c.m.ex.getD l zh).kind) (prX c.m.ex l)++tStar++zJ (zaa (c.m.ex.getD r zh).kind) (prX c.m.ex r))).size<=140737488355328):
  Calls prog 225 #[.pointer (some ⟨c.gp,0,none⟩),.int .i64 (i:Int)] w (PO c (t++(zJ (zQ (c.m.ex.getD l zh).kind) (prX c.m.ex l)++tStar++zJ (zaa (c.m.ex.getD r zh).kind) (prX c.m.ex r))) w):=by
 have HP:=zc h;obtain⟨T,hT⟩: ∃T,T=zJ (zQ (c.m.ex.getD l zh).kind) (prX c.m.ex l)++tStar++zJ (zaa (c.m.ex.getD r zh).kind) (prX c.m.ex r):=⟨_,rfl⟩;rw[<-hT] at K ⊢;have HT:=zc hT;have HL:=zc K;clear h K hT;obtain⟨p0,p1,p2,p3,p4,p5,pf⟩:=zw HP.o.2.2.1;obtain⟨g,hg,H,U,x1,Z,Y,X,x5⟩:=HP.o.2.1.expr hi;rw[hx] at U x1 Z Y X x5;dsimp only at U x1 Z Y X x5;rw[hg] at p4;have ao:(i:Int)<(c.m.ex.length:Int):=by omega
 clear hg hx;go_enter func225,ntmps225;go_upto_region 1 with fail;have HW:Hid (Below w.heap.size w (w.alloc (.cells #[.int .i64 8,.int .i64 ac,.string J,.string q,.int .i64 (l:Int),.int .i64 (r:Int)] 100))):=(Below.refl _ _).alloc (Nat.le_refl _) _;refine zx (R:=fun W=>W.heap[w.heap.size]? =some (.cells #[.int .i64 8,.int .i64 ac,.string J,.string q,.int .i64 (l:Int),.int .i64 (r:Int)] 100 (0,0))/\PP c t W/\Below c.B w W/\KeepB c.b w W) ⟨heap_alloc_new w _,HP.o.later HW.o,HW.o.mono HP.o.1.2,KeepB.of_below HW.o⟩ ?_;obtain⟨gx,ae⟩: ∃gx,gx=w.heap.size:=⟨_,rfl⟩;have af:gx≠c.b:=by
  rw[ae];obtain⟨au,hc⟩:=zcl HP.o.1.1;have:=(aLt hc);omega
 rw[<-ae];rintro V ⟨hx,A,I,z⟩;clear ae HW H U x1 Z Y X x5 p0 p1 p2 p3 p4 p5 pf ao;have X1:=zc hx;have O:=zc A;have ap:=zc I;have am:=zc z;clear hx A I z;obtain⟨U,x1,Z,Y,X,x5,xf⟩:=zw X1.o;obtain⟨p0,p1,p2,p3,p4,p5,pf⟩:=zw O.o.2.2.1;have H:=(aLt O.o.2.2.1);have M:=(aLt X1.o);have aj:=zc ah;have ai:=zc ag;have HR:=zc hr;have ak:=zc hl;obtain⟨kk,ab⟩: ∃kk,(c.m.ex.getD r zh).kind=kk:=⟨_,rfl⟩;obtain⟨kl,aa⟩: ∃kl,(c.m.ex.getD l zh).kind=kl:=⟨_,rfl⟩;have HU:Hid (T=zJ (zQ kl) (prX c.m.ex l)++tStar++zJ (zaa kk) (prX c.m.ex r)):=by show _=_;rw[<-ab,<-aa];exact HT.o
 have KK:=zc ab;have KL:=zc aa;clear ah ag hr hl ab aa HT;go_upto_region 17 with fail;go_cut [] from 82 to 90 (fun wx=>PP c (t++zJ (zQ kl) (prX c.m.ex l)) wx/\Below c.B V wx/\KeepB c.b V wx)
 case first=>
  go_wp2_with fail;have L:=zc (O.o.later ((Below.refl V.heap.size V).drew));go_region_with (first|(go_at_call 244;refine (ziu c _ l _ L.o ak.o).mono ?_;rintro e w' ⟨rfl,rfl⟩;rw[KL.o])|(go_at_call 222;refine (zfO _ _).mono ?_;rintro e w' ⟨rfl,rfl⟩)|(go_at_call 243;refine (zgS c _ l (zQ kl) _ aj.o L.o (by have:=HL.o;rw[HU.o] at this;simp only[ByteArray.size_append] at this ⊢;omega)).mono ?_;rintro e w2 ⟨rfl,A,I,z⟩))
  all_goals (go_wp2_with fail;go_meet;exact⟨A,(((Below.refl V.heap.size V).drew).mono O.o.1.2).trans I,(KeepB.of_below ((Below.refl V.heap.size V).drew)).trans z⟩)
 case rest=>
 obtain⟨A,I,z⟩:=hcut
 rename_i w2
 have ad:=zc A;have aq:=zc (ap.o.trans I);have an:=zc (am.o.trans z);have X2:=zc ((z _ _ _ _ X1.o af (by decide)).trans X1.o);clear A I z p0 p1 p2 p3 p4 p5 pf U x1 Z Y X x5 xf H M;obtain⟨U,x1,Z,Y,X,x5,xf⟩:=zw X2.o;obtain⟨p0,p1,p2,p3,p4,p5,pf⟩:=zw ad.o.2.2.1;have H:=(aLt ad.o.2.2.1);have M:=(aLt X2.o);go_wp2_with fail;refine (zbN c _ [tStar] _ ad.o (by have:=HL.o;rw[HU.o] at this;simp only[zt,List.foldl_cons,List.foldl_nil,ByteArray.size_append] at this ⊢;omega) (by simp)).mono ?_;rintro e w3 ⟨rfl,A,I,z⟩;have N:=zc A;have al:=zc (aq.o.trans I);have ar:=zc (an.o.trans z);have X3:=zc ((z _ _ _ _ X2.o af (by decide)).trans X2.o);clear A I z p0 p1 p2 p3 p4 p5 pf U x1 Z Y X x5 xf H M;obtain⟨U,x1,Z,Y,X,x5,xf⟩:=zw X3.o;obtain⟨p0,p1,p2,p3,p4,p5,pf⟩:=zw N.o.2.2.1;have H:=(aLt N.o.2.2.1);have M:=(aLt X3.o);go_wp2_with fail;have L:=zc (N.o.later ((Below.refl w3.heap.size w3).drew));go_region_with (first|(go_at_call 244;refine (ziu c _ r _ L.o HR.o).mono ?_;rintro e w' ⟨rfl,rfl⟩;rw[KK.o])|(go_at_call 198;refine (zlz _ _).mono ?_;rintro e w' ⟨rfl,rfl⟩)|(go_at_call 243;refine (zgS c _ r (zaa kk) _ ai.o L.o (by have:=HL.o;rw[HU.o] at this;simp only[zt,List.foldl_cons,List.foldl_nil,ByteArray.size_append] at this ⊢;omega)).mono ?_;rintro e w4 ⟨rfl,A,I,z⟩))
 all_goals (go_wp2;go_end0;exact⟨rfl,(by rw[HU.o];simp only[zt,List.foldl_cons,List.foldl_nil,<-ByteArray.append_assoc] at A ⊢;exact A),al.o.trans ((((Below.refl w3.heap.size w3).drew).mono N.o.1.2).trans I),ar.o.trans ((KeepB.of_below ((Below.refl w3.heap.size w3).drew)).trans z)⟩)
theorem ztx (c:PC) (t:BA) (i:Nat) (k H:Int) (z q:BA) (l r:Int) (w:World) (h:PP c t w) (hi:i<c.m.ex.length) (L:c.m.ex.getD i zh=⟨k,H,z,q,l,r⟩) (k1:(k==1)=false) (k2:(k==2)=false) (k3:(k==3)=false) (k4:(k==4)=false) (k5:(k==5)=false) (k6:(k==6)=false) (k7:(k==7)=false) (k8:(k==8)=false) (A:(t++(sNone)).size<=140737488355328):
  Calls prog 225 #[.pointer (some ⟨c.gp,0,none⟩),.int .i64 (i:Int)] w (PO c (t++(sNone)) w):=by
 have M:=zc h;obtain⟨T,hT⟩: ∃T,T=sNone:=⟨_,rfl⟩;rw[<-hT] at A ⊢;have HT:=zc hT;have HL:=zc A;clear h A hT;obtain⟨p0,p1,p2,p3,p4,p5,pf⟩:=zw M.o.2.2.1;obtain⟨g,hg,K,N,Z,X,U,O,Y⟩:=M.o.2.1.expr hi;rw[L] at N Z X U O Y;dsimp only at N Z X U O Y;rw[hg] at p4;have ab:(i:Int)<(c.m.ex.length:Int):=by omega
 clear hg L;go_enter func225,ntmps225;go_upto_region 1 with fail;have V:Hid (Below w.heap.size w (w.alloc (.cells #[.int .i64 k,.int .i64 H,.string z,.string q,.int .i64 l,.int .i64 r] 100))):=(Below.refl _ _).alloc (Nat.le_refl _) _;refine zx (R:=fun W=>W.heap[w.heap.size]? =some (.cells #[.int .i64 k,.int .i64 H,.string z,.string q,.int .i64 l,.int .i64 r] 100 (0,0))/\PP c t W/\Below c.B w W/\KeepB c.b w W) ⟨heap_alloc_new w _,M.o.later V.o,V.o.mono M.o.1.2,KeepB.of_below V.o⟩ ?_;obtain⟨gx,J⟩: ∃gx,gx=w.heap.size:=⟨_,rfl⟩;have ae:gx≠c.b:=by
  rw[J];obtain⟨af,hc⟩:=zcl M.o.1.1;have:=(aLt hc);omega
 rw[<-J];rintro w1 ⟨L,hp,hb,hk⟩;clear J V K N Z X U O Y p0 p1 p2 p3 p4 p5 pf ab;have X1:=zc L;have I:=zc hp;have ac:=zc hb;have aa:=zc hk;clear L hp hb hk;obtain⟨N,Z,X,U,O,Y,xf⟩:=zw X1.o;obtain⟨p0,p1,p2,p3,p4,p5,pf⟩:=zw I.o.2.2.1;have K:=(aLt I.o.2.2.1);have ad:=(aLt X1.o);go_wp2;go_end0;exact⟨rfl,(by rw[HT.o,show t++sNone=t from ByteArray.append_empty];exact I.o),ac.o,aa.o⟩
theorem zty (c:PC) (hn:zaW c.m.ex) (ha:zb4 c.m.ex) (n:Nat): ∀i,i<n->i<c.m.ex.length->zc9 c i:=by
 induction n with
 |zero=>intro i J;omega
 |succ n ih=>
  intro i ab J t w h z;by_cases aa:i<n
  ·exact ih i aa J t w h z
  ·have M: ∀j,j<i->zc9 c j:=fun j hj=>ih j (by omega) (by omega);have L:=hn (c.m.ex.getD i zh) (by rw[zed J];exact List.getElem_mem J);have I:=zgd ha (i:=i);rw[zhu ha] at z ⊢;obtain⟨x,K⟩: ∃x,c.m.ex.getD i zh=x:=⟨_,rfl⟩;rw[K] at z L I ⊢;obtain⟨k,H,A,q,l,r⟩:=x;simp only at z L I ⊢;by_cases N:(k==1)=true
   ·rw[if_pos N] at z ⊢;have e:=eq_of_beq N;subst e;exact ztp c t i H A q l r w h J K L z
   rw[if_neg N] at z ⊢;by_cases Z:(k==2)=true
   ·rw[if_pos Z] at z ⊢;have e:=eq_of_beq Z;subst e;exact ztq c t i H A q l r w h J K z
   rw[if_neg Z] at z ⊢;by_cases V:(k==3)=true
   ·rw[if_pos V] at z ⊢;have e:=eq_of_beq V;subst e;exact ztr c t i H A q l r w h J K z
   rw[if_neg V] at z ⊢;by_cases k4:(k==4)=true
   ·rw[if_pos k4] at z ⊢;have e:=eq_of_beq k4;subst e;exact zts c t i H A q l r w h J K z
   rw[if_neg k4] at z ⊢;by_cases X:(k==5)=true
   ·rw[if_pos X] at z ⊢;have e:=eq_of_beq X;subst e;exact ztt c t i H A q l r w h J K z
   rw[if_neg X] at z ⊢;by_cases Y:(k==6)=true
   ·rw[if_pos Y] at z ⊢;have e:=eq_of_beq Y;subst e;have I:=I (by decide);obtain⟨l,rfl⟩: ∃n:Nat,l=(n:Int):=⟨l.toNat,by omega⟩;obtain⟨r,rfl⟩: ∃n:Nat,r=(n:Int):=⟨r.toNat,by omega⟩;simp only[Int.toNat_natCast] at z ⊢;exact ztu c t i H A q l r w h J K (M l (by omega)) (M r (by omega)) (by omega) z
   rw[if_neg Y] at z ⊢;by_cases U:(k==7)=true
   ·rw[if_pos U] at z ⊢;have e:=eq_of_beq U;subst e;have I:=I (by decide);obtain⟨l,rfl⟩: ∃n:Nat,l=(n:Int):=⟨l.toNat,by omega⟩;obtain⟨r,rfl⟩: ∃n:Nat,r=(n:Int):=⟨r.toNat,by omega⟩;simp only[Int.toNat_natCast] at z ⊢;exact ztv c t i H A q l r w h J K (M l (by omega)) (M r (by omega)) (by omega) z
   rw[if_neg U] at z ⊢;by_cases O:(k==8)=true
   ·rw[if_pos O] at z ⊢;have e:=eq_of_beq O;subst e;have I:=I (by decide);obtain⟨l,rfl⟩: ∃n:Nat,l=(n:Int):=⟨l.toNat,by omega⟩;obtain⟨r,rfl⟩: ∃n:Nat,r=(n:Int):=⟨r.toNat,by omega⟩;simp only[Int.toNat_natCast] at z ⊢;exact ztw c t i H A q l r w h J K (M l (by omega)) (M r (by omega)) (by omega) (by omega) z
   rw[if_neg O] at z ⊢;exact ztx c t i k H A q l r w h J K (Bool.eq_false_iff.2 N) (Bool.eq_false_iff.2 Z) (Bool.eq_false_iff.2 V) (Bool.eq_false_iff.2 k4) (Bool.eq_false_iff.2 X) (Bool.eq_false_iff.2 Y) (Bool.eq_false_iff.2 U) (Bool.eq_false_iff.2 O) z
theorem ztz (base:Nat) (S:Sv) (m:Md) (ac:Bool) (w:World) (h:OwnMd w base S m) (hm:Small m) (O:Tree m->(zbK m).size<=140737488355328):
  Calls prog 136 #[zl S m,.bool ac] w fun e w'=>PrintOut (zbK m) m e/\Below w.heap.size w w':=by
 have HH:=zc h;have SM:=zc hm;have HU:=zc O;obtain⟨f1,f2,f3,f4,f5⟩:=hm.few;clear h hm O;unfold zl;go_enter func136,ntmps136;go_wp2_with fail;refine (zsO base S m _ (HH.o.alloc _) f5 f4).mono ?_;rintro e z ⟨⟨b,rfl,L⟩,H⟩;have HT:=zc L;have q:Hid (Below w.heap.size w z):=((Below.refl _ _).alloc (Nat.le_refl _) _).trans (H.mono (by rw[zg];omega));have J:Hid (z.heap[w.heap.size]? =some (.cells #[.slice S.rq.a m.rq.length S.rq.cap,.slice S.im.a m.im.length S.im.cap,.slice S.ep.a m.ep.length S.ep.cap,.slice S.st.a m.st.length S.st.cap,.slice S.ex.a m.ex.length S.ex.cap] 54 (0,0))):=(H.block _ (by rw[zg];omega)).trans (heap_alloc_new w _);have U:=zc (HH.o.later q.o);clear L H;cases b with
 |false=>
  go_wp2;go_ret;exact⟨.inr ⟨(fun t=>by have:=HT.o.2 t;cases this),rfl⟩,q.o⟩
 |true=>
  have Y:=zc (HT.o.1 rfl);have HZ:=zc (HU.o Y.o);go_upto_region 4 with fail;have A:Hid (Below z.heap.size z (z.alloc (.cells #[.pointer none,.slice none 0 0] 175))):=(Below.refl _ _).alloc (Nat.le_refl _) _;have hz:=(aLt J.o);refine zx (R:=fun W=>(Lib.IsBuilder 175 5 z.heap.size z.heap.size [] W/\z.heap.size<=W.heap.size)/\OwnMd W base S m/\W.heap[w.heap.size]? =some (.cells #[.slice S.rq.a m.rq.length S.rq.cap,.slice S.im.a m.im.length S.im.cap,.slice S.ep.a m.ep.length S.ep.cap,.slice S.st.a m.st.length S.st.cap,.slice S.ex.a m.ex.length S.ex.cap] 54 (0,0))/\Below w.heap.size w W) ⟨⟨Lib.fresh_isBuilder _ _ z,A.o.size⟩,U.o.later A.o,(A.o.block _ hz).trans J.o,q.o.trans (A.o.mono q.o.size)⟩ ?_;obtain⟨b,I⟩: ∃b,b=z.heap.size:=⟨_,rfl⟩;have M:w.heap.size<=b:=by rw[I];exact q.o.size
  rw[<-I];rintro W ⟨⟨K,Z⟩,ho,hx,L⟩;clear hz A J U q HH I z;have BL:=zc K;have HO:=zc ho;have HX:=zc hx;have HB:=zc L;clear K ho hx L;obtain⟨c0,c1,c2,c3,c4,cf⟩:=zj HX.o;go_upto_region 6 with fail;have A:Hid (Below W.heap.size W (W.alloc (.cells #[.slice S.rq.a m.rq.length S.rq.cap,.slice S.im.a m.im.length S.im.cap,.slice S.ep.a m.ep.length S.ep.cap,.slice S.st.a m.st.length S.st.cap,.slice S.ex.a m.ex.length S.ex.cap,.func (.func 171) #[] #[.pointer (some ⟨b,0,none⟩)]] 215))):=(Below.refl _ _).alloc (Nat.le_refl _) _;have af:Hid (PP ⟨b,b,W.heap.size,base,S,m⟩ sNone (W.alloc (.cells #[.slice S.rq.a m.rq.length S.rq.cap,.slice S.im.a m.im.length S.im.cap,.slice S.ep.a m.ep.length S.ep.cap,.slice S.st.a m.st.length S.st.cap,.slice S.ex.a m.ex.length S.ex.cap,.func (.func 171) #[] #[.pointer (some ⟨b,0,none⟩)]] 215))):=by
   refine⟨⟨zl7 BL.o A.o,Nat.le_trans Z A.o.size⟩,HO.o.later A.o,heap_alloc_new W _,?_⟩;obtain⟨ag,hc⟩:=zcl BL.o;have:=(aLt hc);show W.heap.size≠b;omega
  have aa:=zc (HB.o.trans (A.o.mono HB.o.size));go_wp2_with fail;refine (zto ⟨b,b,W.heap.size,base,S,m⟩ _ (fun i hi=>zty _ SM.o.nums Y.o.ahead _ i hi hi) Y.o.stm SM.o af.o HZ.o).mono ?_;rintro e w3 ⟨rfl,hp,X,ad⟩;have N:=zc hp;have ab:=zc (aa.o.trans (X.mono M));clear hp X ad c0 c1 c2 c3 c4 cf;go_wp2_with fail;refine (Tryz.Builder_String_any b b (zbK m).data.toList w3 N.o.1.1 N.o.1.2).mono ?_;rintro e w4 ⟨rfl,V⟩;have ae:=zc (ab.o.trans (V.mono M));clear V;go_wp2;go_ret;exact⟨.inl ⟨Y.o,rfl⟩,ae.o⟩
theorem ziv {C:Cx} {w:Bool} {q:PS} {x:PS×Ep} (h:zb9 C w q= .ok x):q.pos<x.1.pos:=by
 obtain⟨a,I,A⟩:=zn h;obtain⟨b,J,H⟩:=zn A;have z:=zft J;rw[(zb2 I).1] at z;cases H;exact z
def zlT (C:Cx) (gt cap base gp:Nat) (t:TypeId) (size:Nat) (f:Ep->List Value) (y:PRL) (S:Sv) (w:World) (e:Ending) (w':World):Prop:=
 match y with
 | .ok a=>∃r S',e= .returned (.slice r.a a.2.length r.cap)/\IM C gt cap base gp S' a.1 w'/\IS gp S w S' w'/\Fr t size w' w.heap.size r a.2.length (a.2.flatMap f) S'/\0<a.2.length/\a.2.length<=4000
 | .error p=>e=Pan p/\Below base w w'
theorem zlU {C:Cx} {I z base A:Nat} {S:Sv} {q:PS} {w:World} (h:IM C I z base A S q w) (t:TypeId) (size:Nat):Fr t size (w.alloc (.cells #[] t)) w.heap.size ⟨some ⟨w.heap.size,0,none⟩,0⟩ 0 [] S:=by
 refine⟨World.ownsRow_lit w #[] 0 (Nat.le_refl _) (by unfold maxLen;omega) (Nat.zero_mul _).symm,fun k g H=>?_⟩;have J:w.heap.size=k:=by simpa [Rw.blk,Value.ownBlock] using g
 have:=(h.mem.own.has H).2;omega
theorem zt0 (C:Cx) (X A base J:Nat) (S:Sv) (q:PS) (w:World) (h:IM C X A base J S q w):
  Calls prog 231 #[.pointer (some ⟨J,0,none⟩)] w (zlT C X A base J 95 3 (fun e=>imL (zbg e)) (za4 C false q []) S w):=by
 obtain⟨i0,hi,ap,ar,av⟩:=info_parts Tryz.infoImp;go_enter func231,ntmps231;go_wp2;go_loopg [3] (C.ts.length+1) (fun k v wr=>∃(S':Sv) (Y:PS) (r:Rw) (l:List Ep),v= .slice r.a l.length r.cap/\za4 C false q []=za4 C false Y l/\C.ts.length-Y.pos<k/\l.length+(C.ts.length-Y.pos)<=C.ts.length/\IM C X A base J S' Y wr/\IS J S w S' wr/\Fr 95 3 wr w.heap.size r l.length (l.flatMap (fun e=>imL (zbg e))) S')
 case atStart=>exact⟨S,q,⟨some ⟨w.heap.size,0,none⟩,0⟩,[],rfl,rfl,by omega,by simp,h.alloc _,(IS.refl _ _ _).alloc _,zlU h _ _⟩
 case round=>
  obtain⟨S',Y,r,l,rfl,hy,hk,hl,m',s',f'⟩:=hrel;have HY:=zc hy;have HZ:=zc (HY.o.trans (zk6 C false Y l));have ae:=m';have an:=s';have au:Hid (Fr 95 3 wr w.heap.size r l.length (l.flatMap (fun e=>imL (zbg e))) S'):=f';have ay:=m'.mem.few;clear hy m' s' f';go_wp2_with fail;refine (zqF C X A base J S' Y _ ae).mono ?_;cases aa:zb9 C false Y with
  |error p=>
   rintro e Z ⟨rfl,hb⟩;have HB:=(h.back an).trans hb;have HX:Hid (za4 C false q []= .error p):=bdE HZ.o aa;unfold Pan;go_wp2;refine⟨rfl,?_⟩;rw[HX.o];exact⟨rfl,HB⟩
  |ok z=>
   rintro e Z ⟨rfl,K,m,s⟩;have I:Hid (Fr 95 3 Z w.heap.size r l.length (l.flatMap (fun e=>imL (zbg e))) K):=au.o.step ae (by decide) s;have M:=zc m;have ah:Hid (IS J S w K Z):=an.trans s;clear m s;have aj:=zc (bdO HZ.o aa);have aB:=ziv aa;have aA:=M.o.mem.inv.pos;unfold imV;have U:=fun o1=>(I.o.later ((Below.refl Z.heap.size Z).alloc (Nat.le_refl _) o1)).1;have ak:=fun o1=>(ah.o.alloc o1).size;go_wp2_with (at_builtin;refine zbb _ rfl _ _ 49 rfl w.heap.size 95 i0 _ 3 48 underlying49 hi ap ar av rfl (by decide) (by decide) r l.length _ (by rfl) (U _) Z.heap.size (imL (zbg z.2)) (by rfl) (by exact heap_alloc_new Z _) rfl (zjD _) (by omega) (ak _) ?_;intro V w2 hr ac ag;have HR:Hid (OwnR w2 w.heap.size 95 3 V (l.length+1) _):=hr;have N:Hid (IM C X A base J K z.1 w2):=(M.o.alloc _).aside ac (fun k g=>⟨I.o.2 k g,I.o.ngp M.o (by decide) g,I.o.ngt M.o (by decide) g⟩);have ai:Hid (IS J S w K w2):=(ah.o.alloc _).aside ac (fun k g=>(I.o.1.typed g).1);have al:Hid (Fr 95 3 w2 w.heap.size V (l.length+1) _ K):=(I.o.later ((Below.refl _ _).alloc (Nat.le_refl _) _)).grown (M.o.alloc _) hr ag;clear hr ac ag U ak);have el:(l++[z.2]).length=l.length+1:=by simp
   have am:Hid (Fr 95 3 w2 w.heap.size V (l++[z.2]).length ((l++[z.2]).flatMap (fun e=>imL (zbg e))) K):=by
    show Fr ..;rw[el,List.flatMap_append]
    simpa using al.o
   have L:=zc el;clear el al HR;go_wp2_with fail;cases hc:isT C z.1.pos 4 zbF with
   |true=>
    have az:=za9 hc (by decide);have HC:=zc (aj.o.trans (if_pos hc));refine (zO C X A base J K (z.1) 4 zbF _ N.o (by decide)).mono ?_;rintro e w3 ⟨rfl,H,s⟩;rw[hc] at H ⊢;have O:=ai.o.trans s;have af:=s;clear s;have ab:Hid (Fr 95 3 w3 w.heap.size V (l++[z.2]).length ((l++[z.2]).flatMap (fun e=>imL (zbg e))) K):=am.o.step N.o (by decide) af;clear af;go_wp2;go_roundg (gk-1)
    case rel=>exact⟨K,adv z.1,V,l++[z.2],by rw[L.o],HC.o,by rw[zz];omega,by rw[zz,L.o];omega,H,O,ab.o⟩
    case measure=>omega
   |false=>
    have HC:=zc (aj.o.trans (if_neg (by rw[hc];decide)));refine (zO C X A base J K (z.1) 4 zbF _ N.o (by decide)).mono ?_;rintro e w3 ⟨rfl,H,s⟩;rw[hc] at H ⊢;have O:=ai.o.trans s;have ab:Hid (Fr 95 3 w3 w.heap.size V (l++[z.2]).length ((l++[z.2]).flatMap (fun e=>imL (zbg e))) K):=am.o.step N.o (by decide) s;clear s;go_wp2_with fail;refine (zc3 C X A base J K z.1 125 _ H).mono ?_;cases ad:zd C 4 zb1 z.1 with
    |error p=>
     rintro e w4 ⟨rfl,hb⟩;have HB:=(h.back O).trans hb;have HX:Hid (za4 C false q []= .error p):=bdE HC.o ad;unfold Pan;go_wp2;refine⟨rfl,?_⟩;rw[HX.o];exact⟨rfl,HB⟩
    |ok a4=>
     rintro e w4 ⟨rfl,S4,aq,s⟩;have ax:Hid (Fr 95 3 w4 w.heap.size V (l++[z.2]).length ((l++[z.2]).flatMap (fun e=>imL (zbg e))) S4):=ab.o.step H (by decide) s;have ao:=O.trans s;clear s;have aw:=zc (bdO HC.o ad);go_wp2;go_ret;rw[aw.o];exact⟨V,S4,by rw[L.o];rfl,aq,ao,ax.o,by show 0<(l++[z.2]).length;rw[L.o];omega,by show (l++[z.2]).length<=4000;rw[L.o];omega⟩
def impFromI (C:Cx) (l:List Ep) (q:PS):PR:=bd (zd C 1 zW q) fun a=>bd (zL C a) fun b=>bd (zd C 4 cSemi b.1) fun c=>zZ (fun e=>zan C (zcf b.2 e)) l (.ok c)
theorem zgU {α:Type} (f:α->PS->PR) (p:Nat): ∀l:List α,zZ f l (.error p)= .error p
 |[]=>rfl
 |_::l=>zgU f p l
theorem ziw {α:Type} (f:α->PS->PR) {l:List α} {j:Nat} {x:α} (h:l[j]? =some x) (q:PS):zZ f (l.drop j) (.ok q)=zZ f (l.drop (j+1)) (f x q):=by
 obtain⟨w,rfl⟩:=List.getElem?_eq_some_iff.1 h;rw[List.drop_eq_getElem_cons w];rfl
theorem zt1 {C:Cx} {x:Im} {q a:PS} (h:zan C x q= .ok a):a.pos=q.pos:=by
 unfold zan at h
 split at h
 ·cases h
 ·cases h;rfl
theorem zlV {C:Cx} {x:Ep} {q a:PS} (h:zq C x q= .ok a):a.pos=q.pos:=by
 unfold zq at h
 split at h
 ·cases h
 ·split at h
  ·cases h;rfl
  ·cases h;rfl
theorem zfP {α:Type} {l:List α} {j:Nat} (h:j<l.length): ∃x,l[j]? =some x:=⟨_,List.getElem?_eq_getElem h⟩
theorem zt2 (C:Cx) (O z base A b0 g:Nat) (r:Rw) (S:Sv) (q:PS) (l:List Ep) (w:World) (h:IM C O z base A S q w) (hC:zbr C) (hl:l.length<=4000) (hf:Fr 95 3 w b0 r l.length (l.flatMap (fun e=>imL (zbg e))) S) (hg:r.a=some ⟨g,0,none⟩):
  Calls prog 230 #[.pointer (some ⟨A,0,none⟩),.slice (some ⟨g,0,none⟩) l.length r.cap] w (zU C O z base A (impFromI C l q) id (fun _=>.tuple #[]) S w):=by
 have HF:=zc hf;have HG:=zc hg;have HY:=zc (impFromI.eq_1 C l q);clear hf hg;go_enter func230,ntmps230;go_wp2_with fail;refine (zeJ C O z base A S q zW _ h).mono ?_;cases aa:zd C 1 zW q with
 |error p=>
  rintro e w1 ⟨rfl,K⟩;have X:Below base w w1:=(h.back (IS.refl _ _ _)).trans K;have Z:Hid (impFromI C l q= .error p):=bdE HY.o aa;unfold Pan;go_wp2;refine⟨rfl,?_⟩;rw[Z.o];exact⟨rfl,X⟩
 |ok a1=>
  rintro e w1 ⟨rfl,S1,al,L⟩;have an:Hid (Fr 95 3 w1 b0 r l.length (l.flatMap (fun e=>imL (zbg e))) S1):=HF.o.step h (by decide) L;have ah:=zc (bdO HY.o aa);go_wp2_with fail;refine (zgt C O z base A S1 a1 _ al hC).mono ?_;cases ak:zL C a1 with
  |error p=>
   rintro e w2 ⟨rfl,K⟩;have X:=(h.back L).trans K;have Z:Hid (impFromI C l q= .error p):=bdE ah.o ak;unfold Pan;go_wp2;refine⟨rfl,?_⟩;rw[Z.o];exact⟨rfl,X⟩
  |ok a2=>
   rintro e w2 ⟨rfl,S2,ai,s⟩;have ay:Hid (Fr 95 3 w2 b0 r l.length (l.flatMap (fun e=>imL (zbg e))) S2):=an.o.step al (by decide) s;have ad:=L.trans s;clear s;have aj:=zc (bdO ah.o ak);go_wp2_with fail;refine (zc3 C O z base A S2 a2.1 59 _ ai).mono ?_;cases N:zd C 4 cSemi (a2.1) with
   |error p=>
    rintro e w3 ⟨rfl,K⟩;have X:=(h.back ad).trans K;have Z:Hid (impFromI C l q= .error p):=bdE aj.o N;unfold Pan;go_wp2;refine⟨rfl,?_⟩;rw[Z.o];exact⟨rfl,X⟩
   |ok a3=>
    rintro e w3 ⟨rfl,S3,ax,s⟩;have az:Hid (Fr 95 3 w3 b0 r l.length (l.flatMap (fun e=>imL (zbg e))) S3):=ay.o.step ai (by decide) s;have ar:=ad.trans s;clear s;have aq:=zc (bdO aj.o N);have ae:0<a3.pos:=by rw[(zbV N).1];exact Nat.succ_pos _
    generalize aA:a2.2=sp at*;clear aA;go_wp2;go_loopg [15] l.length (fun k i wr=>∃(j:Nat) (U:Sv) (J:PS),i= .int .i64 j/\j+k=l.length/\impFromI C l q=zZ (fun e=>zan C (zcf sp e)) (l.drop j) (.ok J)/\0<J.pos/\IM C O z base A U J wr/\IS A S w U wr/\Fr 95 3 wr b0 r l.length (l.flatMap (fun e=>imL (zbg e))) U)
    case atStart=>exact⟨0,S3,a3,rfl,by omega,aq.o,ae,ax,ar,az.o⟩
    case round=>
     obtain⟨j,U,J,rfl,hj,hy,ab,m',s',f'⟩:=hrel;have af:=zc hy;have H:=m';have V:=s';have Y:Hid (Fr 95 3 wr b0 r l.length (l.flatMap (fun e=>imL (zbg e))) U):=f';clear hy m' s' f';by_cases ao:j<l.length
     ·have ag:(j:Int)<(l.length:Int):=by omega
      obtain⟨x,hx⟩:=zfP ao;obtain⟨g',ac,I⟩:=OwnR.elem (f:=fun e=>imL (zbg e)) (m:=3) (fun _=>rfl) Y.o.1 hx;have eg:g'=g:=by have:=ac.symm.trans HG.o;simpa using this
      subst eg;have k0:=I 0 (by omega);have k1:=I 1 (by omega);have k2:=I 2 (by omega);simp only[imL,zbg,Nat.add_zero,List.getElem?_cons_zero,List.getElem?_cons_succ] at k0 k1 k2;have HZ:=zc (af.o.trans (ziw (fun e=>zan C (zcf sp e)) hx J));clear I ac hx;obtain⟨j1,M⟩: ∃j1,j1=j+1:=⟨_,rfl⟩;have ej:(j:Int)+1=(j1:Int):=by omega
      rw[<-M] at HZ;have aB:=(aLt (Y.o.1.typed (by rw[Rw.blk,HG.o];rfl)).2.2.choose_spec);have aC:=H.lt;have HJ:=zc M;clear M;go_wp2_with fail;refine (zol C O z base A U J (zcf sp x) _ (H.alloc _) ab).mono ?_;cases hn:zan C (zcf sp x) J with
      |error p=>
       rintro e w5 ⟨rfl,K⟩;have X:Below base w w5:=(h.back (V.alloc _)).trans K;have Z:Hid (impFromI C l q= .error p):=by show _=_;rw[HZ.o,hn];exact zgU _ _ _
       unfold Pan;go_wp2;refine⟨rfl,?_⟩;rw[Z.o];exact⟨rfl,X⟩
      |ok a5=>
       rintro e w5 ⟨rfl,S5,am,s⟩;have au:IS A S w S5 w5:=(V.alloc _).trans s;have av:Hid (Fr 95 3 w5 b0 r l.length (l.flatMap (fun e=>imL (zbg e))) S5):=(Y.o.later ((Below.refl _ _).alloc (Nat.le_refl _) _)).step (H.alloc _) (by decide) s;have ap:Hid (impFromI C l q=zZ (fun e=>zan C (zcf sp e)) (l.drop j1) (.ok a5)):=by show _=_;rw[HZ.o,hn]
       have aw:Hid (0<a5.pos):=by show 0<a5.pos;rw[zt1 hn];exact ab
       clear s;go_wp2;go_roundg (gk-1)
       case rel=>exact⟨j1,S5,a5,rfl,by have:=HJ.o;omega,ap.o,aw.o,am,au,av.o⟩
       case measure=>omega
     ·have ag: ¬(j:Int)<(l.length:Int):=by omega
      have HZ:Hid (impFromI C l q= .ok J):=by show _=_;rw[af.o,List.drop_eq_nil_of_le (by omega)];rfl
      go_wp2;go_end0;rw[HZ.o];exact⟨rfl,U,H,V⟩
theorem zix (C:Cx) (H z base A b0:Nat) (r:Rw) (S:Sv) (q:PS) (l:List Ep) (w:World) (h:IM C H z base A S q w) (K:zbr C) (L:l.length<=4000) (M:l.length≠0) (I:Fr 95 3 w b0 r l.length (l.flatMap (fun e=>imL (zbg e))) S):
  Calls prog 230 #[.pointer (some ⟨A,0,none⟩),.slice r.a l.length r.cap] w (zU C H z base A (impFromI C l q) id (fun _=>.tuple #[]) S w):=by
 rcases I.1.nil_or with ⟨_,_,e⟩|⟨g,J⟩
 ·exact absurd e M
 ·rw[J];exact zt2 C H z base A b0 g r S q l w h K L I J
theorem zlW {C:Cx} {I z base A:Nat} {S:Sv} {q:PS} {w:World} (h:IM C I z base A S q w) (t:TypeId) (xs:List Value):Fr t xs.length (w.alloc (.cells xs.toArray t)) w.heap.size ⟨some ⟨w.heap.size,0,none⟩,1⟩ 1 xs S:=by
 refine⟨?_,fun k g H=>?_⟩
 ·have:=World.ownsRow_lit (e:=t) (size:=xs.length) w xs.toArray 1 (Nat.le_refl _) (by unfold maxLen;omega) (by simp)
  simpa [OwnR] using this
 ·have J:w.heap.size=k:=by simpa [Rw.blk,Value.ownBlock] using g
  have:=(h.mem.own.has H).2;omega
def zaR (C:Cx) (q:PS):PR:=
 if (ze C q.pos).kind==3 then bd (zL C q) fun a=>zd C 4 cSemi a.1
 else if isT C q.pos 4 zN then bd (za4 C false (adv q) []) fun a=>impFromI C a.2 a.1
 else if isT C q.pos 4 zy then bd (zd C 1 sAs (adv q)) fun a=>bd (zm C false a) fun b=>impFromI C [⟨0,b.2,zy,sNone⟩] b.1
 else bd (zm C false q) fun b=>impFromI C [⟨0,b.2,sDefault,sNone⟩] b.1
theorem zt3 (C:Cx) (M z base H:Nat) (S:Sv) (q:PS) (w:World) (h:IM C M z base H S q w) (hC:zbr C) (hk:((ze C q.pos).kind==3)=true):
  Calls prog 216 #[.pointer (some ⟨H,0,none⟩)] w (zU C M z base H (zaR C q) id (fun _=>.tuple #[]) S w):=by
 have aa:=zdg;have HY:Hid (zaR C q=bd (zL C q) fun a=>zd C 4 cSemi a.1):=if_pos hk;go_enter func216,ntmps216;go_wp2_with fail;refine (zb8 C M z base H S q _ h).mono ?_;rintro e w1 ⟨rfl,A⟩;unfold tkV;have Z:=h.later A;have J:IS H S w S w1:=IS.below A;clear A;go_wp2_with fail;refine (zgt C M z base H S q _ Z hC).mono ?_;cases N:zL C q with
 |error p=>
  rintro e w2 ⟨rfl,A⟩;have U:=(h.back J).trans A;have HX:Hid (zaR C q= .error p):=bdE HY.o N;unfold Pan;go_wp2;refine⟨rfl,?_⟩;rw[HX.o];exact⟨rfl,U⟩
 |ok a2=>
  rintro e w2 ⟨rfl,S2,O,s⟩;have K:=J.trans s;clear s;have I:=zc (bdO HY.o N);go_wp2_with fail;refine (zc3 C M z base H S2 a2.1 59 _ O).mono ?_;cases L:zd C 4 cSemi a2.1 with
  |error p=>
   rintro e w3 ⟨rfl,A⟩;have U:=(h.back K).trans A;have HX:Hid (zaR C q= .error p):=I.o.trans L;unfold Pan;go_wp2;refine⟨rfl,?_⟩;rw[HX.o];exact⟨rfl,U⟩
  |ok a3=>
   rintro e w3 ⟨rfl,S3,V,s⟩;have Y:=K.trans s;clear s;have X:=zc (I.o.trans L);go_wp2;go_end0;rw[X.o];exact⟨rfl,S3,V,Y⟩
theorem zt4 (C:Cx) (I z base A:Nat) (S:Sv) (q:PS) (w:World) (h:IM C I z base A S q w) (hC:zbr C) (hk:((ze C q.pos).kind==3)=false) (h1:isT C q.pos 4 zN=true):
  Calls prog 216 #[.pointer (some ⟨A,0,none⟩)] w (zU C I z base A (zaR C q) id (fun _=>.tuple #[]) S w):=by
 have ae:=zdg;have HY:Hid (zaR C q=bd (za4 C false (adv q) []) fun a=>impFromI C a.2 a.1):=by show _=_;rw[zaR,hk,h1];rfl
 go_enter func216,ntmps216;go_wp2_with fail;refine (zb8 C I z base A S q _ h).mono ?_;rintro e w1 ⟨rfl,H⟩;unfold tkV;have ad:=h.later H;have Y:IS A S w S w1:=IS.below H;clear H;go_wp2_with fail;refine (zO C I z base A S q 4 zN _ ad (by decide)).mono ?_;rintro e w2 ⟨rfl,K,s⟩;rw[h1] at K ⊢;have L:=Y.trans s;clear s;go_wp2_with fail;refine (zt0 C I z base A S (adv q) _ K).mono ?_;cases M:za4 C false (adv q) [] with
 |error p=>
  rintro e w3 ⟨rfl,H⟩;have Z:=(h.back L).trans H;have HX:Hid (zaR C q= .error p):=bdE HY.o M;unfold Pan;go_wp2;refine⟨rfl,?_⟩;rw[HX.o];exact⟨rfl,Z⟩
 |ok U=>
  rintro e w3 ⟨r,S3,rfl,aa,s,f,l0,l1⟩;have O:=L.trans s;have ab:=zc f;clear s f;have N:=zc (bdO HY.o M);go_wp2_with fail;refine (zix C I z base A _ r S3 U.1 U.2 _ aa hC l1 (by omega) ab.o).mono ?_;cases J:impFromI C U.2 U.1 with
  |error p=>
   rintro e w4 ⟨rfl,H⟩;have Z:=(h.back O).trans H;have HX:Hid (zaR C q= .error p):=N.o.trans J;unfold Pan;go_wp2;refine⟨rfl,?_⟩;rw[HX.o];exact⟨rfl,Z⟩
  |ok a4=>
   rintro e w4 ⟨rfl,S4,X,s⟩;have V:=O.trans s;clear s;have ac:=zc (N.o.trans J);go_wp2;go_end0;rw[ac.o];exact⟨rfl,S4,X,V⟩
theorem zt5 (C:Cx) (I z base A:Nat) (S:Sv) (q:PS) (w:World) (h:IM C I z base A S q w) (hC:zbr C) (hk:((ze C q.pos).kind==3)=false) (h1:isT C q.pos 4 zN=false) (h2:isT C q.pos 4 zy=true):
  Calls prog 216 #[.pointer (some ⟨A,0,none⟩)] w (zU C I z base A (zaR C q) id (fun _=>.tuple #[]) S w):=by
 have aj:=zdg;have HY:Hid (zaR C q=bd (zd C 1 sAs (adv q)) fun a=>bd (zm C false a) fun b=>impFromI C [⟨0,b.2,zy,sNone⟩] b.1):=by show _=_;rw[zaR,hk,h1,h2];rfl
 go_enter func216,ntmps216;go_wp2_with fail;refine (zb8 C I z base A S q _ h).mono ?_;rintro e w1 ⟨rfl,H⟩;unfold tkV;have ah:=h.later H;have ad:IS A S w S w1:=IS.below H;clear H;go_wp2_with fail;refine (zO C I z base A S q 4 zN _ ah (by decide)).mono ?_;rintro e w2 ⟨rfl,M,s⟩;rw[h1] at M ⊢;have ae:=ad.trans s;clear s;go_wp2_with fail;refine (zO C I z base A S q 4 zy _ M (by decide)).mono ?_;rintro e w3 ⟨rfl,Y,s⟩;rw[h2] at Y ⊢;have Z:=ae.trans s;clear s;go_wp2_with fail;refine (zeJ C I z base A S (adv q) sAs _ Y).mono ?_;cases J:zd C 1 sAs (adv q) with
 |error p=>
  rintro e w4 ⟨rfl,H⟩;have U:=(h.back Z).trans H;have HX:Hid (zaR C q= .error p):=bdE HY.o J;unfold Pan;go_wp2;refine⟨rfl,?_⟩;rw[HX.o];exact⟨rfl,U⟩
 |ok a4=>
  rintro e w4 ⟨rfl,S4,ac,s⟩;have K:=Z.trans s;clear s;have aa:=zc (bdO HY.o J);go_wp2_with fail;refine (zd8 C I z base A S4 a4 _ ac).mono ?_;cases L:zm C false a4 with
  |error p=>
   rintro e w5 ⟨rfl,H⟩;have U:=(h.back K).trans H;have HX:Hid (zaR C q= .error p):=bdE aa.o L;unfold Pan;go_wp2;refine⟨rfl,?_⟩;rw[HX.o];exact⟨rfl,U⟩
  |ok X=>
   rintro e w5 ⟨rfl,S5,N,s⟩;have ab:=K.trans s;clear s;have O:=zc (bdO aa.o L);go_wp2_with fail;refine (zix C I z base A _ ⟨some ⟨w5.heap.size,0,none⟩,1⟩ S5 X.1 [⟨0,X.2,zy,sNone⟩] _ (N.alloc _) hC (by simp) (by simp) (zlW N 95 (imL (zbg ⟨0,X.2,zy,sNone⟩)))).mono ?_;cases V:impFromI C [⟨0,X.2,zy,sNone⟩] X.1 with
   |error p=>
    rintro e w6 ⟨rfl,H⟩;have U:Below base w w6:=(h.back (ab.alloc _)).trans H;have HX:Hid (zaR C q= .error p):=O.o.trans V;unfold Pan;go_wp2;refine⟨rfl,?_⟩;rw[HX.o];exact⟨rfl,U⟩
   |ok a6=>
    rintro e w6 ⟨rfl,S6,af,s⟩;have ag:IS A S w S6 w6:=(ab.alloc _).trans s;clear s;have ai:=zc (O.o.trans V);go_wp2;go_end0;rw[ai.o];exact⟨rfl,S6,af,ag⟩
theorem zt6 (C:Cx) (I z base A:Nat) (S:Sv) (q:PS) (w:World) (h:IM C I z base A S q w) (hC:zbr C) (hk:((ze C q.pos).kind==3)=false) (h1:isT C q.pos 4 zN=false) (h2:isT C q.pos 4 zy=false):
  Calls prog 216 #[.pointer (some ⟨A,0,none⟩)] w (zU C I z base A (zaR C q) id (fun _=>.tuple #[]) S w):=by
 have ae:=zdg;have HY:Hid (zaR C q=bd (zm C false q) fun b=>impFromI C [⟨0,b.2,sDefault,sNone⟩] b.1):=by show _=_;rw[zaR,hk,h1,h2];rfl
 go_enter func216,ntmps216;go_wp2_with fail;refine (zb8 C I z base A S q _ h).mono ?_;rintro e w1 ⟨rfl,H⟩;unfold tkV;have ad:=h.later H;have Z:IS A S w S w1:=IS.below H;clear H;go_wp2_with fail;refine (zO C I z base A S q 4 zN _ ad (by decide)).mono ?_;rintro e w2 ⟨rfl,M,s⟩;rw[h1] at M ⊢;have aa:=Z.trans s;clear s;go_wp2_with fail;refine (zO C I z base A S q 4 zy _ M (by decide)).mono ?_;rintro e w3 ⟨rfl,U,s⟩;rw[h2] at U ⊢;have V:=aa.trans s;clear s;go_wp2_with fail;refine (zd8 C I z base A S q _ U).mono ?_;cases J:zm C false q with
 |error p=>
  rintro e w4 ⟨rfl,H⟩;have HB:=(h.back V).trans H;have HX:Hid (zaR C q= .error p):=bdE HY.o J;unfold Pan;go_wp2;refine⟨rfl,?_⟩;rw[HX.o];exact⟨rfl,HB⟩
 |ok O=>
  rintro e w4 ⟨rfl,S4,N,s⟩;have K:=V.trans s;clear s;have X:=zc (bdO HY.o J);go_wp2_with fail;refine (zix C I z base A _ ⟨some ⟨w4.heap.size,0,none⟩,1⟩ S4 O.1 [⟨0,O.2,sDefault,sNone⟩] _ (N.alloc _) hC (by simp) (by simp) (zlW N 95 (imL (zbg ⟨0,O.2,sDefault,sNone⟩)))).mono ?_;cases L:impFromI C [⟨0,O.2,sDefault,sNone⟩] O.1 with
  |error p=>
   rintro e w5 ⟨rfl,H⟩;have HB:Below base w w5:=(h.back (K.alloc _)).trans H;have HX:Hid (zaR C q= .error p):=X.o.trans L;unfold Pan;go_wp2;refine⟨rfl,?_⟩;rw[HX.o];exact⟨rfl,HB⟩
  |ok a5=>
   rintro e w5 ⟨rfl,S5,Y,s⟩;have ac:IS A S w S5 w5:=(K.alloc _).trans s;clear s;have ab:=zc (X.o.trans L);go_wp2;go_end0;rw[ab.o];exact⟨rfl,S5,Y,ac⟩
theorem zt7 (C:Cx) (H z base A:Nat) (S:Sv) (q:PS) (w:World) (h:IM C H z base A S q w) (J:zbr C):
  Calls prog 216 #[.pointer (some ⟨A,0,none⟩)] w (zU C H z base A (zaR C q) id (fun _=>.tuple #[]) S w):=by
 cases I:((ze C q.pos).kind==3) with
 |true=>exact zt3 C H z base A S q w h J I
 |false=>
  cases K:isT C q.pos 4 zN with
  |true=>exact zt4 C H z base A S q w h J I K
  |false=>
   cases L:isT C q.pos 4 zy with
   |true=>exact zt5 C H z base A S q w h J I K L
   |false=>exact zt6 C H z base A S q w h J I K L
end Go.Proofs.YtgcbmogmniahjaaGreat
