/- Facts and walks. -/
import Derived.Deep.RegionWith
import Derived.Test.YtgcbmogmniahjaaGreatR28
namespace Go.Proofs.YtgcbmogmniahjaaGreat
open Nat (le_trans add_zero le_refl)
open List (foldl_cons foldl_nil mem_of_getElem? getElem?_cons_zero take_length getElem?_cons_succ)
open Go.Proofs.Tryz
set_option maxRecDepth 100000
set_option maxHeartbeats 12800000
open Go.RowKit Go.PlainAid Go.Sort
variable (C:Cx) (g b:Nat) (w:PC) (s:BA) (W:Ep) (S:Im) (c:Nat) (z u:Int) (t A:BA) (n k:Nat) (T:Sv) (m:Md) (p:PS) (V:World) {x:Im} {h:Ep} {D:Int} {E:BA} {F:Nat} {G:Cx} {H:PS} {I:Sv} {J:World}
theorem zc8 (q:List BA) (L:World) (h:PP w s L) (z:(zv s q).size<=140737488355328) (J:q.length<=4294967296):
  Calls prog 171 #[.slice (some ⟨L.heap.size,0,none⟩) q.length q.length,.pointer (some ⟨w.b,0,none⟩)] (L.alloc (.cells (q.map Value.string).toArray 9)).drew (PO w (zv s q) L):=by
 have A:Bw L (L.alloc (.cells (q.map Value.string).toArray 9)).drew:=(bA0).drew;refine (zlN w s q L.heap.size _ (h.later A) (heap_alloc_new L _) z J).mono ?_;rintro e K ⟨D,H,E,I⟩;exact⟨D,H,(A.mono h.1.2).trans E,(KeepB.of_below A).trans I⟩
def zc9 (x:Im):BA:=
 if x.first.toList==[42] then ({data:=#[105,109,112,111,114,116,32]}:BA)++({data:=#[42,32,97,115,32]}:BA)++x.loc
 else if x.first.toList==[100,101,102,97,117,108,116] then ({data:=#[105,109,112,111,114,116,32]}:BA)++x.loc
 else ({data:=#[105,109,112,111,114,116,32]}:BA)++zci x.first x.loc
theorem ztu (e:(x.first.toList==[42])=true):zc9 x=({data:=#[105,109,112,111,114,116,32]}:BA)++({data:=#[42,32,97,115,32]}:BA)++x.loc:=by rw[zc9,e];rfl
theorem ztv (e:(x.first.toList==[42])=false) (h:(x.first.toList==[100,101,102,97,117,108,116])=true):zc9 x=({data:=#[105,109,112,111,114,116,32]}:BA)++x.loc:=by rw[zc9,e,h];rfl
theorem ztw (e:(x.first.toList==[42])=false) (h:(x.first.toList==[100,101,102,97,117,108,116])=false):zc9 x=({data:=#[105,109,112,111,114,116,32]}:BA)++zci x.first x.loc:=by rw[zc9,e,h];rfl
theorem zcq (a b:Array UInt8):(⟨a++b⟩:BA)=⟨a⟩++⟨b⟩:=by
 apply ByteArray.ext;simp
theorem zff:zaf S=zc9 S++({data:=#[32,102,114,111,109,32]}:BA)++za3 S.spec++({data:=#[59]}:BA)++({data:=#[10]}:BA):=by
 have z:({data:=#[59,10]}:BA)={data:=#[59]}++{data:=#[10]}:=zcq #[59] #[10];have q:({data:=#[105,109,112,111,114,116,32,42,32,97,115,32]}:BA)={data:=#[105,109,112,111,114,116,32]}++{data:=#[42,32,97,115,32]}:=zcq #[105,109,112,111,114,116,32] #[42,32,97,115,32];have w:({data:=#[105,109,112,111,114,116,32,123,32]}:BA)={data:=#[105,109,112,111,114,116,32]}++{data:=#[123,32]}:=zcq #[105,109,112,111,114,116,32] #[123,32];have h:({data:=#[32,125,32,102,114,111,109,32]}:BA)={data:=#[32,125]}++{data:=#[32,102,114,111,109,32]}:=zcq #[32,125] #[32,102,114,111,109,32];unfold zaf zc9 zci;rw[z,q,w,h]
 split
 ·simp only[ByteArray.append_assoc]
 ·split<;>simp only[ByteArray.append_assoc]
theorem ztx:(({data:=#[105,109,112,111,114,116,32]}:BA)).size<=(zaf S).size:=by
 rw[zff,zc9]
 split
 ·simp only[ByteArray.size_append];omega
 ·split<;>(simp only[ByteArray.size_append];omega)
theorem zty (P:World) (h:PP w s P) (D:(s++zaf S).size<=140737488355328) (h1:S.spec.size<=1099511627776):
  Calls prog 202 #[.pointer (some ⟨w.gp,0,none⟩),imV S] P (PO w (s++zaf S) P):=by
 have HP:=zc h;have M:=zc D;clear h D;have HZ:Hid (s.size+(zaf S).size<=140737488355328/\(({data:=#[105,109,112,111,114,116,32]}:BA)).size<=(zaf S).size):=⟨by have:=M.o;rw[ByteArray.size_append] at this;exact this,ztx S⟩;unfold imV;go_enter func202,ntmps202;go_upto_region 1 with fail;have HW:Hid (Bw P (P.alloc (.cells #[.string S.spec,.string S.first,.string S.loc] 95))):=bA0;refine zu (R:=fun W=>W.heap[P.heap.size]? =some (.cells #[.string S.spec,.string S.first,.string S.loc] 95 (0,0))/\PP w s W/\Below w.B P W/\KeepB w.b P W) ⟨heap_alloc_new P _,HP.o.later HW.o,HW.o.mono HP.o.1.2,KeepB.of_below HW.o⟩ ?_;obtain⟨gx,L⟩: ∃gx,gx=P.heap.size:=⟨_,rfl⟩;have V:gx≠w.b:=by
  rw[L];obtain⟨aj,hc⟩:=zcp HP.o.1.1;have:=(aLt hc);omega
 rw[<-L];rintro W ⟨hx,hp,hb,hk⟩;clear L HW;have X:=zc hx;have J:=zc hp;have Y:=zc hb;have aa:=zc hk;clear hx hp hb hk;obtain⟨x0,x1,x2,xf⟩:=zo X.o;obtain⟨p0,p1,p2,p3,p4,p5,pf⟩:=zy J.o.2.2.1;go_wp2_with fail;refine (zbR w s [{data:=#[105,109,112,111,114,116,32]}] W J.o (by have:=HZ.o;simp only[zv,foldl_cons,foldl_nil,ByteArray.size_append] at this ⊢;omega) (by simp)).mono ?_;rintro e O ⟨rfl,U,ab,I⟩;have E:=zc U;have af:=zc (Y.o.trans ab);have ad:=zc (aa.o.trans I);have X1:=zc ((I _ _ _ _ X.o V (by decide)).trans X.o);clear U ab I p0 p1 p2 p3 p4 p5 pf x0 x1 x2 xf J Y aa X;obtain⟨x0,x1,x2,xf⟩:=zo X1.o;obtain⟨p0,p1,p2,p3,p4,p5,pf⟩:=zy E.o.2.2.1;have ac:=(aLt E.o.2.2.1);have N:=(aLt X1.o);have D:=M.o;go_upto_block 0 with fail
 go_cut [] from 12 to 37 (fun wx=>PP w (s++zc9 S) wx/\Below w.B O wx/\KeepB w.b O wx)
 case first=>
  cases e1:(S.first.toList==[42]) with
  |true=>
   have H:Hid (zc9 S=({data:=#[105,109,112,111,114,116,32]}:BA)++({data:=#[42,32,97,115,32]}:BA)++S.loc):=ztu e1;go_wp2_with fail;go_region_with (go_at_call 171;refine (zc8 w _ [{data:=#[42,32,97,115,32]},S.loc] O E.o (by have:=M.o;rw[zff,H.o] at this;simp only[zv,foldl_cons,foldl_nil,ByteArray.size_append] at this ⊢;omega) (by simp)).mono ?_;rintro e w2 ⟨rfl,q,A,z⟩)
   all_goals (go_wp2_with fail;go_meet;exact⟨by rw[H.o];simp only[zv,foldl_cons,foldl_nil,<-ByteArray.append_assoc] at q ⊢;exact q,A,z⟩)
  |false=>
   cases e2:(S.first.toList==[100,101,102,97,117,108,116]) with
   |true=>
    have H:Hid (zc9 S=({data:=#[105,109,112,111,114,116,32]}:BA)++S.loc):=ztv e1 e2;go_wp2_with fail;go_region_with (go_at_call 171;refine (zc8 w _ [S.loc] O E.o (by have:=M.o;rw[zff,H.o] at this;simp only[zv,foldl_cons,foldl_nil,ByteArray.size_append] at this ⊢;omega) (by simp)).mono ?_;rintro e w2 ⟨rfl,q,A,z⟩)
    all_goals (go_wp2_with fail;go_meet;exact⟨by rw[H.o];simp only[zv,foldl_cons,foldl_nil,<-ByteArray.append_assoc] at q ⊢;exact q,A,z⟩)
   |false=>
    have H:Hid (zc9 S=({data:=#[105,109,112,111,114,116,32]}:BA)++zci S.first S.loc):=ztw e1 e2;go_wp2_with fail;refine (zi2 w _ S.first S.loc O E.o (by have:=M.o;rw[zff,H.o] at this;simp only[zv,foldl_cons,foldl_nil,ByteArray.size_append] at this ⊢;omega)).mono ?_;rintro e w2 ⟨rfl,q,A,z⟩;go_wp2_with fail;go_meet;exact⟨by rw[H.o];simp only[zv,foldl_cons,foldl_nil,<-ByteArray.append_assoc] at q ⊢;exact q,A,z⟩
 case rest=>
 obtain⟨q,A,z⟩:=hcut
 rename_i w2
 have K:=zc q;have ag:=zc (af.o.trans A);have ae:=zc (ad.o.trans z);have X2:=zc ((z _ _ _ _ X1.o V (by decide)).trans X1.o);clear q A z p0 p1 p2 p3 p4 p5 pf x0 x1 x2 xf ac N;obtain⟨p0,p1,p2,p3,p4,p5,pf⟩:=zy K.o.2.2.1;obtain⟨x0,x1,x2,xf⟩:=zo X2.o;have ac:=(aLt K.o.2.2.1);have N:=(aLt X2.o);go_wp2_with fail;go_region_with (first|(go_at_call 201;refine (zhb S.spec _ h1).mono ?_;rintro e w' ⟨rfl,rfl⟩)|(go_at_call 171;refine (zc8 w _ [{data:=#[32,102,114,111,109,32]},za3 S.spec,{data:=#[59]},{data:=#[10]}] _ K.o (by have:=M.o;rw[zff] at this;simp only[zv,foldl_cons,foldl_nil,ByteArray.size_append] at this ⊢;omega) (by simp)).mono ?_;rintro e w3 ⟨rfl,Z,ai,ah⟩))
 all_goals (go_wp2;go_end0;exact⟨rfl,(by rw[zff];simp only[zv,foldl_cons,foldl_nil,<-ByteArray.append_assoc] at Z ⊢;exact Z),ag.o.trans ai,ae.o.trans ah⟩)
def zcA (x:Ep):BA:=
 if x.kind==3 then ({data:=#[101,120,112,111,114,116,32]}:BA)++({data:=#[42,32,102,114,111,109,32]}:BA)++za3 x.spec
 else if x.kind==2 then ({data:=#[101,120,112,111,114,116,32]}:BA)++zci x.loc x.name++({data:=#[32,102,114,111,109,32]}:BA)++za3 x.spec
 else ({data:=#[101,120,112,111,114,116,32]}:BA)++zci x.loc x.name
theorem ztz (e:(h.kind==3)=true):zcA h=({data:=#[101,120,112,111,114,116,32]}:BA)++({data:=#[42,32,102,114,111,109,32]}:BA)++za3 h.spec:=by rw[zcA,e];rfl
theorem zt0 (e:(h.kind==3)=false) (K:(h.kind==2)=true):zcA h=({data:=#[101,120,112,111,114,116,32]}:BA)++zci h.loc h.name++({data:=#[32,102,114,111,109,32]}:BA)++za3 h.spec:=by rw[zcA,e,K];rfl
theorem zt1 (e:(h.kind==3)=false) (K:(h.kind==2)=false):zcA h=({data:=#[101,120,112,111,114,116,32]}:BA)++zci h.loc h.name:=by rw[zcA,e,K];rfl
theorem ze9:zbx W=zcA W++({data:=#[59]}:BA)++({data:=#[10]}:BA):=by
 have q:({data:=#[59,10]}:BA)={data:=#[59]}++{data:=#[10]}:=zcq #[59] #[10];have w:({data:=#[101,120,112,111,114,116,32,42,32,102,114,111,109,32]}:BA)={data:=#[101,120,112,111,114,116,32]}++{data:=#[42,32,102,114,111,109,32]}:=zcq #[101,120,112,111,114,116,32] #[42,32,102,114,111,109,32];have A:({data:=#[101,120,112,111,114,116,32,123,32]}:BA)={data:=#[101,120,112,111,114,116,32]}++{data:=#[123,32]}:=zcq #[101,120,112,111,114,116,32] #[123,32];have h:({data:=#[32,125,32,102,114,111,109,32]}:BA)={data:=#[32,125]}++{data:=#[32,102,114,111,109,32]}:=zcq #[32,125] #[32,102,114,111,109,32];have z:({data:=#[32,125,59,10]}:BA)={data:=#[32,125]}++{data:=#[59,10]}:=zcq #[32,125] #[59,10];unfold zbx zcA zci;rw[z,q,w,A,h]
 split
 ·simp only[ByteArray.append_assoc]
 ·split<;>simp only[ByteArray.append_assoc]
theorem zt2:(({data:=#[101,120,112,111,114,116,32]}:BA)).size<=(zbx W).size:=by
 rw[ze9,zcA]
 split
 ·simp only[ByteArray.size_append];omega
 ·split<;>(simp only[ByteArray.size_append];omega)
theorem zt3 (P:World) (h:PP w s P) (I:(s++zbx W).size<=140737488355328) (h1:W.spec.size<=1099511627776):
  Calls prog 203 #[.pointer (some ⟨w.gp,0,none⟩),epV W] P (PO w (s++zbx W) P):=by
 have HP:=zc h;have HL:=zc I;clear h I;have HZ:Hid (s.size+(zbx W).size<=140737488355328/\(({data:=#[101,120,112,111,114,116,32]}:BA)).size<=(zbx W).size):=⟨by have:=HL.o;rw[ByteArray.size_append] at this;exact this,zt2 W⟩;unfold epV;go_enter func203,ntmps203;go_upto_region 1 with fail;have HW:Hid (Bw P (P.alloc (.cells #[.int .i64 W.kind,.string W.name,.string W.loc,.string W.spec] 97))):=bA0;refine zu (R:=fun Q=>Q.heap[P.heap.size]? =some (.cells #[.int .i64 W.kind,.string W.name,.string W.loc,.string W.spec] 97 (0,0))/\PP w s Q/\Below w.B P Q/\KeepB w.b P Q) ⟨heap_alloc_new P _,HP.o.later HW.o,HW.o.mono HP.o.1.2,KeepB.of_below HW.o⟩ ?_;obtain⟨gx,ac⟩: ∃gx,gx=P.heap.size:=⟨_,rfl⟩;have ag:gx≠w.b:=by
  rw[ac];obtain⟨ap,hc⟩:=zcp HP.o.1.1;have:=(aLt hc);omega
 rw[<-ac];rintro Q ⟨hx,hp,hb,hk⟩;clear ac HW;have X:=zc hx;have ab:=zc hp;have ah:=zc hb;have ai:=zc hk;clear hx hp hb hk;obtain⟨x0,x1,x2,x3,xf⟩:=zbN X.o;obtain⟨p0,p1,Y,U,N,M,Z⟩:=zy ab.o.2.2.1;go_wp2_with fail;refine (zbR w s [{data:=#[101,120,112,111,114,116,32]}] Q ab.o (by have:=HZ.o;simp only[zv,foldl_cons,foldl_nil,ByteArray.size_append] at this ⊢;omega) (by simp)).mono ?_;rintro e w1 ⟨rfl,af,ak,V⟩;have J:=zc af;have an:=zc (ah.o.trans ak);have al:=zc (ai.o.trans V);have X1:=zc ((V _ _ _ _ X.o ag (by decide)).trans X.o);clear af ak V p0 p1 Y U N M Z x0 x1 x2 x3 xf ab ah ai X;obtain⟨x0,x1,x2,x3,xf⟩:=zbN X1.o;obtain⟨p0,p1,Y,U,N,M,Z⟩:=zy J.o.2.2.1;have ae:=(aLt J.o.2.2.1);have O:=(aLt X1.o);have I:=HL.o;go_upto_block 0 with fail
 go_cut [] from 12 to 45 (fun wx=>PP w (s++zcA W) wx/\Below w.B w1 wx/\KeepB w.b w1 wx)
 case first=>
  cases e1:(W.kind==3) with
  |true=>
   have L:Hid (zcA W=({data:=#[101,120,112,111,114,116,32]}:BA)++({data:=#[42,32,102,114,111,109,32]}:BA)++za3 W.spec):=ztz e1;go_wp2_with fail;go_region_with (first|(go_at_call 201;refine (zhb W.spec _ h1).mono ?_;rintro e w' ⟨rfl,rfl⟩)|(go_at_call 171;refine (zc8 w _ [{data:=#[42,32,102,114,111,109,32]},za3 W.spec] w1 J.o (by have:=HL.o;rw[ze9,L.o] at this;simp only[zv,foldl_cons,foldl_nil,ByteArray.size_append] at this ⊢;omega) (by simp)).mono ?_;rintro e w2 ⟨rfl,q,D,z⟩))
   all_goals (go_wp2_with fail;go_meet;exact⟨by rw[L.o];simp only[zv,foldl_cons,foldl_nil,<-ByteArray.append_assoc] at q ⊢;exact q,D,z⟩)
  |false=>
   cases e2:(W.kind==2) with
   |true=>
    have L:Hid (zcA W=({data:=#[101,120,112,111,114,116,32]}:BA)++zci W.loc W.name++({data:=#[32,102,114,111,109,32]}:BA)++za3 W.spec):=zt0 e1 e2;go_wp2_with fail;refine (zi2 w _ W.loc W.name w1 J.o (by have:=HL.o;rw[ze9,L.o] at this;simp only[zv,foldl_cons,foldl_nil,ByteArray.size_append] at this ⊢;omega)).mono ?_;rintro e w3 ⟨rfl,A,K,E⟩;have H:=zc A;have X3:=zc ((E _ _ _ _ X1.o ag (by decide)).trans X1.o);have aa:=zc K;have ad:=zc E;clear A K E p0 p1 Y U N M Z x0 x1 x2 x3 xf ae O;obtain⟨p0,p1,Y,U,N,M,Z⟩:=zy H.o.2.2.1;obtain⟨x0,x1,x2,x3,xf⟩:=zbN X3.o;have ae:=(aLt H.o.2.2.1);have O:=(aLt X3.o);go_wp2_with fail;go_region_with (first|(go_at_call 201;refine (zhb W.spec _ h1).mono ?_;rintro e w' ⟨rfl,rfl⟩)|(go_at_call 171;refine (zc8 w _ [{data:=#[32,102,114,111,109,32]},za3 W.spec] w3 H.o (by have:=HL.o;rw[ze9,L.o] at this;simp only[zv,foldl_cons,foldl_nil,ByteArray.size_append] at this ⊢;omega) (by simp)).mono ?_;rintro e w2 ⟨rfl,q,D,z⟩))
    all_goals (go_wp2_with fail;go_meet;exact⟨by rw[L.o];simp only[zv,foldl_cons,foldl_nil,<-ByteArray.append_assoc] at q ⊢;exact q,aa.o.trans D,ad.o.trans z⟩)
   |false=>
    have L:Hid (zcA W=({data:=#[101,120,112,111,114,116,32]}:BA)++zci W.loc W.name):=zt1 e1 e2;go_wp2_with fail;refine (zi2 w _ W.loc W.name w1 J.o (by have:=HL.o;rw[ze9,L.o] at this;simp only[zv,foldl_cons,foldl_nil,ByteArray.size_append] at this ⊢;omega)).mono ?_;rintro e w2 ⟨rfl,q,D,z⟩;go_wp2_with fail;go_meet;exact⟨by rw[L.o];simp only[zv,foldl_cons,foldl_nil,<-ByteArray.append_assoc] at q ⊢;exact q,D,z⟩
 case rest=>
 obtain⟨q,D,z⟩:=hcut
 rename_i w2
 have aj:=zc q;have ao:=zc (an.o.trans D);have am:=zc (al.o.trans z);clear q D z p0 p1 Y U N M Z x0 x1 x2 x3 xf ae O;obtain⟨p0,p1,Y,U,N,M,Z⟩:=zy aj.o.2.2.1;go_wp2_with fail;refine (zbR w _ [{data:=#[59]},{data:=#[10]}] _ aj.o (by have:=HL.o;rw[ze9] at this;simp only[zv,foldl_cons,foldl_nil,ByteArray.size_append] at this ⊢;omega) (by simp)).mono ?_;rintro e w3 ⟨rfl,A,K,E⟩;have H:=zc A;have aa:=zc (ao.o.trans K);have ad:=zc (am.o.trans E);clear A K E p0 p1 Y U N M Z;go_wp2;go_end0;exact⟨rfl,(by have A:=H.o;rw[ze9];simp only[zv,foldl_cons,foldl_nil,<-ByteArray.append_assoc] at A ⊢;exact A),aa.o,ad.o⟩
theorem zi3 (i:Nat) (P:World) (h:PP w s P) (J:i<w.m.ex.length):
  Calls prog 244 #[.pointer (some ⟨w.gp,0,none⟩),.int .i64 (i:Int)] P fun e H=>e= .returned (.int .i64 (w.m.ex.getD i zh).kind)/\H=P:=by
 obtain⟨p0,X,N,L,E,M,V⟩:=zy h.2.2.1;obtain⟨g,z,K,D,x1,Y,U,O,Z⟩:=h.2.1.expr J;rw[z] at E;have I:(i:Int)<(w.m.ex.length:Int):=by omega
 obtain⟨A,q⟩: ∃A,(w.m.ex.getD i zh).kind=A:=⟨_,rfl⟩;rw[q] at D;rw[q];clear h z q;go_enter func244,ntmps244;go_wp2;go_ret;exact⟨rfl,rfl⟩
def zcB (c:PC) (i:Nat):Prop:=∀(t:BA) (w:World),PP c t w->(t++prX c.m.ex i).size<=140737488355328->Calls prog 225 #[.pointer (some ⟨c.gp,0,none⟩),.int .i64 (i:Int)] w (PO c (t++prX c.m.ex i) w)
theorem zhc (i:Nat) (o:Bool) (P:World) (ok:zcB w i) (h:PP w s P) (q:(s++zK o (prX w.m.ex i)).size<=140737488355328):
  Calls prog 243 #[.pointer (some ⟨w.gp,0,none⟩),.int .i64 (i:Int),.bool o] P (PO w (s++zK o (prX w.m.ex i)) P):=by
 have OK:=zc ok;have HP:=zc h;clear ok h;obtain⟨p0,p1,p2,X,Z,Y,pf⟩:=zy HP.o.2.2.1;cases o with
 |false=>
  have M:Hid ((s++prX w.m.ex i).size<=140737488355328):=q;clear q;go_enter func243,ntmps243;go_wp2_with fail;refine (OK.o s P HP.o M.o).mono ?_;rintro e w1 ⟨rfl,z,E,A⟩;have I:=zc z;have J:=zc E;have H:=zc A;clear z E A p0 p1 p2 X Z Y pf;go_wp2;refine bodyPost_ret (results_none rfl _ _ _) rfl ?_;exact⟨rfl,I.o,J.o,H.o⟩
 |true=>
  have M:Hid ((s++(zp++prX w.m.ex i++zaA)).size<=140737488355328):=q;clear q;go_enter func243,ntmps243;go_wp2_with fail;refine (zbR w s [zp] P HP.o (by have:=M.o;simp only[zv,foldl_cons,foldl_nil,ByteArray.size_append] at this ⊢;omega) (by simp)).mono ?_;rintro e w1 ⟨rfl,z,E,A⟩;have I:=zc z;have J:=zc E;have H:=zc A;clear z E A p0 p1 p2 X Z Y pf;go_wp2_with fail;refine (OK.o _ w1 I.o (by have:=M.o;simp only[zv,foldl_cons,foldl_nil,ByteArray.size_append] at this ⊢;omega)).mono ?_;rintro e w2 ⟨rfl,L,N,K⟩;have U:=zc L;have ad:=zc (J.o.trans N);have ac:=zc (H.o.trans K);clear L N K;obtain⟨p0,p1,p2,X,Z,Y,pf⟩:=zy U.o.2.2.1;go_wp2_with fail;refine (zbR w _ [zaA] w2 U.o (by have:=M.o;simp only[zv,foldl_cons,foldl_nil,ByteArray.size_append] at this ⊢;omega) (by simp)).mono ?_;rintro e w3 ⟨rfl,D,V,O⟩;have ab:=zc D;have aa:=zc (ad.o.trans V);have ae:=zc (ac.o.trans O);clear D V O p0 p1 p2 X Z Y pf;go_wp2;go_end0;exact⟨rfl,(by have D:=ab.o;unfold zK;rw[if_pos rfl];simp only[zv,foldl_cons,foldl_nil,<-ByteArray.append_assoc] at D ⊢;exact D),aa.o,ae.o⟩
def zaX (k:Int) (n:BA):BA:=
 if n.toList==[42,100,101,102,97,117,108,116] then ({data:=#[101,120,112,111,114,116,32]}:BA)++({data:=#[100,101,102,97,117,108,116]}:BA)++({data:=#[32]}:BA)
 else if k==1 then ({data:=#[108,101,116,32]}:BA)++n++({data:=#[32,61,32]}:BA)
 else if k==2 then ({data:=#[102,117,110,99,116,105,111,110,32]}:BA)++n++({data:=#[40,41,32,123,32,114,101,116,117,114,110,32]}:BA)
 else if k==3 then n++({data:=#[32,61,32]}:BA)
 else if k==4 then ({data:=#[112,114,105,110,116,40]}:BA)
 else if k==5 then ({data:=#[116,104,114,111,119,32]}:BA)
 else ({data:=#[102,97,105,108,32]}:BA)
def zaR (k:Int) (n:BA):BA:=
 if n.toList==[42,100,101,102,97,117,108,116] then ({data:=#[59]}:BA) else if k==2 then ({data:=#[59,32,125]}:BA) else if k==4 then ({data:=#[41,59]}:BA) else ({data:=#[59]}:BA)
theorem zlO (e:(E.toList==[42,100,101,102,97,117,108,116])=true):zaX D E=({data:=#[101,120,112,111,114,116,32]}:BA)++({data:=#[100,101,102,97,117,108,116]}:BA)++({data:=#[32]}:BA):=by rw[zaX,e];rfl
theorem zlP (e:(E.toList==[42,100,101,102,97,117,108,116])=true):zaR D E=({data:=#[59]}:BA):=by rw[zaR,e];rfl
theorem zlQ (e:(E.toList==[42,100,101,102,97,117,108,116])=false) (h:(D==1)=true):zaX D E=({data:=#[108,101,116,32]}:BA)++E++({data:=#[32,61,32]}:BA):=by rw[zaX,e,h];rfl
theorem zlR (e:(E.toList==[42,100,101,102,97,117,108,116])=false) (h:(D==1)=true):zaR D E=({data:=#[59]}:BA):=by have q:=eq_of_beq h;subst q;rw[zaR,e];rfl
theorem zlS (e:(E.toList==[42,100,101,102,97,117,108,116])=false) (q:(D==1)=false) (h:(D==2)=true):zaX D E=({data:=#[102,117,110,99,116,105,111,110,32]}:BA)++E++({data:=#[40,41,32,123,32,114,101,116,117,114,110,32]}:BA):=by rw[zaX,e,q,h];rfl
theorem zlT (e:(E.toList==[42,100,101,102,97,117,108,116])=false) (h:(D==2)=true):zaR D E=({data:=#[59,32,125]}:BA):=by rw[zaR,e,h];rfl
theorem zlU (e:(E.toList==[42,100,101,102,97,117,108,116])=false) (w:(D==1)=false) (q:(D==2)=false) (h:(D==3)=true):zaX D E=E++({data:=#[32,61,32]}:BA):=by rw[zaX,e,w,q,h];rfl
theorem zlV (e:(E.toList==[42,100,101,102,97,117,108,116])=false) (h:(D==3)=true):zaR D E=({data:=#[59]}:BA):=by have q:=eq_of_beq h;subst q;rw[zaR,e];rfl
theorem zlW (e:(E.toList==[42,100,101,102,97,117,108,116])=false) (z:(D==1)=false) (q:(D==2)=false) (h:(D==3)=false) (w:(D==4)=true):zaX D E=({data:=#[112,114,105,110,116,40]}:BA):=by rw[zaX,e,z,q,h,w];rfl
theorem zlX (e:(E.toList==[42,100,101,102,97,117,108,116])=false) (h:(D==2)=false) (q:(D==4)=true):zaR D E=({data:=#[41,59]}:BA):=by rw[zaR,e,h,q];rfl
theorem zlY (e:(E.toList==[42,100,101,102,97,117,108,116])=false) (q:(D==1)=false) (A:(D==2)=false) (w:(D==3)=false) (z:(D==4)=false) (h:(D==5)=true):zaX D E=({data:=#[116,104,114,111,119,32]}:BA):=by rw[zaX,e,q,A,w,z,h];rfl
theorem zlZ (e:(E.toList==[42,100,101,102,97,117,108,116])=false) (h:(D==2)=false) (q:(D==4)=false):zaR D E=({data:=#[59]}:BA):=by rw[zaR,e,h,q];rfl
theorem zma (e:(E.toList==[42,100,101,102,97,117,108,116])=false) (q:(D==1)=false) (A:(D==2)=false) (w:(D==3)=false) (z:(D==4)=false) (h:(D==5)=false):zaX D E=({data:=#[102,97,105,108,32]}:BA):=by rw[zaX,e,q,A,w,z,h];rfl
theorem zmb (e:(E.toList==[42,100,101,102,97,117,108,116])=false) (h:(D==2)=false) (q:(D==4)=false):zaR D E=({data:=#[59]}:BA):=by rw[zaR,e,h,q];rfl
theorem zmc:zdy z t A=zaX z t++A++zaR z t++({data:=#[10]}:BA):=by
 have I:({data:=#[59,10]}:BA)=({data:=#[59]}:BA)++({data:=#[10]}:BA):=zcq #[59] #[10];have H:({data:=#[59,32,125,10]}:BA)=({data:=#[59,32,125]}:BA)++({data:=#[10]}:BA):=zcq #[59,32,125] #[10];have K:({data:=#[41,59,10]}:BA)=({data:=#[41,59]}:BA)++({data:=#[10]}:BA):=zcq #[41,59] #[10];have E:({data:=#[101,120,112,111,114,116,32,100,101,102,97,117,108,116,32]}:BA)=({data:=#[101,120,112,111,114,116,32,100,101,102,97,117,108,116]}:BA)++({data:=#[32]}:BA):=zcq #[101,120,112,111,114,116,32,100,101,102,97,117,108,116] #[32];have J:({data:=#[101,120,112,111,114,116,32,100,101,102,97,117,108,116]}:BA)=({data:=#[101,120,112,111,114,116,32]}:BA)++({data:=#[100,101,102,97,117,108,116]}:BA):=zcq #[101,120,112,111,114,116,32] #[100,101,102,97,117,108,116];unfold zdy za9;rw[I,H,K,E,J];cases h:(t.toList==[42,100,101,102,97,117,108,116]) with
 |true=>rw[zlO h,zlP h];simp only[↓reduceIte,ByteArray.append_assoc]
 |false=>
  cases w:(z==1) with
  |true=>rw[zlQ h w,zlR h w];simp only[↓reduceIte,Bool.false_eq_true,ByteArray.append_assoc]
  |false=>
   cases q:(z==2) with
   |true=>rw[zlS h w q,zlT h q];simp only[↓reduceIte,Bool.false_eq_true,ByteArray.append_assoc]
   |false=>
    cases M:(z==3) with
    |true=>rw[zlU h w q M,zlV h M];simp only[↓reduceIte,Bool.false_eq_true,ByteArray.append_assoc]
    |false=>
     cases L:(z==4) with
     |true=>rw[zlW h w q M L,zlX h q L];simp only[↓reduceIte,Bool.false_eq_true,ByteArray.append_assoc]
     |false=>
      cases D:(z==5) with
      |true=>rw[zlY h w q M L D,zlZ h q L];simp only[↓reduceIte,Bool.false_eq_true,ByteArray.append_assoc]
      |false=>
       rw[zma h w q M L D,zmb h q L];simp only[↓reduceIte,Bool.false_eq_true,ByteArray.append_assoc]
theorem zt4:(zdy z t A).size=(zaX z t).size+A.size+(zaR z t).size+1:=by
 rw[zmc,ByteArray.size_append,ByteArray.size_append,ByteArray.size_append];rfl
theorem zt5 (n:BA) (i:Nat) (P:World) (ok:zcB w i) (h:PP w s P) (M:(s++zdy z n (prX w.m.ex i)).size<=140737488355328):
  Calls prog 204 #[.pointer (some ⟨w.gp,0,none⟩),.agg #[.int .i64 z,.string n,.int .i64 (i:Int)]] P (PO w (s++zdy z n (prX w.m.ex i)) P):=by
 have HP:=zc h;have OK:=zc ok;have U:Hid (s.size+((zaX z n).size+(prX w.m.ex i).size+(zaR z n).size+1)<=140737488355328):=by show _<=_;rw[ByteArray.size_append,zt4] at M;exact M
 clear h M ok;go_enter func204,ntmps204;go_upto_region 1 with fail;have HW:Hid (Bw P (P.alloc (.cells #[.int .i64 z,.string n,.int .i64 (i:Int)] 102))):=bA0;refine zu (R:=fun W=>W.heap[P.heap.size]? =some (.cells #[.int .i64 z,.string n,.int .i64 (i:Int)] 102 (0,0))/\PP w s W/\Below w.B P W/\KeepB w.b P W) ⟨heap_alloc_new P _,HP.o.later HW.o,HW.o.mono HP.o.1.2,KeepB.of_below HW.o⟩ ?_;obtain⟨gx,X⟩: ∃gx,gx=P.heap.size:=⟨_,rfl⟩;have ah:gx≠w.b:=by
  rw[X];obtain⟨av,hc⟩:=zcp HP.o.1.1;have:=(aLt hc);omega
 rw[<-X];rintro N ⟨hx,hp,hb,hk⟩;clear X HW;have X1:=zc hx;have H:=zc hp;have an:=zc hb;have ak:=zc hk;clear hx hp hb hk;obtain⟨x0,x1,x2,xf⟩:=zo X1.o;obtain⟨p0,p1,p2,p3,p4,p5,pf⟩:=zy H.o.2.2.1;have au:=(aLt H.o.2.2.1);have ag:=(aLt X1.o);go_upto_block 0 with fail
 go_cut [4] from 5 to 76 (fun s4 wx=>s4= .string (zaR z n)/\PP w (s++zaX z n) wx/\Below w.B N wx/\KeepB w.b N wx)
 case first=>
  cases I:(n.toList==[42,100,101,102,97,117,108,116]) with
  |true=>
   have E:Hid (zaX z n=({data:=#[101,120,112,111,114,116,32]}:BA)++({data:=#[100,101,102,97,117,108,116]}:BA)++({data:=#[32]}:BA)):=zlO I;have K:Hid (zaR z n=({data:=#[59]}:BA)):=zlP I;have J:Hid ((zv s [{data:=#[101,120,112,111,114,116,32]},{data:=#[100,101,102,97,117,108,116]},{data:=#[32]}]).size<=140737488355328):=by show _<=_;have:=U.o;rw[E.o] at this;simp only[zv,foldl_cons,foldl_nil,ByteArray.size_append] at this ⊢;omega
   go_wp2_with fail;refine (zbR w s [{data:=#[101,120,112,111,114,116,32]},{data:=#[100,101,102,97,117,108,116]},{data:=#[32]}] N H.o J.o (by simp)).mono ?_;rintro e Y ⟨rfl,q,D,A⟩;go_wp2_with fail;go_meet;exact⟨by rw[K.o],by rw[E.o];simp only[zv,foldl_cons,foldl_nil,<-ByteArray.append_assoc] at q ⊢;exact q,D,A⟩
  |false=>
   cases V:(z==1) with
   |true=>
    have E:Hid (zaX z n=({data:=#[108,101,116,32]}:BA)++n++({data:=#[32,61,32]}:BA)):=zlQ I V;have K:Hid (zaR z n=({data:=#[59]}:BA)):=zlR I V;have J:Hid ((zv s [{data:=#[108,101,116,32]},n,{data:=#[32,61,32]}]).size<=140737488355328):=by show _<=_;have:=U.o;rw[E.o] at this;simp only[zv,foldl_cons,foldl_nil,ByteArray.size_append] at this ⊢;omega
    go_wp2_with fail;go_region_with (go_at_call 171;refine (zc8 w s [{data:=#[108,101,116,32]},n,{data:=#[32,61,32]}] N H.o J.o (by simp)).mono ?_;rintro e Y ⟨rfl,q,D,A⟩)
    all_goals (go_wp2_with fail;go_meet;exact⟨by rw[K.o],by rw[E.o];simp only[zv,foldl_cons,foldl_nil,<-ByteArray.append_assoc] at q ⊢;exact q,D,A⟩)
   |false=>
    cases O:(z==2) with
    |true=>
     have E:Hid (zaX z n=({data:=#[102,117,110,99,116,105,111,110,32]}:BA)++n++({data:=#[40,41,32,123,32,114,101,116,117,114,110,32]}:BA)):=zlS I V O;have K:Hid (zaR z n=({data:=#[59,32,125]}:BA)):=zlT I O;have J:Hid ((zv s [{data:=#[102,117,110,99,116,105,111,110,32]},n,{data:=#[40,41,32,123,32,114,101,116,117,114,110,32]}]).size<=140737488355328):=by show _<=_;have:=U.o;rw[E.o] at this;simp only[zv,foldl_cons,foldl_nil,ByteArray.size_append] at this ⊢;omega
     go_wp2_with fail;go_region_with (go_at_call 171;refine (zc8 w s [{data:=#[102,117,110,99,116,105,111,110,32]},n,{data:=#[40,41,32,123,32,114,101,116,117,114,110,32]}] N H.o J.o (by simp)).mono ?_;rintro e Y ⟨rfl,q,D,A⟩)
     all_goals (go_wp2_with fail;go_meet;exact⟨by rw[K.o],by rw[E.o];simp only[zv,foldl_cons,foldl_nil,<-ByteArray.append_assoc] at q ⊢;exact q,D,A⟩)
    |false=>
     cases h3:(z==3) with
     |true=>
      have E:Hid (zaX z n=n++({data:=#[32,61,32]}:BA)):=zlU I V O h3;have K:Hid (zaR z n=({data:=#[59]}:BA)):=zlV I h3;have J:Hid ((zv s [n,{data:=#[32,61,32]}]).size<=140737488355328):=by show _<=_;have:=U.o;rw[E.o] at this;simp only[zv,foldl_cons,foldl_nil,ByteArray.size_append] at this ⊢;omega
      go_wp2_with fail;go_region_with (go_at_call 171;refine (zc8 w s [n,{data:=#[32,61,32]}] N H.o J.o (by simp)).mono ?_;rintro e Y ⟨rfl,q,D,A⟩)
      all_goals (go_wp2_with fail;go_meet;exact⟨by rw[K.o],by rw[E.o];simp only[zv,foldl_cons,foldl_nil,<-ByteArray.append_assoc] at q ⊢;exact q,D,A⟩)
     |false=>
      cases Z:(z==4) with
      |true=>
       have E:Hid (zaX z n=({data:=#[112,114,105,110,116,40]}:BA)):=zlW I V O h3 Z;have K:Hid (zaR z n=({data:=#[41,59]}:BA)):=zlX I O Z;have J:Hid ((zv s [{data:=#[112,114,105,110,116,40]}]).size<=140737488355328):=by show _<=_;have:=U.o;rw[E.o] at this;simp only[zv,foldl_cons,foldl_nil,ByteArray.size_append] at this ⊢;omega
       go_wp2_with fail;refine (zbR w s [{data:=#[112,114,105,110,116,40]}] N H.o J.o (by simp)).mono ?_;rintro e Y ⟨rfl,q,D,A⟩;go_wp2_with fail;go_meet;exact⟨by rw[K.o],by rw[E.o];exact q,D,A⟩
      |false=>
       cases h5:(z==5) with
       |true=>
        have E:Hid (zaX z n=({data:=#[116,104,114,111,119,32]}:BA)):=zlY I V O h3 Z h5;have K:Hid (zaR z n=({data:=#[59]}:BA)):=zlZ I O Z;have J:Hid ((zv s [{data:=#[116,104,114,111,119,32]}]).size<=140737488355328):=by show _<=_;have:=U.o;rw[E.o] at this;simp only[zv,foldl_cons,foldl_nil,ByteArray.size_append] at this ⊢;omega
        go_wp2_with fail;refine (zbR w s [{data:=#[116,104,114,111,119,32]}] N H.o J.o (by simp)).mono ?_;rintro e Y ⟨rfl,q,D,A⟩;go_wp2_with fail;go_meet;exact⟨by rw[K.o],by rw[E.o];exact q,D,A⟩
       |false=>
        have E:Hid (zaX z n=({data:=#[102,97,105,108,32]}:BA)):=zma I V O h3 Z h5;have K:Hid (zaR z n=({data:=#[59]}:BA)):=zmb I O Z;have J:Hid ((zv s [{data:=#[102,97,105,108,32]}]).size<=140737488355328):=by show _<=_;have:=U.o;rw[E.o] at this;simp only[zv,foldl_cons,foldl_nil,ByteArray.size_append] at this ⊢;omega
        go_wp2_with fail;refine (zbR w s [{data:=#[102,97,105,108,32]}] N H.o J.o (by simp)).mono ?_;rintro e Y ⟨rfl,q,D,A⟩;go_wp2_with fail;go_meet;exact⟨by rw[K.o],by rw[E.o];exact q,D,A⟩
 case rest=>
 rename_i s4 Y
 obtain⟨rfl,q,D,A⟩:=hcut;have aq:=zc q;have ao:=zc (an.o.trans D);have am:=zc (ak.o.trans A);have X2:=zc ((A _ _ _ _ X1.o ah (by decide)).trans X1.o);clear q D A p0 p1 p2 p3 p4 p5 pf x0 x1 x2 xf au ag;obtain⟨x0,x1,x2,xf⟩:=zo X2.o;go_wp2_with fail;refine (OK.o _ _ aq.o (by have:=U.o;simp only[ByteArray.size_append] at this ⊢;omega)).mono ?_;rintro e w3 ⟨rfl,L,af,ad⟩;have aa:=zc L;have ai:=zc (ao.o.trans af);have ar:=zc (am.o.trans ad);clear L af ad x0 x1 x2 xf;obtain⟨p0,p1,p2,p3,p4,p5,pf⟩:=zy aa.o.2.2.1;go_wp2_with fail;refine (zbR w _ [zaR z n,{data:=#[10]}] _ aa.o (by have:=U.o;have Q:(({data:=#[10]}:BA)).size=1:=rfl;simp only[zv,foldl_cons,foldl_nil,ByteArray.size_append,Q] at this ⊢;omega) (by simp)).mono ?_;rintro e w4 ⟨rfl,ac,ae,ab⟩;have al:=zc ac;have ap:=zc (ai.o.trans ae);have aj:=zc (ar.o.trans ab);clear ac ae ab p0 p1 p2 p3 p4 p5 pf;go_wp2;go_end0;exact⟨rfl,(by have L:=al.o;rw[zmc];simp only[zv,foldl_cons,foldl_nil,<-ByteArray.append_assoc] at L ⊢;exact L),ap.o,aj.o⟩
theorem zhd {α:Type} {l:List α} (h:F<l.length): ∃x,l[F]? =some x:=⟨_,List.getElem?_eq_getElem h⟩
theorem zt6 (l:List BA):l.map Value.string=l.flatMap (fun x=>[Value.string x]):=by
 induction l with
 |nil=>rfl
 |cons x l h=>rw[List.map_cons,List.flatMap_cons,h];rfl
theorem zt7:s++sNone=s:=by
 cases s with
 |mk d=>
  show ByteArray.append _ _=_;simp[ByteArray.append]
theorem zmd:(acc epF m.ep (acc zaf m.im (acc rqT m.rq sNone))).size<=(zbO m).size:=zew _ _ _
theorem zme:(acc zaf m.im (acc rqT m.rq sNone)).size<=(zbO m).size:=le_trans (zew _ _ _) (zmd m)
theorem zt8:(acc rqT m.rq sNone).size<=(zbO m).size:=le_trans (zew _ _ _) (zme m)
theorem zmf:rqT s=({data:=#[105,109,112,111,114,116,32]}:BA)++za3 s++({data:=#[59]}:BA)++({data:=#[10]}:BA):=by
 have h:({data:=#[59,10]}:BA)={data:=#[59]}++{data:=#[10]}:=zcq #[59] #[10];rw[rqT,h];simp only[ByteArray.append_assoc]
theorem zmg (K:(h.loc.toList==[42,100,101,102,97,117,108,116])=false):epF h=zbx h:=by rw[epF,K];rfl
theorem zt9 (K:(h.loc.toList==[42,100,101,102,97,117,108,116])=true):epF h=sNone:=by rw[epF,K];rfl
theorem ztA (P:World) (ok: ∀i,i<w.m.ex.length->zcB w i) (hs: ∀s∈w.m.st,0<=s.expr/\s.expr<(w.m.ex.length:Int)) (hm:Small w.m) (h:PP w sNone P) (ae:(zbO w.m).size<=140737488355328):
  Calls prog 172 #[.pointer (some ⟨w.gp,0,none⟩)] P (PO w (zbO w.m) P):=by
 have ag:=zc h;have SM:=zc hm;have OK:=zc ok;have HS:=zc hs;have HL:=zc ae;obtain⟨f1,f2,f3,f4,f5⟩:=hm.few;clear h hm ok hs ae;obtain⟨p0,p1,p2,Z,p4,p5,pf⟩:=zy ag.o.2.2.1;go_enter func172,ntmps172;go_wp2;go_loopg [16] w.m.rq.length (fun k i wr=>∃j:Nat,i= .int .i64 j/\j+k=w.m.rq.length/\PP w (acc rqT (w.m.rq.take j) sNone) wr/\Below w.B P wr/\KeepB w.b P wr)
 case atStart=>exact⟨0,rfl,by omega,ag.o,Below.refl _ _,fun _ _ _ _ _ _ _=>rfl⟩
 case round=>
  obtain⟨j,rfl,hj,N,L,M⟩:=hrel;have z:=zc N;have H:=zc L;have E:=zc M;clear N L M p0 p1 p2 Z p4 p5 pf;obtain⟨p0,p1,p2,Z,p4,p5,pf⟩:=zy z.o.2.2.1;by_cases Y:j<w.m.rq.length
  ·have J:(j:Int)<(w.m.rq.length:Int):=by omega
   obtain⟨x,q⟩:=zhd Y;have D:=mem_of_getElem? q;have HZ:Hid ((acc rqT (w.m.rq.take j) sNone++rqT x).size<=140737488355328):=by show _<=_;rw[<-zc6 rqT q];exact le_trans (zdU rqT w.m.rq (j+1) sNone) (le_trans (zt8 w.m) HL.o)
   have HX:=zc q;obtain⟨K,I⟩: ∃K,K=j+1:=⟨_,rfl⟩;have ej:(j:Int)+1=(K:Int):=by omega
   have HJ:=zc I;clear I;obtain⟨g,hg,k0⟩: ∃g,w.S.rq.a=some ⟨g,0,none⟩/\wr.cell? ⟨g,j,none⟩=some (.string x):=by
    obtain⟨g,hg,hc⟩:=OwnR.elem (f:=fun x=>[Value.string x]) (m:=1) (fun _=>rfl) (show OwnR wr w.base 9 1 w.S.rq w.m.rq.length (w.m.rq.flatMap fun x=>[Value.string x]) by rw[<-zt6];exact z.o.2.1.rq) q;have k0:=hc 0 (by omega);simp only[Nat.mul_one,add_zero,getElem?_cons_zero] at k0;exact⟨g,hg,k0⟩
   have ai:=SM.o.rq x D;have HG:Hid (Value.slice w.S.rq.a w.m.rq.length w.S.rq.cap=Value.slice (some ⟨g,0,none⟩) w.m.rq.length w.S.rq.cap):=by show _=_;rw[hg]
   clear hg q D p0 p1 p2 Z p4 p5 pf;rw[HG.o];obtain⟨p0,p1,p2,Z,p4,p5,pf⟩:=zy z.o.2.2.1;have ak:=(aLt z.o.2.2.1);go_wp2_with fail;go_region_with (first|(go_at_call 201;refine (zhb x _ (by omega)).mono ?_;rintro e w' ⟨rfl,rfl⟩)|(go_at_call 171;refine (zc8 w _ [{data:=#[105,109,112,111,114,116,32]},za3 x,{data:=#[59]},{data:=#[10]}] wr z.o (by have:=HZ.o;rw[zmf] at this;simp only[zv,foldl_cons,foldl_nil,ByteArray.size_append] at this ⊢;omega) (by simp)).mono ?_;rintro e w3 ⟨rfl,aa,ah,aj⟩))
   all_goals
    have al:=zc aa;have am:=zc (H.o.trans ah);have ao:=zc (E.o.trans aj);clear aa ah aj p0 p1 p2 Z p4 p5 pf ak k0;go_wp2;rw[<-HG.o];go_roundg (gk-1)
    case rel=>exact⟨K,rfl,by have:=HJ.o;omega,by rw[HJ.o,zc6 rqT HX.o];exact (by have aa:=al.o;rw[zmf];simp only[zv,foldl_cons,foldl_nil,<-ByteArray.append_assoc] at aa ⊢;exact aa),am.o,ao.o⟩
    case measure=>omega
  ·have J: ¬(j:Int)<(w.m.rq.length:Int):=by omega
   obtain rfl:j=w.m.rq.length:=by omega
   have HN:Hid (PP w (acc zaf (w.m.im.take 0) (acc rqT w.m.rq sNone)) wr):=by have:=z.o;rw[take_length] at this;exact this
   go_wp2;go_loopg [35] w.m.im.length (fun k i wr=>∃j:Nat,i= .int .i64 j/\j+k=w.m.im.length/\PP w (acc zaf (w.m.im.take j) (acc rqT w.m.rq sNone)) wr/\Below w.B P wr/\KeepB w.b P wr)
   case atStart=>exact⟨0,rfl,by omega,HN.o,H.o,E.o⟩
   case round=>
    obtain⟨j,rfl,hj,N,L,M⟩:=hrel;clear z H E HN;have z:=zc N;have H:=zc L;have E:=zc M;clear N L M p0 p1 p2 Z p4 p5 pf;obtain⟨p0,p1,p2,Z,p4,p5,pf⟩:=zy z.o.2.2.1;by_cases Y:j<w.m.im.length
    ·have J:(j:Int)<(w.m.im.length:Int):=by omega
     obtain⟨x,q⟩:=zhd Y;have D:=mem_of_getElem? q;have HZ:Hid ((acc zaf (w.m.im.take j) (acc rqT w.m.rq sNone)++zaf x).size<=140737488355328):=by show _<=_;rw[<-zc6 zaf q];exact le_trans (zdU zaf w.m.im (j+1) (acc rqT w.m.rq sNone)) (le_trans (zme w.m) HL.o)
     have HX:=zc q;obtain⟨K,I⟩: ∃K,K=j+1:=⟨_,rfl⟩;have ej:(j:Int)+1=(K:Int):=by omega
     have HJ:=zc I;clear I;obtain⟨g,hg,A⟩:=OwnR.elem (f:=imL) (m:=3) (fun _=>rfl) z.o.2.1.im q;have k0:=A 0 (by omega);have k1:=A 1 (by omega);have k2:=A 2 (by omega);simp only[imL,add_zero,getElem?_cons_zero,getElem?_cons_succ] at k0 k1 k2;clear A;have ai:=(SM.o.im x D).1;have HG:Hid (Value.slice w.S.im.a w.m.im.length w.S.im.cap=Value.slice (some ⟨g,0,none⟩) w.m.im.length w.S.im.cap):=by show _=_;rw[hg]
     clear hg q D p0 p1 p2 Z p4 p5 pf;rw[HG.o];go_upto_region 8 with fail;have HW:Hid (Bw wr (wr.alloc (.cells #[.string x.spec,.string x.first,.string x.loc] 95))):=bA0;refine zu (R:=fun W=>W.heap[wr.heap.size]? =some (.cells #[.string x.spec,.string x.first,.string x.loc] 95 (0,0))/\PP w (acc zaf (w.m.im.take j) (acc rqT w.m.rq sNone)) W/\Below w.B P W/\KeepB w.b P W) ⟨heap_alloc_new wr _,z.o.later HW.o,H.o.trans (HW.o.mono z.o.1.2),E.o.trans (KeepB.of_below HW.o)⟩ ?_;obtain⟨gx,O⟩: ∃gx,gx=wr.heap.size:=⟨_,rfl⟩;rw[<-O];clear k0 k1 k2 HW;rintro W ⟨xb,N,L,M⟩;clear O z H E;have XB:=zc xb;have z:=zc N;have H:=zc L;have E:=zc M;clear xb N L M;obtain⟨x0,x1,x2,xf⟩:=zo XB.o;go_wp2_with fail;refine (zty w _ x W z.o HZ.o (by omega)).mono ?_;rintro e W2 ⟨rfl,X,V,U⟩;have ab:=zc X;have ac:=zc (H.o.trans V);have ad:=zc (E.o.trans U);clear X V U x0 x1 x2 xf;go_wp2;rw[<-HG.o];go_roundg (gk-1)
     case rel=>exact⟨K,rfl,by have:=HJ.o;omega,by rw[HJ.o,zc6 zaf HX.o];exact ab.o,ac.o,ad.o⟩
     case measure=>omega
    ·have J: ¬(j:Int)<(w.m.im.length:Int):=by omega
     obtain rfl:j=w.m.im.length:=by omega
     have HN:Hid (PP w (acc epF (w.m.ep.take 0) (acc zaf w.m.im (acc rqT w.m.rq sNone))) wr):=by have:=z.o;rw[take_length] at this;exact this
     go_wp2;go_loopg [49] w.m.ep.length (fun k i wr=>∃j:Nat,i= .int .i64 j/\j+k=w.m.ep.length/\PP w (acc epF (w.m.ep.take j) (acc zaf w.m.im (acc rqT w.m.rq sNone))) wr/\Below w.B P wr/\KeepB w.b P wr)
     case atStart=>exact⟨0,rfl,by omega,HN.o,H.o,E.o⟩
     case round=>
      obtain⟨j,rfl,hj,N,L,M⟩:=hrel;clear z H E HN;have z:=zc N;have H:=zc L;have E:=zc M;clear N L M p0 p1 p2 Z p4 p5 pf;obtain⟨p0,p1,p2,Z,p4,p5,pf⟩:=zy z.o.2.2.1;by_cases Y:j<w.m.ep.length
      ·have J:(j:Int)<(w.m.ep.length:Int):=by omega
       obtain⟨x,q⟩:=zhd Y;have D:=mem_of_getElem? q;have HZ:Hid ((acc epF (w.m.ep.take j) (acc zaf w.m.im (acc rqT w.m.rq sNone))++epF x).size<=140737488355328):=by show _<=_;rw[<-zc6 epF q];exact le_trans (zdU epF w.m.ep (j+1) (acc zaf w.m.im (acc rqT w.m.rq sNone))) (le_trans (zmd w.m) HL.o)
       have HX:=zc q;obtain⟨K,I⟩: ∃K,K=j+1:=⟨_,rfl⟩;have ej:(j:Int)+1=(K:Int):=by omega
       have HJ:=zc I;clear I;obtain⟨g,hg,A⟩:=OwnR.elem (f:=epL) (m:=4) (fun _=>rfl) z.o.2.1.ep q;have k0:=A 0 (by omega);have k1:=A 1 (by omega);have k2:=A 2 (by omega);have k3:=A 3 (by omega);simp only[epL,add_zero,getElem?_cons_zero,getElem?_cons_succ] at k0 k1 k2 k3;clear A;have ai:=(SM.o.ep x D).1;have HG:Hid (Value.slice w.S.ep.a w.m.ep.length w.S.ep.cap=Value.slice (some ⟨g,0,none⟩) w.m.ep.length w.S.ep.cap):=by show _=_;rw[hg]
       clear hg q D p0 p1 p2 Z p4 p5 pf;rw[HG.o];go_upto_region 13 with fail;have HW:Hid (Bw wr (wr.alloc (.cells #[.int .i64 x.kind,.string x.name,.string x.loc,.string x.spec] 97))):=bA0;refine zu (R:=fun W=>W.heap[wr.heap.size]? =some (.cells #[.int .i64 x.kind,.string x.name,.string x.loc,.string x.spec] 97 (0,0))/\PP w (acc epF (w.m.ep.take j) (acc zaf w.m.im (acc rqT w.m.rq sNone))) W/\Below w.B P W/\KeepB w.b P W) ⟨heap_alloc_new wr _,z.o.later HW.o,H.o.trans (HW.o.mono z.o.1.2),E.o.trans (KeepB.of_below HW.o)⟩ ?_;obtain⟨gx,O⟩: ∃gx,gx=wr.heap.size:=⟨_,rfl⟩;rw[<-O];clear k0 k1 k2 k3 HW;rintro W ⟨xb,N,L,M⟩;clear O z H E;have XB:=zc xb;have z:=zc N;have H:=zc L;have E:=zc M;clear xb N L M;obtain⟨x0,x1,x2,x3,xf⟩:=zbN XB.o;cases e1:(x.loc.toList==[42,100,101,102,97,117,108,116]) with
       |false=>
        go_wp2_with fail;refine (zt3 w _ x W z.o (by have:=HZ.o;rw[zmg e1] at this;exact this) (by omega)).mono ?_;rintro e W2 ⟨rfl,X,V,U⟩;have ab:=zc X;have ac:=zc (H.o.trans V);have ad:=zc (E.o.trans U);clear X V U x0 x1 x2 x3 xf;go_wp2;rw[<-HG.o];go_roundg (gk-1)
        case rel=>exact⟨K,rfl,by have:=HJ.o;omega,by rw[HJ.o,zc6 epF HX.o];exact (by rw[zmg e1];exact ab.o),ac.o,ad.o⟩
        case measure=>omega
       |true=>
        go_wp2;rw[<-HG.o];go_roundg (gk-1)
        case rel=>exact⟨K,rfl,by have:=HJ.o;omega,by rw[HJ.o,zc6 epF HX.o];exact (by rw[zt9 e1,zt7];exact z.o),H.o,E.o⟩
        case measure=>omega
      ·have J: ¬(j:Int)<(w.m.ep.length:Int):=by omega
       obtain rfl:j=w.m.ep.length:=by omega
       have HN:Hid (PP w (acc (zcK w.m.ex) (w.m.st.take 0) (zcm w.m)) wr):=by have:=z.o;rw[take_length] at this;exact this
       go_wp2;go_loopg [66] w.m.st.length (fun k i wr=>∃j:Nat,i= .int .i64 j/\j+k=w.m.st.length/\PP w (acc (zcK w.m.ex) (w.m.st.take j) (zcm w.m)) wr/\Below w.B P wr/\KeepB w.b P wr)
       case atStart=>exact⟨0,rfl,by omega,HN.o,H.o,E.o⟩
       case round=>
        obtain⟨j,rfl,hj,N,L,M⟩:=hrel;clear z H E HN;have z:=zc N;have H:=zc L;have E:=zc M;clear N L M p0 p1 p2 Z p4 p5 pf;obtain⟨p0,p1,p2,Z,p4,p5,pf⟩:=zy z.o.2.2.1;by_cases Y:j<w.m.st.length
        ·have J:(j:Int)<(w.m.st.length:Int):=by omega
         obtain⟨x,q⟩:=zhd Y;have D:=mem_of_getElem? q;have HZ:Hid ((acc (zcK w.m.ex) (w.m.st.take j) (zcm w.m)++(zcK w.m.ex) x).size<=140737488355328):=by show _<=_;rw[<-zc6 (zcK w.m.ex) q];exact le_trans (zdU (zcK w.m.ex) w.m.st (j+1) (zcm w.m)) HL.o
         have HX:=zc q;obtain⟨K,I⟩: ∃K,K=j+1:=⟨_,rfl⟩;have ej:(j:Int)+1=(K:Int):=by omega
         have HJ:=zc I;clear I;obtain⟨ei,af⟩: ∃n:Nat,x.expr=(n:Int):=⟨x.expr.toNat,by have:=HS.o x D;omega⟩;have an:ei<w.m.ex.length:=by have:=HS.o x D;omega
         obtain⟨g,hg,A⟩:=OwnR.elem (f:=smL) (m:=3) (fun _=>rfl) z.o.2.1.st q;have k0:=A 0 (by omega);have k1:=A 1 (by omega);have k2:=A 2 (by omega);simp only[smL,add_zero,getElem?_cons_zero,getElem?_cons_succ,af] at k0 k1 k2;clear A;have HG:Hid (Value.slice w.S.st.a w.m.st.length w.S.st.cap=Value.slice (some ⟨g,0,none⟩) w.m.st.length w.S.st.cap):=by show _=_;rw[hg]
         clear hg q D p0 p1 p2 Z p4 p5 pf;rw[HG.o];go_upto_region 19 with fail;have HW:Hid (Bw wr (wr.alloc (.cells #[.int .i64 x.kind,.string x.name,.int .i64 (ei:Int)] 102))):=bA0;refine zu (R:=fun W=>W.heap[wr.heap.size]? =some (.cells #[.int .i64 x.kind,.string x.name,.int .i64 (ei:Int)] 102 (0,0))/\PP w (acc (zcK w.m.ex) (w.m.st.take j) (zcm w.m)) W/\Below w.B P W/\KeepB w.b P W) ⟨heap_alloc_new wr _,z.o.later HW.o,H.o.trans (HW.o.mono z.o.1.2),E.o.trans (KeepB.of_below HW.o)⟩ ?_;obtain⟨gx,O⟩: ∃gx,gx=wr.heap.size:=⟨_,rfl⟩;rw[<-O];clear k0 k1 k2 HW;rintro W ⟨xb,N,L,M⟩;clear O z H E;have XB:=zc xb;have z:=zc N;have H:=zc L;have E:=zc M;clear xb N L M;obtain⟨x0,x1,x2,xf⟩:=zo XB.o;go_wp2_with fail;refine (zt5 w _ x.kind x.name ei W (OK.o ei an) z.o (by have:=HZ.o;rw[zcK,af,Int.toNat_natCast] at this;exact this)).mono ?_;rintro e W2 ⟨rfl,X,V,U⟩;have ab:=zc X;have ac:=zc (H.o.trans V);have ad:=zc (E.o.trans U);clear X V U x0 x1 x2 xf;go_wp2;rw[<-HG.o];go_roundg (gk-1)
         case rel=>exact⟨K,rfl,by have:=HJ.o;omega,by rw[HJ.o,zc6 (zcK w.m.ex) HX.o];exact (by rw[zcK,af,Int.toNat_natCast];exact ab.o),ac.o,ad.o⟩
         case measure=>omega
        ·have J: ¬(j:Int)<(w.m.st.length:Int):=by omega
         obtain rfl:j=w.m.st.length:=by omega
         have HN:Hid (PP w (zbO w.m) wr):=by have:=z.o;rw[take_length] at this;exact this
         go_wp2;go_end0;exact⟨rfl,HN.o,H.o,E.o⟩
theorem zmh (E Q Y:BA) (l r:Nat) (P:World) (ac:zcB w l) (aa:zcB w r) (hr:r<w.m.ex.length) (h:PP w s P) (A:(s++(prX w.m.ex l++Y++zK (zR (w.m.ex.getD r zh).kind) (prX w.m.ex r))).size<=140737488355328):
  Calls prog 242 #[.pointer (some ⟨w.gp,0,none⟩),.agg #[.int .i64 z,.int .i64 u,.string E,.string Q,.int .i64 (l:Int),.int .i64 (r:Int)],.string Y] P (PO w (s++(prX w.m.ex l++Y++zK (zR (w.m.ex.getD r zh).kind) (prX w.m.ex r))) P):=by
 have HP:=zc h;obtain⟨kk,M⟩: ∃kk,(w.m.ex.getD r zh).kind=kk:=⟨_,rfl⟩;rw[M] at A ⊢;have KK:=zc M;have HL:Hid (s.size+((prX w.m.ex l).size+Y.size+(zK (zR kk) (prX w.m.ex r)).size)<=140737488355328):=by show _<=_;simp only[ByteArray.size_append] at A;exact A
 obtain⟨T,hT⟩: ∃T,T=prX w.m.ex l++Y++zK (zR kk) (prX w.m.ex r):=⟨_,rfl⟩;rw[<-hT];have HT:=zc hT;have ae:=zc ac;have ad:=zc aa;have HR:=zc hr;clear h A ac aa hr M hT;go_enter func242,ntmps242;go_upto_region 1 with fail;have HW:Hid (Bw P (P.alloc (.cells #[.int .i64 z,.int .i64 u,.string E,.string Q,.int .i64 (l:Int),.int .i64 (r:Int)] 100))):=bA0;refine zu (R:=fun W=>W.heap[P.heap.size]? =some (.cells #[.int .i64 z,.int .i64 u,.string E,.string Q,.int .i64 (l:Int),.int .i64 (r:Int)] 100 (0,0))/\PP w s W/\Below w.B P W/\KeepB w.b P W) ⟨heap_alloc_new P _,HP.o.later HW.o,HW.o.mono HP.o.1.2,KeepB.of_below HW.o⟩ ?_;obtain⟨gx,V⟩: ∃gx,gx=P.heap.size:=⟨_,rfl⟩;have Z:gx≠w.b:=by
  rw[V];obtain⟨al,hc⟩:=zcp HP.o.1.1;have:=(aLt hc);omega
 rw[<-V];rintro w1 ⟨hx,H,I,D⟩;clear V HW;have X1:=zc hx;have O:=zc H;have ai:=zc I;have ag:=zc D;clear hx H I D;obtain⟨x0,x1,x2,x3,x4,x5,xf⟩:=zy X1.o;obtain⟨p0,p1,p2,p3,p4,p5,pf⟩:=zy O.o.2.2.1;have L:=(aLt O.o.2.2.1);have J:=(aLt X1.o);go_wp2_with fail;refine (zhc w s l false w1 ae.o O.o (by have:=HL.o;simp only[zK,Bool.false_eq_true,↓reduceIte,ByteArray.size_append] at this ⊢;omega)).mono ?_;rintro e w2 ⟨rfl,H,I,D⟩;have U:=zc H;have aj:=zc (ai.o.trans I);have ah:=zc (ag.o.trans D);have X2:=zc ((D _ _ _ _ X1.o Z (by decide)).trans X1.o);clear H I D p0 p1 p2 p3 p4 p5 pf x0 x1 x2 x3 x4 x5 xf L J;obtain⟨x0,x1,x2,x3,x4,x5,xf⟩:=zy X2.o;obtain⟨p0,p1,p2,p3,p4,p5,pf⟩:=zy U.o.2.2.1;have L:=(aLt U.o.2.2.1);have J:=(aLt X2.o);go_wp2_with fail;refine (zbR w _ [Y] w2 U.o (by have:=HL.o;simp only[zv,zK,Bool.false_eq_true,↓reduceIte,foldl_cons,foldl_nil,ByteArray.size_append] at this ⊢;omega) (by simp)).mono ?_;rintro e X ⟨rfl,H,I,D⟩;have K:=zc H;have af:=zc (aj.o.trans I);have ak:=zc (ah.o.trans D);have X3:=zc ((D _ _ _ _ X2.o Z (by decide)).trans X2.o);clear H I D p0 p1 p2 p3 p4 p5 pf x0 x1 x2 x3 x4 x5 xf L J;obtain⟨x0,x1,x2,x3,x4,x5,xf⟩:=zy X3.o;obtain⟨p0,p1,p2,p3,p4,p5,pf⟩:=zy K.o.2.2.1;have L:=(aLt K.o.2.2.1);have J:=(aLt X3.o);go_wp2_with fail;have ab:=zc (K.o.later ((Below.refl X.heap.size X).drew));go_region_with (first|(go_at_call 244;refine (zi3 w _ r _ ab.o HR.o).mono ?_;rintro e w' ⟨rfl,rfl⟩;rw[KK.o])|(go_at_call 222;refine (zfX _ _).mono ?_;rintro e w' ⟨rfl,rfl⟩)|(go_at_call 243;refine (zhc w _ r (zR kk) _ ad.o ab.o (by have:=HL.o;simp only[zv,show ∀q,zK false q=q from fun _=>rfl,foldl_cons,foldl_nil,ByteArray.size_append] at this ⊢;omega)).mono ?_;rintro e w4 ⟨rfl,H,I,D⟩))
 all_goals (go_wp2;go_end0;exact⟨rfl,(by rw[HT.o];simp only[zv,show ∀q,zK false q=q from fun _=>rfl,foldl_cons,foldl_nil,<-ByteArray.append_assoc] at H ⊢;exact H),af.o.trans ((((Below.refl X.heap.size X).drew).mono K.o.1.2).trans I),ak.o.trans ((KeepB.of_below ((Below.refl X.heap.size X).drew)).trans D)⟩)
theorem ztB (i:Nat) (q:Int) (A z:BA) (l r:Int) (P:World) (h:PP w s P) (hi:i<w.m.ex.length) (L:w.m.ex.getD i zh=⟨1,q,A,z,l,r⟩) (hn: -9223372036854775808<=q/\q<=9223372036854775807) (D:(s++(strOfNums (zcc q))).size<=140737488355328):
  Calls prog 225 #[.pointer (some ⟨w.gp,0,none⟩),.int .i64 (i:Int)] P (PO w (s++(strOfNums (zcc q))) P):=by
 have N:=zc h;obtain⟨T,hT⟩: ∃T,T=strOfNums (zcc q):=⟨_,rfl⟩;rw[<-hT] at D ⊢;have HT:=zc hT;have HL:=zc D;clear h D hT;obtain⟨p0,p1,p2,p3,p4,p5,pf⟩:=zy N.o.2.2.1;obtain⟨g,hg,M,O,x1,x2,V,U,x5⟩:=N.o.2.1.expr hi;rw[L] at O x1 x2 V U x5;dsimp only at O x1 x2 V U x5;rw[hg] at p4;have ab:(i:Int)<(w.m.ex.length:Int):=by omega
 clear hg L;go_enter func225,ntmps225;go_upto_region 1 with fail;have HW:Hid (Bw P (P.alloc (.cells #[.int .i64 1,.int .i64 q,.string A,.string z,.int .i64 l,.int .i64 r] 100))):=bA0;refine zu (R:=fun W=>W.heap[P.heap.size]? =some (.cells #[.int .i64 1,.int .i64 q,.string A,.string z,.int .i64 l,.int .i64 r] 100 (0,0))/\PP w s W/\Below w.B P W/\KeepB w.b P W) ⟨heap_alloc_new P _,N.o.later HW.o,HW.o.mono N.o.1.2,KeepB.of_below HW.o⟩ ?_;obtain⟨gx,J⟩: ∃gx,gx=P.heap.size:=⟨_,rfl⟩;have ai:gx≠w.b:=by
  rw[J];obtain⟨aj,hc⟩:=zcp N.o.1.1;have:=(aLt hc);omega
 rw[<-J];rintro w1 ⟨L,Z,X,Y⟩;clear J HW M O x1 x2 V U x5 p0 p1 p2 p3 p4 p5 pf ab;have X1:=zc L;have E:=zc Z;have ac:=zc X;have aa:=zc Y;clear L Z X Y;obtain⟨O,x1,x2,V,U,x5,xf⟩:=zy X1.o;obtain⟨p0,p1,p2,p3,p4,p5,pf⟩:=zy E.o.2.2.1;have M:=(aLt E.o.2.2.1);have ah:=(aLt X1.o);have HN:=zc hn;go_wp2_with fail;go_region_with (first|(go_at_call 241;refine (zru q _ HN.o).mono ?_;rintro e w2 ⟨rfl,K⟩;have H:=zc (((Below.refl w1.heap.size w1).drew).trans K);have I:=zc (E.o.later H.o);have X2:=zc ((H.o.block _ (aLt X1.o)).trans X1.o);clear K;obtain⟨y0,y1,y2,y3,y4,y5,yf⟩:=zy X2.o;obtain⟨q0,q1,q2,q3,q4,q5,qf⟩:=zy I.o.2.2.1;have af:=(aLt I.o.2.2.1);have ag:=(aLt X2.o))|(go_at_call 171;refine (zbR w s [strOfNums (zcc q)] _ I.o (by have:=HL.o;rw[HT.o] at this;simp only[zv,foldl_cons,foldl_nil,ByteArray.size_append] at this ⊢;omega) (by simp)).mono ?_;rintro e w3 ⟨rfl,Z,ae,ad⟩))
 all_goals (have X:=(H.o.mono E.o.1.2).trans ae;have Y:=(KeepB.of_below (b:=w.b) H.o).trans ad;go_wp2;go_end0;exact⟨rfl,(by rw[HT.o];exact Z),ac.o.trans X,aa.o.trans Y⟩)
theorem ztC (i:Nat) (D:Int) (q z:BA) (l r:Int) (P:World) (h:PP w s P) (hi:i<w.m.ex.length) (I:w.m.ex.getD i zh=⟨2,D,q,z,l,r⟩) (A:(s++(q)).size<=140737488355328):
  Calls prog 225 #[.pointer (some ⟨w.gp,0,none⟩),.int .i64 (i:Int)] P (PO w (s++(q)) P):=by
 have K:=zc h;obtain⟨T,hT⟩: ∃T,T=q:=⟨_,rfl⟩;rw[<-hT] at A ⊢;have HT:=zc hT;have HL:=zc A;clear h A hT;obtain⟨p0,p1,p2,p3,p4,p5,pf⟩:=zy K.o.2.2.1;obtain⟨g,hg,J,L,x1,Y,N,M,Z⟩:=K.o.2.1.expr hi;rw[I] at L x1 Y N M Z;dsimp only at L x1 Y N M Z;rw[hg] at p4;have ab:(i:Int)<(w.m.ex.length:Int):=by omega
 clear hg I;go_enter func225,ntmps225;go_upto_region 1 with fail;have X:Hid (Bw P (P.alloc (.cells #[.int .i64 2,.int .i64 D,.string q,.string z,.int .i64 l,.int .i64 r] 100))):=bA0;refine zu (R:=fun W=>W.heap[P.heap.size]? =some (.cells #[.int .i64 2,.int .i64 D,.string q,.string z,.int .i64 l,.int .i64 r] 100 (0,0))/\PP w s W/\Below w.B P W/\KeepB w.b P W) ⟨heap_alloc_new P _,K.o.later X.o,X.o.mono K.o.1.2,KeepB.of_below X.o⟩ ?_;obtain⟨gx,H⟩: ∃gx,gx=P.heap.size:=⟨_,rfl⟩;have ae:gx≠w.b:=by
  rw[H];obtain⟨af,hc⟩:=zcp K.o.1.1;have:=(aLt hc);omega
 rw[<-H];rintro w1 ⟨I,V,O,U⟩;clear H X J L x1 Y N M Z p0 p1 p2 p3 p4 p5 pf ab;have X1:=zc I;have E:=zc V;have ac:=zc O;have aa:=zc U;clear I V O U;obtain⟨L,x1,Y,N,M,Z,xf⟩:=zy X1.o;obtain⟨p0,p1,p2,p3,p4,p5,pf⟩:=zy E.o.2.2.1;have J:=(aLt E.o.2.2.1);have ad:=(aLt X1.o);go_wp2_with fail;go_region_with (go_at_call 171;refine (zc8 w s [q] w1 E.o (by have:=HL.o;rw[HT.o] at this;simp only[zv,foldl_cons,foldl_nil,ByteArray.size_append] at this ⊢;omega) (by simp)).mono ?_;rintro e w2 ⟨rfl,V,O,U⟩)
 all_goals (go_wp2;go_end0;exact⟨rfl,(by rw[HT.o];exact V),ac.o.trans O,aa.o.trans U⟩)
theorem ztD (i:Nat) (D:Int) (q z:BA) (l r:Int) (P:World) (h:PP w s P) (hi:i<w.m.ex.length) (J:w.m.ex.getD i zh=⟨3,D,q,z,l,r⟩) (A:(s++(q++cParens)).size<=140737488355328):
  Calls prog 225 #[.pointer (some ⟨w.gp,0,none⟩),.int .i64 (i:Int)] P (PO w (s++(q++cParens)) P):=by
 have L:=zc h;obtain⟨T,hT⟩: ∃T,T=q++cParens:=⟨_,rfl⟩;rw[<-hT] at A ⊢;have HT:=zc hT;have HL:=zc A;clear h A hT;obtain⟨p0,p1,p2,p3,p4,p5,pf⟩:=zy L.o.2.2.1;obtain⟨g,hg,K,M,x1,Y,O,N,Z⟩:=L.o.2.1.expr hi;rw[J] at M x1 Y O N Z;dsimp only at M x1 Y O N Z;rw[hg] at p4;have ab:(i:Int)<(w.m.ex.length:Int):=by omega
 clear hg J;go_enter func225,ntmps225;go_upto_region 1 with fail;have X:Hid (Bw P (P.alloc (.cells #[.int .i64 3,.int .i64 D,.string q,.string z,.int .i64 l,.int .i64 r] 100))):=bA0;refine zu (R:=fun W=>W.heap[P.heap.size]? =some (.cells #[.int .i64 3,.int .i64 D,.string q,.string z,.int .i64 l,.int .i64 r] 100 (0,0))/\PP w s W/\Below w.B P W/\KeepB w.b P W) ⟨heap_alloc_new P _,L.o.later X.o,X.o.mono L.o.1.2,KeepB.of_below X.o⟩ ?_;obtain⟨gx,H⟩: ∃gx,gx=P.heap.size:=⟨_,rfl⟩;have ae:gx≠w.b:=by
  rw[H];obtain⟨af,hc⟩:=zcp L.o.1.1;have:=(aLt hc);omega
 rw[<-H];rintro w1 ⟨J,I,U,V⟩;clear H X K M x1 Y O N Z p0 p1 p2 p3 p4 p5 pf ab;have X1:=zc J;have E:=zc I;have ac:=zc U;have aa:=zc V;clear J I U V;obtain⟨M,x1,Y,O,N,Z,xf⟩:=zy X1.o;obtain⟨p0,p1,p2,p3,p4,p5,pf⟩:=zy E.o.2.2.1;have K:=(aLt E.o.2.2.1);have ad:=(aLt X1.o);go_wp2_with fail;go_region_with (go_at_call 171;refine (zc8 w s [q,cParens] w1 E.o (by have:=HL.o;rw[HT.o] at this;simp only[zv,foldl_cons,foldl_nil,ByteArray.size_append] at this ⊢;omega) (by simp)).mono ?_;rintro e w2 ⟨rfl,I,U,V⟩)
 all_goals (go_wp2;go_end0;exact⟨rfl,(by rw[HT.o];simp only[zv,foldl_cons,foldl_nil,<-ByteArray.append_assoc] at I ⊢;exact I),ac.o.trans U,aa.o.trans V⟩)
theorem ztE (i:Nat) (D:Int) (z q:BA) (l r:Int) (P:World) (h:PP w s P) (hi:i<w.m.ex.length) (J:w.m.ex.getD i zh=⟨4,D,z,q,l,r⟩) (A:(s++(z++cPoint++q)).size<=140737488355328):
  Calls prog 225 #[.pointer (some ⟨w.gp,0,none⟩),.int .i64 (i:Int)] P (PO w (s++(z++cPoint++q)) P):=by
 have L:=zc h;obtain⟨T,hT⟩: ∃T,T=z++cPoint++q:=⟨_,rfl⟩;rw[<-hT] at A ⊢;have HT:=zc hT;have HL:=zc A;clear h A hT;obtain⟨p0,p1,p2,p3,p4,p5,pf⟩:=zy L.o.2.2.1;obtain⟨g,hg,K,M,x1,Y,O,N,Z⟩:=L.o.2.1.expr hi;rw[J] at M x1 Y O N Z;dsimp only at M x1 Y O N Z;rw[hg] at p4;have ab:(i:Int)<(w.m.ex.length:Int):=by omega
 clear hg J;go_enter func225,ntmps225;go_upto_region 1 with fail;have X:Hid (Bw P (P.alloc (.cells #[.int .i64 4,.int .i64 D,.string z,.string q,.int .i64 l,.int .i64 r] 100))):=bA0;refine zu (R:=fun W=>W.heap[P.heap.size]? =some (.cells #[.int .i64 4,.int .i64 D,.string z,.string q,.int .i64 l,.int .i64 r] 100 (0,0))/\PP w s W/\Below w.B P W/\KeepB w.b P W) ⟨heap_alloc_new P _,L.o.later X.o,X.o.mono L.o.1.2,KeepB.of_below X.o⟩ ?_;obtain⟨gx,H⟩: ∃gx,gx=P.heap.size:=⟨_,rfl⟩;have ae:gx≠w.b:=by
  rw[H];obtain⟨af,hc⟩:=zcp L.o.1.1;have:=(aLt hc);omega
 rw[<-H];rintro w1 ⟨J,I,U,V⟩;clear H X K M x1 Y O N Z p0 p1 p2 p3 p4 p5 pf ab;have X1:=zc J;have E:=zc I;have ac:=zc U;have aa:=zc V;clear J I U V;obtain⟨M,x1,Y,O,N,Z,xf⟩:=zy X1.o;obtain⟨p0,p1,p2,p3,p4,p5,pf⟩:=zy E.o.2.2.1;have K:=(aLt E.o.2.2.1);have ad:=(aLt X1.o);go_wp2_with fail;go_region_with (go_at_call 171;refine (zc8 w s [z,cPoint,q] w1 E.o (by have:=HL.o;rw[HT.o] at this;simp only[zv,foldl_cons,foldl_nil,ByteArray.size_append] at this ⊢;omega) (by simp)).mono ?_;rintro e w2 ⟨rfl,I,U,V⟩)
 all_goals (go_wp2;go_end0;exact⟨rfl,(by rw[HT.o];simp only[zv,foldl_cons,foldl_nil,<-ByteArray.append_assoc] at I ⊢;exact I),ac.o.trans U,aa.o.trans V⟩)
theorem ztF (i:Nat) (D:Int) (z q:BA) (l r:Int) (P:World) (h:PP w s P) (hi:i<w.m.ex.length) (J:w.m.ex.getD i zh=⟨5,D,z,q,l,r⟩) (A:(s++(z++cPoint++q++cParens)).size<=140737488355328):
  Calls prog 225 #[.pointer (some ⟨w.gp,0,none⟩),.int .i64 (i:Int)] P (PO w (s++(z++cPoint++q++cParens)) P):=by
 have L:=zc h;obtain⟨T,hT⟩: ∃T,T=z++cPoint++q++cParens:=⟨_,rfl⟩;rw[<-hT] at A ⊢;have HT:=zc hT;have HL:=zc A;clear h A hT;obtain⟨p0,p1,p2,p3,p4,p5,pf⟩:=zy L.o.2.2.1;obtain⟨g,hg,K,M,x1,Y,O,N,Z⟩:=L.o.2.1.expr hi;rw[J] at M x1 Y O N Z;dsimp only at M x1 Y O N Z;rw[hg] at p4;have ab:(i:Int)<(w.m.ex.length:Int):=by omega
 clear hg J;go_enter func225,ntmps225;go_upto_region 1 with fail;have X:Hid (Bw P (P.alloc (.cells #[.int .i64 5,.int .i64 D,.string z,.string q,.int .i64 l,.int .i64 r] 100))):=bA0;refine zu (R:=fun W=>W.heap[P.heap.size]? =some (.cells #[.int .i64 5,.int .i64 D,.string z,.string q,.int .i64 l,.int .i64 r] 100 (0,0))/\PP w s W/\Below w.B P W/\KeepB w.b P W) ⟨heap_alloc_new P _,L.o.later X.o,X.o.mono L.o.1.2,KeepB.of_below X.o⟩ ?_;obtain⟨gx,H⟩: ∃gx,gx=P.heap.size:=⟨_,rfl⟩;have ae:gx≠w.b:=by
  rw[H];obtain⟨af,hc⟩:=zcp L.o.1.1;have:=(aLt hc);omega
 rw[<-H];rintro w1 ⟨J,I,U,V⟩;clear H X K M x1 Y O N Z p0 p1 p2 p3 p4 p5 pf ab;have X1:=zc J;have E:=zc I;have ac:=zc U;have aa:=zc V;clear J I U V;obtain⟨M,x1,Y,O,N,Z,xf⟩:=zy X1.o;obtain⟨p0,p1,p2,p3,p4,p5,pf⟩:=zy E.o.2.2.1;have K:=(aLt E.o.2.2.1);have ad:=(aLt X1.o);go_wp2_with fail;go_region_with (go_at_call 171;refine (zc8 w s [z,cPoint,q,cParens] w1 E.o (by have:=HL.o;rw[HT.o] at this;simp only[zv,foldl_cons,foldl_nil,ByteArray.size_append] at this ⊢;omega) (by simp)).mono ?_;rintro e w2 ⟨rfl,I,U,V⟩)
 all_goals (go_wp2;go_end0;exact⟨rfl,(by rw[HT.o];simp only[zv,foldl_cons,foldl_nil,<-ByteArray.append_assoc] at I ⊢;exact I),ac.o.trans U,aa.o.trans V⟩)
theorem ztG (i:Nat) (D:Int) (z q:BA) (l r:Nat) (P:World) (h:PP w s P) (hi:i<w.m.ex.length) (J:w.m.ex.getD i zh=⟨6,D,z,q,(l:Int),(r:Int)⟩) (ae:zcB w l) (ac:zcB w r) (hr:r<w.m.ex.length) (A:(s++(prX w.m.ex l++tPlus++zK (zR (w.m.ex.getD r zh).kind) (prX w.m.ex r))).size<=140737488355328):
  Calls prog 225 #[.pointer (some ⟨w.gp,0,none⟩),.int .i64 (i:Int)] P (PO w (s++(prX w.m.ex l++tPlus++zK (zR (w.m.ex.getD r zh).kind) (prX w.m.ex r))) P):=by
 have L:=zc h;obtain⟨T,hT⟩: ∃T,T=prX w.m.ex l++tPlus++zK (zR (w.m.ex.getD r zh).kind) (prX w.m.ex r):=⟨_,rfl⟩;rw[<-hT] at A ⊢;have HT:=zc hT;have HL:=zc A;clear h A hT;obtain⟨p0,p1,p2,p3,p4,p5,pf⟩:=zy L.o.2.2.1;obtain⟨g,hg,K,M,x1,Y,O,N,Z⟩:=L.o.2.1.expr hi;rw[J] at M x1 Y O N Z;dsimp only at M x1 Y O N Z;rw[hg] at p4;have ab:(i:Int)<(w.m.ex.length:Int):=by omega
 clear hg J;go_enter func225,ntmps225;go_upto_region 1 with fail;have X:Hid (Bw P (P.alloc (.cells #[.int .i64 6,.int .i64 D,.string z,.string q,.int .i64 (l:Int),.int .i64 (r:Int)] 100))):=bA0;refine zu (R:=fun W=>W.heap[P.heap.size]? =some (.cells #[.int .i64 6,.int .i64 D,.string z,.string q,.int .i64 (l:Int),.int .i64 (r:Int)] 100 (0,0))/\PP w s W/\Below w.B P W/\KeepB w.b P W) ⟨heap_alloc_new P _,L.o.later X.o,X.o.mono L.o.1.2,KeepB.of_below X.o⟩ ?_;obtain⟨gx,H⟩: ∃gx,gx=P.heap.size:=⟨_,rfl⟩;have ah:gx≠w.b:=by
  rw[H];obtain⟨ai,hc⟩:=zcp L.o.1.1;have:=(aLt hc);omega
 rw[<-H];rintro w1 ⟨J,I,U,V⟩;clear H X K M x1 Y O N Z p0 p1 p2 p3 p4 p5 pf ab;have X1:=zc J;have E:=zc I;have ad:=zc U;have aa:=zc V;clear J I U V;obtain⟨M,x1,Y,O,N,Z,xf⟩:=zy X1.o;obtain⟨p0,p1,p2,p3,p4,p5,pf⟩:=zy E.o.2.2.1;have K:=(aLt E.o.2.2.1);have ag:=(aLt X1.o);go_wp2_with fail;refine (zmh w s 6 D z q tPlus l r w1 ae ac hr E.o (by rw[<-HT.o];exact HL.o)).mono ?_;rw[<-HT.o];rintro e w2 ⟨rfl,I,U,V⟩;have af:=zc I;clear I;go_wp2;go_end0;exact⟨rfl,af.o,ad.o.trans U,aa.o.trans V⟩
theorem ztH (i:Nat) (D:Int) (z q:BA) (l r:Nat) (P:World) (h:PP w s P) (hi:i<w.m.ex.length) (J:w.m.ex.getD i zh=⟨7,D,z,q,(l:Int),(r:Int)⟩) (ae:zcB w l) (ac:zcB w r) (hr:r<w.m.ex.length) (A:(s++(prX w.m.ex l++tMinus++zK (zR (w.m.ex.getD r zh).kind) (prX w.m.ex r))).size<=140737488355328):
  Calls prog 225 #[.pointer (some ⟨w.gp,0,none⟩),.int .i64 (i:Int)] P (PO w (s++(prX w.m.ex l++tMinus++zK (zR (w.m.ex.getD r zh).kind) (prX w.m.ex r))) P):=by
 have L:=zc h;obtain⟨T,hT⟩: ∃T,T=prX w.m.ex l++tMinus++zK (zR (w.m.ex.getD r zh).kind) (prX w.m.ex r):=⟨_,rfl⟩;rw[<-hT] at A ⊢;have HT:=zc hT;have HL:=zc A;clear h A hT;obtain⟨p0,p1,p2,p3,p4,p5,pf⟩:=zy L.o.2.2.1;obtain⟨g,hg,K,M,x1,Y,O,N,Z⟩:=L.o.2.1.expr hi;rw[J] at M x1 Y O N Z;dsimp only at M x1 Y O N Z;rw[hg] at p4;have ab:(i:Int)<(w.m.ex.length:Int):=by omega
 clear hg J;go_enter func225,ntmps225;go_upto_region 1 with fail;have X:Hid (Bw P (P.alloc (.cells #[.int .i64 7,.int .i64 D,.string z,.string q,.int .i64 (l:Int),.int .i64 (r:Int)] 100))):=bA0;refine zu (R:=fun W=>W.heap[P.heap.size]? =some (.cells #[.int .i64 7,.int .i64 D,.string z,.string q,.int .i64 (l:Int),.int .i64 (r:Int)] 100 (0,0))/\PP w s W/\Below w.B P W/\KeepB w.b P W) ⟨heap_alloc_new P _,L.o.later X.o,X.o.mono L.o.1.2,KeepB.of_below X.o⟩ ?_;obtain⟨gx,H⟩: ∃gx,gx=P.heap.size:=⟨_,rfl⟩;have ah:gx≠w.b:=by
  rw[H];obtain⟨ai,hc⟩:=zcp L.o.1.1;have:=(aLt hc);omega
 rw[<-H];rintro w1 ⟨J,I,U,V⟩;clear H X K M x1 Y O N Z p0 p1 p2 p3 p4 p5 pf ab;have X1:=zc J;have E:=zc I;have ad:=zc U;have aa:=zc V;clear J I U V;obtain⟨M,x1,Y,O,N,Z,xf⟩:=zy X1.o;obtain⟨p0,p1,p2,p3,p4,p5,pf⟩:=zy E.o.2.2.1;have K:=(aLt E.o.2.2.1);have ag:=(aLt X1.o);go_wp2_with fail;refine (zmh w s 7 D z q tMinus l r w1 ae ac hr E.o (by rw[<-HT.o];exact HL.o)).mono ?_;rw[<-HT.o];rintro e w2 ⟨rfl,I,U,V⟩;have af:=zc I;clear I;go_wp2;go_end0;exact⟨rfl,af.o,ad.o.trans U,aa.o.trans V⟩
theorem ztI (i:Nat) (ac:Int) (H q:BA) (l r:Nat) (P:World) (h:PP w s P) (hi:i<w.m.ex.length) (hx:w.m.ex.getD i zh=⟨8,ac,H,q,(l:Int),(r:Int)⟩) (ah:zcB w l) (ag:zcB w r) (hl:l<w.m.ex.length) (hr:r<w.m.ex.length) (I:(s++(zK (zR (w.m.ex.getD l zh).kind) (prX w.m.ex l)++tStar++zK (zac (w.m.ex.getD r zh).kind) (prX w.m.ex r))).size<=140737488355328):
  Calls prog 225 #[.pointer (some ⟨w.gp,0,none⟩),.int .i64 (i:Int)] P (PO w (s++(zK (zR (w.m.ex.getD l zh).kind) (prX w.m.ex l)++tStar++zK (zac (w.m.ex.getD r zh).kind) (prX w.m.ex r))) P):=by
 have HP:=zc h;obtain⟨T,hT⟩: ∃T,T=zK (zR (w.m.ex.getD l zh).kind) (prX w.m.ex l)++tStar++zK (zac (w.m.ex.getD r zh).kind) (prX w.m.ex r):=⟨_,rfl⟩;rw[<-hT] at I ⊢;have HT:=zc hT;have HL:=zc I;clear h I hT;obtain⟨p0,p1,p2,p3,p4,p5,pf⟩:=zy HP.o.2.2.1;obtain⟨g,hg,D,N,Z,X,V,U,Y⟩:=HP.o.2.1.expr hi;rw[hx] at N Z X V U Y;dsimp only at N Z X V U Y;rw[hg] at p4;have ao:(i:Int)<(w.m.ex.length:Int):=by omega
 clear hg hx;go_enter func225,ntmps225;go_upto_region 1 with fail;have HW:Hid (Bw P (P.alloc (.cells #[.int .i64 8,.int .i64 ac,.string H,.string q,.int .i64 (l:Int),.int .i64 (r:Int)] 100))):=bA0;refine zu (R:=fun W=>W.heap[P.heap.size]? =some (.cells #[.int .i64 8,.int .i64 ac,.string H,.string q,.int .i64 (l:Int),.int .i64 (r:Int)] 100 (0,0))/\PP w s W/\Below w.B P W/\KeepB w.b P W) ⟨heap_alloc_new P _,HP.o.later HW.o,HW.o.mono HP.o.1.2,KeepB.of_below HW.o⟩ ?_;obtain⟨gx,ae⟩: ∃gx,gx=P.heap.size:=⟨_,rfl⟩;have af:gx≠w.b:=by
  rw[ae];obtain⟨au,hc⟩:=zcp HP.o.1.1;have:=(aLt hc);omega
 rw[<-ae];rintro O ⟨hx,A,E,z⟩;clear ae HW D N Z X V U Y p0 p1 p2 p3 p4 p5 pf ao;have X1:=zc hx;have M:=zc A;have ap:=zc E;have am:=zc z;clear hx A E z;obtain⟨N,Z,X,V,U,Y,xf⟩:=zy X1.o;obtain⟨p0,p1,p2,p3,p4,p5,pf⟩:=zy M.o.2.2.1;have D:=(aLt M.o.2.2.1);have K:=(aLt X1.o);have aj:=zc ah;have ai:=zc ag;have HR:=zc hr;have ak:=zc hl;obtain⟨kk,ab⟩: ∃kk,(w.m.ex.getD r zh).kind=kk:=⟨_,rfl⟩;obtain⟨kl,aa⟩: ∃kl,(w.m.ex.getD l zh).kind=kl:=⟨_,rfl⟩;have HU:Hid (T=zK (zR kl) (prX w.m.ex l)++tStar++zK (zac kk) (prX w.m.ex r)):=by show _=_;rw[<-ab,<-aa];exact HT.o
 have KK:=zc ab;have KL:=zc aa;clear ah ag hr hl ab aa HT;go_upto_region 17 with fail;go_cut [] from 82 to 90 (fun wx=>PP w (s++zK (zR kl) (prX w.m.ex l)) wx/\Below w.B O wx/\KeepB w.b O wx)
 case first=>
  go_wp2_with fail;have J:=zc (M.o.later ((Below.refl O.heap.size O).drew));go_region_with (first|(go_at_call 244;refine (zi3 w _ l _ J.o ak.o).mono ?_;rintro e w' ⟨rfl,rfl⟩;rw[KL.o])|(go_at_call 222;refine (zfX _ _).mono ?_;rintro e w' ⟨rfl,rfl⟩)|(go_at_call 243;refine (zhc w _ l (zR kl) _ aj.o J.o (by have:=HL.o;rw[HU.o] at this;simp only[ByteArray.size_append] at this ⊢;omega)).mono ?_;rintro e w2 ⟨rfl,A,E,z⟩))
  all_goals (go_wp2_with fail;go_meet;exact⟨A,(((Below.refl O.heap.size O).drew).mono M.o.1.2).trans E,(KeepB.of_below ((Below.refl O.heap.size O).drew)).trans z⟩)
 case rest=>
 obtain⟨A,E,z⟩:=hcut
 rename_i w2
 have ad:=zc A;have aq:=zc (ap.o.trans E);have an:=zc (am.o.trans z);have X2:=zc ((z _ _ _ _ X1.o af (by decide)).trans X1.o);clear A E z p0 p1 p2 p3 p4 p5 pf N Z X V U Y xf D K;obtain⟨N,Z,X,V,U,Y,xf⟩:=zy X2.o;obtain⟨p0,p1,p2,p3,p4,p5,pf⟩:=zy ad.o.2.2.1;have D:=(aLt ad.o.2.2.1);have K:=(aLt X2.o);go_wp2_with fail;refine (zbR w _ [tStar] _ ad.o (by have:=HL.o;rw[HU.o] at this;simp only[zv,foldl_cons,foldl_nil,ByteArray.size_append] at this ⊢;omega) (by simp)).mono ?_;rintro e w3 ⟨rfl,A,E,z⟩;have L:=zc A;have al:=zc (aq.o.trans E);have ar:=zc (an.o.trans z);have X3:=zc ((z _ _ _ _ X2.o af (by decide)).trans X2.o);clear A E z p0 p1 p2 p3 p4 p5 pf N Z X V U Y xf D K;obtain⟨N,Z,X,V,U,Y,xf⟩:=zy X3.o;obtain⟨p0,p1,p2,p3,p4,p5,pf⟩:=zy L.o.2.2.1;have D:=(aLt L.o.2.2.1);have K:=(aLt X3.o);go_wp2_with fail;have J:=zc (L.o.later ((Below.refl w3.heap.size w3).drew));go_region_with (first|(go_at_call 244;refine (zi3 w _ r _ J.o HR.o).mono ?_;rintro e w' ⟨rfl,rfl⟩;rw[KK.o])|(go_at_call 198;refine (zlE _ _).mono ?_;rintro e w' ⟨rfl,rfl⟩)|(go_at_call 243;refine (zhc w _ r (zac kk) _ ai.o J.o (by have:=HL.o;rw[HU.o] at this;simp only[zv,foldl_cons,foldl_nil,ByteArray.size_append] at this ⊢;omega)).mono ?_;rintro e w4 ⟨rfl,A,E,z⟩))
 all_goals (go_wp2;go_end0;exact⟨rfl,(by rw[HU.o];simp only[zv,foldl_cons,foldl_nil,<-ByteArray.append_assoc] at A ⊢;exact A),al.o.trans ((((Below.refl w3.heap.size w3).drew).mono L.o.1.2).trans E),ar.o.trans ((KeepB.of_below ((Below.refl w3.heap.size w3).drew)).trans z)⟩)
theorem ztJ (i:Nat) (k D:Int) (z q:BA) (l r:Int) (P:World) (h:PP w s P) (hi:i<w.m.ex.length) (J:w.m.ex.getD i zh=⟨k,D,z,q,l,r⟩) (k1:(k==1)=false) (k2:(k==2)=false) (k3:(k==3)=false) (k4:(k==4)=false) (k5:(k==5)=false) (k6:(k==6)=false) (k7:(k==7)=false) (k8:(k==8)=false) (A:(s++(sNone)).size<=140737488355328):
  Calls prog 225 #[.pointer (some ⟨w.gp,0,none⟩),.int .i64 (i:Int)] P (PO w (s++(sNone)) P):=by
 have K:=zc h;obtain⟨T,Z⟩: ∃T,T=sNone:=⟨_,rfl⟩;rw[<-Z] at A ⊢;have HT:=zc Z;have HL:=zc A;clear h A Z;obtain⟨p0,p1,p2,p3,Y,p5,pf⟩:=zy K.o.2.2.1;obtain⟨g,hg,I,L,X,U,N,M,V⟩:=K.o.2.1.expr hi;rw[J] at L X U N M V;dsimp only at L X U N M V;rw[hg] at Y;have ab:(i:Int)<(w.m.ex.length:Int):=by omega
 clear hg J;go_enter func225,ntmps225;go_upto_region 1 with fail;have O:Hid (Bw P (P.alloc (.cells #[.int .i64 k,.int .i64 D,.string z,.string q,.int .i64 l,.int .i64 r] 100))):=bA0;refine zu (R:=fun W=>W.heap[P.heap.size]? =some (.cells #[.int .i64 k,.int .i64 D,.string z,.string q,.int .i64 l,.int .i64 r] 100 (0,0))/\PP w s W/\Below w.B P W/\KeepB w.b P W) ⟨heap_alloc_new P _,K.o.later O.o,O.o.mono K.o.1.2,KeepB.of_below O.o⟩ ?_;obtain⟨gx,H⟩: ∃gx,gx=P.heap.size:=⟨_,rfl⟩;have ae:gx≠w.b:=by
  rw[H];obtain⟨af,hc⟩:=zcp K.o.1.1;have:=(aLt hc);omega
 rw[<-H];rintro w1 ⟨J,hp,hb,hk⟩;clear H O I L X U N M V p0 p1 p2 p3 Y p5 pf ab;have X1:=zc J;have E:=zc hp;have ac:=zc hb;have aa:=zc hk;clear J hp hb hk;obtain⟨L,X,U,N,M,V,xf⟩:=zy X1.o;obtain⟨p0,p1,p2,p3,Y,p5,pf⟩:=zy E.o.2.2.1;have I:=(aLt E.o.2.2.1);have ad:=(aLt X1.o);go_wp2;go_end0;exact⟨rfl,(by rw[HT.o,show s++sNone=s from ByteArray.append_empty];exact E.o),ac.o,aa.o⟩
theorem ztK (hn:zaY w.m.ex) (ha:zb8 w.m.ex) (n:Nat): ∀i,i<n->i<w.m.ex.length->zcB w i:=by
 induction n with
 |zero=>intro i H;omega
 |succ n ih=>
  intro i aa H t P h z;by_cases Z:i<n
  ·exact ih i Z H t P h z
  ·have K: ∀j,j<i->zcB w j:=fun j hj=>ih j (by omega) (by omega);have J:=hn (w.m.ex.getD i zh) (by rw[zen H];exact List.getElem_mem H);have E:=zgm ha (i:=i);rw[zh4 ha] at z ⊢;obtain⟨x,I⟩: ∃x,w.m.ex.getD i zh=x:=⟨_,rfl⟩;rw[I] at z J E ⊢;obtain⟨k,D,A,q,l,r⟩:=x;simp only at z J E ⊢;by_cases L:(k==1)=true
   ·rw[if_pos L] at z ⊢;have e:=eq_of_beq L;subst e;exact ztB w t i D A q l r P h H I J z
   rw[if_neg L] at z ⊢;by_cases X:(k==2)=true
   ·rw[if_pos X] at z ⊢;have e:=eq_of_beq X;subst e;exact ztC w t i D A q l r P h H I z
   rw[if_neg X] at z ⊢;by_cases O:(k==3)=true
   ·rw[if_pos O] at z ⊢;have e:=eq_of_beq O;subst e;exact ztD w t i D A q l r P h H I z
   rw[if_neg O] at z ⊢;by_cases Y:(k==4)=true
   ·rw[if_pos Y] at z ⊢;have e:=eq_of_beq Y;subst e;exact ztE w t i D A q l r P h H I z
   rw[if_neg Y] at z ⊢;by_cases U:(k==5)=true
   ·rw[if_pos U] at z ⊢;have e:=eq_of_beq U;subst e;exact ztF w t i D A q l r P h H I z
   rw[if_neg U] at z ⊢;by_cases V:(k==6)=true
   ·rw[if_pos V] at z ⊢;have e:=eq_of_beq V;subst e;have E:=E (by decide);obtain⟨l,rfl⟩: ∃n:Nat,l=(n:Int):=⟨l.toNat,by omega⟩;obtain⟨r,rfl⟩: ∃n:Nat,r=(n:Int):=⟨r.toNat,by omega⟩;simp only[Int.toNat_natCast] at z ⊢;exact ztG w t i D A q l r P h H I (K l (by omega)) (K r (by omega)) (by omega) z
   rw[if_neg V] at z ⊢;by_cases N:(k==7)=true
   ·rw[if_pos N] at z ⊢;have e:=eq_of_beq N;subst e;have E:=E (by decide);obtain⟨l,rfl⟩: ∃n:Nat,l=(n:Int):=⟨l.toNat,by omega⟩;obtain⟨r,rfl⟩: ∃n:Nat,r=(n:Int):=⟨r.toNat,by omega⟩;simp only[Int.toNat_natCast] at z ⊢;exact ztH w t i D A q l r P h H I (K l (by omega)) (K r (by omega)) (by omega) z
   rw[if_neg N] at z ⊢;by_cases M:(k==8)=true
   ·rw[if_pos M] at z ⊢;have e:=eq_of_beq M;subst e;have E:=E (by decide);obtain⟨l,rfl⟩: ∃n:Nat,l=(n:Int):=⟨l.toNat,by omega⟩;obtain⟨r,rfl⟩: ∃n:Nat,r=(n:Int):=⟨r.toNat,by omega⟩;simp only[Int.toNat_natCast] at z ⊢;exact ztI w t i D A q l r P h H I (K l (by omega)) (K r (by omega)) (by omega) (by omega) z
   rw[if_neg M] at z ⊢;exact ztJ w t i k D A q l r P h H I (Bool.eq_false_iff.2 L) (Bool.eq_false_iff.2 X) (Bool.eq_false_iff.2 O) (Bool.eq_false_iff.2 Y) (Bool.eq_false_iff.2 U) (Bool.eq_false_iff.2 V) (Bool.eq_false_iff.2 N) (Bool.eq_false_iff.2 M) z
theorem ztL (aa:Bool) (w:World) (h:OwnMd w g T m) (hm:Small m) (M:Tree m->(zbO m).size<=140737488355328):
  Calls prog 136 #[zl T m,.bool aa] w fun e w'=>PrintOut (zbO m) m e/\Bw w w':=by
 have HH:=zc h;have SM:=zc hm;have HU:=zc M;obtain⟨f1,f2,f3,f4,f5⟩:=hm.few;clear h hm M;unfold zl;go_enter func136,ntmps136;go_wp2_with fail;refine (ztk g T m _ (HH.o.alloc _) f5 f4).mono ?_;rintro e z ⟨⟨b,rfl,J⟩,D⟩;have HT:=zc J;have q:Hid (Bw w z):=(bA0).trans (D.mono (by rw[zg];omega));have H:Hid (z.heap[w.heap.size]? =some (.cells #[.slice T.rq.a m.rq.length T.rq.cap,.slice T.im.a m.im.length T.im.cap,.slice T.ep.a m.ep.length T.ep.cap,.slice T.st.a m.st.length T.st.cap,.slice T.ex.a m.ex.length T.ex.cap] 54 (0,0))):=(D.block _ (by rw[zg];omega)).trans (heap_alloc_new w _);have N:=zc (HH.o.later q.o);clear J D;cases b with
 |false=>
  go_wp2;go_ret;exact⟨.inr ⟨(fun t=>by have:=HT.o.2 t;cases this),rfl⟩,q.o⟩
 |true=>
  have V:=zc (HT.o.1 rfl);have HZ:=zc (HU.o V.o);go_upto_region 4 with fail;have A:Hid (Bw z (z.alloc (.cells #[.pointer none,.slice none 0 0] 175))):=bA0;have hz:=(aLt H.o);refine zu (R:=fun W=>(Lib.IsBuilder 175 5 z.heap.size z.heap.size [] W/\z.heap.size<=W.heap.size)/\OwnMd W g T m/\W.heap[w.heap.size]? =some (.cells #[.slice T.rq.a m.rq.length T.rq.cap,.slice T.im.a m.im.length T.im.cap,.slice T.ep.a m.ep.length T.ep.cap,.slice T.st.a m.st.length T.st.cap,.slice T.ex.a m.ex.length T.ex.cap] 54 (0,0))/\Below w.heap.size w W) ⟨⟨Lib.fresh_isBuilder _ _ z,A.o.size⟩,N.o.later A.o,(A.o.block _ hz).trans H.o,q.o.trans (A.o.mono q.o.size)⟩ ?_;obtain⟨b,E⟩: ∃b,b=z.heap.size:=⟨_,rfl⟩;have K:w.heap.size<=b:=by rw[E];exact q.o.size
  rw[<-E];rintro W ⟨⟨I,X⟩,ho,hx,J⟩;clear hz A H N q HH E z;have BL:=zc I;have HO:=zc ho;have HX:=zc hx;have HB:=zc J;clear I ho hx J;obtain⟨c0,c1,c2,c3,c4,cf⟩:=zj HX.o;go_upto_region 6 with fail;have A:Hid (Bw W (W.alloc (.cells #[.slice T.rq.a m.rq.length T.rq.cap,.slice T.im.a m.im.length T.im.cap,.slice T.ep.a m.ep.length T.ep.cap,.slice T.st.a m.st.length T.st.cap,.slice T.ex.a m.ex.length T.ex.cap,.func (.func 171) #[] #[.pointer (some ⟨b,0,none⟩)]] 215))):=bA0;have ad:Hid (PP ⟨b,b,W.heap.size,g,T,m⟩ sNone (W.alloc (.cells #[.slice T.rq.a m.rq.length T.rq.cap,.slice T.im.a m.im.length T.im.cap,.slice T.ep.a m.ep.length T.ep.cap,.slice T.st.a m.st.length T.st.cap,.slice T.ex.a m.ex.length T.ex.cap,.func (.func 171) #[] #[.pointer (some ⟨b,0,none⟩)]] 215))):=by
   refine⟨⟨zlM BL.o A.o,le_trans X A.o.size⟩,HO.o.later A.o,heap_alloc_new W _,?_⟩;obtain⟨ae,hc⟩:=zcp BL.o;have:=(aLt hc);show W.heap.size≠b;omega
  have Y:=zc (HB.o.trans (A.o.mono HB.o.size));go_wp2_with fail;refine (ztA ⟨b,b,W.heap.size,g,T,m⟩ _ (fun i hi=>ztK _ SM.o.nums V.o.ahead _ i hi hi) V.o.stm SM.o ad.o HZ.o).mono ?_;rintro e w3 ⟨rfl,hp,U,ab⟩;have L:=zc hp;have Z:=zc (Y.o.trans (U.mono K));clear hp U ab c0 c1 c2 c3 c4 cf;go_wp2_with fail;refine (Tryz.Builder_String_any b b (zbO m).data.toList w3 L.o.1.1 L.o.1.2).mono ?_;rintro e w4 ⟨rfl,O⟩;have ac:=zc (Z.o.trans (O.mono K));clear O;go_wp2;go_ret;exact⟨.inl ⟨V.o,rfl⟩,ac.o⟩
theorem zi4 {w:Bool} {x:PS×Ep} (h:zbD G w H= .ok x):H.pos<x.1.pos:=by
 obtain⟨a,E,A⟩:=zn h;obtain⟨b,K,D⟩:=zn A;have z:=zf3 K;rw[(zb6 E).1] at z;cases D;exact z
def zmi (C:Cx) (gt cap base gp:Nat) (t:TypeId) (size:Nat) (f:Ep->List Value) (y:PRL) (S:Sv) (w:World) (e:Ending) (w':World):Prop:=
 match y with
 | .ok a=>∃r S',e= .returned (.slice r.a a.2.length r.cap)/\IM C gt cap base gp S' a.1 w'/\IS gp S w S' w'/\Fr t size w' w.heap.size r a.2.length (a.2.flatMap f) S'/\0<a.2.length/\a.2.length<=4000
 | .error p=>e=Pan p/\Below base w w'
theorem zmj {z base A:Nat} (h:IM G F z base A I H J) (t:TypeId) (size:Nat):Fr t size (J.alloc (.cells #[] t)) J.heap.size ⟨some ⟨J.heap.size,0,none⟩,0⟩ 0 [] I:=by
 refine⟨World.ownsRow_lit J #[] 0 (le_refl _) (by unfold maxLen;omega) (Nat.zero_mul _).symm,fun k g D=>?_⟩;have K:J.heap.size=k:=by simpa [Rw.blk,Value.ownBlock] using g
 have:=(h.mem.own.has D).2;omega
theorem ztM (h:IM C g b c n T p V):
  Calls prog 231 #[.pointer (some ⟨n,0,none⟩)] V (zmi C g b c n 95 3 (fun e=>imL (zbj e)) (za7 C false p []) T V):=by
 obtain⟨i0,hi,an,ap,ar⟩:=info_parts Tryz.infoImp;go_enter func231,ntmps231;go_wp2;go_loopg [3] (C.ts.length+1) (fun k v wr=>∃(S':Sv) (R:PS) (r:Rw) (l:List Ep),v= .slice r.a l.length r.cap/\za7 C false p []=za7 C false R l/\C.ts.length-R.pos<k/\l.length+(C.ts.length-R.pos)<=C.ts.length/\IM C g b c n S' R wr/\IS n T V S' wr/\Fr 95 3 wr V.heap.size r l.length (l.flatMap (fun e=>imL (zbj e))) S')
 case atStart=>exact⟨T,p,⟨some ⟨V.heap.size,0,none⟩,0⟩,[],rfl,rfl,by omega,by simp,h.alloc _,(IS.refl _ _ _).alloc _,zmj h _ _⟩
 case round=>
  obtain⟨S',R,r,l,rfl,hy,hk,hl,m',s',f'⟩:=hrel;have HY:=zc hy;have HZ:=zc (HY.o.trans (zkL C false R l));have ac:=m';have al:=s';have aq:Hid (Fr 95 3 wr V.heap.size r l.length (l.flatMap (fun e=>imL (zbj e))) S'):=f';have aw:=m'.mem.few;clear hy m' s' f';go_wp2_with fail;refine (zrb C g b c n S' R _ ac).mono ?_;cases Y:zbD C false R with
  |error Q=>
   rintro e X ⟨rfl,hb⟩;have HB:=(h.back al).trans hb;have HX:Hid (za7 C false p []= .error Q):=bdE HZ.o Y;unfold Pan;go_wp2;refine⟨rfl,?_⟩;rw[HX.o];exact⟨rfl,HB⟩
  |ok z=>
   rintro e X ⟨rfl,I,m,s⟩;have E:Hid (Fr 95 3 X V.heap.size r l.length (l.flatMap (fun e=>imL (zbj e))) I):=aq.o.step ac (by decide) s;have K:=zc m;have af:Hid (IS n T V I X):=al.trans s;clear m s;have ah:=zc (bdO HZ.o Y);have az:=zi4 Y;have ay:=K.o.mem.inv.pos;unfold imV;have N:=fun o1=>(E.o.later ((Below.refl X.heap.size X).alloc (le_refl _) o1)).1;have ai:=fun o1=>(af.o.alloc o1).size;go_wp2_with (at_builtin;refine zbd _ rfl _ _ 49 rfl V.heap.size 95 i0 _ 3 48 underlying49 hi an ap ar rfl (by decide) (by decide) r l.length _ (by rfl) (N _) X.heap.size (imL (zbj z.2)) (by rfl) (by exact heap_alloc_new X _) rfl (zjS _) (by omega) (ai _) ?_;intro O w2 hr aa ae;have HR:Hid (OwnR w2 V.heap.size 95 3 O (l.length+1) _):=hr;have L:Hid (IM C g b c n I z.1 w2):=(K.o.alloc _).aside aa (fun k P=>⟨E.o.2 k P,E.o.ngp K.o (by decide) P,E.o.ngt K.o (by decide) P⟩);have ag:Hid (IS n T V I w2):=(af.o.alloc _).aside aa (fun k P=>(E.o.1.typed P).1);have aj:Hid (Fr 95 3 w2 V.heap.size O (l.length+1) _ I):=(E.o.later (bA0)).grown (K.o.alloc _) hr ae;clear hr aa ae N ai);have el:(l++[z.2]).length=l.length+1:=by simp
   have ak:Hid (Fr 95 3 w2 V.heap.size O (l++[z.2]).length ((l++[z.2]).flatMap (fun e=>imL (zbj e))) I):=by
    show Fr ..;rw[el,List.flatMap_append]
    simpa using aj.o
   have J:=zc el;clear el aj HR;go_wp2_with fail;cases hc:isT C z.1.pos 4 zbJ with
   |true=>
    have ax:=zaB hc (by decide);have HC:=zc (ah.o.trans (if_pos hc));refine (zP C g b c n I (z.1) 4 zbJ _ L.o (by decide)).mono ?_;rintro e w3 ⟨rfl,D,s⟩;rw[hc] at D ⊢;have M:=ag.o.trans s;have ad:=s;clear s;have Z:Hid (Fr 95 3 w3 V.heap.size O (l++[z.2]).length ((l++[z.2]).flatMap (fun e=>imL (zbj e))) I):=ak.o.step L.o (by decide) ad;clear ad;go_wp2;go_roundg (gk-1)
    case rel=>exact⟨I,adv z.1,O,l++[z.2],by rw[J.o],HC.o,by rw[zA];omega,by rw[zA,J.o];omega,D,M,Z.o⟩
    case measure=>omega
   |false=>
    have HC:=zc (ah.o.trans (if_neg (by rw[hc];decide)));refine (zP C g b c n I (z.1) 4 zbJ _ L.o (by decide)).mono ?_;rintro e w3 ⟨rfl,D,s⟩;rw[hc] at D ⊢;have M:=ag.o.trans s;have Z:Hid (Fr 95 3 w3 V.heap.size O (l++[z.2]).length ((l++[z.2]).flatMap (fun e=>imL (zbj e))) I):=ak.o.step L.o (by decide) s;clear s;go_wp2_with fail;refine (zc5 C g b c n I z.1 125 _ D).mono ?_;cases ab:zd C 4 zb5 z.1 with
    |error Q=>
     rintro e w4 ⟨rfl,hb⟩;have HB:=(h.back M).trans hb;have HX:Hid (za7 C false p []= .error Q):=bdE HC.o ab;unfold Pan;go_wp2;refine⟨rfl,?_⟩;rw[HX.o];exact⟨rfl,HB⟩
    |ok a4=>
     rintro e w4 ⟨rfl,S4,ao,s⟩;have av:Hid (Fr 95 3 w4 V.heap.size O (l++[z.2]).length ((l++[z.2]).flatMap (fun e=>imL (zbj e))) S4):=Z.o.step D (by decide) s;have am:=M.trans s;clear s;have au:=zc (bdO HC.o ab);go_wp2;go_ret;rw[au.o];exact⟨O,S4,by rw[J.o];rfl,ao,am,av.o,by show 0<(l++[z.2]).length;rw[J.o];omega,by show (l++[z.2]).length<=4000;rw[J.o];omega⟩
def impFromI (C:Cx) (l:List Ep) (q:PS):PR:=bd (zd C 1 zX q) fun a=>bd (zM C a) fun b=>bd (zd C 4 cSemi b.1) fun c=>zab (fun e=>zap C (zcj b.2 e)) l (.ok c)
theorem zhe {α:Type} (f:α->PS->PR) (p:Nat): ∀l:List α,zab f l (.error p)= .error p
 |[]=>rfl
 |_::l=>zhe f p l
theorem zi5 {α:Type} (f:α->PS->PR) {l:List α} {x:α} (h:l[F]? =some x) (q:PS):zab f (l.drop F) (.ok q)=zab f (l.drop (F+1)) (f x q):=by
 obtain⟨w,rfl⟩:=List.getElem?_eq_some_iff.1 h;rw[List.drop_eq_getElem_cons w];rfl
theorem ztN {a:PS} (h:zap G x H= .ok a):a.pos=H.pos:=by
 unfold zap at h
 split at h
 ·cases h
 ·cases h;rfl
theorem zmk {a:PS} (K:zq G h H= .ok a):a.pos=H.pos:=by
 unfold zq at K
 split at K
 ·cases K
 ·split at K
  ·cases K;rfl
  ·cases K;rfl
theorem zfY {α:Type} {l:List α} (h:F<l.length): ∃x,l[F]? =some x:=⟨_,List.getElem?_eq_getElem h⟩
theorem ztO (P:Nat) (r:Rw) (S:Sv) (q:PS) (l:List Ep) (w:World) (h:IM C g b c n S q w) (hC:zbu C) (hl:l.length<=4000) (hf:Fr 95 3 w k r l.length (l.flatMap (fun e=>imL (zbj e))) S) (hg:r.a=some ⟨P,0,none⟩):
  Calls prog 230 #[.pointer (some ⟨n,0,none⟩),.slice (some ⟨P,0,none⟩) l.length r.cap] w (zV C g b c n (impFromI C l q) id (fun _=>.tuple #[]) S w):=by
 have HF:=zc hf;have HG:=zc hg;have HY:=zc (impFromI.eq_1 C l q);clear hf hg;go_enter func230,ntmps230;go_wp2_with fail;refine (zeT C g b c n S q zX _ h).mono ?_;cases Z:zd C 1 zX q with
 |error p=>
  rintro e w1 ⟨rfl,I⟩;have U:Below c w w1:=(h.back (IS.refl _ _ _)).trans I;have X:Hid (impFromI C l q= .error p):=bdE HY.o Z;unfold Pan;go_wp2;refine⟨rfl,?_⟩;rw[X.o];exact⟨rfl,U⟩
 |ok a1=>
  rintro e w1 ⟨rfl,S1,ak,J⟩;have am:Hid (Fr 95 3 w1 k r l.length (l.flatMap (fun e=>imL (zbj e))) S1):=HF.o.step h (by decide) J;have ag:=zc (bdO HY.o Z);go_wp2_with fail;refine (zg2 C g b c n S1 a1 _ ak hC).mono ?_;cases aj:zM C a1 with
  |error p=>
   rintro e w2 ⟨rfl,I⟩;have U:=(h.back J).trans I;have X:Hid (impFromI C l q= .error p):=bdE ag.o aj;unfold Pan;go_wp2;refine⟨rfl,?_⟩;rw[X.o];exact⟨rfl,U⟩
  |ok a2=>
   rintro e w2 ⟨rfl,S2,ah,s⟩;have ax:Hid (Fr 95 3 w2 k r l.length (l.flatMap (fun e=>imL (zbj e))) S2):=am.o.step ak (by decide) s;have ac:=J.trans s;clear s;have ai:=zc (bdO ag.o aj);go_wp2_with fail;refine (zc5 C g b c n S2 a2.1 59 _ ah).mono ?_;cases L:zd C 4 cSemi (a2.1) with
   |error p=>
    rintro e w3 ⟨rfl,I⟩;have U:=(h.back ac).trans I;have X:Hid (impFromI C l q= .error p):=bdE ai.o L;unfold Pan;go_wp2;refine⟨rfl,?_⟩;rw[X.o];exact⟨rfl,U⟩
   |ok a3=>
    rintro e w3 ⟨rfl,S3,aw,s⟩;have ay:Hid (Fr 95 3 w3 k r l.length (l.flatMap (fun e=>imL (zbj e))) S3):=ax.o.step ah (by decide) s;have aq:=ac.trans s;clear s;have ap:=zc (bdO ai.o L);have ad:0<a3.pos:=by rw[(zcb L).1];exact Nat.succ_pos _
    generalize az:a2.2=sp at*;clear az;go_wp2;go_loopg [15] l.length (fun Q i wr=>∃(j:Nat) (N:Sv) (H:PS),i= .int .i64 j/\j+Q=l.length/\impFromI C l q=zab (fun e=>zap C (zcj sp e)) (l.drop j) (.ok H)/\0<H.pos/\IM C g b c n N H wr/\IS n S w N wr/\Fr 95 3 wr k r l.length (l.flatMap (fun e=>imL (zbj e))) N)
    case atStart=>exact⟨0,S3,a3,rfl,by omega,ap.o,ad,aw,aq,ay.o⟩
    case round=>
     obtain⟨j,N,H,rfl,hj,hy,aa,m',s',f'⟩:=hrel;have ae:=zc hy;have D:=m';have O:=s';have V:Hid (Fr 95 3 wr k r l.length (l.flatMap (fun e=>imL (zbj e))) N):=f';clear hy m' s' f';by_cases an:j<l.length
     ·have af:(j:Int)<(l.length:Int):=by omega
      obtain⟨x,hx⟩:=zfY an;obtain⟨g',ab,E⟩:=OwnR.elem (f:=fun e=>imL (zbj e)) (m:=3) (fun _=>rfl) V.o.1 hx;have eg:g'=P:=by have:=ab.symm.trans HG.o;simpa using this
      subst eg;have k0:=E 0 (by omega);have k1:=E 1 (by omega);have k2:=E 2 (by omega);simp only[imL,zbj,add_zero,getElem?_cons_zero,getElem?_cons_succ] at k0 k1 k2;have HZ:=zc (ae.o.trans (zi5 (fun e=>zap C (zcj sp e)) hx H));clear E ab hx;obtain⟨Y,K⟩: ∃Y,Y=j+1:=⟨_,rfl⟩;have ej:(j:Int)+1=(Y:Int):=by omega
      rw[<-K] at HZ;have aA:=(aLt (V.o.1.typed (by rw[Rw.blk,HG.o];rfl)).2.2.choose_spec);have aB:=D.lt;have HJ:=zc K;clear K;go_wp2_with fail;refine (zo7 C g b c n N H (zcj sp x) _ (D.alloc _) aa).mono ?_;cases hn:zap C (zcj sp x) H with
      |error p=>
       rintro e w5 ⟨rfl,I⟩;have U:Below c w w5:=(h.back (O.alloc _)).trans I;have X:Hid (impFromI C l q= .error p):=by show _=_;rw[HZ.o,hn];exact zhe _ _ _
       unfold Pan;go_wp2;refine⟨rfl,?_⟩;rw[X.o];exact⟨rfl,U⟩
      |ok a5=>
       rintro e w5 ⟨rfl,S5,al,s⟩;have ar:IS n S w S5 w5:=(O.alloc _).trans s;have au:Hid (Fr 95 3 w5 k r l.length (l.flatMap (fun e=>imL (zbj e))) S5):=(V.o.later (bA0)).step (D.alloc _) (by decide) s;have ao:Hid (impFromI C l q=zab (fun e=>zap C (zcj sp e)) (l.drop Y) (.ok a5)):=by show _=_;rw[HZ.o,hn]
       have av:Hid (0<a5.pos):=by show 0<a5.pos;rw[ztN hn];exact aa
       clear s;go_wp2;go_roundg (gk-1)
       case rel=>exact⟨Y,S5,a5,rfl,by have:=HJ.o;omega,ao.o,av.o,al,ar,au.o⟩
       case measure=>omega
     ·have af: ¬(j:Int)<(l.length:Int):=by omega
      have HZ:Hid (impFromI C l q= .ok H):=by show _=_;rw[ae.o,List.drop_eq_nil_of_le (by omega)];rfl
      go_wp2;go_end0;rw[HZ.o];exact⟨rfl,N,D,O⟩
theorem zi6 (r:Rw) (S:Sv) (q:PS) (l:List Ep) (w:World) (h:IM C g b c n S q w) (I:zbu C) (J:l.length<=4000) (K:l.length≠0) (E:Fr 95 3 w k r l.length (l.flatMap (fun e=>imL (zbj e))) S):
  Calls prog 230 #[.pointer (some ⟨n,0,none⟩),.slice r.a l.length r.cap] w (zV C g b c n (impFromI C l q) id (fun _=>.tuple #[]) S w):=by
 rcases E.1.nil_or with ⟨_,_,e⟩|⟨L,H⟩
 ·exact absurd e K
 ·rw[H];exact ztO C g b c n k L r S q l w h I J E H
theorem zml {z base A:Nat} (h:IM G F z base A I H J) (t:TypeId) (xs:List Value):Fr t xs.length (J.alloc (.cells xs.toArray t)) J.heap.size ⟨some ⟨J.heap.size,0,none⟩,1⟩ 1 xs I:=by
 refine⟨?_,fun k g D=>?_⟩
 ·have:=World.ownsRow_lit (e:=t) (size:=xs.length) J xs.toArray 1 (le_refl _) (by unfold maxLen;omega) (by simp)
  simpa [OwnR] using this
 ·have K:J.heap.size=k:=by simpa [Rw.blk,Value.ownBlock] using g
  have:=(h.mem.own.has D).2;omega
def zaS (C:Cx) (q:PS):PR:=
 if (ze C q.pos).kind==3 then bd (zM C q) fun a=>zd C 4 cSemi a.1
 else if isT C q.pos 4 zO then bd (za7 C false (adv q) []) fun a=>impFromI C a.2 a.1
 else if isT C q.pos 4 zz then bd (zd C 1 sAs (adv q)) fun a=>bd (zm C false a) fun b=>impFromI C [⟨0,b.2,zz,sNone⟩] b.1
 else bd (zm C false q) fun b=>impFromI C [⟨0,b.2,sDefault,sNone⟩] b.1
theorem ztP (h:IM C g b c n T p V) (hC:zbu C) (hk:((ze C p.pos).kind==3)=true):
  Calls prog 216 #[.pointer (some ⟨n,0,none⟩)] V (zV C g b c n (zaS C p) id (fun _=>.tuple #[]) T V):=by
 have aa:=zdo;have Z:Hid (zaS C p=bd (zM C p) fun a=>zd C 4 cSemi a.1):=if_pos hk;go_enter func216,ntmps216;go_wp2_with fail;refine (zbC C g b c n T p _ h).mono ?_;rintro e w1 ⟨rfl,A⟩;unfold tkV;have X:=h.later A;have H:IS n T V T w1:=IS.below A;clear A;go_wp2_with fail;refine (zg2 C g b c n T p _ X hC).mono ?_;cases L:zM C p with
 |error P=>
  rintro e w2 ⟨rfl,A⟩;have N:=(h.back H).trans A;have Y:Hid (zaS C p= .error P):=bdE Z.o L;unfold Pan;go_wp2;refine⟨rfl,?_⟩;rw[Y.o];exact⟨rfl,N⟩
 |ok a2=>
  rintro e w2 ⟨rfl,S2,M,s⟩;have I:=H.trans s;clear s;have E:=zc (bdO Z.o L);go_wp2_with fail;refine (zc5 C g b c n S2 a2.1 59 _ M).mono ?_;cases J:zd C 4 cSemi a2.1 with
  |error P=>
   rintro e w3 ⟨rfl,A⟩;have N:=(h.back I).trans A;have Y:Hid (zaS C p= .error P):=E.o.trans J;unfold Pan;go_wp2;refine⟨rfl,?_⟩;rw[Y.o];exact⟨rfl,N⟩
  |ok a3=>
   rintro e w3 ⟨rfl,S3,O,s⟩;have Q:=I.trans s;clear s;have U:=zc (E.o.trans J);go_wp2;go_end0;rw[U.o];exact⟨rfl,S3,O,Q⟩
theorem ztQ (h:IM C g b c n T p V) (hC:zbu C) (hk:((ze C p.pos).kind==3)=false) (h1:isT C p.pos 4 zO=true):
  Calls prog 216 #[.pointer (some ⟨n,0,none⟩)] V (zV C g b c n (zaS C p) id (fun _=>.tuple #[]) T V):=by
 have ac:=zdo;have HY:Hid (zaS C p=bd (za7 C false (adv p) []) fun a=>impFromI C a.2 a.1):=by show _=_;rw[zaS,hk,h1];rfl
 go_enter func216,ntmps216;go_wp2_with fail;refine (zbC C g b c n T p _ h).mono ?_;rintro e w1 ⟨rfl,D⟩;unfold tkV;have ab:=h.later D;have Q:IS n T V T w1:=IS.below D;clear D;go_wp2_with fail;refine (zP C g b c n T p 4 zO _ ab (by decide)).mono ?_;rintro e w2 ⟨rfl,I,s⟩;rw[h1] at I ⊢;have J:=Q.trans s;clear s;go_wp2_with fail;refine (ztM C g b c n T (adv p) _ I).mono ?_;cases K:za7 C false (adv p) [] with
 |error P=>
  rintro e w3 ⟨rfl,D⟩;have X:=(h.back J).trans D;have HX:Hid (zaS C p= .error P):=bdE HY.o K;unfold Pan;go_wp2;refine⟨rfl,?_⟩;rw[HX.o];exact⟨rfl,X⟩
 |ok N=>
  rintro e w3 ⟨r,S3,rfl,Y,s,f,l0,l1⟩;have M:=J.trans s;have Z:=zc f;clear s f;have L:=zc (bdO HY.o K);go_wp2_with fail;refine (zi6 C g b c n _ r S3 N.1 N.2 _ Y hC l1 (by omega) Z.o).mono ?_;cases H:impFromI C N.2 N.1 with
  |error P=>
   rintro e w4 ⟨rfl,D⟩;have X:=(h.back M).trans D;have HX:Hid (zaS C p= .error P):=L.o.trans H;unfold Pan;go_wp2;refine⟨rfl,?_⟩;rw[HX.o];exact⟨rfl,X⟩
  |ok a4=>
   rintro e w4 ⟨rfl,S4,U,s⟩;have O:=M.trans s;clear s;have aa:=zc (L.o.trans H);go_wp2;go_end0;rw[aa.o];exact⟨rfl,S4,U,O⟩
theorem ztR (h:IM C g b c n T p V) (hC:zbu C) (hk:((ze C p.pos).kind==3)=false) (h1:isT C p.pos 4 zO=false) (h2:isT C p.pos 4 zz=true):
  Calls prog 216 #[.pointer (some ⟨n,0,none⟩)] V (zV C g b c n (zaS C p) id (fun _=>.tuple #[]) T V):=by
 have ah:=zdo;have HY:Hid (zaS C p=bd (zd C 1 sAs (adv p)) fun a=>bd (zm C false a) fun P=>impFromI C [⟨0,P.2,zz,sNone⟩] P.1):=by show _=_;rw[zaS,hk,h1,h2];rfl
 go_enter func216,ntmps216;go_wp2_with fail;refine (zbC C g b c n T p _ h).mono ?_;rintro e w1 ⟨rfl,D⟩;unfold tkV;have af:=h.later D;have ab:IS n T V T w1:=IS.below D;clear D;go_wp2_with fail;refine (zP C g b c n T p 4 zO _ af (by decide)).mono ?_;rintro e w2 ⟨rfl,K,s⟩;rw[h1] at K ⊢;have ac:=ab.trans s;clear s;go_wp2_with fail;refine (zP C g b c n T p 4 zz _ K (by decide)).mono ?_;rintro e w3 ⟨rfl,R,s⟩;rw[h2] at R ⊢;have X:=ac.trans s;clear s;go_wp2_with fail;refine (zeT C g b c n T (adv p) sAs _ R).mono ?_;cases H:zd C 1 sAs (adv p) with
 |error Q=>
  rintro e w4 ⟨rfl,D⟩;have N:=(h.back X).trans D;have HX:Hid (zaS C p= .error Q):=bdE HY.o H;unfold Pan;go_wp2;refine⟨rfl,?_⟩;rw[HX.o];exact⟨rfl,N⟩
 |ok a4=>
  rintro e w4 ⟨rfl,S4,aa,s⟩;have I:=X.trans s;clear s;have Y:=zc (bdO HY.o H);go_wp2_with fail;refine (zdF C g b c n S4 a4 _ aa).mono ?_;cases J:zm C false a4 with
  |error Q=>
   rintro e w5 ⟨rfl,D⟩;have N:=(h.back I).trans D;have HX:Hid (zaS C p= .error Q):=bdE Y.o J;unfold Pan;go_wp2;refine⟨rfl,?_⟩;rw[HX.o];exact⟨rfl,N⟩
  |ok U=>
   rintro e w5 ⟨rfl,S5,L,s⟩;have Z:=I.trans s;clear s;have M:=zc (bdO Y.o J);go_wp2_with fail;refine (zi6 C g b c n _ ⟨some ⟨w5.heap.size,0,none⟩,1⟩ S5 U.1 [⟨0,U.2,zz,sNone⟩] _ (L.alloc _) hC (by simp) (by simp) (zml L 95 (imL (zbj ⟨0,U.2,zz,sNone⟩)))).mono ?_;cases O:impFromI C [⟨0,U.2,zz,sNone⟩] U.1 with
   |error Q=>
    rintro e w6 ⟨rfl,D⟩;have N:Below c V w6:=(h.back (Z.alloc _)).trans D;have HX:Hid (zaS C p= .error Q):=M.o.trans O;unfold Pan;go_wp2;refine⟨rfl,?_⟩;rw[HX.o];exact⟨rfl,N⟩
   |ok a6=>
    rintro e w6 ⟨rfl,S6,ad,s⟩;have ae:IS n T V S6 w6:=(Z.alloc _).trans s;clear s;have ag:=zc (M.o.trans O);go_wp2;go_end0;rw[ag.o];exact⟨rfl,S6,ad,ae⟩
theorem ztS (h:IM C g b c n T p V) (hC:zbu C) (hk:((ze C p.pos).kind==3)=false) (h1:isT C p.pos 4 zO=false) (h2:isT C p.pos 4 zz=false):
  Calls prog 216 #[.pointer (some ⟨n,0,none⟩)] V (zV C g b c n (zaS C p) id (fun _=>.tuple #[]) T V):=by
 have ac:=zdo;have HY:Hid (zaS C p=bd (zm C false p) fun P=>impFromI C [⟨0,P.2,sDefault,sNone⟩] P.1):=by show _=_;rw[zaS,hk,h1,h2];rfl
 go_enter func216,ntmps216;go_wp2_with fail;refine (zbC C g b c n T p _ h).mono ?_;rintro e w1 ⟨rfl,D⟩;unfold tkV;have ab:=h.later D;have X:IS n T V T w1:=IS.below D;clear D;go_wp2_with fail;refine (zP C g b c n T p 4 zO _ ab (by decide)).mono ?_;rintro e w2 ⟨rfl,K,s⟩;rw[h1] at K ⊢;have Y:=X.trans s;clear s;go_wp2_with fail;refine (zP C g b c n T p 4 zz _ K (by decide)).mono ?_;rintro e w3 ⟨rfl,N,s⟩;rw[h2] at N ⊢;have O:=Y.trans s;clear s;go_wp2_with fail;refine (zdF C g b c n T p _ N).mono ?_;cases H:zm C false p with
 |error Q=>
  rintro e w4 ⟨rfl,D⟩;have HB:=(h.back O).trans D;have HX:Hid (zaS C p= .error Q):=bdE HY.o H;unfold Pan;go_wp2;refine⟨rfl,?_⟩;rw[HX.o];exact⟨rfl,HB⟩
 |ok M=>
  rintro e w4 ⟨rfl,S4,L,s⟩;have I:=O.trans s;clear s;have U:=zc (bdO HY.o H);go_wp2_with fail;refine (zi6 C g b c n _ ⟨some ⟨w4.heap.size,0,none⟩,1⟩ S4 M.1 [⟨0,M.2,sDefault,sNone⟩] _ (L.alloc _) hC (by simp) (by simp) (zml L 95 (imL (zbj ⟨0,M.2,sDefault,sNone⟩)))).mono ?_;cases J:impFromI C [⟨0,M.2,sDefault,sNone⟩] M.1 with
  |error Q=>
   rintro e w5 ⟨rfl,D⟩;have HB:Below c V w5:=(h.back (I.alloc _)).trans D;have HX:Hid (zaS C p= .error Q):=U.o.trans J;unfold Pan;go_wp2;refine⟨rfl,?_⟩;rw[HX.o];exact⟨rfl,HB⟩
  |ok a5=>
   rintro e w5 ⟨rfl,S5,R,s⟩;have aa:IS n T V S5 w5:=(I.alloc _).trans s;clear s;have Z:=zc (U.o.trans J);go_wp2;go_end0;rw[Z.o];exact⟨rfl,S5,R,aa⟩
theorem ztT (h:IM C g b c n T p V) (H:zbu C):
  Calls prog 216 #[.pointer (some ⟨n,0,none⟩)] V (zV C g b c n (zaS C p) id (fun _=>.tuple #[]) T V):=by
 cases E:((ze C p.pos).kind==3) with
 |true=>exact ztP C g b c n T p V h H E
 |false=>
  cases I:isT C p.pos 4 zO with
  |true=>exact ztQ C g b c n T p V h H E I
  |false=>
   cases J:isT C p.pos 4 zz with
   |true=>exact ztR C g b c n T p V h H E I J
   |false=>exact ztS C g b c n T p V h H E I J
end Go.Proofs.YtgcbmogmniahjaaGreat
