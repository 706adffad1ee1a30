/- Facts. -/
import Derived.Deep.RegionWith
import Derived.Test.YtegdaafmaookjaaGreatP44
namespace Go.Proofs.YtegdaafmaookjaaGreat
open Nat (le_trans add_zero)
open List (foldl_cons foldl_nil getElem?_cons_zero take_length)
open Go.Proofs.Tryz
set_option maxRecDepth 100000
set_option maxHeartbeats 12800000
open Go.RowKit Go.PlainAid Go.Sort
variable (w:Md) (W:PC) (s:BA0) (C:Ep) (S:Im) (g:Nat) (z u:Int) (t A:BA0) (V:World) {n:Im} {k:Ep} {m:Int} {x:BA0}
theorem zcL (q:List BA0) (w:World) (h:PP W s w) (A:(zA s q).size<=140737488355328) (M:q.length<=4294967296):
  Calls prog 193 #[.slice (some ⟨w.heap.size,0,none⟩) q.length q.length,.pointer (some ⟨W.b,0,none⟩)] (w.alloc (.cells (q.map Value.string).toArray 9)).drew (PO W (zA s q) w):=by
 have H:Bw w (w.alloc (.cells (q.map Value.string).toArray 9)).drew:=(bA0).drew;refine (zmK W s q w.heap.size _ (h.later H) (hN0 w _) A M).mono ?_;rintro e N ⟨I,K,J,L⟩;exact⟨I,K,(H.mono h.1.2).trans J,(KeepB.of_below H).trans L⟩
def zcM (x:Im):BA0:=
 if x.first.toList==[42] then ({data:=#[105,109,112,111,114,116,32]}:BA0)++({data:=#[42,32,97,115,32]}:BA0)++x.loc
 else if x.first.toList==[100,101,102,97,117,108,116] then ({data:=#[105,109,112,111,114,116,32]}:BA0)++x.loc
 else ({data:=#[105,109,112,111,114,116,32]}:BA0)++zcq x.first x.loc
theorem zvc (e:(n.first.toList==[42])=true):zcM n=({data:=#[105,109,112,111,114,116,32]}:BA0)++({data:=#[42,32,97,115,32]}:BA0)++n.loc:=by rw[zcM,e];rfl
theorem zvd (e:(n.first.toList==[42])=false) (h:(n.first.toList==[100,101,102,97,117,108,116])=true):zcM n=({data:=#[105,109,112,111,114,116,32]}:BA0)++n.loc:=by rw[zcM,e,h];rfl
theorem zve (e:(n.first.toList==[42])=false) (h:(n.first.toList==[100,101,102,97,117,108,116])=false):zcM n=({data:=#[105,109,112,111,114,116,32]}:BA0)++zcq n.first n.loc:=by rw[zcM,e,h];rfl
theorem zcz (a b:Array UInt8):(⟨a++b⟩:BA0)=⟨a⟩++⟨b⟩:=by
 apply ByteArray.ext;simp
theorem zf7:zak S=zcM S++({data:=#[32,102,114,111,109,32]}:BA0)++za7 S.spec++({data:=#[59]}:BA0)++({data:=#[10]}:BA0):=by
 have A:({data:=#[59,10]}:BA0)={data:=#[59]}++{data:=#[10]}:=zcz #[59] #[10];have q:({data:=#[105,109,112,111,114,116,32,42,32,97,115,32]}:BA0)={data:=#[105,109,112,111,114,116,32]}++{data:=#[42,32,97,115,32]}:=zcz #[105,109,112,111,114,116,32] #[42,32,97,115,32];have w:({data:=#[105,109,112,111,114,116,32,123,32]}:BA0)={data:=#[105,109,112,111,114,116,32]}++{data:=#[123,32]}:=zcz #[105,109,112,111,114,116,32] #[123,32];have h:({data:=#[32,125,32,102,114,111,109,32]}:BA0)={data:=#[32,125]}++{data:=#[32,102,114,111,109,32]}:=zcz #[32,125] #[32,102,114,111,109,32];unfold zak zcM zcq;rw[A,q,w,h]
 split
 ·simp only[aA0]
 ·split<;>simp only[aA0]
theorem zvf:(({data:=#[105,109,112,111,114,116,32]}:BA0)).size<=(zak S).size:=by
 rw[zf7,zcM]
 split
 ·simp only[sA];omega
 ·split<;>(simp only[sA];omega)
theorem zvg (h:PP W s V) (I:(s++zak S).size<=140737488355328) (h1:S.spec.size<=1099511627776):
  Calls prog 220 #[.pointer (some ⟨W.gp,0,none⟩),imV S] V (PO W (s++zak S) V):=by
 have HP:=zc h;have U:=zc I;clear h I;have HZ:Hid (s.size+(zak S).size<=140737488355328/\(({data:=#[105,109,112,111,114,116,32]}:BA0)).size<=(zak S).size):=⟨by have:=U.o;rw[sA] at this;exact this,zvf S⟩;unfold imV;go_enter func220,ntmps220;go_upto_region 1 with fail;have HW:Hid (Bw V (V.alloc (.cells #[.string S.spec,.string S.first,.string S.loc] 101))):=bA0;refine zp (R:=fun p=>p.heap[V.heap.size]? =some (.cells #[.string S.spec,.string S.first,.string S.loc] 101 (0,0))/\PP W s p/\Below W.B V p/\KeepB W.b V p) ⟨hN0 V _,HP.o.later HW.o,HW.o.mono HP.o.1.2,KeepB.of_below HW.o⟩ ?_;obtain⟨gx,O⟩: ∃gx,gx=V.heap.size:=⟨_,rfl⟩;have aa:gx≠W.b:=by
  rw[O];obtain⟨am,hc⟩:=zcy HP.o.1.1;have:=(aLt hc);omega
 rw[<-O];rintro p ⟨hx,hp,hb,hk⟩;clear O HW;have X:=zc hx;have M:=zc hp;have ab:=zc hb;have ad:=zc hk;clear hx hp hb hk;obtain⟨x0,x1,x2,xf⟩:=zg X.o;obtain⟨p0,p1,p2,p3,p4,p5,pf⟩:=zD M.o.2.2.1;go_wp2_with fail;refine (zca W s [{data:=#[105,109,112,111,114,116,32]}] p M.o (by have:=HZ.o;simp only[zA,foldl_cons,foldl_nil,sA] at this ⊢;omega) (by simp)).mono ?_;rintro e Y ⟨rfl,Z,ae,L⟩;have J:=zc Z;have ai:=zc (ab.o.trans ae);have ag:=zc (ad.o.trans L);have X1:=zc ((L _ _ _ _ X.o aa (by decide)).trans X.o);clear Z ae L p0 p1 p2 p3 p4 p5 pf x0 x1 x2 xf M ab ad X;obtain⟨x0,x1,x2,xf⟩:=zg X1.o;obtain⟨p0,p1,p2,p3,p4,p5,pf⟩:=zD J.o.2.2.1;have af:=(aLt J.o.2.2.1);have D:=(aLt X1.o);have I:=U.o;go_upto_block 0 with fail
 go_cut [] from 12 to 37 (fun wx=>PP W (s++zcM S) wx/\Below W.B Y wx/\KeepB W.b Y wx)
 case first=>
  cases e1:(S.first.toList==[42]) with
  |true=>
   have K:Hid (zcM S=({data:=#[105,109,112,111,114,116,32]}:BA0)++({data:=#[42,32,97,115,32]}:BA0)++S.loc):=zvc e1;go_wp2_with fail;go_region_with (go_at_call 193;refine (zcL W _ [{data:=#[42,32,97,115,32]},S.loc] Y J.o (by have:=U.o;rw[zf7,K.o] at this;simp only[zA,foldl_cons,foldl_nil,sA] at this ⊢;omega) (by simp)).mono ?_;rintro e w2 ⟨rfl,q,H,A⟩)
   all_goals (go_wp2_with fail;go_meet;exact⟨by rw[K.o];simp only[zA,foldl_cons,foldl_nil,<-aA0] at q ⊢;exact q,H,A⟩)
  |false=>
   cases e2:(S.first.toList==[100,101,102,97,117,108,116]) with
   |true=>
    have K:Hid (zcM S=({data:=#[105,109,112,111,114,116,32]}:BA0)++S.loc):=zvd e1 e2;go_wp2_with fail;go_region_with (go_at_call 193;refine (zcL W _ [S.loc] Y J.o (by have:=U.o;rw[zf7,K.o] at this;simp only[zA,foldl_cons,foldl_nil,sA] at this ⊢;omega) (by simp)).mono ?_;rintro e w2 ⟨rfl,q,H,A⟩)
    all_goals (go_wp2_with fail;go_meet;exact⟨by rw[K.o];simp only[zA,foldl_cons,foldl_nil,<-aA0] at q ⊢;exact q,H,A⟩)
   |false=>
    have K:Hid (zcM S=({data:=#[105,109,112,111,114,116,32]}:BA0)++zcq S.first S.loc):=zve e1 e2;go_wp2_with fail;refine (zjq W _ S.first S.loc Y J.o (by have:=U.o;rw[zf7,K.o] at this;simp only[zA,foldl_cons,foldl_nil,sA] at this ⊢;omega)).mono ?_;rintro e w2 ⟨rfl,q,H,A⟩;go_wp2_with fail;go_meet;exact⟨by rw[K.o];simp only[zA,foldl_cons,foldl_nil,<-aA0] at q ⊢;exact q,H,A⟩
 case rest=>
 obtain⟨q,H,A⟩:=hcut
 rename_i w2
 have N:=zc q;have aj:=zc (ai.o.trans H);have ah:=zc (ag.o.trans A);have X2:=zc ((A _ _ _ _ X1.o aa (by decide)).trans X1.o);clear q H A p0 p1 p2 p3 p4 p5 pf x0 x1 x2 xf af D;obtain⟨p0,p1,p2,p3,p4,p5,pf⟩:=zD N.o.2.2.1;obtain⟨x0,x1,x2,xf⟩:=zg X2.o;have af:=(aLt N.o.2.2.1);have D:=(aLt X2.o);go_wp2_with fail;go_region_with (first|(go_at_call 219;refine (zhH S.spec _ h1).mono ?_;rintro e w' ⟨rfl,rfl⟩)|(go_at_call 193;refine (zcL W _ [{data:=#[32,102,114,111,109,32]},za7 S.spec,{data:=#[59]},{data:=#[10]}] _ N.o (by have:=U.o;rw[zf7] at this;simp only[zA,foldl_cons,foldl_nil,sA] at this ⊢;omega) (by simp)).mono ?_;rintro e w3 ⟨rfl,ac,al,ak⟩))
 all_goals (go_wp2;go_end0;exact⟨rfl,(by rw[zf7];simp only[zA,foldl_cons,foldl_nil,<-aA0] at ac ⊢;exact ac),aj.o.trans al,ah.o.trans ak⟩)
def zcN (x:Ep):BA0:=
 if x.kind==3 then ({data:=#[101,120,112,111,114,116,32]}:BA0)++({data:=#[42,32,102,114,111,109,32]}:BA0)++za7 x.spec
 else if x.kind==2 then ({data:=#[101,120,112,111,114,116,32]}:BA0)++zcq x.loc x.name++({data:=#[32,102,114,111,109,32]}:BA0)++za7 x.spec
 else ({data:=#[101,120,112,111,114,116,32]}:BA0)++zcq x.loc x.name
theorem zvh (e:(k.kind==3)=true):zcN k=({data:=#[101,120,112,111,114,116,32]}:BA0)++({data:=#[42,32,102,114,111,109,32]}:BA0)++za7 k.spec:=by rw[zcN,e];rfl
theorem zvi (e:(k.kind==3)=false) (h:(k.kind==2)=true):zcN k=({data:=#[101,120,112,111,114,116,32]}:BA0)++zcq k.loc k.name++({data:=#[32,102,114,111,109,32]}:BA0)++za7 k.spec:=by rw[zcN,e,h];rfl
theorem zvj (e:(k.kind==3)=false) (h:(k.kind==2)=false):zcN k=({data:=#[101,120,112,111,114,116,32]}:BA0)++zcq k.loc k.name:=by rw[zcN,e,h];rfl
theorem zeX:zb5 C=zcN C++({data:=#[59]}:BA0)++({data:=#[10]}:BA0):=by
 have q:({data:=#[59,10]}:BA0)={data:=#[59]}++{data:=#[10]}:=zcz #[59] #[10];have w:({data:=#[101,120,112,111,114,116,32,42,32,102,114,111,109,32]}:BA0)={data:=#[101,120,112,111,114,116,32]}++{data:=#[42,32,102,114,111,109,32]}:=zcz #[101,120,112,111,114,116,32] #[42,32,102,114,111,109,32];have H:({data:=#[101,120,112,111,114,116,32,123,32]}:BA0)={data:=#[101,120,112,111,114,116,32]}++{data:=#[123,32]}:=zcz #[101,120,112,111,114,116,32] #[123,32];have h:({data:=#[32,125,32,102,114,111,109,32]}:BA0)={data:=#[32,125]}++{data:=#[32,102,114,111,109,32]}:=zcz #[32,125] #[32,102,114,111,109,32];have A:({data:=#[32,125,59,10]}:BA0)={data:=#[32,125]}++{data:=#[59,10]}:=zcz #[32,125] #[59,10];unfold zb5 zcN zcq;rw[A,q,w,H,h]
 split
 ·simp only[aA0]
 ·split<;>simp only[aA0]
theorem zvk:(({data:=#[101,120,112,111,114,116,32]}:BA0)).size<=(zb5 C).size:=by
 rw[zeX,zcN]
 split
 ·simp only[sA];omega
 ·split<;>(simp only[sA];omega)
theorem zvl (h:PP W s V) (L:(s++zb5 C).size<=140737488355328) (h1:C.spec.size<=1099511627776):
  Calls prog 221 #[.pointer (some ⟨W.gp,0,none⟩),epV C] V (PO W (s++zb5 C) V):=by
 have HP:=zc h;have HL:=zc L;clear h L;have HZ:Hid (s.size+(zb5 C).size<=140737488355328/\(({data:=#[101,120,112,111,114,116,32]}:BA0)).size<=(zb5 C).size):=⟨by have:=HL.o;rw[sA] at this;exact this,zvk C⟩;unfold epV;go_enter func221,ntmps221;go_upto_region 1 with fail;have HW:Hid (Bw V (V.alloc (.cells #[.int .i64 C.kind,.string C.name,.string C.loc,.string C.spec] 103))):=bA0;refine zp (R:=fun p=>p.heap[V.heap.size]? =some (.cells #[.int .i64 C.kind,.string C.name,.string C.loc,.string C.spec] 103 (0,0))/\PP W s p/\Below W.B V p/\KeepB W.b V p) ⟨hN0 V _,HP.o.later HW.o,HW.o.mono HP.o.1.2,KeepB.of_below HW.o⟩ ?_;obtain⟨gx,ad⟩: ∃gx,gx=V.heap.size:=⟨_,rfl⟩;have ah:gx≠W.b:=by
  rw[ad];obtain⟨aq,hc⟩:=zcy HP.o.1.1;have:=(aLt hc);omega
 rw[<-ad];rintro p ⟨hx,hp,hb,hk⟩;clear ad HW;have X:=zc hx;have ac:=zc hp;have ai:=zc hb;have aj:=zc hk;clear hx hp hb hk;obtain⟨x0,x1,x2,x3,xf⟩:=zbW X.o;obtain⟨p0,p1,p2,Z,D,U,pf⟩:=zD ac.o.2.2.1;go_wp2_with fail;refine (zca W s [{data:=#[101,120,112,111,114,116,32]}] p ac.o (by have:=HZ.o;simp only[zA,foldl_cons,foldl_nil,sA] at this ⊢;omega) (by simp)).mono ?_;rintro e w1 ⟨rfl,ag,al,aa⟩;have M:=zc ag;have ao:=zc (ai.o.trans al);have am:=zc (aj.o.trans aa);have X1:=zc ((aa _ _ _ _ X.o ah (by decide)).trans X.o);clear ag al aa p0 p1 p2 Z D U pf x0 x1 x2 x3 xf ac ai aj X;obtain⟨x0,x1,x2,x3,xf⟩:=zbW X1.o;obtain⟨p0,p1,p2,Z,D,U,pf⟩:=zD M.o.2.2.1;have af:=(aLt M.o.2.2.1);have Y:=(aLt X1.o);have L:=HL.o;go_upto_block 0 with fail
 go_cut [] from 12 to 45 (fun wx=>PP W (s++zcN C) wx/\Below W.B w1 wx/\KeepB W.b w1 wx)
 case first=>
  cases e1:(C.kind==3) with
  |true=>
   have O:Hid (zcN C=({data:=#[101,120,112,111,114,116,32]}:BA0)++({data:=#[42,32,102,114,111,109,32]}:BA0)++za7 C.spec):=zvh e1;go_wp2_with fail;go_region_with (first|(go_at_call 219;refine (zhH C.spec _ h1).mono ?_;rintro e w' ⟨rfl,rfl⟩)|(go_at_call 193;refine (zcL W _ [{data:=#[42,32,102,114,111,109,32]},za7 C.spec] w1 M.o (by have:=HL.o;rw[zeX,O.o] at this;simp only[zA,foldl_cons,foldl_nil,sA] at this ⊢;omega) (by simp)).mono ?_;rintro e w2 ⟨rfl,q,I,A⟩))
   all_goals (go_wp2_with fail;go_meet;exact⟨by rw[O.o];simp only[zA,foldl_cons,foldl_nil,<-aA0] at q ⊢;exact q,I,A⟩)
  |false=>
   cases e2:(C.kind==2) with
   |true=>
    have O:Hid (zcN C=({data:=#[101,120,112,111,114,116,32]}:BA0)++zcq C.loc C.name++({data:=#[32,102,114,111,109,32]}:BA0)++za7 C.spec):=zvi e1 e2;go_wp2_with fail;refine (zjq W _ C.loc C.name w1 M.o (by have:=HL.o;rw[zeX,O.o] at this;simp only[zA,foldl_cons,foldl_nil,sA] at this ⊢;omega)).mono ?_;rintro e w3 ⟨rfl,H,N,J⟩;have K:=zc H;have X3:=zc ((J _ _ _ _ X1.o ah (by decide)).trans X1.o);have ab:=zc N;have ae:=zc J;clear H N J p0 p1 p2 Z D U pf x0 x1 x2 x3 xf af Y;obtain⟨p0,p1,p2,Z,D,U,pf⟩:=zD K.o.2.2.1;obtain⟨x0,x1,x2,x3,xf⟩:=zbW X3.o;have af:=(aLt K.o.2.2.1);have Y:=(aLt X3.o);go_wp2_with fail;go_region_with (first|(go_at_call 219;refine (zhH C.spec _ h1).mono ?_;rintro e w' ⟨rfl,rfl⟩)|(go_at_call 193;refine (zcL W _ [{data:=#[32,102,114,111,109,32]},za7 C.spec] w3 K.o (by have:=HL.o;rw[zeX,O.o] at this;simp only[zA,foldl_cons,foldl_nil,sA] at this ⊢;omega) (by simp)).mono ?_;rintro e w2 ⟨rfl,q,I,A⟩))
    all_goals (go_wp2_with fail;go_meet;exact⟨by rw[O.o];simp only[zA,foldl_cons,foldl_nil,<-aA0] at q ⊢;exact q,ab.o.trans I,ae.o.trans A⟩)
   |false=>
    have O:Hid (zcN C=({data:=#[101,120,112,111,114,116,32]}:BA0)++zcq C.loc C.name):=zvj e1 e2;go_wp2_with fail;refine (zjq W _ C.loc C.name w1 M.o (by have:=HL.o;rw[zeX,O.o] at this;simp only[zA,foldl_cons,foldl_nil,sA] at this ⊢;omega)).mono ?_;rintro e w2 ⟨rfl,q,I,A⟩;go_wp2_with fail;go_meet;exact⟨by rw[O.o];simp only[zA,foldl_cons,foldl_nil,<-aA0] at q ⊢;exact q,I,A⟩
 case rest=>
 obtain⟨q,I,A⟩:=hcut
 rename_i w2
 have ak:=zc q;have ap:=zc (ao.o.trans I);have an:=zc (am.o.trans A);clear q I A p0 p1 p2 Z D U pf x0 x1 x2 x3 xf af Y;obtain⟨p0,p1,p2,Z,D,U,pf⟩:=zD ak.o.2.2.1;go_wp2_with fail;refine (zca W _ [{data:=#[59]},{data:=#[10]}] _ ak.o (by have:=HL.o;rw[zeX] at this;simp only[zA,foldl_cons,foldl_nil,sA] at this ⊢;omega) (by simp)).mono ?_;rintro e w3 ⟨rfl,H,N,J⟩;have K:=zc H;have ab:=zc (ap.o.trans N);have ae:=zc (an.o.trans J);clear H N J p0 p1 p2 Z D U pf;go_wp2;go_end0;exact⟨rfl,(by have H:=K.o;rw[zeX];simp only[zA,foldl_cons,foldl_nil,<-aA0] at H ⊢;exact H),ab.o,ae.o⟩
theorem zjr (h:PP W s V) (L:g<W.m.ex.length):
  Calls prog 260 #[.pointer (some ⟨W.gp,0,none⟩),.int .i64 (g:Int)] V fun e w'=>e= .returned (.int .i64 (W.m.ex.getD g zj).kind)/\w'=V:=by
 obtain⟨p0,Z,U,N,J,O,Y⟩:=zD h.2.2.1;obtain⟨p,A,M,I,x1,x2,X,D,x5⟩:=h.2.1.expr L;rw[A] at J;have K:(g:Int)<(W.m.ex.length:Int):=by omega
 obtain⟨H,q⟩: ∃H,(W.m.ex.getD g zj).kind=H:=⟨_,rfl⟩;rw[q] at I;rw[q];clear h A q;go_enter func260,ntmps260;go_wp2;go_ret;exact⟨rfl,rfl⟩
def zcO (c:PC) (i:Nat):Prop:=∀(t:BA0) (w:World),PP c t w->(t++prX c.m.ex i).size<=140737488355328->Calls prog 241 #[.pointer (some ⟨c.gp,0,none⟩),.int .i64 (i:Int)] w (PO c (t++prX c.m.ex i) w)
theorem zhI (o:Bool) (w:World) (ok:zcO W g) (h:PP W s w) (q:(s++zP o (prX W.m.ex g)).size<=140737488355328):
  Calls prog 259 #[.pointer (some ⟨W.gp,0,none⟩),.int .i64 (g:Int),.bool o] w (PO W (s++zP o (prX W.m.ex g)) w):=by
 have OK:=zc ok;have HP:=zc h;clear ok h;obtain⟨p0,p1,p2,p3,p4,p5,pf⟩:=zD HP.o.2.2.1;cases o with
 |false=>
  have U:Hid ((s++prX W.m.ex g).size<=140737488355328):=q;clear q;go_enter func259,ntmps259;go_wp2_with fail;refine (OK.o s w HP.o U.o).mono ?_;rintro e w1 ⟨rfl,A,J,H⟩;have L:=zc A;have M:=zc J;have K:=zc H;clear A J H p0 p1 p2 p3 p4 p5 pf;go_wp2;refine bodyPost_ret (results_none rfl _ _ _) rfl ?_;exact⟨rfl,L.o,M.o,K.o⟩
 |true=>
  have U:Hid ((s++(zu++prX W.m.ex g++zaF)).size<=140737488355328):=q;clear q;go_enter func259,ntmps259;go_wp2_with fail;refine (zca W s [zu] w HP.o (by have:=U.o;simp only[zA,foldl_cons,foldl_nil,sA] at this ⊢;omega) (by simp)).mono ?_;rintro e w1 ⟨rfl,A,J,H⟩;have L:=zc A;have M:=zc J;have K:=zc H;clear A J H p0 p1 p2 p3 p4 p5 pf;go_wp2_with fail;refine (OK.o _ w1 L.o (by have:=U.o;simp only[zA,foldl_cons,foldl_nil,sA] at this ⊢;omega)).mono ?_;rintro e w2 ⟨rfl,O,V,N⟩;have Y:=zc O;have ad:=zc (M.o.trans V);have ac:=zc (K.o.trans N);clear O V N;obtain⟨p0,p1,p2,p3,p4,p5,pf⟩:=zD Y.o.2.2.1;go_wp2_with fail;refine (zca W _ [zaF] w2 Y.o (by have:=U.o;simp only[zA,foldl_cons,foldl_nil,sA] at this ⊢;omega) (by simp)).mono ?_;rintro e w3 ⟨rfl,I,Z,X⟩;have ab:=zc I;have aa:=zc (ad.o.trans Z);have ae:=zc (ac.o.trans X);clear I Z X p0 p1 p2 p3 p4 p5 pf;go_wp2;go_end0;exact⟨rfl,(by have I:=ab.o;unfold zP;rw[if_pos rfl];simp only[zA,foldl_cons,foldl_nil,<-aA0] at I ⊢;exact I),aa.o,ae.o⟩
def zbf (k:Int) (n:BA0):BA0:=
 if n.toList==[42,100,101,102,97,117,108,116] then ({data:=#[101,120,112,111,114,116,32]}:BA0)++({data:=#[100,101,102,97,117,108,116]}:BA0)++({data:=#[32]}:BA0)
 else if k==1 then ({data:=#[108,101,116,32]}:BA0)++n++({data:=#[32,61,32]}:BA0)
 else if k==2 then ({data:=#[102,117,110,99,116,105,111,110,32]}:BA0)++n++({data:=#[40,41,32,123,32,114,101,116,117,114,110,32]}:BA0)
 else if k==3 then n++({data:=#[32,61,32]}:BA0)
 else if k==4 then ({data:=#[112,114,105,110,116,40]}:BA0)
 else if k==5 then ({data:=#[116,104,114,111,119,32]}:BA0)
 else ({data:=#[102,97,105,108,32]}:BA0)
def zaZ (k:Int) (n:BA0):BA0:=
 if n.toList==[42,100,101,102,97,117,108,116] then ({data:=#[59]}:BA0) else if k==2 then ({data:=#[59,32,125]}:BA0) else if k==4 then ({data:=#[41,59]}:BA0) else ({data:=#[59]}:BA0)
theorem zmL (e:(x.toList==[42,100,101,102,97,117,108,116])=true):zbf m x=({data:=#[101,120,112,111,114,116,32]}:BA0)++({data:=#[100,101,102,97,117,108,116]}:BA0)++({data:=#[32]}:BA0):=by rw[zbf,e];rfl
theorem zmM (e:(x.toList==[42,100,101,102,97,117,108,116])=true):zaZ m x=({data:=#[59]}:BA0):=by rw[zaZ,e];rfl
theorem zmN (e:(x.toList==[42,100,101,102,97,117,108,116])=false) (h:(m==1)=true):zbf m x=({data:=#[108,101,116,32]}:BA0)++x++({data:=#[32,61,32]}:BA0):=by rw[zbf,e,h];rfl
theorem zmO (e:(x.toList==[42,100,101,102,97,117,108,116])=false) (h:(m==1)=true):zaZ m x=({data:=#[59]}:BA0):=by have q:=eq_of_beq h;subst q;rw[zaZ,e];rfl
theorem zmP (e:(x.toList==[42,100,101,102,97,117,108,116])=false) (q:(m==1)=false) (h:(m==2)=true):zbf m x=({data:=#[102,117,110,99,116,105,111,110,32]}:BA0)++x++({data:=#[40,41,32,123,32,114,101,116,117,114,110,32]}:BA0):=by rw[zbf,e,q,h];rfl
theorem zmQ (e:(x.toList==[42,100,101,102,97,117,108,116])=false) (h:(m==2)=true):zaZ m x=({data:=#[59,32,125]}:BA0):=by rw[zaZ,e,h];rfl
theorem zmR (e:(x.toList==[42,100,101,102,97,117,108,116])=false) (w:(m==1)=false) (q:(m==2)=false) (h:(m==3)=true):zbf m x=x++({data:=#[32,61,32]}:BA0):=by rw[zbf,e,w,q,h];rfl
theorem zmS (e:(x.toList==[42,100,101,102,97,117,108,116])=false) (h:(m==3)=true):zaZ m x=({data:=#[59]}:BA0):=by have q:=eq_of_beq h;subst q;rw[zaZ,e];rfl
theorem zmT (e:(x.toList==[42,100,101,102,97,117,108,116])=false) (A:(m==1)=false) (q:(m==2)=false) (h:(m==3)=false) (w:(m==4)=true):zbf m x=({data:=#[112,114,105,110,116,40]}:BA0):=by rw[zbf,e,A,q,h,w];rfl
theorem zmU (e:(x.toList==[42,100,101,102,97,117,108,116])=false) (h:(m==2)=false) (q:(m==4)=true):zaZ m x=({data:=#[41,59]}:BA0):=by rw[zaZ,e,h,q];rfl
theorem zmV (e:(x.toList==[42,100,101,102,97,117,108,116])=false) (q:(m==1)=false) (H:(m==2)=false) (w:(m==3)=false) (A:(m==4)=false) (h:(m==5)=true):zbf m x=({data:=#[116,104,114,111,119,32]}:BA0):=by rw[zbf,e,q,H,w,A,h];rfl
theorem zmW (e:(x.toList==[42,100,101,102,97,117,108,116])=false) (h:(m==2)=false) (q:(m==4)=false):zaZ m x=({data:=#[59]}:BA0):=by rw[zaZ,e,h,q];rfl
theorem zmX (e:(x.toList==[42,100,101,102,97,117,108,116])=false) (q:(m==1)=false) (H:(m==2)=false) (w:(m==3)=false) (A:(m==4)=false) (h:(m==5)=false):zbf m x=({data:=#[102,97,105,108,32]}:BA0):=by rw[zbf,e,q,H,w,A,h];rfl
theorem zmY (e:(x.toList==[42,100,101,102,97,117,108,116])=false) (h:(m==2)=false) (q:(m==4)=false):zaZ m x=({data:=#[59]}:BA0):=by rw[zaZ,e,h,q];rfl
theorem zmZ:zdE z t A=zbf z t++A++zaZ z t++({data:=#[10]}:BA0):=by
 have L:({data:=#[59,10]}:BA0)=({data:=#[59]}:BA0)++({data:=#[10]}:BA0):=zcz #[59] #[10];have K:({data:=#[59,32,125,10]}:BA0)=({data:=#[59,32,125]}:BA0)++({data:=#[10]}:BA0):=zcz #[59,32,125] #[10];have N:({data:=#[41,59,10]}:BA0)=({data:=#[41,59]}:BA0)++({data:=#[10]}:BA0):=zcz #[41,59] #[10];have J:({data:=#[101,120,112,111,114,116,32,100,101,102,97,117,108,116,32]}:BA0)=({data:=#[101,120,112,111,114,116,32,100,101,102,97,117,108,116]}:BA0)++({data:=#[32]}:BA0):=zcz #[101,120,112,111,114,116,32,100,101,102,97,117,108,116] #[32];have M:({data:=#[101,120,112,111,114,116,32,100,101,102,97,117,108,116]}:BA0)=({data:=#[101,120,112,111,114,116,32]}:BA0)++({data:=#[100,101,102,97,117,108,116]}:BA0):=zcz #[101,120,112,111,114,116,32] #[100,101,102,97,117,108,116];unfold zdE zaE;rw[L,K,N,J,M];cases h:(t.toList==[42,100,101,102,97,117,108,116]) with
 |true=>rw[zmL h,zmM h];simp only[↓reduceIte,aA0]
 |false=>
  cases w:(z==1) with
  |true=>rw[zmN h w,zmO h w];simp only[↓reduceIte,fE,aA0]
  |false=>
   cases q:(z==2) with
   |true=>rw[zmP h w q,zmQ h q];simp only[↓reduceIte,fE,aA0]
   |false=>
    cases H:(z==3) with
    |true=>rw[zmR h w q H,zmS h H];simp only[↓reduceIte,fE,aA0]
    |false=>
     cases p:(z==4) with
     |true=>rw[zmT h w q H p,zmU h q p];simp only[↓reduceIte,fE,aA0]
     |false=>
      cases I:(z==5) with
      |true=>rw[zmV h w q H p I,zmW h q p];simp only[↓reduceIte,fE,aA0]
      |false=>
       rw[zmX h w q H p I,zmY h q p];simp only[↓reduceIte,fE,aA0]
theorem zvm:(zdE z t A).size=(zbf z t).size+A.size+(zaZ z t).size+1:=by
 rw[zmZ,sA,sA,sA];rfl
theorem zvn (n:BA0) (i:Nat) (w:World) (ok:zcO W i) (h:PP W s w) (O:(s++zdE z n (prX W.m.ex i)).size<=140737488355328):
  Calls prog 222 #[.pointer (some ⟨W.gp,0,none⟩),.agg #[.int .i64 z,.string n,.int .i64 (i:Int)]] w (PO W (s++zdE z n (prX W.m.ex i)) w):=by
 have HP:=zc h;have OK:=zc ok;have X:Hid (s.size+((zbf z n).size+(prX W.m.ex i).size+(zaZ z n).size+1)<=140737488355328):=by show _<=_;rw[sA,zvm] at O;exact O
 clear h O ok;go_enter func222,ntmps222;go_upto_region 1 with fail;have HW:Hid (Bw w (w.alloc (.cells #[.int .i64 z,.string n,.int .i64 (i:Int)] 108))):=bA0;refine zp (R:=fun p=>p.heap[w.heap.size]? =some (.cells #[.int .i64 z,.string n,.int .i64 (i:Int)] 108 (0,0))/\PP W s p/\Below W.B w p/\KeepB W.b w p) ⟨hN0 w _,HP.o.later HW.o,HW.o.mono HP.o.1.2,KeepB.of_below HW.o⟩ ?_;obtain⟨gx,Z⟩: ∃gx,gx=w.heap.size:=⟨_,rfl⟩;have ah:gx≠W.b:=by
  rw[Z];obtain⟨av,hc⟩:=zcy HP.o.1.1;have:=(aLt hc);omega
 rw[<-Z];rintro U ⟨hx,hp,hb,hk⟩;clear Z HW;have X1:=zc hx;have J:=zc hp;have an:=zc hb;have ak:=zc hk;clear hx hp hb hk;obtain⟨x0,x1,x2,xf⟩:=zg X1.o;obtain⟨p0,p1,p2,p3,p4,p5,pf⟩:=zD J.o.2.2.1;have au:=(aLt J.o.2.2.1);have ag:=(aLt X1.o);go_upto_block 0 with fail
 go_cut [4] from 5 to 76 (fun s4 wx=>s4= .string (zaZ z n)/\PP W (s++zbf z n) wx/\Below W.B U wx/\KeepB W.b U wx)
 case first=>
  cases K:(n.toList==[42,100,101,102,97,117,108,116]) with
  |true=>
   have I:Hid (zbf z n=({data:=#[101,120,112,111,114,116,32]}:BA0)++({data:=#[100,101,102,97,117,108,116]}:BA0)++({data:=#[32]}:BA0)):=zmL K;have M:Hid (zaZ z n=({data:=#[59]}:BA0)):=zmM K;have L:Hid ((zA s [{data:=#[101,120,112,111,114,116,32]},{data:=#[100,101,102,97,117,108,116]},{data:=#[32]}]).size<=140737488355328):=by show _<=_;have:=X.o;rw[I.o] at this;simp only[zA,foldl_cons,foldl_nil,sA] at this ⊢;omega
   go_wp2_with fail;refine (zca W s [{data:=#[101,120,112,111,114,116,32]},{data:=#[100,101,102,97,117,108,116]},{data:=#[32]}] U J.o L.o (by simp)).mono ?_;rintro e w2 ⟨rfl,q,H,A⟩;go_wp2_with fail;go_meet;exact⟨by rw[M.o],by rw[I.o];simp only[zA,foldl_cons,foldl_nil,<-aA0] at q ⊢;exact q,H,A⟩
  |false=>
   cases Y:(z==1) with
   |true=>
    have I:Hid (zbf z n=({data:=#[108,101,116,32]}:BA0)++n++({data:=#[32,61,32]}:BA0)):=zmN K Y;have M:Hid (zaZ z n=({data:=#[59]}:BA0)):=zmO K Y;have L:Hid ((zA s [{data:=#[108,101,116,32]},n,{data:=#[32,61,32]}]).size<=140737488355328):=by show _<=_;have:=X.o;rw[I.o] at this;simp only[zA,foldl_cons,foldl_nil,sA] at this ⊢;omega
    go_wp2_with fail;go_region_with (go_at_call 193;refine (zcL W s [{data:=#[108,101,116,32]},n,{data:=#[32,61,32]}] U J.o L.o (by simp)).mono ?_;rintro e w2 ⟨rfl,q,H,A⟩)
    all_goals (go_wp2_with fail;go_meet;exact⟨by rw[M.o],by rw[I.o];simp only[zA,foldl_cons,foldl_nil,<-aA0] at q ⊢;exact q,H,A⟩)
   |false=>
    cases V:(z==2) with
    |true=>
     have I:Hid (zbf z n=({data:=#[102,117,110,99,116,105,111,110,32]}:BA0)++n++({data:=#[40,41,32,123,32,114,101,116,117,114,110,32]}:BA0)):=zmP K Y V;have M:Hid (zaZ z n=({data:=#[59,32,125]}:BA0)):=zmQ K V;have L:Hid ((zA s [{data:=#[102,117,110,99,116,105,111,110,32]},n,{data:=#[40,41,32,123,32,114,101,116,117,114,110,32]}]).size<=140737488355328):=by show _<=_;have:=X.o;rw[I.o] at this;simp only[zA,foldl_cons,foldl_nil,sA] at this ⊢;omega
     go_wp2_with fail;go_region_with (go_at_call 193;refine (zcL W s [{data:=#[102,117,110,99,116,105,111,110,32]},n,{data:=#[40,41,32,123,32,114,101,116,117,114,110,32]}] U J.o L.o (by simp)).mono ?_;rintro e w2 ⟨rfl,q,H,A⟩)
     all_goals (go_wp2_with fail;go_meet;exact⟨by rw[M.o],by rw[I.o];simp only[zA,foldl_cons,foldl_nil,<-aA0] at q ⊢;exact q,H,A⟩)
    |false=>
     cases h3:(z==3) with
     |true=>
      have I:Hid (zbf z n=n++({data:=#[32,61,32]}:BA0)):=zmR K Y V h3;have M:Hid (zaZ z n=({data:=#[59]}:BA0)):=zmS K h3;have L:Hid ((zA s [n,{data:=#[32,61,32]}]).size<=140737488355328):=by show _<=_;have:=X.o;rw[I.o] at this;simp only[zA,foldl_cons,foldl_nil,sA] at this ⊢;omega
      go_wp2_with fail;go_region_with (go_at_call 193;refine (zcL W s [n,{data:=#[32,61,32]}] U J.o L.o (by simp)).mono ?_;rintro e w2 ⟨rfl,q,H,A⟩)
      all_goals (go_wp2_with fail;go_meet;exact⟨by rw[M.o],by rw[I.o];simp only[zA,foldl_cons,foldl_nil,<-aA0] at q ⊢;exact q,H,A⟩)
     |false=>
      cases h4:(z==4) with
      |true=>
       have I:Hid (zbf z n=({data:=#[112,114,105,110,116,40]}:BA0)):=zmT K Y V h3 h4;have M:Hid (zaZ z n=({data:=#[41,59]}:BA0)):=zmU K V h4;have L:Hid ((zA s [{data:=#[112,114,105,110,116,40]}]).size<=140737488355328):=by show _<=_;have:=X.o;rw[I.o] at this;simp only[zA,foldl_cons,foldl_nil,sA] at this ⊢;omega
       go_wp2_with fail;refine (zca W s [{data:=#[112,114,105,110,116,40]}] U J.o L.o (by simp)).mono ?_;rintro e w2 ⟨rfl,q,H,A⟩;go_wp2_with fail;go_meet;exact⟨by rw[M.o],by rw[I.o];exact q,H,A⟩
      |false=>
       cases h5:(z==5) with
       |true=>
        have I:Hid (zbf z n=({data:=#[116,104,114,111,119,32]}:BA0)):=zmV K Y V h3 h4 h5;have M:Hid (zaZ z n=({data:=#[59]}:BA0)):=zmW K V h4;have L:Hid ((zA s [{data:=#[116,104,114,111,119,32]}]).size<=140737488355328):=by show _<=_;have:=X.o;rw[I.o] at this;simp only[zA,foldl_cons,foldl_nil,sA] at this ⊢;omega
        go_wp2_with fail;refine (zca W s [{data:=#[116,104,114,111,119,32]}] U J.o L.o (by simp)).mono ?_;rintro e w2 ⟨rfl,q,H,A⟩;go_wp2_with fail;go_meet;exact⟨by rw[M.o],by rw[I.o];exact q,H,A⟩
       |false=>
        have I:Hid (zbf z n=({data:=#[102,97,105,108,32]}:BA0)):=zmX K Y V h3 h4 h5;have M:Hid (zaZ z n=({data:=#[59]}:BA0)):=zmY K V h4;have L:Hid ((zA s [{data:=#[102,97,105,108,32]}]).size<=140737488355328):=by show _<=_;have:=X.o;rw[I.o] at this;simp only[zA,foldl_cons,foldl_nil,sA] at this ⊢;omega
        go_wp2_with fail;refine (zca W s [{data:=#[102,97,105,108,32]}] U J.o L.o (by simp)).mono ?_;rintro e w2 ⟨rfl,q,H,A⟩;go_wp2_with fail;go_meet;exact⟨by rw[M.o],by rw[I.o];exact q,H,A⟩
 case rest=>
 rename_i s4 w2
 obtain⟨rfl,q,H,A⟩:=hcut;have aq:=zc q;have ao:=zc (an.o.trans H);have am:=zc (ak.o.trans A);have X2:=zc ((A _ _ _ _ X1.o ah (by decide)).trans X1.o);clear q H A p0 p1 p2 p3 p4 p5 pf x0 x1 x2 xf au ag;obtain⟨x0,x1,x2,xf⟩:=zg X2.o;go_wp2_with fail;refine (OK.o _ _ aq.o (by have:=X.o;simp only[sA] at this ⊢;omega)).mono ?_;rintro e w3 ⟨rfl,N,af,ad⟩;have aa:=zc N;have ai:=zc (ao.o.trans af);have ar:=zc (am.o.trans ad);clear N af ad x0 x1 x2 xf;obtain⟨p0,p1,p2,p3,p4,p5,pf⟩:=zD aa.o.2.2.1;go_wp2_with fail;refine (zca W _ [zaZ z n,{data:=#[10]}] _ aa.o (by have:=X.o;have D:(({data:=#[10]}:BA0)).size=1:=rfl;simp only[zA,foldl_cons,foldl_nil,sA,D] at this ⊢;omega) (by simp)).mono ?_;rintro e w4 ⟨rfl,ac,ae,ab⟩;have al:=zc ac;have ap:=zc (ai.o.trans ae);have aj:=zc (ar.o.trans ab);clear ac ae ab p0 p1 p2 p3 p4 p5 pf;go_wp2;go_end0;exact⟨rfl,(by have N:=al.o;rw[zmZ];simp only[zA,foldl_cons,foldl_nil,<-aA0] at N ⊢;exact N),ap.o,aj.o⟩
theorem zhJ {α:Type} {l:List α} {j:Nat} (h:j<l.length): ∃x,l[j]? =some x:=⟨_,gE h⟩
theorem zvo (l:List BA0):l.map Value.string=l.flatMap (fun x=>[Value.string x]):=by
 induction l with
 |nil=>rfl
 |cons x l h=>rw[List.map_cons,List.flatMap_cons,h];rfl
theorem zvp:s++sNone=s:=by
 cases s with
 |mk d=>
  show ByteArray.append _ _=_;simp[ByteArray.append]
theorem zna:(acc epF w.ep (acc zak w.im (acc rqT w.rq sNone))).size<=(zbX w).size:=zeK _ _ _
theorem znb:(acc zak w.im (acc rqT w.rq sNone)).size<=(zbX w).size:=le_trans (zeK _ _ _) (zna w)
theorem zvq:(acc rqT w.rq sNone).size<=(zbX w).size:=le_trans (zeK _ _ _) (znb w)
theorem znc:rqT s=({data:=#[105,109,112,111,114,116,32]}:BA0)++za7 s++({data:=#[59]}:BA0)++({data:=#[10]}:BA0):=by
 have h:({data:=#[59,10]}:BA0)={data:=#[59]}++{data:=#[10]}:=zcz #[59] #[10];rw[rqT,h];simp only[aA0]
theorem znd (h:(k.loc.toList==[42,100,101,102,97,117,108,116])=false):epF k=zb5 k:=by rw[epF,h];rfl
theorem zvr (h:(k.loc.toList==[42,100,101,102,97,117,108,116])=true):epF k=sNone:=by rw[epF,h];rfl
theorem zvs (ok: ∀i,i<W.m.ex.length->zcO W i) (hs: ∀s∈W.m.st,0<=s.expr/\s.expr<(W.m.ex.length:Int)) (hm:Small W.m) (h:PP W sNone V) (ag:(zbX W.m).size<=140737488355328):
  Calls prog 194 #[.pointer (some ⟨W.gp,0,none⟩)] V (PO W (zbX W.m) V):=by
 have ai:=zc h;have SM:=zc hm;have OK:=zc ok;have HS:=zc hs;have HL:=zc ag;obtain⟨f1,f2,f3,f4,f5⟩:=hm.few;clear h hm ok hs ag;obtain⟨p0,p1,p2,p3,p4,p5,pf⟩:=zD ai.o.2.2.1;go_enter func194,ntmps194;go_wp2;go_loopg [16] W.m.rq.length (fun k i wr=>∃j:Nat,i= .int .i64 j/\j+k=W.m.rq.length/\PP W (acc rqT (W.m.rq.take j) sNone) wr/\Below W.B V wr/\KeepB W.b V wr)
 case atStart=>exact⟨0,rfl,by omega,ai.o,Below.refl _ _,fun _ _ _ _ _ _ _=>rfl⟩
 case round=>
  obtain⟨j,rfl,hj,D,O,U⟩:=hrel;have A:=zc D;have K:=zc O;have J:=zc U;clear D O U p0 p1 p2 p3 p4 p5 pf;obtain⟨p0,p1,p2,p3,p4,p5,pf⟩:=zD A.o.2.2.1;by_cases ab:j<W.m.rq.length
  ·have M:(j:Int)<(W.m.rq.length:Int):=by omega
   obtain⟨x,q⟩:=zhJ ab;have I:=mG q;have HZ:Hid ((acc rqT (W.m.rq.take j) sNone++rqT x).size<=140737488355328):=by show _<=_;rw[<-zcJ rqT q];exact le_trans (zer rqT W.m.rq (j+1) sNone) (le_trans (zvq W.m) HL.o)
   have HX:=zc q;obtain⟨N,L⟩: ∃N,N=j+1:=⟨_,rfl⟩;have ej:(j:Int)+1=(N:Int):=by omega
   have HJ:=zc L;clear L;obtain⟨g,hg,k0⟩: ∃g,W.S.rq.a=some ⟨g,0,none⟩/\wr.cell? ⟨g,j,none⟩=some (.string x):=by
    obtain⟨g,hg,hc⟩:=OwnR.elem (f:=fun x=>[Value.string x]) (m:=1) (fun _=>rfl) (show OwnR wr W.base 9 1 W.S.rq W.m.rq.length (W.m.rq.flatMap fun x=>[Value.string x]) by rw[<-zvo];exact A.o.2.1.rq) q;have k0:=hc 0 (by omega);simp only[Nat.mul_one,add_zero,getElem?_cons_zero] at k0;exact⟨g,hg,k0⟩
   have ak:=SM.o.rq x I;have HG:Hid (Value.slice W.S.rq.a W.m.rq.length W.S.rq.cap=Value.slice (some ⟨g,0,none⟩) W.m.rq.length W.S.rq.cap):=by show _=_;rw[hg]
   clear hg q I p0 p1 p2 p3 p4 p5 pf;rw[HG.o];obtain⟨p0,p1,p2,p3,p4,p5,pf⟩:=zD A.o.2.2.1;have am:=(aLt A.o.2.2.1);go_wp2_with fail;go_region_with (first|(go_at_call 219;refine (zhH x _ (by omega)).mono ?_;rintro e w' ⟨rfl,rfl⟩)|(go_at_call 193;refine (zcL W _ [{data:=#[105,109,112,111,114,116,32]},za7 x,{data:=#[59]},{data:=#[10]}] wr A.o (by have:=HZ.o;rw[znc] at this;simp only[zA,foldl_cons,foldl_nil,sA] at this ⊢;omega) (by simp)).mono ?_;rintro e w3 ⟨rfl,ac,aj,al⟩))
   all_goals
    have an:=zc ac;have ao:=zc (K.o.trans aj);have aq:=zc (J.o.trans al);clear ac aj al p0 p1 p2 p3 p4 p5 pf am k0;go_wp2;rw[<-HG.o];go_roundg (gk-1)
    case rel=>exact⟨N,rfl,by have:=HJ.o;omega,by rw[HJ.o,zcJ rqT HX.o];exact (by have ac:=an.o;rw[znc];simp only[zA,foldl_cons,foldl_nil,<-aA0] at ac ⊢;exact ac),ao.o,aq.o⟩
    case measure=>omega
  ·have M: ¬(j:Int)<(W.m.rq.length:Int):=by omega
   obtain rfl:j=W.m.rq.length:=by omega
   have HN:Hid (PP W (acc zak (W.m.im.take 0) (acc rqT W.m.rq sNone)) wr):=by have:=A.o;rw[take_length] at this;exact this
   go_wp2;go_loopg [35] W.m.im.length (fun k i wr=>∃j:Nat,i= .int .i64 j/\j+k=W.m.im.length/\PP W (acc zak (W.m.im.take j) (acc rqT W.m.rq sNone)) wr/\Below W.B V wr/\KeepB W.b V wr)
   case atStart=>exact⟨0,rfl,by omega,HN.o,K.o,J.o⟩
   case round=>
    obtain⟨j,rfl,hj,D,O,U⟩:=hrel;clear A K J HN;have A:=zc D;have K:=zc O;have J:=zc U;clear D O U p0 p1 p2 p3 p4 p5 pf;obtain⟨p0,p1,p2,p3,p4,p5,pf⟩:=zD A.o.2.2.1;by_cases ab:j<W.m.im.length
    ·have M:(j:Int)<(W.m.im.length:Int):=by omega
     obtain⟨x,q⟩:=zhJ ab;have I:=mG q;have HZ:Hid ((acc zak (W.m.im.take j) (acc rqT W.m.rq sNone)++zak x).size<=140737488355328):=by show _<=_;rw[<-zcJ zak q];exact le_trans (zer zak W.m.im (j+1) (acc rqT W.m.rq sNone)) (le_trans (znb W.m) HL.o)
     have HX:=zc q;obtain⟨N,L⟩: ∃N,N=j+1:=⟨_,rfl⟩;have ej:(j:Int)+1=(N:Int):=by omega
     have HJ:=zc L;clear L;obtain⟨g,hg,H⟩:=OwnR.elem (f:=imL) (m:=3) (fun _=>rfl) A.o.2.1.im q;have k0:=H 0 (by omega);have k1:=H 1 (by omega);have k2:=H 2 (by omega);simp only[imL,add_zero,getElem?_cons_zero,List.getElem?_cons_succ] at k0 k1 k2;clear H;have ak:=(SM.o.im x I).1;have HG:Hid (Value.slice W.S.im.a W.m.im.length W.S.im.cap=Value.slice (some ⟨g,0,none⟩) W.m.im.length W.S.im.cap):=by show _=_;rw[hg]
     clear hg q I p0 p1 p2 p3 p4 p5 pf;rw[HG.o];go_upto_region 8 with fail;have HW:Hid (Bw wr (wr.alloc (.cells #[.string x.spec,.string x.first,.string x.loc] 101))):=bA0;refine zp (R:=fun p=>p.heap[wr.heap.size]? =some (.cells #[.string x.spec,.string x.first,.string x.loc] 101 (0,0))/\PP W (acc zak (W.m.im.take j) (acc rqT W.m.rq sNone)) p/\Below W.B V p/\KeepB W.b V p) ⟨hN0 wr _,A.o.later HW.o,K.o.trans (HW.o.mono A.o.1.2),J.o.trans (KeepB.of_below HW.o)⟩ ?_;obtain⟨gx,X⟩: ∃gx,gx=wr.heap.size:=⟨_,rfl⟩;rw[<-X];clear k0 k1 k2 HW;rintro p ⟨xb,D,O,U⟩;clear X A K J;have XB:=zc xb;have A:=zc D;have K:=zc O;have J:=zc U;clear xb D O U;obtain⟨x0,x1,x2,xf⟩:=zg XB.o;go_wp2_with fail;refine (zvg W _ x p A.o HZ.o (by omega)).mono ?_;rintro e W2 ⟨rfl,aa,Z,Y⟩;have ad:=zc aa;have ae:=zc (K.o.trans Z);have af:=zc (J.o.trans Y);clear aa Z Y x0 x1 x2 xf;go_wp2;rw[<-HG.o];go_roundg (gk-1)
     case rel=>exact⟨N,rfl,by have:=HJ.o;omega,by rw[HJ.o,zcJ zak HX.o];exact ad.o,ae.o,af.o⟩
     case measure=>omega
    ·have M: ¬(j:Int)<(W.m.im.length:Int):=by omega
     obtain rfl:j=W.m.im.length:=by omega
     have HN:Hid (PP W (acc epF (W.m.ep.take 0) (acc zak W.m.im (acc rqT W.m.rq sNone))) wr):=by have:=A.o;rw[take_length] at this;exact this
     go_wp2;go_loopg [49] W.m.ep.length (fun k i wr=>∃j:Nat,i= .int .i64 j/\j+k=W.m.ep.length/\PP W (acc epF (W.m.ep.take j) (acc zak W.m.im (acc rqT W.m.rq sNone))) wr/\Below W.B V wr/\KeepB W.b V wr)
     case atStart=>exact⟨0,rfl,by omega,HN.o,K.o,J.o⟩
     case round=>
      obtain⟨j,rfl,hj,D,O,U⟩:=hrel;clear A K J HN;have A:=zc D;have K:=zc O;have J:=zc U;clear D O U p0 p1 p2 p3 p4 p5 pf;obtain⟨p0,p1,p2,p3,p4,p5,pf⟩:=zD A.o.2.2.1;by_cases ab:j<W.m.ep.length
      ·have M:(j:Int)<(W.m.ep.length:Int):=by omega
       obtain⟨x,q⟩:=zhJ ab;have I:=mG q;have HZ:Hid ((acc epF (W.m.ep.take j) (acc zak W.m.im (acc rqT W.m.rq sNone))++epF x).size<=140737488355328):=by show _<=_;rw[<-zcJ epF q];exact le_trans (zer epF W.m.ep (j+1) (acc zak W.m.im (acc rqT W.m.rq sNone))) (le_trans (zna W.m) HL.o)
       have HX:=zc q;obtain⟨N,L⟩: ∃N,N=j+1:=⟨_,rfl⟩;have ej:(j:Int)+1=(N:Int):=by omega
       have HJ:=zc L;clear L;obtain⟨g,hg,H⟩:=OwnR.elem (f:=epL) (m:=4) (fun _=>rfl) A.o.2.1.ep q;have k0:=H 0 (by omega);have k1:=H 1 (by omega);have k2:=H 2 (by omega);have k3:=H 3 (by omega);simp only[epL,add_zero,getElem?_cons_zero,List.getElem?_cons_succ] at k0 k1 k2 k3;clear H;have ak:=(SM.o.ep x I).1;have HG:Hid (Value.slice W.S.ep.a W.m.ep.length W.S.ep.cap=Value.slice (some ⟨g,0,none⟩) W.m.ep.length W.S.ep.cap):=by show _=_;rw[hg]
       clear hg q I p0 p1 p2 p3 p4 p5 pf;rw[HG.o];go_upto_region 13 with fail;have HW:Hid (Bw wr (wr.alloc (.cells #[.int .i64 x.kind,.string x.name,.string x.loc,.string x.spec] 103))):=bA0;refine zp (R:=fun p=>p.heap[wr.heap.size]? =some (.cells #[.int .i64 x.kind,.string x.name,.string x.loc,.string x.spec] 103 (0,0))/\PP W (acc epF (W.m.ep.take j) (acc zak W.m.im (acc rqT W.m.rq sNone))) p/\Below W.B V p/\KeepB W.b V p) ⟨hN0 wr _,A.o.later HW.o,K.o.trans (HW.o.mono A.o.1.2),J.o.trans (KeepB.of_below HW.o)⟩ ?_;obtain⟨gx,X⟩: ∃gx,gx=wr.heap.size:=⟨_,rfl⟩;rw[<-X];clear k0 k1 k2 k3 HW;rintro p ⟨xb,D,O,U⟩;clear X A K J;have XB:=zc xb;have A:=zc D;have K:=zc O;have J:=zc U;clear xb D O U;obtain⟨x0,x1,x2,x3,xf⟩:=zbW XB.o;cases e1:(x.loc.toList==[42,100,101,102,97,117,108,116]) with
       |false=>
        go_wp2_with fail;refine (zvl W _ x p A.o (by have:=HZ.o;rw[znd e1] at this;exact this) (by omega)).mono ?_;rintro e W2 ⟨rfl,aa,Z,Y⟩;have ad:=zc aa;have ae:=zc (K.o.trans Z);have af:=zc (J.o.trans Y);clear aa Z Y x0 x1 x2 x3 xf;go_wp2;rw[<-HG.o];go_roundg (gk-1)
        case rel=>exact⟨N,rfl,by have:=HJ.o;omega,by rw[HJ.o,zcJ epF HX.o];exact (by rw[znd e1];exact ad.o),ae.o,af.o⟩
        case measure=>omega
       |true=>
        go_wp2;rw[<-HG.o];go_roundg (gk-1)
        case rel=>exact⟨N,rfl,by have:=HJ.o;omega,by rw[HJ.o,zcJ epF HX.o];exact (by rw[zvr e1,zvp];exact A.o),K.o,J.o⟩
        case measure=>omega
      ·have M: ¬(j:Int)<(W.m.ep.length:Int):=by omega
       obtain rfl:j=W.m.ep.length:=by omega
       have HN:Hid (PP W (acc (zcY W.m.ex) (W.m.st.take 0) (zcv W.m)) wr):=by have:=A.o;rw[take_length] at this;exact this
       go_wp2;go_loopg [66] W.m.st.length (fun k i wr=>∃j:Nat,i= .int .i64 j/\j+k=W.m.st.length/\PP W (acc (zcY W.m.ex) (W.m.st.take j) (zcv W.m)) wr/\Below W.B V wr/\KeepB W.b V wr)
       case atStart=>exact⟨0,rfl,by omega,HN.o,K.o,J.o⟩
       case round=>
        obtain⟨j,rfl,hj,D,O,U⟩:=hrel;clear A K J HN;have A:=zc D;have K:=zc O;have J:=zc U;clear D O U p0 p1 p2 p3 p4 p5 pf;obtain⟨p0,p1,p2,p3,p4,p5,pf⟩:=zD A.o.2.2.1;by_cases ab:j<W.m.st.length
        ·have M:(j:Int)<(W.m.st.length:Int):=by omega
         obtain⟨x,q⟩:=zhJ ab;have I:=mG q;have HZ:Hid ((acc (zcY W.m.ex) (W.m.st.take j) (zcv W.m)++(zcY W.m.ex) x).size<=140737488355328):=by show _<=_;rw[<-zcJ (zcY W.m.ex) q];exact le_trans (zer (zcY W.m.ex) W.m.st (j+1) (zcv W.m)) HL.o
         have HX:=zc q;obtain⟨N,L⟩: ∃N,N=j+1:=⟨_,rfl⟩;have ej:(j:Int)+1=(N:Int):=by omega
         have HJ:=zc L;clear L;obtain⟨ei,ah⟩: ∃n:Nat,x.expr=(n:Int):=⟨x.expr.toNat,by have:=HS.o x I;omega⟩;have ap:ei<W.m.ex.length:=by have:=HS.o x I;omega
         obtain⟨g,hg,H⟩:=OwnR.elem (f:=smL) (m:=3) (fun _=>rfl) A.o.2.1.st q;have k0:=H 0 (by omega);have k1:=H 1 (by omega);have k2:=H 2 (by omega);simp only[smL,add_zero,getElem?_cons_zero,List.getElem?_cons_succ,ah] at k0 k1 k2;clear H;have HG:Hid (Value.slice W.S.st.a W.m.st.length W.S.st.cap=Value.slice (some ⟨g,0,none⟩) W.m.st.length W.S.st.cap):=by show _=_;rw[hg]
         clear hg q I p0 p1 p2 p3 p4 p5 pf;rw[HG.o];go_upto_region 19 with fail;have HW:Hid (Bw wr (wr.alloc (.cells #[.int .i64 x.kind,.string x.name,.int .i64 (ei:Int)] 108))):=bA0;refine zp (R:=fun p=>p.heap[wr.heap.size]? =some (.cells #[.int .i64 x.kind,.string x.name,.int .i64 (ei:Int)] 108 (0,0))/\PP W (acc (zcY W.m.ex) (W.m.st.take j) (zcv W.m)) p/\Below W.B V p/\KeepB W.b V p) ⟨hN0 wr _,A.o.later HW.o,K.o.trans (HW.o.mono A.o.1.2),J.o.trans (KeepB.of_below HW.o)⟩ ?_;obtain⟨gx,X⟩: ∃gx,gx=wr.heap.size:=⟨_,rfl⟩;rw[<-X];clear k0 k1 k2 HW;rintro p ⟨xb,D,O,U⟩;clear X A K J;have XB:=zc xb;have A:=zc D;have K:=zc O;have J:=zc U;clear xb D O U;obtain⟨x0,x1,x2,xf⟩:=zg XB.o;go_wp2_with fail;refine (zvn W _ x.kind x.name ei p (OK.o ei ap) A.o (by have:=HZ.o;rw[zcY,ah,Int.toNat_natCast] at this;exact this)).mono ?_;rintro e W2 ⟨rfl,aa,Z,Y⟩;have ad:=zc aa;have ae:=zc (K.o.trans Z);have af:=zc (J.o.trans Y);clear aa Z Y x0 x1 x2 xf;go_wp2;rw[<-HG.o];go_roundg (gk-1)
         case rel=>exact⟨N,rfl,by have:=HJ.o;omega,by rw[HJ.o,zcJ (zcY W.m.ex) HX.o];exact (by rw[zcY,ah,Int.toNat_natCast];exact ad.o),ae.o,af.o⟩
         case measure=>omega
        ·have M: ¬(j:Int)<(W.m.st.length:Int):=by omega
         obtain rfl:j=W.m.st.length:=by omega
         have HN:Hid (PP W (zbX W.m) wr):=by have:=A.o;rw[take_length] at this;exact this
         go_wp2;go_end0;exact⟨rfl,HN.o,K.o,J.o⟩
theorem zne (J A sg:BA0) (l r:Nat) (w:World) (ad:zcO W l) (ab:zcO W r) (hr:r<W.m.ex.length) (h:PP W s w) (H:(s++(prX W.m.ex l++sg++zP (zY (W.m.ex.getD r zj).kind) (prX W.m.ex r))).size<=140737488355328):
  Calls prog 258 #[.pointer (some ⟨W.gp,0,none⟩),.agg #[.int .i64 z,.int .i64 u,.string J,.string A,.int .i64 (l:Int),.int .i64 (r:Int)],.string sg] w (PO W (s++(prX W.m.ex l++sg++zP (zY (W.m.ex.getD r zj).kind) (prX W.m.ex r))) w):=by
 have HP:=zc h;obtain⟨kk,U⟩: ∃kk,(W.m.ex.getD r zj).kind=kk:=⟨_,rfl⟩;rw[U] at H ⊢;have KK:=zc U;have HL:Hid (s.size+((prX W.m.ex l).size+sg.size+(zP (zY kk) (prX W.m.ex r)).size)<=140737488355328):=by show _<=_;simp only[sA] at H;exact H
 obtain⟨T,hT⟩: ∃T,T=prX W.m.ex l++sg++zP (zY kk) (prX W.m.ex r):=⟨_,rfl⟩;rw[<-hT];have HT:=zc hT;have af:=zc ad;have ae:=zc ab;have HR:=zc hr;clear h H ad ab hr U hT;go_enter func258,ntmps258;go_upto_region 1 with fail;have HW:Hid (Bw w (w.alloc (.cells #[.int .i64 z,.int .i64 u,.string J,.string A,.int .i64 (l:Int),.int .i64 (r:Int)] 106))):=bA0;refine zp (R:=fun p=>p.heap[w.heap.size]? =some (.cells #[.int .i64 z,.int .i64 u,.string J,.string A,.int .i64 (l:Int),.int .i64 (r:Int)] 106 (0,0))/\PP W s p/\Below W.B w p/\KeepB W.b w p) ⟨hN0 w _,HP.o.later HW.o,HW.o.mono HP.o.1.2,KeepB.of_below HW.o⟩ ?_;obtain⟨gx,Z⟩: ∃gx,gx=w.heap.size:=⟨_,rfl⟩;have aa:gx≠W.b:=by
  rw[Z];obtain⟨am,hc⟩:=zcy HP.o.1.1;have:=(aLt hc);omega
 rw[<-Z];rintro w1 ⟨hx,K,L,I⟩;clear Z HW;have X1:=zc hx;have X:=zc K;have aj:=zc L;have ah:=zc I;clear hx K L I;obtain⟨x0,x1,x2,x3,x4,x5,xf⟩:=zD X1.o;obtain⟨p0,p1,p2,p3,p4,p5,pf⟩:=zD X.o.2.2.1;have O:=(aLt X.o.2.2.1);have M:=(aLt X1.o);go_wp2_with fail;refine (zhI W s l false w1 af.o X.o (by have:=HL.o;simp only[zP,fE,↓reduceIte,sA] at this ⊢;omega)).mono ?_;rintro e w2 ⟨rfl,K,L,I⟩;have Y:=zc K;have ak:=zc (aj.o.trans L);have ai:=zc (ah.o.trans I);have X2:=zc ((I _ _ _ _ X1.o aa (by decide)).trans X1.o);clear K L I p0 p1 p2 p3 p4 p5 pf x0 x1 x2 x3 x4 x5 xf O M;obtain⟨x0,x1,x2,x3,x4,x5,xf⟩:=zD X2.o;obtain⟨p0,p1,p2,p3,p4,p5,pf⟩:=zD Y.o.2.2.1;have O:=(aLt Y.o.2.2.1);have M:=(aLt X2.o);go_wp2_with fail;refine (zca W _ [sg] w2 Y.o (by have:=HL.o;simp only[zA,zP,fE,↓reduceIte,foldl_cons,foldl_nil,sA] at this ⊢;omega) (by simp)).mono ?_;rintro e w3 ⟨rfl,K,L,I⟩;have N:=zc K;have ag:=zc (ak.o.trans L);have al:=zc (ai.o.trans I);have X3:=zc ((I _ _ _ _ X2.o aa (by decide)).trans X2.o);clear K L I p0 p1 p2 p3 p4 p5 pf x0 x1 x2 x3 x4 x5 xf O M;obtain⟨x0,x1,x2,x3,x4,x5,xf⟩:=zD X3.o;obtain⟨p0,p1,p2,p3,p4,p5,pf⟩:=zD N.o.2.2.1;have O:=(aLt N.o.2.2.1);have M:=(aLt X3.o);go_wp2_with fail;have ac:=zc (N.o.later ((Below.refl w3.heap.size w3).drew));go_region_with (first|(go_at_call 260;refine (zjr W _ r _ ac.o HR.o).mono ?_;rintro e w' ⟨rfl,rfl⟩;rw[KK.o])|(go_at_call 238;refine (zg3 _ _).mono ?_;rintro e w' ⟨rfl,rfl⟩)|(go_at_call 259;refine (zhI W _ r (zY kk) _ ae.o ac.o (by have:=HL.o;simp only[zA,show ∀q,zP false q=q from fun _=>rfl,foldl_cons,foldl_nil,sA] at this ⊢;omega)).mono ?_;rintro e w4 ⟨rfl,K,L,I⟩))
 all_goals (go_wp2;go_end0;exact⟨rfl,(by rw[HT.o];simp only[zA,show ∀q,zP false q=q from fun _=>rfl,foldl_cons,foldl_nil,<-aA0] at K ⊢;exact K),ag.o.trans ((((Below.refl w3.heap.size w3).drew).mono N.o.1.2).trans L),al.o.trans ((KeepB.of_below ((Below.refl w3.heap.size w3).drew)).trans I)⟩)
theorem zvt (H A:BA0) (l r:Int) (w:World) (h:PP W s w) (hi:g<W.m.ex.length) (O:W.m.ex.getD g zj=⟨1,z,H,A,l,r⟩) (hn: -9223372036854775808<=z/\z<=9223372036854775807) (I:(s++(strOfNums (zck z))).size<=140737488355328):
  Calls prog 241 #[.pointer (some ⟨W.gp,0,none⟩),.int .i64 (g:Int)] w (PO W (s++(strOfNums (zck z))) w):=by
 have V:=zc h;obtain⟨T,hT⟩: ∃T,T=strOfNums (zck z):=⟨_,rfl⟩;rw[<-hT] at I ⊢;have HT:=zc hT;have HL:=zc I;clear h I hT;obtain⟨p0,p1,p2,p3,p4,p5,pf⟩:=zD V.o.2.2.1;obtain⟨D,hg,U,X,x1,x2,Z,Y,x5⟩:=V.o.2.1.expr hi;rw[O] at X x1 x2 Z Y x5;dsimp only at X x1 x2 Z Y x5;rw[hg] at p4;have ab:(g:Int)<(W.m.ex.length:Int):=by omega
 clear hg O;go_enter func241,ntmps241;go_upto_region 1 with fail;have HW:Hid (Bw w (w.alloc (.cells #[.int .i64 1,.int .i64 z,.string H,.string A,.int .i64 l,.int .i64 r] 106))):=bA0;refine zp (R:=fun p=>p.heap[w.heap.size]? =some (.cells #[.int .i64 1,.int .i64 z,.string H,.string A,.int .i64 l,.int .i64 r] 106 (0,0))/\PP W s p/\Below W.B w p/\KeepB W.b w p) ⟨hN0 w _,V.o.later HW.o,HW.o.mono V.o.1.2,KeepB.of_below HW.o⟩ ?_;obtain⟨gx,M⟩: ∃gx,gx=w.heap.size:=⟨_,rfl⟩;have ai:gx≠W.b:=by
  rw[M];obtain⟨aj,hc⟩:=zcy V.o.1.1;have:=(aLt hc);omega
 rw[<-M];rintro w1 ⟨O,hp,hb,hk⟩;clear M HW U X x1 x2 Z Y x5 p0 p1 p2 p3 p4 p5 pf ab;have X1:=zc O;have J:=zc hp;have ac:=zc hb;have aa:=zc hk;clear O hp hb hk;obtain⟨X,x1,x2,Z,Y,x5,xf⟩:=zD X1.o;obtain⟨p0,p1,p2,p3,p4,p5,pf⟩:=zD J.o.2.2.1;have U:=(aLt J.o.2.2.1);have ah:=(aLt X1.o);have HN:=zc hn;go_wp2_with fail;go_region_with (first|(go_at_call 257;refine (ztc z _ HN.o).mono ?_;rintro e w2 ⟨rfl,N⟩;have K:=zc (((Below.refl w1.heap.size w1).drew).trans N);have L:=zc (J.o.later K.o);have X2:=zc ((K.o.block _ (aLt X1.o)).trans X1.o);clear N;obtain⟨y0,y1,y2,y3,y4,y5,yf⟩:=zD X2.o;obtain⟨q0,q1,q2,q3,q4,q5,qf⟩:=zD L.o.2.2.1;have af:=(aLt L.o.2.2.1);have ag:=(aLt X2.o))|(go_at_call 193;refine (zca W s [strOfNums (zck z)] _ L.o (by have:=HL.o;rw[HT.o] at this;simp only[zA,foldl_cons,foldl_nil,sA] at this ⊢;omega) (by simp)).mono ?_;rintro e w3 ⟨rfl,hp,ae,ad⟩))
 all_goals (have hb:=(K.o.mono J.o.1.2).trans ae;have hk:=(KeepB.of_below (b:=W.b) K.o).trans ad;go_wp2;go_end0;exact⟨rfl,(by rw[HT.o];exact hp),ac.o.trans hb,aa.o.trans hk⟩)
theorem zvu (q A:BA0) (l r:Int) (w:World) (h:PP W s w) (hi:g<W.m.ex.length) (L:W.m.ex.getD g zj=⟨2,z,q,A,l,r⟩) (H:(s++(q)).size<=140737488355328):
  Calls prog 241 #[.pointer (some ⟨W.gp,0,none⟩),.int .i64 (g:Int)] w (PO W (s++(q)) w):=by
 have N:=zc h;obtain⟨T,hT⟩: ∃T,T=q:=⟨_,rfl⟩;rw[<-hT] at H ⊢;have HT:=zc hT;have HL:=zc H;clear h H hT;obtain⟨p0,p1,p2,p3,p4,p5,pf⟩:=zD N.o.2.2.1;obtain⟨D,hg,M,O,x1,x2,V,U,x5⟩:=N.o.2.1.expr hi;rw[L] at O x1 x2 V U x5;dsimp only at O x1 x2 V U x5;rw[hg] at p4;have ab:(g:Int)<(W.m.ex.length:Int):=by omega
 clear hg L;go_enter func241,ntmps241;go_upto_region 1 with fail;have HW:Hid (Bw w (w.alloc (.cells #[.int .i64 2,.int .i64 z,.string q,.string A,.int .i64 l,.int .i64 r] 106))):=bA0;refine zp (R:=fun p=>p.heap[w.heap.size]? =some (.cells #[.int .i64 2,.int .i64 z,.string q,.string A,.int .i64 l,.int .i64 r] 106 (0,0))/\PP W s p/\Below W.B w p/\KeepB W.b w p) ⟨hN0 w _,N.o.later HW.o,HW.o.mono N.o.1.2,KeepB.of_below HW.o⟩ ?_;obtain⟨gx,K⟩: ∃gx,gx=w.heap.size:=⟨_,rfl⟩;have ae:gx≠W.b:=by
  rw[K];obtain⟨af,hc⟩:=zcy N.o.1.1;have:=(aLt hc);omega
 rw[<-K];rintro w1 ⟨L,Z,X,Y⟩;clear K HW M O x1 x2 V U x5 p0 p1 p2 p3 p4 p5 pf ab;have X1:=zc L;have J:=zc Z;have ac:=zc X;have aa:=zc Y;clear L Z X Y;obtain⟨O,x1,x2,V,U,x5,xf⟩:=zD X1.o;obtain⟨p0,p1,p2,p3,p4,p5,pf⟩:=zD J.o.2.2.1;have M:=(aLt J.o.2.2.1);have ad:=(aLt X1.o);go_wp2_with fail;go_region_with (go_at_call 193;refine (zcL W s [q] w1 J.o (by have:=HL.o;rw[HT.o] at this;simp only[zA,foldl_cons,foldl_nil,sA] at this ⊢;omega) (by simp)).mono ?_;rintro e w2 ⟨rfl,Z,X,Y⟩)
 all_goals (go_wp2;go_end0;exact⟨rfl,(by rw[HT.o];exact Z),ac.o.trans X,aa.o.trans Y⟩)
theorem zvv (q A:BA0) (l r:Int) (w:World) (h:PP W s w) (hi:g<W.m.ex.length) (M:W.m.ex.getD g zj=⟨3,z,q,A,l,r⟩) (H:(s++(q++cParens)).size<=140737488355328):
  Calls prog 241 #[.pointer (some ⟨W.gp,0,none⟩),.int .i64 (g:Int)] w (PO W (s++(q++cParens)) w):=by
 have O:=zc h;obtain⟨T,hT⟩: ∃T,T=q++cParens:=⟨_,rfl⟩;rw[<-hT] at H ⊢;have HT:=zc hT;have HL:=zc H;clear h H hT;obtain⟨p0,p1,p2,p3,p4,p5,pf⟩:=zD O.o.2.2.1;obtain⟨D,hg,N,U,x1,x2,X,V,x5⟩:=O.o.2.1.expr hi;rw[M] at U x1 x2 X V x5;dsimp only at U x1 x2 X V x5;rw[hg] at p4;have ab:(g:Int)<(W.m.ex.length:Int):=by omega
 clear hg M;go_enter func241,ntmps241;go_upto_region 1 with fail;have HW:Hid (Bw w (w.alloc (.cells #[.int .i64 3,.int .i64 z,.string q,.string A,.int .i64 l,.int .i64 r] 106))):=bA0;refine zp (R:=fun p=>p.heap[w.heap.size]? =some (.cells #[.int .i64 3,.int .i64 z,.string q,.string A,.int .i64 l,.int .i64 r] 106 (0,0))/\PP W s p/\Below W.B w p/\KeepB W.b w p) ⟨hN0 w _,O.o.later HW.o,HW.o.mono O.o.1.2,KeepB.of_below HW.o⟩ ?_;obtain⟨gx,K⟩: ∃gx,gx=w.heap.size:=⟨_,rfl⟩;have ae:gx≠W.b:=by
  rw[K];obtain⟨af,hc⟩:=zcy O.o.1.1;have:=(aLt hc);omega
 rw[<-K];rintro w1 ⟨M,L,Y,Z⟩;clear K HW N U x1 x2 X V x5 p0 p1 p2 p3 p4 p5 pf ab;have X1:=zc M;have J:=zc L;have ac:=zc Y;have aa:=zc Z;clear M L Y Z;obtain⟨U,x1,x2,X,V,x5,xf⟩:=zD X1.o;obtain⟨p0,p1,p2,p3,p4,p5,pf⟩:=zD J.o.2.2.1;have N:=(aLt J.o.2.2.1);have ad:=(aLt X1.o);go_wp2_with fail;go_region_with (go_at_call 193;refine (zcL W s [q,cParens] w1 J.o (by have:=HL.o;rw[HT.o] at this;simp only[zA,foldl_cons,foldl_nil,sA] at this ⊢;omega) (by simp)).mono ?_;rintro e w2 ⟨rfl,L,Y,Z⟩)
 all_goals (go_wp2;go_end0;exact⟨rfl,(by rw[HT.o];simp only[zA,foldl_cons,foldl_nil,<-aA0] at L ⊢;exact L),ac.o.trans Y,aa.o.trans Z⟩)
theorem zvw (A q:BA0) (l r:Int) (w:World) (h:PP W s w) (hi:g<W.m.ex.length) (M:W.m.ex.getD g zj=⟨4,z,A,q,l,r⟩) (H:(s++(A++cPoint++q)).size<=140737488355328):
  Calls prog 241 #[.pointer (some ⟨W.gp,0,none⟩),.int .i64 (g:Int)] w (PO W (s++(A++cPoint++q)) w):=by
 have O:=zc h;obtain⟨T,hT⟩: ∃T,T=A++cPoint++q:=⟨_,rfl⟩;rw[<-hT] at H ⊢;have HT:=zc hT;have HL:=zc H;clear h H hT;obtain⟨p0,p1,p2,p3,p4,p5,pf⟩:=zD O.o.2.2.1;obtain⟨D,hg,N,U,x1,x2,X,V,x5⟩:=O.o.2.1.expr hi;rw[M] at U x1 x2 X V x5;dsimp only at U x1 x2 X V x5;rw[hg] at p4;have ab:(g:Int)<(W.m.ex.length:Int):=by omega
 clear hg M;go_enter func241,ntmps241;go_upto_region 1 with fail;have HW:Hid (Bw w (w.alloc (.cells #[.int .i64 4,.int .i64 z,.string A,.string q,.int .i64 l,.int .i64 r] 106))):=bA0;refine zp (R:=fun p=>p.heap[w.heap.size]? =some (.cells #[.int .i64 4,.int .i64 z,.string A,.string q,.int .i64 l,.int .i64 r] 106 (0,0))/\PP W s p/\Below W.B w p/\KeepB W.b w p) ⟨hN0 w _,O.o.later HW.o,HW.o.mono O.o.1.2,KeepB.of_below HW.o⟩ ?_;obtain⟨gx,K⟩: ∃gx,gx=w.heap.size:=⟨_,rfl⟩;have ae:gx≠W.b:=by
  rw[K];obtain⟨af,hc⟩:=zcy O.o.1.1;have:=(aLt hc);omega
 rw[<-K];rintro w1 ⟨M,L,Y,Z⟩;clear K HW N U x1 x2 X V x5 p0 p1 p2 p3 p4 p5 pf ab;have X1:=zc M;have J:=zc L;have ac:=zc Y;have aa:=zc Z;clear M L Y Z;obtain⟨U,x1,x2,X,V,x5,xf⟩:=zD X1.o;obtain⟨p0,p1,p2,p3,p4,p5,pf⟩:=zD J.o.2.2.1;have N:=(aLt J.o.2.2.1);have ad:=(aLt X1.o);go_wp2_with fail;go_region_with (go_at_call 193;refine (zcL W s [A,cPoint,q] w1 J.o (by have:=HL.o;rw[HT.o] at this;simp only[zA,foldl_cons,foldl_nil,sA] at this ⊢;omega) (by simp)).mono ?_;rintro e w2 ⟨rfl,L,Y,Z⟩)
 all_goals (go_wp2;go_end0;exact⟨rfl,(by rw[HT.o];simp only[zA,foldl_cons,foldl_nil,<-aA0] at L ⊢;exact L),ac.o.trans Y,aa.o.trans Z⟩)
theorem zvx (A q:BA0) (l r:Int) (w:World) (h:PP W s w) (hi:g<W.m.ex.length) (M:W.m.ex.getD g zj=⟨5,z,A,q,l,r⟩) (H:(s++(A++cPoint++q++cParens)).size<=140737488355328):
  Calls prog 241 #[.pointer (some ⟨W.gp,0,none⟩),.int .i64 (g:Int)] w (PO W (s++(A++cPoint++q++cParens)) w):=by
 have O:=zc h;obtain⟨T,hT⟩: ∃T,T=A++cPoint++q++cParens:=⟨_,rfl⟩;rw[<-hT] at H ⊢;have HT:=zc hT;have HL:=zc H;clear h H hT;obtain⟨p0,p1,p2,p3,p4,p5,pf⟩:=zD O.o.2.2.1;obtain⟨D,hg,N,U,x1,x2,X,V,x5⟩:=O.o.2.1.expr hi;rw[M] at U x1 x2 X V x5;dsimp only at U x1 x2 X V x5;rw[hg] at p4;have ab:(g:Int)<(W.m.ex.length:Int):=by omega
 clear hg M;go_enter func241,ntmps241;go_upto_region 1 with fail;have HW:Hid (Bw w (w.alloc (.cells #[.int .i64 5,.int .i64 z,.string A,.string q,.int .i64 l,.int .i64 r] 106))):=bA0;refine zp (R:=fun p=>p.heap[w.heap.size]? =some (.cells #[.int .i64 5,.int .i64 z,.string A,.string q,.int .i64 l,.int .i64 r] 106 (0,0))/\PP W s p/\Below W.B w p/\KeepB W.b w p) ⟨hN0 w _,O.o.later HW.o,HW.o.mono O.o.1.2,KeepB.of_below HW.o⟩ ?_;obtain⟨gx,K⟩: ∃gx,gx=w.heap.size:=⟨_,rfl⟩;have ae:gx≠W.b:=by
  rw[K];obtain⟨af,hc⟩:=zcy O.o.1.1;have:=(aLt hc);omega
 rw[<-K];rintro w1 ⟨M,L,Y,Z⟩;clear K HW N U x1 x2 X V x5 p0 p1 p2 p3 p4 p5 pf ab;have X1:=zc M;have J:=zc L;have ac:=zc Y;have aa:=zc Z;clear M L Y Z;obtain⟨U,x1,x2,X,V,x5,xf⟩:=zD X1.o;obtain⟨p0,p1,p2,p3,p4,p5,pf⟩:=zD J.o.2.2.1;have N:=(aLt J.o.2.2.1);have ad:=(aLt X1.o);go_wp2_with fail;go_region_with (go_at_call 193;refine (zcL W s [A,cPoint,q,cParens] w1 J.o (by have:=HL.o;rw[HT.o] at this;simp only[zA,foldl_cons,foldl_nil,sA] at this ⊢;omega) (by simp)).mono ?_;rintro e w2 ⟨rfl,L,Y,Z⟩)
 all_goals (go_wp2;go_end0;exact⟨rfl,(by rw[HT.o];simp only[zA,foldl_cons,foldl_nil,<-aA0] at L ⊢;exact L),ac.o.trans Y,aa.o.trans Z⟩)
theorem zvy (A q:BA0) (l r:Nat) (w:World) (h:PP W s w) (hi:g<W.m.ex.length) (M:W.m.ex.getD g zj=⟨6,z,A,q,(l:Int),(r:Int)⟩) (ae:zcO W l) (ac:zcO W r) (hr:r<W.m.ex.length) (H:(s++(prX W.m.ex l++tPlus++zP (zY (W.m.ex.getD r zj).kind) (prX W.m.ex r))).size<=140737488355328):
  Calls prog 241 #[.pointer (some ⟨W.gp,0,none⟩),.int .i64 (g:Int)] w (PO W (s++(prX W.m.ex l++tPlus++zP (zY (W.m.ex.getD r zj).kind) (prX W.m.ex r))) w):=by
 have O:=zc h;obtain⟨T,hT⟩: ∃T,T=prX W.m.ex l++tPlus++zP (zY (W.m.ex.getD r zj).kind) (prX W.m.ex r):=⟨_,rfl⟩;rw[<-hT] at H ⊢;have HT:=zc hT;have HL:=zc H;clear h H hT;obtain⟨p0,p1,p2,p3,p4,p5,pf⟩:=zD O.o.2.2.1;obtain⟨D,hg,N,U,x1,x2,X,V,x5⟩:=O.o.2.1.expr hi;rw[M] at U x1 x2 X V x5;dsimp only at U x1 x2 X V x5;rw[hg] at p4;have ab:(g:Int)<(W.m.ex.length:Int):=by omega
 clear hg M;go_enter func241,ntmps241;go_upto_region 1 with fail;have HW:Hid (Bw w (w.alloc (.cells #[.int .i64 6,.int .i64 z,.string A,.string q,.int .i64 (l:Int),.int .i64 (r:Int)] 106))):=bA0;refine zp (R:=fun p=>p.heap[w.heap.size]? =some (.cells #[.int .i64 6,.int .i64 z,.string A,.string q,.int .i64 (l:Int),.int .i64 (r:Int)] 106 (0,0))/\PP W s p/\Below W.B w p/\KeepB W.b w p) ⟨hN0 w _,O.o.later HW.o,HW.o.mono O.o.1.2,KeepB.of_below HW.o⟩ ?_;obtain⟨gx,K⟩: ∃gx,gx=w.heap.size:=⟨_,rfl⟩;have ah:gx≠W.b:=by
  rw[K];obtain⟨ai,hc⟩:=zcy O.o.1.1;have:=(aLt hc);omega
 rw[<-K];rintro w1 ⟨M,L,Y,Z⟩;clear K HW N U x1 x2 X V x5 p0 p1 p2 p3 p4 p5 pf ab;have X1:=zc M;have J:=zc L;have ad:=zc Y;have aa:=zc Z;clear M L Y Z;obtain⟨U,x1,x2,X,V,x5,xf⟩:=zD X1.o;obtain⟨p0,p1,p2,p3,p4,p5,pf⟩:=zD J.o.2.2.1;have N:=(aLt J.o.2.2.1);have ag:=(aLt X1.o);go_wp2_with fail;refine (zne W s 6 z A q tPlus l r w1 ae ac hr J.o (by rw[<-HT.o];exact HL.o)).mono ?_;rw[<-HT.o];rintro e w2 ⟨rfl,L,Y,Z⟩;have af:=zc L;clear L;go_wp2;go_end0;exact⟨rfl,af.o,ad.o.trans Y,aa.o.trans Z⟩
theorem zvz (A q:BA0) (l r:Nat) (w:World) (h:PP W s w) (hi:g<W.m.ex.length) (M:W.m.ex.getD g zj=⟨7,z,A,q,(l:Int),(r:Int)⟩) (ae:zcO W l) (ac:zcO W r) (hr:r<W.m.ex.length) (H:(s++(prX W.m.ex l++tMinus++zP (zY (W.m.ex.getD r zj).kind) (prX W.m.ex r))).size<=140737488355328):
  Calls prog 241 #[.pointer (some ⟨W.gp,0,none⟩),.int .i64 (g:Int)] w (PO W (s++(prX W.m.ex l++tMinus++zP (zY (W.m.ex.getD r zj).kind) (prX W.m.ex r))) w):=by
 have O:=zc h;obtain⟨T,hT⟩: ∃T,T=prX W.m.ex l++tMinus++zP (zY (W.m.ex.getD r zj).kind) (prX W.m.ex r):=⟨_,rfl⟩;rw[<-hT] at H ⊢;have HT:=zc hT;have HL:=zc H;clear h H hT;obtain⟨p0,p1,p2,p3,p4,p5,pf⟩:=zD O.o.2.2.1;obtain⟨D,hg,N,U,x1,x2,X,V,x5⟩:=O.o.2.1.expr hi;rw[M] at U x1 x2 X V x5;dsimp only at U x1 x2 X V x5;rw[hg] at p4;have ab:(g:Int)<(W.m.ex.length:Int):=by omega
 clear hg M;go_enter func241,ntmps241;go_upto_region 1 with fail;have HW:Hid (Bw w (w.alloc (.cells #[.int .i64 7,.int .i64 z,.string A,.string q,.int .i64 (l:Int),.int .i64 (r:Int)] 106))):=bA0;refine zp (R:=fun p=>p.heap[w.heap.size]? =some (.cells #[.int .i64 7,.int .i64 z,.string A,.string q,.int .i64 (l:Int),.int .i64 (r:Int)] 106 (0,0))/\PP W s p/\Below W.B w p/\KeepB W.b w p) ⟨hN0 w _,O.o.later HW.o,HW.o.mono O.o.1.2,KeepB.of_below HW.o⟩ ?_;obtain⟨gx,K⟩: ∃gx,gx=w.heap.size:=⟨_,rfl⟩;have ah:gx≠W.b:=by
  rw[K];obtain⟨ai,hc⟩:=zcy O.o.1.1;have:=(aLt hc);omega
 rw[<-K];rintro w1 ⟨M,L,Y,Z⟩;clear K HW N U x1 x2 X V x5 p0 p1 p2 p3 p4 p5 pf ab;have X1:=zc M;have J:=zc L;have ad:=zc Y;have aa:=zc Z;clear M L Y Z;obtain⟨U,x1,x2,X,V,x5,xf⟩:=zD X1.o;obtain⟨p0,p1,p2,p3,p4,p5,pf⟩:=zD J.o.2.2.1;have N:=(aLt J.o.2.2.1);have ag:=(aLt X1.o);go_wp2_with fail;refine (zne W s 7 z A q tMinus l r w1 ae ac hr J.o (by rw[<-HT.o];exact HL.o)).mono ?_;rw[<-HT.o];rintro e w2 ⟨rfl,L,Y,Z⟩;have af:=zc L;clear L;go_wp2;go_end0;exact⟨rfl,af.o,ad.o.trans Y,aa.o.trans Z⟩
theorem zv0 (K q:BA0) (l r:Nat) (w:World) (h:PP W s w) (hi:g<W.m.ex.length) (hx:W.m.ex.getD g zj=⟨8,z,K,q,(l:Int),(r:Int)⟩) (ah:zcO W l) (ag:zcO W r) (hl:l<W.m.ex.length) (hr:r<W.m.ex.length) (L:(s++(zP (zY (W.m.ex.getD l zj).kind) (prX W.m.ex l)++tStar++zP (zag (W.m.ex.getD r zj).kind) (prX W.m.ex r))).size<=140737488355328):
  Calls prog 241 #[.pointer (some ⟨W.gp,0,none⟩),.int .i64 (g:Int)] w (PO W (s++(zP (zY (W.m.ex.getD l zj).kind) (prX W.m.ex l)++tStar++zP (zag (W.m.ex.getD r zj).kind) (prX W.m.ex r))) w):=by
 have HP:=zc h;obtain⟨T,hT⟩: ∃T,T=zP (zY (W.m.ex.getD l zj).kind) (prX W.m.ex l)++tStar++zP (zag (W.m.ex.getD r zj).kind) (prX W.m.ex r):=⟨_,rfl⟩;rw[<-hT] at L ⊢;have HT:=zc hT;have HL:=zc L;clear h L hT;obtain⟨p0,p1,p2,p3,p4,p5,pf⟩:=zD HP.o.2.2.1;obtain⟨D,hg,I,V,x1,x2,Z,Y,x5⟩:=HP.o.2.1.expr hi;rw[hx] at V x1 x2 Z Y x5;dsimp only at V x1 x2 Z Y x5;rw[hg] at p4;have ao:(g:Int)<(W.m.ex.length:Int):=by omega
 clear hg hx;go_enter func241,ntmps241;go_upto_region 1 with fail;have HW:Hid (Bw w (w.alloc (.cells #[.int .i64 8,.int .i64 z,.string K,.string q,.int .i64 (l:Int),.int .i64 (r:Int)] 106))):=bA0;refine zp (R:=fun p=>p.heap[w.heap.size]? =some (.cells #[.int .i64 8,.int .i64 z,.string K,.string q,.int .i64 (l:Int),.int .i64 (r:Int)] 106 (0,0))/\PP W s p/\Below W.B w p/\KeepB W.b w p) ⟨hN0 w _,HP.o.later HW.o,HW.o.mono HP.o.1.2,KeepB.of_below HW.o⟩ ?_;obtain⟨gx,ae⟩: ∃gx,gx=w.heap.size:=⟨_,rfl⟩;have af:gx≠W.b:=by
  rw[ae];obtain⟨au,hc⟩:=zcy HP.o.1.1;have:=(aLt hc);omega
 rw[<-ae];rintro X ⟨hx,H,J,A⟩;clear ae HW I V x1 x2 Z Y x5 p0 p1 p2 p3 p4 p5 pf ao;have X1:=zc hx;have U:=zc H;have ap:=zc J;have am:=zc A;clear hx H J A;obtain⟨V,x1,x2,Z,Y,x5,xf⟩:=zD X1.o;obtain⟨p0,p1,p2,p3,p4,p5,pf⟩:=zD U.o.2.2.1;have I:=(aLt U.o.2.2.1);have N:=(aLt X1.o);have aj:=zc ah;have ai:=zc ag;have HR:=zc hr;have ak:=zc hl;obtain⟨kk,ab⟩: ∃kk,(W.m.ex.getD r zj).kind=kk:=⟨_,rfl⟩;obtain⟨kl,aa⟩: ∃kl,(W.m.ex.getD l zj).kind=kl:=⟨_,rfl⟩;have HU:Hid (T=zP (zY kl) (prX W.m.ex l)++tStar++zP (zag kk) (prX W.m.ex r)):=by show _=_;rw[<-ab,<-aa];exact HT.o
 have KK:=zc ab;have KL:=zc aa;clear ah ag hr hl ab aa HT;go_upto_region 17 with fail;go_cut [] from 82 to 90 (fun wx=>PP W (s++zP (zY kl) (prX W.m.ex l)) wx/\Below W.B X wx/\KeepB W.b X wx)
 case first=>
  go_wp2_with fail;have M:=zc (U.o.later ((Below.refl X.heap.size X).drew));go_region_with (first|(go_at_call 260;refine (zjr W _ l _ M.o ak.o).mono ?_;rintro e w' ⟨rfl,rfl⟩;rw[KL.o])|(go_at_call 238;refine (zg3 _ _).mono ?_;rintro e w' ⟨rfl,rfl⟩)|(go_at_call 259;refine (zhI W _ l (zY kl) _ aj.o M.o (by have:=HL.o;rw[HU.o] at this;simp only[sA] at this ⊢;omega)).mono ?_;rintro e w2 ⟨rfl,H,J,A⟩))
  all_goals (go_wp2_with fail;go_meet;exact⟨H,(((Below.refl X.heap.size X).drew).mono U.o.1.2).trans J,(KeepB.of_below ((Below.refl X.heap.size X).drew)).trans A⟩)
 case rest=>
 obtain⟨H,J,A⟩:=hcut
 rename_i w2
 have ad:=zc H;have aq:=zc (ap.o.trans J);have an:=zc (am.o.trans A);have X2:=zc ((A _ _ _ _ X1.o af (by decide)).trans X1.o);clear H J A p0 p1 p2 p3 p4 p5 pf V x1 x2 Z Y x5 xf I N;obtain⟨V,x1,x2,Z,Y,x5,xf⟩:=zD X2.o;obtain⟨p0,p1,p2,p3,p4,p5,pf⟩:=zD ad.o.2.2.1;have I:=(aLt ad.o.2.2.1);have N:=(aLt X2.o);go_wp2_with fail;refine (zca W _ [tStar] _ ad.o (by have:=HL.o;rw[HU.o] at this;simp only[zA,foldl_cons,foldl_nil,sA] at this ⊢;omega) (by simp)).mono ?_;rintro e w3 ⟨rfl,H,J,A⟩;have O:=zc H;have al:=zc (aq.o.trans J);have ar:=zc (an.o.trans A);have X3:=zc ((A _ _ _ _ X2.o af (by decide)).trans X2.o);clear H J A p0 p1 p2 p3 p4 p5 pf V x1 x2 Z Y x5 xf I N;obtain⟨V,x1,x2,Z,Y,x5,xf⟩:=zD X3.o;obtain⟨p0,p1,p2,p3,p4,p5,pf⟩:=zD O.o.2.2.1;have I:=(aLt O.o.2.2.1);have N:=(aLt X3.o);go_wp2_with fail;have M:=zc (O.o.later ((Below.refl w3.heap.size w3).drew));go_region_with (first|(go_at_call 260;refine (zjr W _ r _ M.o HR.o).mono ?_;rintro e w' ⟨rfl,rfl⟩;rw[KK.o])|(go_at_call 216;refine (zmB _ _).mono ?_;rintro e w' ⟨rfl,rfl⟩)|(go_at_call 259;refine (zhI W _ r (zag kk) _ ai.o M.o (by have:=HL.o;rw[HU.o] at this;simp only[zA,foldl_cons,foldl_nil,sA] at this ⊢;omega)).mono ?_;rintro e w4 ⟨rfl,H,J,A⟩))
 all_goals (go_wp2;go_end0;exact⟨rfl,(by rw[HU.o];simp only[zA,foldl_cons,foldl_nil,<-aA0] at H ⊢;exact H),al.o.trans ((((Below.refl w3.heap.size w3).drew).mono O.o.1.2).trans J),ar.o.trans ((KeepB.of_below ((Below.refl w3.heap.size w3).drew)).trans A)⟩)
theorem zv1 (A q:BA0) (l r:Int) (w:World) (h:PP W s w) (hi:g<W.m.ex.length) (M:W.m.ex.getD g zj=⟨z,u,A,q,l,r⟩) (k1:(z==1)=false) (k2:(z==2)=false) (k3:(z==3)=false) (k4:(z==4)=false) (k5:(z==5)=false) (k6:(z==6)=false) (k7:(z==7)=false) (k8:(z==8)=false) (H:(s++(sNone)).size<=140737488355328):
  Calls prog 241 #[.pointer (some ⟨W.gp,0,none⟩),.int .i64 (g:Int)] w (PO W (s++(sNone)) w):=by
 have N:=zc h;obtain⟨T,hT⟩: ∃T,T=sNone:=⟨_,rfl⟩;rw[<-hT] at H ⊢;have HT:=zc hT;have HL:=zc H;clear h H hT;obtain⟨p0,p1,p2,p3,p4,p5,pf⟩:=zD N.o.2.2.1;obtain⟨D,hg,L,O,x1,Y,V,U,Z⟩:=N.o.2.1.expr hi;rw[M] at O x1 Y V U Z;dsimp only at O x1 Y V U Z;rw[hg] at p4;have ab:(g:Int)<(W.m.ex.length:Int):=by omega
 clear hg M;go_enter func241,ntmps241;go_upto_region 1 with fail;have X:Hid (Bw w (w.alloc (.cells #[.int .i64 z,.int .i64 u,.string A,.string q,.int .i64 l,.int .i64 r] 106))):=bA0;refine zp (R:=fun p=>p.heap[w.heap.size]? =some (.cells #[.int .i64 z,.int .i64 u,.string A,.string q,.int .i64 l,.int .i64 r] 106 (0,0))/\PP W s p/\Below W.B w p/\KeepB W.b w p) ⟨hN0 w _,N.o.later X.o,X.o.mono N.o.1.2,KeepB.of_below X.o⟩ ?_;obtain⟨gx,K⟩: ∃gx,gx=w.heap.size:=⟨_,rfl⟩;have ae:gx≠W.b:=by
  rw[K];obtain⟨af,hc⟩:=zcy N.o.1.1;have:=(aLt hc);omega
 rw[<-K];rintro w1 ⟨M,hp,hb,hk⟩;clear K X L O x1 Y V U Z p0 p1 p2 p3 p4 p5 pf ab;have X1:=zc M;have J:=zc hp;have ac:=zc hb;have aa:=zc hk;clear M hp hb hk;obtain⟨O,x1,Y,V,U,Z,xf⟩:=zD X1.o;obtain⟨p0,p1,p2,p3,p4,p5,pf⟩:=zD J.o.2.2.1;have L:=(aLt J.o.2.2.1);have ad:=(aLt X1.o);go_wp2;go_end0;exact⟨rfl,(by rw[HT.o,show s++sNone=s from ByteArray.append_empty];exact J.o),ac.o,aa.o⟩
theorem zv2 (hn:zay W.m.ex) (ha:zbH W.m.ex) (n:Nat): ∀i,i<n->i<W.m.ex.length->zcO W i:=by
 induction n with
 |zero=>intro i K;omega
 |succ n ih=>
  intro i ab K t w h A;by_cases aa:i<n
  ·exact ih i aa K t w h A
  ·have N: ∀j,j<i->zcO W j:=fun j hj=>ih j (by omega) (by omega);have M:=hn (W.m.ex.getD i zj) (by rw[zeB K];exact List.getElem_mem K);have J:=zgR ha (i:=i);rw[ziv ha] at A ⊢;obtain⟨x,L⟩: ∃x,W.m.ex.getD i zj=x:=⟨_,rfl⟩;rw[L] at A M J ⊢;obtain⟨k,I,H,q,l,r⟩:=x;simp only at A M J ⊢;by_cases O:(k==1)=true
   ·rw[if_pos O] at A ⊢;have e:=eq_of_beq O;subst e;exact zvt W t i I H q l r w h K L M A
   rw[if_neg O] at A ⊢;by_cases k2:(k==2)=true
   ·rw[if_pos k2] at A ⊢;have e:=eq_of_beq k2;subst e;exact zvu W t i I H q l r w h K L A
   rw[if_neg k2] at A ⊢;by_cases X:(k==3)=true
   ·rw[if_pos X] at A ⊢;have e:=eq_of_beq X;subst e;exact zvv W t i I H q l r w h K L A
   rw[if_neg X] at A ⊢;by_cases k4:(k==4)=true
   ·rw[if_pos k4] at A ⊢;have e:=eq_of_beq k4;subst e;exact zvw W t i I H q l r w h K L A
   rw[if_neg k4] at A ⊢;by_cases Y:(k==5)=true
   ·rw[if_pos Y] at A ⊢;have e:=eq_of_beq Y;subst e;exact zvx W t i I H q l r w h K L A
   rw[if_neg Y] at A ⊢;by_cases Z:(k==6)=true
   ·rw[if_pos Z] at A ⊢;have e:=eq_of_beq Z;subst e;have J:=J (by decide);obtain⟨l,rfl⟩: ∃n:Nat,l=(n:Int):=⟨l.toNat,by omega⟩;obtain⟨r,rfl⟩: ∃n:Nat,r=(n:Int):=⟨r.toNat,by omega⟩;simp only[Int.toNat_natCast] at A ⊢;exact zvy W t i I H q l r w h K L (N l (by omega)) (N r (by omega)) (by omega) A
   rw[if_neg Z] at A ⊢;by_cases V:(k==7)=true
   ·rw[if_pos V] at A ⊢;have e:=eq_of_beq V;subst e;have J:=J (by decide);obtain⟨l,rfl⟩: ∃n:Nat,l=(n:Int):=⟨l.toNat,by omega⟩;obtain⟨r,rfl⟩: ∃n:Nat,r=(n:Int):=⟨r.toNat,by omega⟩;simp only[Int.toNat_natCast] at A ⊢;exact zvz W t i I H q l r w h K L (N l (by omega)) (N r (by omega)) (by omega) A
   rw[if_neg V] at A ⊢;by_cases U:(k==8)=true
   ·rw[if_pos U] at A ⊢;have e:=eq_of_beq U;subst e;have J:=J (by decide);obtain⟨l,rfl⟩: ∃n:Nat,l=(n:Int):=⟨l.toNat,by omega⟩;obtain⟨r,rfl⟩: ∃n:Nat,r=(n:Int):=⟨r.toNat,by omega⟩;simp only[Int.toNat_natCast] at A ⊢;exact zv0 W t i I H q l r w h K L (N l (by omega)) (N r (by omega)) (by omega) (by omega) A
   rw[if_neg U] at A ⊢;exact zv1 W t i k I H q l r w h K L (Bool.eq_false_iff.2 O) (Bool.eq_false_iff.2 k2) (Bool.eq_false_iff.2 X) (Bool.eq_false_iff.2 k4) (Bool.eq_false_iff.2 Y) (Bool.eq_false_iff.2 Z) (Bool.eq_false_iff.2 V) (Bool.eq_false_iff.2 U) A
theorem zv3 (S:Sv) (m:Md) (ad:Bool) (w:World) (h:OwnMd w g S m) (hm:Small m) (U:Tree m->(zbX m).size<=140737488355328):
  Calls prog 177 #[zo S m,.bool ad] w fun e w'=>PrintOut (zbX m) m e/\Bw w w':=by
 have HH:=zc h;have SM:=zc hm;have HU:=zc U;obtain⟨f1,f2,f3,f4,f5⟩:=hm.few;clear h hm U;unfold zo;go_enter func177,ntmps177;go_wp2_with fail;refine (zuS g S m _ (HH.o.alloc _) f5 f4).mono ?_;rintro e A ⟨⟨b,rfl,M⟩,I⟩;have HT:=zc M;have q:Hid (Bw w A):=(bA0).trans (I.mono (by rw[zh];omega));have K:Hid (A.heap[w.heap.size]? =some (.cells (bxA S m) 59 (0,0))):=(I.block _ (by rw[zh];omega)).trans (hN0 w _);have V:=zc (HH.o.later q.o);clear M I;cases b with
 |false=>
  go_wp2;go_ret;exact⟨.inr ⟨(fun t=>by have:=HT.o.2 t;cases this),rfl⟩,q.o⟩
 |true=>
  have Z:=zc (HT.o.1 rfl);have HZ:=zc (HU.o Z.o);go_upto_region 4 with fail;have H:Hid (Bw A (A.alloc (.cells #[.pointer none,.slice none 0 0] 174))):=bA0;have hz:=(aLt K.o);refine zp (R:=fun W=>(Lib.IsBuilder 174 5 A.heap.size A.heap.size [] W/\A.heap.size<=W.heap.size)/\OwnMd W g S m/\W.heap[w.heap.size]? =some (.cells (bxA S m) 59 (0,0))/\Below w.heap.size w W) ⟨⟨Lib.fresh_isBuilder _ _ A,H.o.size⟩,V.o.later H.o,(H.o.block _ hz).trans K.o,q.o.trans (H.o.mono q.o.size)⟩ ?_;obtain⟨b,J⟩: ∃b,b=A.heap.size:=⟨_,rfl⟩;have N:w.heap.size<=b:=by rw[J];exact q.o.size
  rw[<-J];rintro W ⟨⟨L,aa⟩,ho,hx,M⟩;clear hz H K V q HH J A;have BL:=zc L;have HO:=zc ho;have HX:=zc hx;have HB:=zc M;clear L ho hx M;obtain⟨c0,c1,c2,c3,c4,cf⟩:=zl HX.o;go_upto_region 6 with fail;have H:Hid (Bw W (W.alloc (.cells #[.slice S.rq.a m.rq.length S.rq.cap,.slice S.im.a m.im.length S.im.cap,.slice S.ep.a m.ep.length S.ep.cap,.slice S.st.a m.st.length S.st.cap,.slice S.ex.a m.ex.length S.ex.cap,.func (.func 193) #[] #[.pointer (some ⟨b,0,none⟩)]] 226))):=bA0;have ag:Hid (PP ⟨b,b,W.heap.size,g,S,m⟩ sNone (W.alloc (.cells #[.slice S.rq.a m.rq.length S.rq.cap,.slice S.im.a m.im.length S.im.cap,.slice S.ep.a m.ep.length S.ep.cap,.slice S.st.a m.st.length S.st.cap,.slice S.ex.a m.ex.length S.ex.cap,.func (.func 193) #[] #[.pointer (some ⟨b,0,none⟩)]] 226))):=by
   refine⟨⟨zmJ BL.o H.o,le_trans aa H.o.size⟩,HO.o.later H.o,hN0 W _,?_⟩;obtain⟨ah,hc⟩:=zcy BL.o;have:=(aLt hc);show W.heap.size≠b;omega
  have ab:=zc (HB.o.trans (H.o.mono HB.o.size));go_wp2_with fail;refine (zvs ⟨b,b,W.heap.size,g,S,m⟩ _ (fun i hi=>zv2 _ SM.o.nums Z.o.ahead _ i hi hi) Z.o.stm SM.o ag.o HZ.o).mono ?_;rintro e w3 ⟨rfl,hp,Y,ae⟩;have O:=zc hp;have ac:=zc (ab.o.trans (Y.mono N));clear hp Y ae c0 c1 c2 c3 c4 cf;go_wp2_with fail;refine (Tryz.Builder_String_any b b (zbX m).data.toList w3 O.o.1.1 O.o.1.2).mono ?_;rintro e w4 ⟨rfl,X⟩;have af:=zc (ac.o.trans (X.mono N));clear X;go_wp2;go_ret;exact⟨.inl ⟨Z.o,rfl⟩,af.o⟩
