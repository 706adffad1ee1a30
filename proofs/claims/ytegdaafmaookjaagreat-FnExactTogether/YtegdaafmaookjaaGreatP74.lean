/- Facts. -/
import Derived.Test.YtegdaafmaookjaaGreatP63
import Derived.Test.YtegdaafmaookjaaGreatP73
namespace Go.Proofs.YtegdaafmaookjaaGreat
open Go.Proofs.Tryz
set_option maxRecDepth 100000
set_option maxHeartbeats 6400000
open Go.RowKit Go.PlainAid Go.Shelf
theorem zxZ (m:Md) (f:BA0->Bool):(nmV m).any f=(m.st.any (fun x=>x.kind==3&&f x.name)||m.ex.any (fun x=>(x.kind==2||x.kind==3)&&f x.name)):=by
 rw[nmV,List.any_append,zbj,zaV,List.any_map,List.any_map,List.any_filter,List.any_filter];rfl
structure SpW (w:World) (b:Nat) (L:List (Int×BA0)) (bx:Obj) (W:World):Prop where
 cnt:CntW W b L
 own:W.heap[w.heap.size]? =some (.cells #[.map (some b)] 183)
 box:W.heap[w.heap.size+1]? =some bx
 res:W.heap[w.heap.size+1+1]? =some (.cells #[.bool false] 4)
 bel:Bw w W
variable {w:World} {W:Value}
theorem SpW.later {b:Nat} {L:List (Int×BA0)} {H:Obj} {W A:World} (h:SpW w b L H W) (q:Bw W A):SpW w b L H A:=
 ⟨h.cnt.kept (q.block b h.cnt.lt),zfM h.own q,zfM h.box q,zfM h.res q,h.bel.trans (q.mono h.bel.size)⟩
theorem zjM {P:Program} {A:Func} {p:Tmp} {t:TypeId} (h:A.results= #[.cell p t]) (tmps:Array Value) (w:World) {a:Addr} (I:tmps.getD p undef= .pointer (some a)) (H:(loadVar t a).run P w= .ok W w):(results A tmps).run P w= .ok W w:=by
 have q:tmps[p]?.getD undef= .pointer (some a):=by simpa using I
 simp only[results,h];simp[asAddr,q,H]
theorem zjN {b:Nat} (h:w.heap[b]? =some (.cells #[W] 4)):(loadVar 4 ⟨b,0,none⟩).run prog w= .ok W w:=by
 have q:w.cell? ⟨b,0,none⟩=some W:=by simp[World.cell?,h]
 simp[loadVar,isAgg,underlying,Sem.run_bind,Result.andThen,go_sem,underlying4,q]
theorem Hd.stored {C A:Nat->Prop} {q:World} (h:Hd C w A q) {p:Addr} (J:A p.block) (v:Value):Hd C w A (q.setCell p v):=
 ⟨h.os,h.tape,h.output,by show _<=(q.heap.modify _ _).size;rw[Array.size_modify];exact h.size,
  fun k S I=>(Below.heap_setCell q p v k (fun e=>(h.sub _ J).elim (fun H=>I (e▸H)) (fun H=>by omega))).trans (h.same k S I),h.sub,
  fun k S=>by show _<(q.heap.modify _ _).size;rw[Array.size_modify];exact h.lt k S⟩
attribute [local go_sem] Oper.semAt_some
theorem zya (b:Nat) (L:List (Int×BA0)) (V:Sv) (m:Md) (w:World) (h:CntW w b L) (hE:RowAt w V.ep.a epL 4 m.ep) (hS:RowAt w V.st.a smL 3 m.st) (hX:RowAt w V.ex.a exL 6 m.ex) (lE:m.ep.length<=10000) (lS:m.st.length<=10000) (lX:m.ex.length<=10000) (hn:zhR m):
  Calls prog 149 #[.map (some b),zo V m] w fun e w'=>e= .returned (.bool (m.ep.any (seI L)||(m.st.any (ssI L)||m.ex.any (sxI L))))/\Bw w w':=by
 have HN:=zc hn;obtain⟨n,av⟩: ∃n:Nat,n=3:=⟨_,rfl⟩;clear hn av;refine (callsIn_wide (n:=n)).1 ?_;refine callsIn_of_wp_marks func149 rfl trivial ?_ rfl;simp only[ntmps149,List.size_toArray,List.length_cons,List.length_nil,Nat.reduceAdd,Nat.reduceSub,Array.replicate_succ,Array.replicate_zero,List.push_toArray,List.append_toArray,List.nil_append,List.cons_append];obtain⟨O,ab⟩: ∃O,w.alloc (.cells #[.map (some b)] 183)=O:=⟨_,rfl⟩;have e1:O.heap.size=w.heap.size+1:=by rw[<-ab,zh]
 obtain⟨M,A⟩: ∃M,O.alloc (.cells (bxA V m) 59)=M:=⟨_,rfl⟩;have e2:M.heap.size=w.heap.size+1+1:=by rw[<-A,zh,e1]
 obtain⟨w0,ad⟩: ∃w0,M.alloc (.cells #[.bool false] 4)=w0:=⟨_,rfl⟩;have e0:w0.heap.size=w.heap.size+1+1+1:=by rw[<-ad,zh,e2]
 have b1:Bw w O:=by rw[<-ab];exact bA0
 have b2:Bw O M:=by rw[<-A];exact bA0
 have b3:Bw M w0:=by rw[<-ad];exact bA0
 have S0:Hid (SpW w b L (zfL V m) w0):=by
  have x1:O.heap[w.heap.size]? =some (.cells #[.map (some b)] 183):=by rw[<-ab];exact hN0 w _
  have x2:M.heap[w.heap.size+1]? =some (zfL V m):=by rw[<-A,<-e1];exact hN0 O _
  have x3:w0.heap[w.heap.size+1+1]? =some (.cells #[.bool false] 4):=by rw[<-ad,<-e2];exact hN0 M _
  have bb:Bw w w0:=b1.trans ((b2.trans (b3.mono b2.size)).mono b1.size);exact zc ⟨h.kept (bb.block b h.lt),zfM (zfM x1 b2) b3,zfM x2 b3,x3,bb⟩
 have HE:=zc hE;have HS:=zc hS;have HX:=zc hX;have L0:Hid (w0.heap.size=w.heap.size+1+1+1):=zc e0;have LB:Hid (b<w.heap.size):=zc h.lt;have ak:=zc (zxZ m (hB L 3));unfold zo;clear h hE hS hX b1 b2 b3;obtain⟨c0,c1,c2,c3,c4,cf⟩:=zl S0.o.box;clear e0;gi_wp2;clear ab A ad e1 e2;gi_loopw [11] (fun i wr=>∃k:Nat,k<=m.ep.length/\i= .int .i64 k/\Hid ((m.ep.take k).any (seI L)=false)/\Hid (SpW w b L (zfL V m) wr)) (fun i _=>(m.ep.length-intOf i).toNat)
 case atStart=>exact⟨0,Nat.zero_le _,rfl,zc rfl,S0⟩
 case round=>
  obtain⟨k,hk,rfl,N,HU⟩:=hrel;clear S0 c0 c1 c2 c3 c4 cf;by_cases aa:k<m.ep.length
  ·obtain⟨x,hx⟩: ∃x,m.ep[k]? =some x:=⟨_,gE aa⟩;obtain⟨b1,ay,ha,hc⟩:=(HE.o.later HU.o.bel).get hx;rw[ha];have d0:=hc 0 _ rfl;have d1:=hc 1 _ rfl;have d2:=hc 2 _ rfl;have d3:=hc 3 _ rfl;simp only[Nat.add_zero] at d0;have NS:=zc ((HN.o.2.2.1 x (mG hx)).2);have ai:=zc hx;obtain⟨M,A⟩: ∃M,M=wr.alloc (.cells #[.int .i64 x.kind,.string x.name,.string x.loc,.string x.spec] 103):=⟨_,rfl⟩;have al:Bw wr M:=by rw[A];exact bA0
   have H:=zc (HU.o.later al);have hg:(wr.alloc (.cells #[.int .i64 x.kind,.string x.name,.string x.loc,.string x.spec] 103)).cell? ⟨w.heap.size,0,none⟩=some (.map (some b)):=by rw[<-A];exact Boxed.cell H.o.own
   clear al hc hx ha HU;cases ag:(x.kind==1) with
   |true=>
    gi_wp2;rw[<-A];refine znR (zfG b L 3 x.loc M H.o.cnt (zfH (by decide) (by decide) NS.o)) ?_;rintro e W4 ⟨rfl,hw⟩;rw[hw];clear hw W4 hg A;obtain⟨v,hv⟩: ∃v,v=decide (0<cnt L (3,x.loc)):=⟨_,rfl⟩;have HV:=zc hv;rw[<-hv];clear hv;cases v with
    |true=>
     have hz:=Boxed.cell H.o.res;have am:=Boxed.frozen H.o.res;have HR:Hid (m.ep.any (seI L)=true):=zjC ai.o (by rw[seI,ag,hB,<-HV.o];rfl);have hq:(M.setCell ⟨w.heap.size+1+1,0,none⟩ (.bool true)).heap[w.heap.size+1+1]? =some (.cells #[.bool true] 4):=by
      rw[zaj (i:=0) (u:=.bool true) H.o.res];rfl
     gi_wp2;exact⟨_,zjM rfl _ _ rfl (zjN hq),by rw[HR.o];rfl,H.o.bel.setCell (by show w.heap.size<=w.heap.size+1+1;omega) _⟩
    |false=>
     have ae:Hid ((m.ep.take (k+1)).any (seI L)=false):=zhS ai.o N.o (by rw[seI,ag,hB,<-HV.o];rfl);gi_wp2;go_roundw
     case rel=>exact⟨k+1,aa,by go_num,ae,H⟩
     case measure=>simp[intOf];omega
   |false=>
    have ae:Hid ((m.ep.take (k+1)).any (seI L)=false):=zhS ai.o N.o (by rw[seI,ag];rfl);gi_wp2;refine⟨trivial,?_⟩;gi_wp2;rw[<-A];go_roundw
    case rel=>exact⟨k+1,aa,by go_num,ae,H⟩
    case measure=>simp[intOf];omega
  ·obtain rfl:k=m.ep.length:=by omega
   rw[List.take_length] at N;obtain⟨c0,c1,c2,c3,c4,cf⟩:=zl HU.o.box;gi_wp2;refine znR (zxY V m _) ?_;rintro e w' ⟨rfl,rfl⟩;obtain⟨w2,Y⟩: ∃w2,wr.alloc (zfL V m)=w2:=⟨_,rfl⟩;have aj:Bw wr w2:=by rw[<-Y];exact bA0
   have H:=zc (HU.o.later aj);have NH:Hid (NmH V m wr.heap.size w2):=zc ⟨by rw[<-Y];exact hN0 wr _,HS.o.later H.o.bel,HX.o.later H.o.bel⟩;have LR:Hid (w.heap.size+1+1<wr.heap.size):=zc (aLt HU.o.res);have ah:Hid (wr.heap.size<=w2.heap.size):=zc aj.size
   have ap:Hid (∀k,NmB V m wr.heap.size k->¬k=w.heap.size+1+1):=zc (by
    have h0:=LR.o;rintro k (rfl|⟨hl,o,ha⟩|⟨hl,o,ha⟩)
    ·omega
    ·have:=HS.o.lt hl ha;omega
    ·have:=HX.o.lt hl ha;omega)
   obtain⟨gv,af⟩: ∃gv,gv=wr.heap.size:=⟨_,rfl⟩;rw[Y,<-af];rw[<-af] at NH LR ah ap;clear Y aj HU c0 c1 c2 c3 c4 cf af aa;gi_wp2;refine zxJ (gf:=200) rfl zxX (zxW V m gv (by omega) (by omega)) (fun U hU=>NH.o.same hU) (fun k hk=>NH.o.lt hk) rfl
    (fun I C W=>C=(fun k=>k=w.heap.size+1+1)/\W.heap[w.heap.size+1+1]? =some (.cells #[.bool false] 4)/\I.any (hB L 3)=false)
    (fun c I C W=>c= .ret/\C=(fun k=>k=w.heap.size+1+1)/\W.heap[w.heap.size+1+1]? =some (.cells #[.bool true] 4)/\I.any (hB L 3)=true)
    ?loc ?locx (fun k=>k=w.heap.size+1+1) (fun k hk=>ap.o k hk) (fun k hk=>by rw[hk];have:=LR.o;have:=ah.o;omega) ⟨rfl,H.o.res,rfl⟩
    (fun x=>{tmps:=#[.map (some b),.agg (bxA V m),.pointer (some ⟨w.heap.size,0,none⟩),.pointer (some ⟨w.heap.size+1,0,none⟩),.pointer (some ⟨w.heap.size+1+1,0,none⟩),undef,u6,.string x,.pointer (some ⟨w.heap.size+1,2,none⟩),.slice V.ep.a m.ep.length V.ep.cap,.int .i64 m.ep.length,.int .i64 m.ep.length,.bool false,u13,u14,u15,u16,u17,u18,u19,u20,u21,u22,u23,u24,.agg (bxA V m),.func (.func 200) #[] #[.pointer (some ⟨gv,0,none⟩)],.string x,undef,undef,undef],defers:=[]}) ?assign ?body ?done ?stop
   case loc=>
    rintro I C W W' ⟨rfl,h1,h2⟩ hs;exact⟨rfl,(hs _ rfl).trans h1,h2⟩
   case locx=>
    rintro c I C W W' ⟨h0,rfl,h1,h2⟩ hs;exact⟨h0,rfl,(hs _ rfl).trans h1,h2⟩
   case assign=>
    intro l m' x W K hK;gi_wp2;exact hK
   case body=>
    rintro l m' I x rest C1 W hx J ⟨rfl,q,Z⟩;have hg:W.heap[w.heap.size]? =some (.cells #[.map (some b)] 183):=(J.same w.heap.size (by have:=LR.o;have:=ah.o;omega) (by omega)).trans H.o.own;have ar:CntW W b L:=H.o.cnt.kept (J.same b H.o.cnt.lt (by have:=LB.o;omega));have hc:=Boxed.cell hg;have aw:x.size<=maxLen:=by
     have hm:x∈nmV m:=by rw[hx];simp
     rcases List.mem_append.1 hm with hm|hm
     ·obtain⟨y,hy,rfl⟩:=List.mem_map.1 hm;exact HN.o.2.1 y (List.mem_filter.1 hy).1
     ·obtain⟨y,hy,rfl⟩:=List.mem_map.1 hm;exact HN.o.2.2.2 y (List.mem_filter.1 hy).1
    have X: ∀k,k=w.heap.size+1+1->k<W.heap.size:=J.lt;clear hx hg;gi_wp2;refine zxK (zfG b L 3 x W ar (zfH (by decide) (by decide) aw)) ?_;rintro e O ⟨rfl,hw⟩;rw[hw];clear hw O;obtain⟨v,hv⟩: ∃v,v=decide (0<cnt L (3,x)):=⟨_,rfl⟩;have HV:=zc hv;rw[<-hv];clear hv;have an:(I++[x]).any (hB L 3)=v:=by rw[List.any_append,Z,List.any_cons,hB,<-HV.o];simp
    cases v with
    |true=>
     have hz:=Boxed.cell q;have am:=Boxed.frozen q;have hq:(W.setCell ⟨w.heap.size+1+1,0,none⟩ (.bool true)).heap[w.heap.size+1+1]? =some (.cells #[.bool true] 4):=by
      rw[zaj (i:=0) (u:=.bool true) q];rfl
     gi_wp2;exact⟨_,(Hd.refl X).stored (p:=⟨w.heap.size+1+1,0,none⟩) rfl (.bool true),rfl,rfl,hq,an⟩
    |false=>
     gi_wp2;exact⟨_,Hd.refl X,rfl,q,an⟩
   case done=>
    rintro D C1 W hD J ac ⟨rfl,q,Z⟩ hK;have hz:=Boxed.cell q;have am:=Boxed.frozen q;have hq:(W.setCell ⟨w.heap.size+1+1,0,none⟩ (.bool false)).heap[w.heap.size+1+1]? =some (.cells #[.bool false] 4):=by
     rw[zaj (i:=0) (u:=.bool false) q];rfl
    have HR:Hid ((m.ep.any (seI L)||(m.st.any (ssI L)||m.ex.any (sxI L)))=false):=zc (by rw[N.o,Bool.false_or];exact ak.o.symm.trans Z);have X: ∀k,k=w.heap.size+1+1->k<W.heap.size:=J.lt;have ax:=J.stored (p:=⟨w.heap.size+1+1,0,none⟩) rfl (.bool false);clear Z;gi_wp2;have au:=(Below.heap_setCell W ⟨w.heap.size+1+1,0,none⟩ (.bool false) D ac).trans hK;refine⟨by simp,.inl ⟨_,_,rfl,run_takeDeferred au,?_⟩⟩;exact⟨_,zjM rfl _ _ rfl (zjN ((World.putObj_heap_other (fun h=>ac h.symm)).trans hq)),by rw[HR.o],H.o.bel.trans ((ax.put hD _).old H.o.bel.size (by rintro k h;omega))⟩
   case stop=>
    rintro D c I C1 W hD aq J ac ⟨rfl,rfl,q,ao⟩ hK
    have HR:Hid ((m.ep.any (seI L)||(m.st.any (ssI L)||m.ex.any (sxI L)))=true):=zc (by
     rw[N.o,Bool.false_or];refine ak.o.symm.trans ?_;obtain⟨t,ht⟩:=aq
     rw[<-ht,List.any_append,ao,Bool.true_or])
    gi_wp2;refine⟨by simp,.inl ⟨_,_,rfl,run_takeDeferred hK,?_⟩⟩;exact⟨_,zjM rfl _ _ rfl (zjN ((World.putObj_heap_other (fun h=>ac h.symm)).trans q)),by rw[HR.o],H.o.bel.trans ((J.put hD _).old H.o.bel.size (by rintro k h;omega))⟩
open Go.Sort
theorem zyb (V:Sv) (m:Md) (ai:Bool) (w:World) (hI:RowAt w V.im.a imL 3 m.im) (hE:RowAt w V.ep.a epL 4 m.ep) (hS:RowAt w V.st.a smL 3 m.st) (hX:RowAt w V.ex.a exL 6 m.ex) (lI:m.im.length<=10000) (lE:m.ep.length<=10000) (lS:m.st.length<=10000) (lX:m.ex.length<=10000) (hN:zhR m) (hF:zcZ m.st):
  Calls prog 112 #[zo V m,.bool ai] w fun e w'=>e= .returned (.int .i64 (zax m))/\Bw w w':=by
 have h:Hid (Bw w (w.alloc (.cells (bxA V m) 59))):=bA0;have K:=zc (hN0 w (.cells (bxA V m) 59));have H:=zc (zh w (.cells (bxA V m) 59));have RI:=zc (hI.later h.o);have RE:=zc (hE.later h.o);have RS:=zc (hS.later h.o);have RX:=zc (hX.later h.o);have HN:=zc hN;have HF:=zc hF;clear hI hE hS hX hN hF;unfold zo;go_enter func112,ntmps112;go_wp2_with fail;refine (zx2 V m _ RI.o RE.o RS.o lI lE lS HN.o).mono ?_;obtain⟨W0,ae⟩: ∃W0,W0=w.alloc (.cells (bxA V m) 59):=⟨_,rfl⟩;rw[<-ae] at K h H RI RE RS RX ⊢;clear ae;rintro e W1 ⟨b,rfl,ad,ah,_⟩;have q:=zc ad;have B1:=zc ah;clear ad ah;obtain⟨L,hL⟩: ∃L,L=zby m:=⟨_,rfl⟩;have HL:=zc hL;rw[<-hL] at q;clear hL;go_wp2_with fail;refine (znM b L 1 _ q.o).mono ?_;rintro e W2 ⟨⟨t1,rfl,Y⟩,aa⟩;have N:Hid (t1=twB (zbY m)):=by
  show _=_;rw[HL.o,tw1 HF.o] at Y;exact Bool.eq_iff_iff.2 Y
 have B2:=zc (B1.o.trans (aa.mono B1.o.size));have M:=zc (q.o.kept (aa.block _ q.o.lt));clear Y aa B1 q;cases t1 with
 |true=>
  have A:Hid (zax m=1):=by show _=_;rw[zax,<-N.o];rfl
  go_wp2;go_ret;exact⟨zbP A.o.symm,h.o.trans (B2.o.mono (by rw[H.o];omega))⟩
 |false=>
  go_wp2_with fail;refine (znM b L 2 _ M.o).mono ?_;rintro e W3 ⟨⟨t2,rfl,Z⟩,ac⟩;have T2:Hid (t2=twB (epN m.ep)):=by
   show _=_;rw[HL.o,tw2] at Z;exact Bool.eq_iff_iff.2 Z
  have B3:=zc (B2.o.trans (ac.mono B2.o.size));have I:=zc (M.o.kept (ac.block _ M.o.lt));clear Z ac B2 M;cases t2 with
  |true=>
   have A:Hid (zax m=2):=by show _=_;rw[zax,<-N.o,<-T2.o];rfl
   go_wp2;go_ret;exact⟨zbP A.o.symm,h.o.trans (B3.o.mono (by rw[H.o];omega))⟩
  |false=>
   obtain⟨c0,c1,c2,c3,c4,cf⟩:=zl ((B3.o.block w.heap.size (by rw[H.o];omega)).trans K.o);go_wp2_with fail;refine (zx8 b L V.ep.a V.ep.cap m.ep _ I.o (RE.o.later B3.o) lE (fun x hx=>(HN.o.2.2.1 x hx).2)).mono ?_;rintro e W4 ⟨rfl,ab⟩;have U:Hid (m.ep.any (unI L)=unB (zbY m) m.ep):=by show _=_;rw[HL.o];exact zxF HF.o
   rw[U.o];have O:=zc (B3.o.trans (ab.mono B3.o.size));have J:=zc (I.o.kept (ab.block _ I.o.lt));clear ab B3 I U c0 c1 c2 c3 c4 cf;cases hu:unB (zbY m) m.ep with
   |true=>
    have A:Hid (zax m=3):=by show _=_;rw[zax,<-N.o,<-T2.o,hu];rfl
    go_wp2;go_ret;exact⟨zbP A.o.symm,h.o.trans (O.o.mono (by rw[H.o];omega))⟩
   |false=>
    obtain⟨c0,c1,c2,c3,c4,cf⟩:=zl ((O.o.block w.heap.size (by rw[H.o];omega)).trans K.o);go_wp2_with fail;refine (zya b L V m _ J.o (RE.o.later O.o) (RS.o.later O.o) (RX.o.later O.o) lE lS lX HN.o).mono ?_;rintro e W5 ⟨rfl,X⟩;have U:Hid ((m.ep.any (seI L)||(m.st.any (ssI L)||m.ex.any (sxI L)))=(seB m.im m.ep||sxB m.im m.ex||ssB m.im m.st)):=by show _=_;rw[HL.o];exact zxG N.o.symm
    rw[U.o];have B5:=zc (O.o.trans (X.mono O.o.size));have ag:=zc (J.o.kept (X.block _ J.o.lt));clear X O J U c0 c1 c2 c3 c4 cf;cases hs:(seB m.im m.ep||sxB m.im m.ex||ssB m.im m.st) with
    |true=>
     have A:Hid (zax m=4):=by show _=_;rw[zax,<-N.o,<-T2.o,hu,hs];rfl
     go_wp2;go_ret;exact⟨zbP A.o.symm,h.o.trans (B5.o.mono (by rw[H.o];omega))⟩
    |false=>
     obtain⟨c0,c1,c2,c3,c4,cf⟩:=zl ((B5.o.block w.heap.size (by rw[H.o];omega)).trans K.o);go_wp2_with fail;refine (zx9 b L V.ex.a V.ex.cap m.ex _ ag.o (RX.o.later B5.o) lX HN.o.2.2.2).mono ?_;rintro e W6 ⟨rfl,af⟩;have U:Hid (m.ex.any (mxI L)=mxB m.im m.ex):=by show _=_;rw[HL.o];exact zxH N.o.symm
     rw[U.o];have B6:=zc (B5.o.trans (af.mono B5.o.size));clear af B5 ag U c0 c1 c2 c3 c4 cf;cases hm:mxB m.im m.ex with
     |true=>
      have A:Hid (zax m=5):=by show _=_;rw[zax,<-N.o,<-T2.o,hu,hs,hm];rfl
      go_wp2;go_ret;exact⟨zbP A.o.symm,h.o.trans (B6.o.mono (by rw[H.o];omega))⟩
     |false=>
      have A:Hid (zax m=0):=by show _=_;rw[zax,<-N.o,<-T2.o,hu,hs,hm];rfl
      go_wp2;go_ret;exact⟨zbP A.o.symm,h.o.trans (B6.o.mono (by rw[H.o];omega))⟩
