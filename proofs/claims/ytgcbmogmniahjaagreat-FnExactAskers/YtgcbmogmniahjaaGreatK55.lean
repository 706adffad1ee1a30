/- Facts and walks. -/
import Derived.Test.YtgcbmogmniahjaaGreatK46
import Derived.Test.YtgcbmogmniahjaaGreatK54
namespace Go.Proofs.YtgcbmogmniahjaaGreat
open Go.Proofs.Tryz
set_option maxRecDepth 100000
set_option maxHeartbeats 6400000
open Go.RowKit Go.PlainAid Go.Shelf
theorem zwr (m:Md) (f:BA->Bool):(nmV m).any f=(m.st.any (fun x=>x.kind==3&&f x.name)||m.ex.any (fun x=>(x.kind==2||x.kind==3)&&f x.name)):=by
 rw[nmV,List.any_append,zbb,zaO,List.any_map,List.any_map,List.any_filter,List.any_filter];rfl
structure SpW (w:World) (b:Nat) (L:List (Int×BA)) (bx:Obj) (W:World):Prop where
 cnt:CntW W b L
 own:W.heap[w.heap.size]? =some (.cells #[.map (some b)] 139)
 box:W.heap[w.heap.size+1]? =some bx
 res:W.heap[w.heap.size+1+1]? =some (.cells #[.bool false] 4)
 bel:Bw w W
variable {w:World} {W:Value}
theorem SpW.later {b:Nat} {L:List (Int×BA)} {A:Obj} {W z:World} (h:SpW w b L A W) (q:Bw W z):SpW w b L A z:=
 ⟨h.cnt.kept (q.block b h.cnt.lt),zfu h.own q,zfu h.box q,zfu h.res q,h.bel.trans (q.mono h.bel.size)⟩
theorem ziY {P:Program} {z:Func} {p:Tmp} {t:TypeId} (h:z.results= #[.cell p t]) (tmps:Array Value) (w:World) {a:Addr} (D:tmps.getD p undef= .pointer (some a)) (A:(loadVar t a).run P w= .ok W w):(results z tmps).run P w= .ok W w:=by
 have q:tmps[p]?.getD undef= .pointer (some a):=by simpa using D
 simp only[results,h];simp[asAddr,q,A]
theorem ziZ {b:Nat} (h:w.heap[b]? =some (.cells #[W] 4)):(loadVar 4 ⟨b,0,none⟩).run prog w= .ok W w:=by
 have q:w.cell? ⟨b,0,none⟩=some W:=by simp[World.cell?,h]
 simp[loadVar,isAgg,underlying,Sem.run_bind,Result.andThen,go_sem,underlying4,q]
theorem Hd.stored {C z:Nat->Prop} {q:World} (h:Hd C w z q) {p:Addr} (E:z p.block) (v:Value):Hd C w z (q.setCell p v):=
 ⟨h.os,h.tape,h.output,by show _<=(q.heap.modify _ _).size;rw[Array.size_modify];exact h.size,
  fun k S D=>(Below.heap_setCell q p v k (fun e=>(h.sub _ E).elim (fun A=>D (e▸A)) (fun A=>by omega))).trans (h.same k S D),h.sub,
  fun k S=>by show _<(q.heap.modify _ _).size;rw[Array.size_modify];exact h.lt k S⟩
attribute [local go_sem] Oper.semAt_some
theorem zws (b:Nat) (L:List (Int×BA)) (V:Sv) (m:Md) (w:World) (h:CntW w b L) (hE:RowAt w V.ep.a epL 4 m.ep) (hS:RowAt w V.st.a smL 3 m.st) (hX:RowAt w V.ex.a exL 6 m.ex) (lE:m.ep.length<=10000) (lS:m.st.length<=10000) (lX:m.ex.length<=10000) (hn:zhl m):
  Calls prog 101 #[.map (some b),zl V m] w fun e w'=>e= .returned (.bool (m.ep.any (seI L)||(m.st.any (ssI L)||m.ex.any (sxI L))))/\Bw w w':=by
 have HN:=zc hn;obtain⟨n,ar⟩: ∃n:Nat,n=3:=⟨_,rfl⟩;clear hn ar;refine (callsIn_wide (n:=n)).1 ?_;refine callsIn_of_wp_marks func101 rfl trivial ?_ rfl;simp only[ntmps101,List.size_toArray,List.length_cons,List.length_nil,Nat.reduceAdd,Nat.reduceSub,Array.replicate_succ,Array.replicate_zero,List.push_toArray,List.append_toArray,List.nil_append,List.cons_append];obtain⟨M,Z⟩: ∃M,w.alloc (.cells #[.map (some b)] 139)=M:=⟨_,rfl⟩;have e1:M.heap.size=w.heap.size+1:=by rw[<-Z,zg]
 obtain⟨I,z⟩: ∃I,M.alloc (.cells #[.slice V.rq.a m.rq.length V.rq.cap,.slice V.im.a m.im.length V.im.cap,.slice V.ep.a m.ep.length V.ep.cap,.slice V.st.a m.st.length V.st.cap,.slice V.ex.a m.ex.length V.ex.cap] 54)=I:=⟨_,rfl⟩;have e2:I.heap.size=w.heap.size+1+1:=by rw[<-z,zg,e1]
 obtain⟨w0,ab⟩: ∃w0,I.alloc (.cells #[.bool false] 4)=w0:=⟨_,rfl⟩;have e0:w0.heap.size=w.heap.size+1+1+1:=by rw[<-ab,zg,e2]
 have b1:Bw w M:=by rw[<-Z];exact bA0
 have b2:Bw M I:=by rw[<-z];exact bA0
 have b3:Bw I w0:=by rw[<-ab];exact bA0
 have S0:Hid (SpW w b L (zft V m) w0):=by
  have x1:M.heap[w.heap.size]? =some (.cells #[.map (some b)] 139):=by rw[<-Z];exact heap_alloc_new w _
  have x2:I.heap[w.heap.size+1]? =some (zft V m):=by rw[<-z,<-e1];exact heap_alloc_new M _
  have x3:w0.heap[w.heap.size+1+1]? =some (.cells #[.bool false] 4):=by rw[<-ab,<-e2];exact heap_alloc_new I _
  have bb:Bw w w0:=b1.trans ((b2.trans (b3.mono b2.size)).mono b1.size);exact zc ⟨h.kept (bb.block b h.lt),zfu (zfu x1 b2) b3,zfu x2 b3,x3,bb⟩
 have HE:=zc hE;have HS:=zc hS;have HX:=zc hX;have L0:Hid (w0.heap.size=w.heap.size+1+1+1):=zc e0;have LB:Hid (b<w.heap.size):=zc h.lt;have ai:=zc (zwr m (hB L 3));unfold zl;clear h hE hS hX b1 b2 b3;obtain⟨c0,c1,c2,c3,c4,cf⟩:=zj S0.o.box;clear e0;gi_wp2;clear Z z ab e1 e2;gi_loopw [11] (fun i wr=>∃k:Nat,k<=m.ep.length/\i= .int .i64 k/\Hid ((m.ep.take k).any (seI L)=false)/\Hid (SpW w b L (zft V m) wr)) (fun i _=>(m.ep.length-intOf i).toNat)
 case atStart=>exact⟨0,Nat.zero_le _,rfl,zc rfl,S0⟩
 case round=>
  obtain⟨k,hk,rfl,J,HU⟩:=hrel;clear S0 c0 c1 c2 c3 c4 cf;by_cases Y:k<m.ep.length
  ·obtain⟨x,hx⟩: ∃x,m.ep[k]? =some x:=⟨_,List.getElem?_eq_getElem Y⟩;obtain⟨b1,aw,ha,hc⟩:=(HE.o.later HU.o.bel).get hx;rw[ha];have d0:=hc 0 _ rfl;have d1:=hc 1 _ rfl;have d2:=hc 2 _ rfl;have d3:=hc 3 _ rfl;simp only[Nat.add_zero] at d0;have NS:=zc ((HN.o.2.2.1 x (List.mem_of_getElem? hx)).2);have ag:=zc hx;obtain⟨I,z⟩: ∃I,I=wr.alloc (.cells #[.int .i64 x.kind,.string x.name,.string x.loc,.string x.spec] 97):=⟨_,rfl⟩;have aj:Bw wr I:=by rw[z];exact bA0
   have A:=zc (HU.o.later aj);have hg:(wr.alloc (.cells #[.int .i64 x.kind,.string x.name,.string x.loc,.string x.spec] 97)).cell? ⟨w.heap.size,0,none⟩=some (.map (some b)):=by rw[<-z];exact Boxed.cell A.o.own
   clear aj hc hx ha HU;cases ae:(x.kind==1) with
   |true=>
    gi_wp2;rw[<-z];refine zmU (zfo b L 3 x.loc I A.o.cnt (zfp (by decide) (by decide) NS.o)) ?_;rintro e W4 ⟨rfl,hw⟩;rw[hw];clear hw W4 hg z;obtain⟨v,hv⟩: ∃v,v=decide (0<cnt L (3,x.loc)):=⟨_,rfl⟩;have HV:=zc hv;rw[<-hv];clear hv;cases v with
    |true=>
     have hz:=Boxed.cell A.o.res;have ak:=Boxed.frozen A.o.res;have HR:Hid (m.ep.any (seI L)=true):=ziO ag.o (by rw[seI,ae,hB,<-HV.o];rfl);have hq:(I.setCell ⟨w.heap.size+1+1,0,none⟩ (.bool true)).heap[w.heap.size+1+1]? =some (.cells #[.bool true] 4):=by
      rw[zae (i:=0) (u:=.bool true) A.o.res];rfl
     gi_wp2;exact⟨_,ziY rfl _ _ rfl (ziZ hq),by rw[HR.o];rfl,A.o.bel.setCell (by show w.heap.size<=w.heap.size+1+1;omega) _⟩
    |false=>
     have ac:Hid ((m.ep.take (k+1)).any (seI L)=false):=zhm ag.o J.o (by rw[seI,ae,hB,<-HV.o];rfl);gi_wp2;go_roundw
     case rel=>exact⟨k+1,Y,by go_num,ac,A⟩
     case measure=>simp[intOf];omega
   |false=>
    have ac:Hid ((m.ep.take (k+1)).any (seI L)=false):=zhm ag.o J.o (by rw[seI,ae];rfl);gi_wp2;refine⟨trivial,?_⟩;gi_wp2;rw[<-z];go_roundw
    case rel=>exact⟨k+1,Y,by go_num,ac,A⟩
    case measure=>simp[intOf];omega
  ·obtain rfl:k=m.ep.length:=by omega
   rw[List.take_length] at J;obtain⟨c0,c1,c2,c3,c4,cf⟩:=zj HU.o.box;gi_wp2;refine zmU (zwq V m _) ?_;rintro e w' ⟨rfl,rfl⟩;obtain⟨w2,O⟩: ∃w2,wr.alloc (zft V m)=w2:=⟨_,rfl⟩;have ah:Bw wr w2:=by rw[<-O];exact bA0
   have A:=zc (HU.o.later ah);have NH:Hid (NmH V m wr.heap.size w2):=zc ⟨by rw[<-O];exact heap_alloc_new wr _,HS.o.later A.o.bel,HX.o.later A.o.bel⟩;have LR:Hid (w.heap.size+1+1<wr.heap.size):=zc (aLt HU.o.res);have af:Hid (wr.heap.size<=w2.heap.size):=zc ah.size
   have an:Hid (∀k,NmB V m wr.heap.size k->¬k=w.heap.size+1+1):=zc (by
    have h0:=LR.o;rintro k (rfl|⟨hl,o,ha⟩|⟨hl,o,ha⟩)
    ·omega
    ·have:=HS.o.lt hl ha;omega
    ·have:=HX.o.lt hl ha;omega)
   obtain⟨gv,ad⟩: ∃gv,gv=wr.heap.size:=⟨_,rfl⟩;rw[O,<-ad];rw[<-ad] at NH LR af an;clear O ah HU c0 c1 c2 c3 c4 cf ad Y;gi_wp2;refine zwb (gf:=178) rfl zwp (zwo V m gv (by omega) (by omega)) (fun U hU=>NH.o.same hU) (fun k hk=>NH.o.lt hk) rfl
    (fun E C W=>C=(fun k=>k=w.heap.size+1+1)/\W.heap[w.heap.size+1+1]? =some (.cells #[.bool false] 4)/\E.any (hB L 3)=false)
    (fun c E C W=>c= .ret/\C=(fun k=>k=w.heap.size+1+1)/\W.heap[w.heap.size+1+1]? =some (.cells #[.bool true] 4)/\E.any (hB L 3)=true)
    ?loc ?locx (fun k=>k=w.heap.size+1+1) (fun k hk=>an.o k hk) (fun k hk=>by rw[hk];have:=LR.o;have:=af.o;omega) ⟨rfl,A.o.res,rfl⟩
    (fun x=>{tmps:=#[.map (some b),.agg #[.slice V.rq.a m.rq.length V.rq.cap,.slice V.im.a m.im.length V.im.cap,.slice V.ep.a m.ep.length V.ep.cap,.slice V.st.a m.st.length V.st.cap,.slice V.ex.a m.ex.length V.ex.cap],.pointer (some ⟨w.heap.size,0,none⟩),.pointer (some ⟨w.heap.size+1,0,none⟩),.pointer (some ⟨w.heap.size+1+1,0,none⟩),undef,u6,.string x,.pointer (some ⟨w.heap.size+1,2,none⟩),.slice V.ep.a m.ep.length V.ep.cap,.int .i64 m.ep.length,.int .i64 m.ep.length,.bool false,u13,u14,u15,u16,u17,u18,u19,u20,u21,u22,u23,u24,.agg #[.slice V.rq.a m.rq.length V.rq.cap,.slice V.im.a m.im.length V.im.cap,.slice V.ep.a m.ep.length V.ep.cap,.slice V.st.a m.st.length V.st.cap,.slice V.ex.a m.ex.length V.ex.cap],.func (.func 178) #[] #[.pointer (some ⟨gv,0,none⟩)],.string x,undef,undef,undef],defers:=[]}) ?assign ?body ?done ?stop
   case loc=>
    rintro E C W W' ⟨rfl,h1,h2⟩ hs;exact⟨rfl,(hs _ rfl).trans h1,h2⟩
   case locx=>
    rintro c E C W W' ⟨h0,rfl,h1,h2⟩ hs;exact⟨h0,rfl,(hs _ rfl).trans h1,h2⟩
   case assign=>
    intro l m' x W K hK;gi_wp2;exact hK
   case body=>
    rintro l m' E x rest C1 W hx H ⟨rfl,q,X⟩;have hg:W.heap[w.heap.size]? =some (.cells #[.map (some b)] 139):=(H.same w.heap.size (by have:=LR.o;have:=af.o;omega) (by omega)).trans A.o.own;have ap:CntW W b L:=A.o.cnt.kept (H.same b A.o.cnt.lt (by have:=LB.o;omega));have hc:=Boxed.cell hg;have au:x.size<=maxLen:=by
     have hm:x∈nmV m:=by rw[hx];simp
     rcases List.mem_append.1 hm with hm|hm
     ·obtain⟨y,hy,rfl⟩:=List.mem_map.1 hm;exact HN.o.2.1 y (List.mem_filter.1 hy).1
     ·obtain⟨y,hy,rfl⟩:=List.mem_map.1 hm;exact HN.o.2.2.2 y (List.mem_filter.1 hy).1
    have N: ∀k,k=w.heap.size+1+1->k<W.heap.size:=H.lt;clear hx hg;gi_wp2;refine zwc (zfo b L 3 x W ap (zfp (by decide) (by decide) au)) ?_;rintro e M ⟨rfl,hw⟩;rw[hw];clear hw M;obtain⟨v,hv⟩: ∃v,v=decide (0<cnt L (3,x)):=⟨_,rfl⟩;have HV:=zc hv;rw[<-hv];clear hv;have al:(E++[x]).any (hB L 3)=v:=by rw[List.any_append,X,List.any_cons,hB,<-HV.o];simp
    cases v with
    |true=>
     have hz:=Boxed.cell q;have ak:=Boxed.frozen q;have hq:(W.setCell ⟨w.heap.size+1+1,0,none⟩ (.bool true)).heap[w.heap.size+1+1]? =some (.cells #[.bool true] 4):=by
      rw[zae (i:=0) (u:=.bool true) q];rfl
     gi_wp2;exact⟨_,(Hd.refl N).stored (p:=⟨w.heap.size+1+1,0,none⟩) rfl (.bool true),rfl,rfl,hq,al⟩
    |false=>
     gi_wp2;exact⟨_,Hd.refl N,rfl,q,al⟩
   case done=>
    rintro D C1 W hD H aa ⟨rfl,q,X⟩ hK;have hz:=Boxed.cell q;have ak:=Boxed.frozen q;have hq:(W.setCell ⟨w.heap.size+1+1,0,none⟩ (.bool false)).heap[w.heap.size+1+1]? =some (.cells #[.bool false] 4):=by
     rw[zae (i:=0) (u:=.bool false) q];rfl
    have HR:Hid ((m.ep.any (seI L)||(m.st.any (ssI L)||m.ex.any (sxI L)))=false):=zc (by rw[J.o,Bool.false_or];exact ai.o.symm.trans X);have N: ∀k,k=w.heap.size+1+1->k<W.heap.size:=H.lt;have av:=H.stored (p:=⟨w.heap.size+1+1,0,none⟩) rfl (.bool false);clear X;gi_wp2;have aq:=(Below.heap_setCell W ⟨w.heap.size+1+1,0,none⟩ (.bool false) D aa).trans hK;refine⟨by simp,.inl ⟨_,_,rfl,run_takeDeferred aq,?_⟩⟩;exact⟨_,ziY rfl _ _ rfl (ziZ ((World.putObj_heap_other (fun h=>aa h.symm)).trans hq)),by rw[HR.o],A.o.bel.trans ((av.put hD _).old A.o.bel.size (by rintro k h;omega))⟩
   case stop=>
    rintro D c E C1 W hD ao H aa ⟨rfl,rfl,q,am⟩ hK
    have HR:Hid ((m.ep.any (seI L)||(m.st.any (ssI L)||m.ex.any (sxI L)))=true):=zc (by
     rw[J.o,Bool.false_or];refine ai.o.symm.trans ?_;obtain⟨t,ht⟩:=ao
     rw[<-ht,List.any_append,am,Bool.true_or])
    gi_wp2;refine⟨by simp,.inl ⟨_,_,rfl,run_takeDeferred hK,?_⟩⟩;exact⟨_,ziY rfl _ _ rfl (ziZ ((World.putObj_heap_other (fun h=>aa h.symm)).trans q)),by rw[HR.o],A.o.bel.trans ((H.put hD _).old A.o.bel.size (by rintro k h;omega))⟩
open Go.Sort
theorem zwt (V:Sv) (m:Md) (af:Bool) (w:World) (hI:RowAt w V.im.a imL 3 m.im) (hE:RowAt w V.ep.a epL 4 m.ep) (hS:RowAt w V.st.a smL 3 m.st) (hX:RowAt w V.ex.a exL 6 m.ex) (lI:m.im.length<=10000) (lE:m.ep.length<=10000) (lS:m.st.length<=10000) (lX:m.ex.length<=10000) (hN:zhl m) (hF:zcL m.st):
  Calls prog 66 #[zl V m,.bool af] w fun e w'=>e= .returned (.int .i64 (zat m))/\Bw w w':=by
 have h:Hid (Bw w (w.alloc (.cells #[.slice V.rq.a m.rq.length V.rq.cap,.slice V.im.a m.im.length V.im.cap,.slice V.ep.a m.ep.length V.ep.cap,.slice V.st.a m.st.length V.st.cap,.slice V.ex.a m.ex.length V.ex.cap] 54))):=bA0;have H:=zc (heap_alloc_new w (.cells #[.slice V.rq.a m.rq.length V.rq.cap,.slice V.im.a m.im.length V.im.cap,.slice V.ep.a m.ep.length V.ep.cap,.slice V.st.a m.st.length V.st.cap,.slice V.ex.a m.ex.length V.ex.cap] 54));have A:=zc (zg w (.cells #[.slice V.rq.a m.rq.length V.rq.cap,.slice V.im.a m.im.length V.im.cap,.slice V.ep.a m.ep.length V.ep.cap,.slice V.st.a m.st.length V.st.cap,.slice V.ex.a m.ex.length V.ex.cap] 54));have RI:=zc (hI.later h.o);have RE:=zc (hE.later h.o);have RS:=zc (hS.later h.o);have RX:=zc (hX.later h.o);have HN:=zc hN;have HF:=zc hF;clear hI hE hS hX hN hF;unfold zl;go_enter func66,ntmps66;go_wp2_with fail;refine (zvK V m _ RI.o RE.o RS.o lI lE lS HN.o).mono ?_;obtain⟨W0,ab⟩: ∃W0,W0=w.alloc (.cells #[.slice V.rq.a m.rq.length V.rq.cap,.slice V.im.a m.im.length V.im.cap,.slice V.ep.a m.ep.length V.ep.cap,.slice V.st.a m.st.length V.st.cap,.slice V.ex.a m.ex.length V.ex.cap] 54):=⟨_,rfl⟩;rw[<-ab] at H h A RI RE RS RX ⊢;clear ab;rintro e W1 ⟨b,rfl,aa,ae,_⟩;have q:=zc aa;have B1:=zc ae;clear aa ae;obtain⟨L,hL⟩: ∃L,L=zbq m:=⟨_,rfl⟩;have HL:=zc hL;rw[<-hL] at q;clear hL;go_wp2_with fail;refine (zmP b L 1 _ q.o).mono ?_;rintro e W2 ⟨⟨t1,rfl,N⟩,X⟩;have J:Hid (t1=twB (zbP m)):=by
  show _=_;rw[HL.o,tw1 HF.o] at N;exact Bool.eq_iff_iff.2 N
 have B2:=zc (B1.o.trans (X.mono B1.o.size));have I:=zc (q.o.kept (X.block _ q.o.lt));clear N X B1 q;cases t1 with
 |true=>
  have z:Hid (zat m=1):=by show _=_;rw[zat,<-J.o];rfl
  go_wp2;go_ret;exact⟨zbG z.o.symm,h.o.trans (B2.o.mono (by rw[A.o];omega))⟩
 |false=>
  go_wp2_with fail;refine (zmP b L 2 _ I.o).mono ?_;rintro e W3 ⟨⟨t2,rfl,O⟩,Z⟩;have T2:Hid (t2=twB (epN m.ep)):=by
   show _=_;rw[HL.o,tw2] at O;exact Bool.eq_iff_iff.2 O
  have B3:=zc (B2.o.trans (Z.mono B2.o.size));have D:=zc (I.o.kept (Z.block _ I.o.lt));clear O Z B2 I;cases t2 with
  |true=>
   have z:Hid (zat m=2):=by show _=_;rw[zat,<-J.o,<-T2.o];rfl
   go_wp2;go_ret;exact⟨zbG z.o.symm,h.o.trans (B3.o.mono (by rw[A.o];omega))⟩
  |false=>
   obtain⟨c0,c1,c2,c3,c4,cf⟩:=zj ((B3.o.block w.heap.size (by rw[A.o];omega)).trans H.o);go_wp2_with fail;refine (zvQ b L V.ep.a V.ep.cap m.ep _ D.o (RE.o.later B3.o) lE (fun x hx=>(HN.o.2.2.1 x hx).2)).mono ?_;rintro e W4 ⟨rfl,Y⟩;have U:Hid (m.ep.any (unI L)=unB (zbP m) m.ep):=by show _=_;rw[HL.o];exact zvX HF.o
   rw[U.o];have K:=zc (B3.o.trans (Y.mono B3.o.size));have E:=zc (D.o.kept (Y.block _ D.o.lt));clear Y B3 D U c0 c1 c2 c3 c4 cf;cases hu:unB (zbP m) m.ep with
   |true=>
    have z:Hid (zat m=3):=by show _=_;rw[zat,<-J.o,<-T2.o,hu];rfl
    go_wp2;go_ret;exact⟨zbG z.o.symm,h.o.trans (K.o.mono (by rw[A.o];omega))⟩
   |false=>
    obtain⟨c0,c1,c2,c3,c4,cf⟩:=zj ((K.o.block w.heap.size (by rw[A.o];omega)).trans H.o);go_wp2_with fail;refine (zws b L V m _ E.o (RE.o.later K.o) (RS.o.later K.o) (RX.o.later K.o) lE lS lX HN.o).mono ?_;rintro e W5 ⟨rfl,M⟩;have U:Hid ((m.ep.any (seI L)||(m.st.any (ssI L)||m.ex.any (sxI L)))=(seB m.im m.ep||sxB m.im m.ex||ssB m.im m.st)):=by show _=_;rw[HL.o];exact zvY J.o.symm
    rw[U.o];have B5:=zc (K.o.trans (M.mono K.o.size));have ad:=zc (E.o.kept (M.block _ E.o.lt));clear M K E U c0 c1 c2 c3 c4 cf;cases hs:(seB m.im m.ep||sxB m.im m.ex||ssB m.im m.st) with
    |true=>
     have z:Hid (zat m=4):=by show _=_;rw[zat,<-J.o,<-T2.o,hu,hs];rfl
     go_wp2;go_ret;exact⟨zbG z.o.symm,h.o.trans (B5.o.mono (by rw[A.o];omega))⟩
    |false=>
     obtain⟨c0,c1,c2,c3,c4,cf⟩:=zj ((B5.o.block w.heap.size (by rw[A.o];omega)).trans H.o);go_wp2_with fail;refine (zvR b L V.ex.a V.ex.cap m.ex _ ad.o (RX.o.later B5.o) lX HN.o.2.2.2).mono ?_;rintro e W6 ⟨rfl,ac⟩;have U:Hid (m.ex.any (mxI L)=mxB m.im m.ex):=by show _=_;rw[HL.o];exact zvZ J.o.symm
     rw[U.o];have B6:=zc (B5.o.trans (ac.mono B5.o.size));clear ac B5 ad U c0 c1 c2 c3 c4 cf;cases hm:mxB m.im m.ex with
     |true=>
      have z:Hid (zat m=5):=by show _=_;rw[zat,<-J.o,<-T2.o,hu,hs,hm];rfl
      go_wp2;go_ret;exact⟨zbG z.o.symm,h.o.trans (B6.o.mono (by rw[A.o];omega))⟩
     |false=>
      have z:Hid (zat m=0):=by show _=_;rw[zat,<-J.o,<-T2.o,hu,hs,hm];rfl
      go_wp2;go_ret;exact⟨zbG z.o.symm,h.o.trans (B6.o.mono (by rw[A.o];omega))⟩
end Go.Proofs.YtgcbmogmniahjaaGreat
