/- Facts and walks that the theorem stands on. -/
import Derived.Test.YtgcbmogmniahjaaGreatA46
import Derived.Test.YtgcbmogmniahjaaGreatA54
namespace Go.Proofs.YtgcbmogmniahjaaGreat
open Go.Proofs.Tryz
set_option maxRecDepth 100000
set_option maxHeartbeats 6400000
open Go.RowKit Go.PlainAid Go.Shelf
theorem zvV (m:Md) (f:BA->Bool):(nmV m).any f=(m.st.any (fun x=>x.kind==3&&f x.name)||m.ex.any (fun x=>(x.kind==2||x.kind==3)&&f x.name)):=by
 rw[nmV,List.any_append,zaZ,zaN,List.any_map,List.any_map,List.any_filter,List.any_filter];rfl
structure SpW (w:World) (b:Nat) (L:List (Int×BA)) (bx:Obj) (W:World):Prop where
 cnt:CntW W b L
 own:W.heap[w.heap.size]? =some (.cells #[.map (some b)] 139)
 box:W.heap[w.heap.size+1]? =some bx
 res:W.heap[w.heap.size+1+1]? =some (.cells #[.bool false] 4)
 bel:Below w.heap.size w W
theorem SpW.later {w:World} {b:Nat} {L:List (Int×BA)} {A:Obj} {W z:World} (h:SpW w b L A W) (q:Below W.heap.size W z):SpW w b L A z:=
 ⟨h.cnt.kept (q.block b h.cnt.lt),zfk h.own q,zfk h.box q,zfk h.res q,h.bel.trans (q.mono h.bel.size)⟩
theorem ziP {P:Program} {z:Func} {p:Tmp} {t:TypeId} (h:z.results= #[.cell p t]) (tmps:Array Value) (w:World) {a:Addr} {x:Value} (H:tmps.getD p undef= .pointer (some a)) (A:(loadVar t a).run P w= .ok x w):(results z tmps).run P w= .ok x w:=by
 have q:tmps[p]?.getD undef= .pointer (some a):=by simpa using H
 simp only[results,h];simp[asAddr,q,A]
theorem ziQ {w:World} {b:Nat} {v:Value} (h:w.heap[b]? =some (.cells #[v] 4)):(loadVar 4 ⟨b,0,none⟩).run prog w= .ok v w:=by
 have q:w.cell? ⟨b,0,none⟩=some v:=by simp[World.cell?,h]
 simp[loadVar,isAgg,underlying,Sem.run_bind,Result.andThen,go_sem,underlying4,q]
theorem Hd.stored {C z:Nat->Prop} {W q:World} (h:Hd C W z q) {p:Addr} (I:z p.block) (v:Value):Hd C W z (q.setCell p v):=
 ⟨h.os,h.tape,h.output,by show _<=(q.heap.modify _ _).size;rw[Array.size_modify];exact h.size,
  fun k w H=>(Below.heap_setCell q p v k (fun e=>(h.sub _ I).elim (fun A=>H (e▸A)) (fun A=>by omega))).trans (h.same k w H),h.sub,
  fun k w=>by show _<(q.heap.modify _ _).size;rw[Array.size_modify];exact h.lt k w⟩
attribute [local go_sem] Oper.semAt_some
theorem zvW (b:Nat) (L:List (Int×BA)) (V:Sv) (m:Md) (w:World) (h:CntW w b L) (hE:RowAt w V.ep.a epL 4 m.ep) (hS:RowAt w V.st.a smL 3 m.st) (hX:RowAt w V.ex.a exL 6 m.ex) (lE:m.ep.length<=10000) (lS:m.st.length<=10000) (lX:m.ex.length<=10000) (hn:zhb m):
  Calls prog 101 #[.map (some b),zl V m] w fun e w'=>e= .returned (.bool (m.ep.any (seI L)||(m.st.any (ssI L)||m.ex.any (sxI L))))/\Below w.heap.size w w':=by
 have HN:=zc hn;obtain⟨n,au⟩: ∃n:Nat,n=3:=⟨_,rfl⟩;clear hn au;refine (callsIn_wide (n:=n)).1 ?_;refine callsIn_of_wp_marks func101 rfl trivial ?_ rfl;simp only[ntmps101,List.size_toArray,List.length_cons,List.length_nil,Nat.reduceAdd,Nat.reduceSub,Array.replicate_succ,Array.replicate_zero,List.push_toArray,List.append_toArray,List.nil_append,List.cons_append];obtain⟨N,aa⟩: ∃N,w.alloc (.cells #[.map (some b)] 139)=N:=⟨_,rfl⟩;have e1:N.heap.size=w.heap.size+1:=by rw[<-aa,zg]
 obtain⟨J,z⟩: ∃J,N.alloc (.cells #[.slice V.rq.a m.rq.length V.rq.cap,.slice V.im.a m.im.length V.im.cap,.slice V.ep.a m.ep.length V.ep.cap,.slice V.st.a m.st.length V.st.cap,.slice V.ex.a m.ex.length V.ex.cap] 54)=J:=⟨_,rfl⟩;have e2:J.heap.size=w.heap.size+1+1:=by rw[<-z,zg,e1]
 obtain⟨w0,ac⟩: ∃w0,J.alloc (.cells #[.bool false] 4)=w0:=⟨_,rfl⟩;have e0:w0.heap.size=w.heap.size+1+1+1:=by rw[<-ac,zg,e2]
 have b1:Below w.heap.size w N:=by rw[<-aa];exact (Below.refl _ _).alloc (Nat.le_refl _) _
 have b2:Below N.heap.size N J:=by rw[<-z];exact (Below.refl _ _).alloc (Nat.le_refl _) _
 have b3:Below J.heap.size J w0:=by rw[<-ac];exact (Below.refl _ _).alloc (Nat.le_refl _) _
 have S0:Hid (SpW w b L (zfj V m) w0):=by
  have x1:N.heap[w.heap.size]? =some (.cells #[.map (some b)] 139):=by rw[<-aa];exact heap_alloc_new w _
  have x2:J.heap[w.heap.size+1]? =some (zfj V m):=by rw[<-z,<-e1];exact heap_alloc_new N _
  have x3:w0.heap[w.heap.size+1+1]? =some (.cells #[.bool false] 4):=by rw[<-ac,<-e2];exact heap_alloc_new J _
  have bb:Below w.heap.size w w0:=b1.trans ((b2.trans (b3.mono b2.size)).mono b1.size);exact zc ⟨h.kept (bb.block b h.lt),zfk (zfk x1 b2) b3,zfk x2 b3,x3,bb⟩
 have HE:=zc hE;have HS:=zc hS;have HX:=zc hX;have L0:Hid (w0.heap.size=w.heap.size+1+1+1):=zc e0;have LB:Hid (b<w.heap.size):=zc h.lt;have aj:=zc (zvV m (hB L 3));unfold zl;clear h hE hS hX b1 b2 b3;obtain⟨c0,c1,c2,c3,c4,cf⟩:=zj S0.o.box;clear e0;gi_wp2;clear aa z ac e1 e2;gi_loopw [11] (fun i wr=>∃k:Nat,k<=m.ep.length/\i= .int .i64 k/\Hid ((m.ep.take k).any (seI L)=false)/\Hid (SpW w b L (zfj V m) wr)) (fun i _=>(m.ep.length-intOf i).toNat)
 case atStart=>exact⟨0,Nat.zero_le _,rfl,zc rfl,S0⟩
 case round=>
  obtain⟨k,hk,rfl,M,HU⟩:=hrel;clear S0 c0 c1 c2 c3 c4 cf;by_cases Z:k<m.ep.length
  ·obtain⟨x,hx⟩: ∃x,m.ep[k]? =some x:=⟨_,List.getElem?_eq_getElem Z⟩;obtain⟨b1,ax,ha,hc⟩:=(HE.o.later HU.o.bel).get hx;rw[ha];have d0:=hc 0 _ rfl;have d1:=hc 1 _ rfl;have d2:=hc 2 _ rfl;have d3:=hc 3 _ rfl;simp only[Nat.add_zero] at d0;have NS:=zc ((HN.o.2.2.1 x (List.mem_of_getElem? hx)).2);have ah:=zc hx;obtain⟨J,z⟩: ∃J,J=wr.alloc (.cells #[.int .i64 x.kind,.string x.name,.string x.loc,.string x.spec] 97):=⟨_,rfl⟩;have ak:Below wr.heap.size wr J:=by rw[z];exact (Below.refl _ _).alloc (Nat.le_refl _) _
   have A:=zc (HU.o.later ak);have hg:(wr.alloc (.cells #[.int .i64 x.kind,.string x.name,.string x.loc,.string x.spec] 97)).cell? ⟨w.heap.size,0,none⟩=some (.map (some b)):=by rw[<-z];exact Boxed.cell A.o.own
   clear ak hc hx ha HU;cases af:(x.kind==1) with
   |true=>
    gi_wp2;rw[<-z];refine zmF (zfe b L 3 x.loc J A.o.cnt (zff (by decide) (by decide) NS.o)) ?_;rintro e W4 ⟨rfl,hw⟩;rw[hw];clear hw W4 hg z;obtain⟨v,hv⟩: ∃v,v=decide (0<cnt L (3,x.loc)):=⟨_,rfl⟩;have HV:=zc hv;rw[<-hv];clear hv;cases v with
    |true=>
     have hz:=Boxed.cell A.o.res;have al:=Boxed.frozen A.o.res;have HR:Hid (m.ep.any (seI L)=true):=ziF ah.o (by rw[seI,af,hB,<-HV.o];rfl);have hq:(J.setCell ⟨w.heap.size+1+1,0,none⟩ (.bool true)).heap[w.heap.size+1+1]? =some (.cells #[.bool true] 4):=by
      rw[zac (i:=0) (u:=.bool true) A.o.res];rfl
     gi_wp2;exact⟨_,ziP rfl _ _ rfl (ziQ hq),by rw[HR.o];rfl,A.o.bel.setCell (by show w.heap.size<=w.heap.size+1+1;omega) _⟩
    |false=>
     have ad:Hid ((m.ep.take (k+1)).any (seI L)=false):=zhc ah.o M.o (by rw[seI,af,hB,<-HV.o];rfl);gi_wp2;go_roundw
     case rel=>exact⟨k+1,Z,by go_num,ad,A⟩
     case measure=>simp[intOf];omega
   |false=>
    have ad:Hid ((m.ep.take (k+1)).any (seI L)=false):=zhc ah.o M.o (by rw[seI,af];rfl);gi_wp2;refine⟨trivial,?_⟩;gi_wp2;rw[<-z];go_roundw
    case rel=>exact⟨k+1,Z,by go_num,ad,A⟩
    case measure=>simp[intOf];omega
  ·obtain rfl:k=m.ep.length:=by omega
   rw[List.take_length] at M;obtain⟨c0,c1,c2,c3,c4,cf⟩:=zj HU.o.box;gi_wp2;refine zmF (zvU V m _) ?_;rintro e w' ⟨rfl,rfl⟩;obtain⟨w2,X⟩: ∃w2,wr.alloc (zfj V m)=w2:=⟨_,rfl⟩;have ai:Below wr.heap.size wr w2:=by rw[<-X];exact (Below.refl _ _).alloc (Nat.le_refl _) _
   have A:=zc (HU.o.later ai);have NH:Hid (NmH V m wr.heap.size w2):=zc ⟨by rw[<-X];exact heap_alloc_new wr _,HS.o.later A.o.bel,HX.o.later A.o.bel⟩;have LR:Hid (w.heap.size+1+1<wr.heap.size):=zc (aLt HU.o.res);have ag:Hid (wr.heap.size<=w2.heap.size):=zc ai.size
   have ao:Hid (∀k,NmB V m wr.heap.size k->¬k=w.heap.size+1+1):=zc (by
    have h0:=LR.o;rintro k (rfl|⟨hl,o,ha⟩|⟨hl,o,ha⟩)
    ·omega
    ·have:=HS.o.lt hl ha;omega
    ·have:=HX.o.lt hl ha;omega)
   obtain⟨gv,ae⟩: ∃gv,gv=wr.heap.size:=⟨_,rfl⟩;rw[X,<-ae];rw[<-ae] at NH LR ag ao;clear X ai HU c0 c1 c2 c3 c4 cf ae Z;gi_wp2;refine zvF (gf:=178) rfl zvT (zvS V m gv (by omega) (by omega)) (fun U hU=>NH.o.same hU) (fun k hk=>NH.o.lt hk) rfl
    (fun H C W=>C=(fun k=>k=w.heap.size+1+1)/\W.heap[w.heap.size+1+1]? =some (.cells #[.bool false] 4)/\H.any (hB L 3)=false)
    (fun c H C W=>c= .ret/\C=(fun k=>k=w.heap.size+1+1)/\W.heap[w.heap.size+1+1]? =some (.cells #[.bool true] 4)/\H.any (hB L 3)=true)
    ?loc ?locx (fun k=>k=w.heap.size+1+1) (fun k hk=>ao.o k hk) (fun k hk=>by rw[hk];have:=LR.o;have:=ag.o;omega) ⟨rfl,A.o.res,rfl⟩
    (fun x=>{tmps:=#[.map (some b),.agg #[.slice V.rq.a m.rq.length V.rq.cap,.slice V.im.a m.im.length V.im.cap,.slice V.ep.a m.ep.length V.ep.cap,.slice V.st.a m.st.length V.st.cap,.slice V.ex.a m.ex.length V.ex.cap],.pointer (some ⟨w.heap.size,0,none⟩),.pointer (some ⟨w.heap.size+1,0,none⟩),.pointer (some ⟨w.heap.size+1+1,0,none⟩),undef,u6,.string x,.pointer (some ⟨w.heap.size+1,2,none⟩),.slice V.ep.a m.ep.length V.ep.cap,.int .i64 m.ep.length,.int .i64 m.ep.length,.bool false,u13,u14,u15,u16,u17,u18,u19,u20,u21,u22,u23,u24,.agg #[.slice V.rq.a m.rq.length V.rq.cap,.slice V.im.a m.im.length V.im.cap,.slice V.ep.a m.ep.length V.ep.cap,.slice V.st.a m.st.length V.st.cap,.slice V.ex.a m.ex.length V.ex.cap],.func (.func 178) #[] #[.pointer (some ⟨gv,0,none⟩)],.string x,undef,undef,undef],defers:=[]}) ?assign ?body ?done ?stop
   case loc=>
    rintro H C W W' ⟨rfl,h1,h2⟩ hs;exact⟨rfl,(hs _ rfl).trans h1,h2⟩
   case locx=>
    rintro c H C W W' ⟨h0,rfl,h1,h2⟩ hs;exact⟨h0,rfl,(hs _ rfl).trans h1,h2⟩
   case assign=>
    intro l m' x W K hK;gi_wp2;exact hK
   case body=>
    rintro l m' H x rest C1 W hx I ⟨rfl,q,Y⟩;have hg:W.heap[w.heap.size]? =some (.cells #[.map (some b)] 139):=(I.same w.heap.size (by have:=LR.o;have:=ag.o;omega) (by omega)).trans A.o.own;have aq:CntW W b L:=A.o.cnt.kept (I.same b A.o.cnt.lt (by have:=LB.o;omega));have hc:=Boxed.cell hg;have av:x.size<=maxLen:=by
     have hm:x∈nmV m:=by rw[hx];simp
     rcases List.mem_append.1 hm with hm|hm
     ·obtain⟨y,hy,rfl⟩:=List.mem_map.1 hm;exact HN.o.2.1 y (List.mem_filter.1 hy).1
     ·obtain⟨y,hy,rfl⟩:=List.mem_map.1 hm;exact HN.o.2.2.2 y (List.mem_filter.1 hy).1
    have O: ∀k,k=w.heap.size+1+1->k<W.heap.size:=I.lt;clear hx hg;gi_wp2;refine zvG (zfe b L 3 x W aq (zff (by decide) (by decide) av)) ?_;rintro e N ⟨rfl,hw⟩;rw[hw];clear hw N;obtain⟨v,hv⟩: ∃v,v=decide (0<cnt L (3,x)):=⟨_,rfl⟩;have HV:=zc hv;rw[<-hv];clear hv;have am:(H++[x]).any (hB L 3)=v:=by rw[List.any_append,Y,List.any_cons,hB,<-HV.o];simp
    cases v with
    |true=>
     have hz:=Boxed.cell q;have al:=Boxed.frozen q;have hq:(W.setCell ⟨w.heap.size+1+1,0,none⟩ (.bool true)).heap[w.heap.size+1+1]? =some (.cells #[.bool true] 4):=by
      rw[zac (i:=0) (u:=.bool true) q];rfl
     gi_wp2;exact⟨_,(Hd.refl O).stored (p:=⟨w.heap.size+1+1,0,none⟩) rfl (.bool true),rfl,rfl,hq,am⟩
    |false=>
     gi_wp2;exact⟨_,Hd.refl O,rfl,q,am⟩
   case done=>
    rintro D C1 W hD I ab ⟨rfl,q,Y⟩ hK;have hz:=Boxed.cell q;have al:=Boxed.frozen q;have hq:(W.setCell ⟨w.heap.size+1+1,0,none⟩ (.bool false)).heap[w.heap.size+1+1]? =some (.cells #[.bool false] 4):=by
     rw[zac (i:=0) (u:=.bool false) q];rfl
    have HR:Hid ((m.ep.any (seI L)||(m.st.any (ssI L)||m.ex.any (sxI L)))=false):=zc (by rw[M.o,Bool.false_or];exact aj.o.symm.trans Y);have O: ∀k,k=w.heap.size+1+1->k<W.heap.size:=I.lt;have aw:=I.stored (p:=⟨w.heap.size+1+1,0,none⟩) rfl (.bool false);clear Y;gi_wp2;have ar:=(Below.heap_setCell W ⟨w.heap.size+1+1,0,none⟩ (.bool false) D ab).trans hK;refine⟨by simp,.inl ⟨_,_,rfl,run_takeDeferred ar,?_⟩⟩;exact⟨_,ziP rfl _ _ rfl (ziQ ((World.putObj_heap_other (fun h=>ab h.symm)).trans hq)),by rw[HR.o],A.o.bel.trans ((aw.put hD _).old A.o.bel.size (by rintro k h;omega))⟩
   case stop=>
    rintro D c H C1 W hD ap I ab ⟨rfl,rfl,q,an⟩ hK
    have HR:Hid ((m.ep.any (seI L)||(m.st.any (ssI L)||m.ex.any (sxI L)))=true):=zc (by
     rw[M.o,Bool.false_or];refine aj.o.symm.trans ?_;obtain⟨t,ht⟩:=ap
     rw[<-ht,List.any_append,an,Bool.true_or])
    gi_wp2;refine⟨by simp,.inl ⟨_,_,rfl,run_takeDeferred hK,?_⟩⟩;exact⟨_,ziP rfl _ _ rfl (ziQ ((World.putObj_heap_other (fun h=>ab h.symm)).trans q)),by rw[HR.o],A.o.bel.trans ((I.put hD _).old A.o.bel.size (by rintro k h;omega))⟩
open Go.Sort
theorem zvX (V:Sv) (m:Md) (ah:Bool) (w:World) (hI:RowAt w V.im.a imL 3 m.im) (hE:RowAt w V.ep.a epL 4 m.ep) (hS:RowAt w V.st.a smL 3 m.st) (hX:RowAt w V.ex.a exL 6 m.ex) (lI:m.im.length<=10000) (lE:m.ep.length<=10000) (lS:m.st.length<=10000) (lX:m.ex.length<=10000) (hN:zhb m) (hF:zcI m.st):
  Calls prog 66 #[zl V m,.bool ah] w fun e w'=>e= .returned (.int .i64 (zar m))/\Below w.heap.size w w':=by
 have h:Hid (Below w.heap.size w (w.alloc (.cells #[.slice V.rq.a m.rq.length V.rq.cap,.slice V.im.a m.im.length V.im.cap,.slice V.ep.a m.ep.length V.ep.cap,.slice V.st.a m.st.length V.st.cap,.slice V.ex.a m.ex.length V.ex.cap] 54))):=(Below.refl _ _).alloc (Nat.le_refl _) _;have J:=zc (heap_alloc_new w (.cells #[.slice V.rq.a m.rq.length V.rq.cap,.slice V.im.a m.im.length V.im.cap,.slice V.ep.a m.ep.length V.ep.cap,.slice V.st.a m.st.length V.st.cap,.slice V.ex.a m.ex.length V.ex.cap] 54));have A:=zc (zg w (.cells #[.slice V.rq.a m.rq.length V.rq.cap,.slice V.im.a m.im.length V.im.cap,.slice V.ep.a m.ep.length V.ep.cap,.slice V.st.a m.st.length V.st.cap,.slice V.ex.a m.ex.length V.ex.cap] 54));have RI:=zc (hI.later h.o);have RE:=zc (hE.later h.o);have RS:=zc (hS.later h.o);have RX:=zc (hX.later h.o);have HN:=zc hN;have HF:=zc hF;clear hI hE hS hX hN hF;unfold zl;go_enter func66,ntmps66;go_wp2_with fail;refine (zvy V m _ RI.o RE.o RS.o lI lE lS HN.o).mono ?_;obtain⟨W0,ad⟩: ∃W0,W0=w.alloc (.cells #[.slice V.rq.a m.rq.length V.rq.cap,.slice V.im.a m.im.length V.im.cap,.slice V.ep.a m.ep.length V.ep.cap,.slice V.st.a m.st.length V.st.cap,.slice V.ex.a m.ex.length V.ex.cap] 54):=⟨_,rfl⟩;rw[<-ad] at J h A RI RE RS RX ⊢;clear ad;rintro e W1 ⟨b,rfl,ac,ag,_⟩;have q:=zc ac;have B1:=zc ag;clear ac ag;obtain⟨L,hL⟩: ∃L,L=zbn m:=⟨_,rfl⟩;have HL:=zc hL;rw[<-hL] at q;clear hL;go_wp2_with fail;refine (zmA b L 1 _ q.o).mono ?_;rintro e W2 ⟨⟨t1,rfl,X⟩,Z⟩;have M:Hid (t1=twB (zbL m)):=by
  show _=_;rw[HL.o,tw1 HF.o] at X;exact Bool.eq_iff_iff.2 X
 have B2:=zc (B1.o.trans (Z.mono B1.o.size));have K:=zc (q.o.kept (Z.block _ q.o.lt));clear X Z B1 q;cases t1 with
 |true=>
  have z:Hid (zar m=1):=by show _=_;rw[zar,<-M.o];rfl
  go_wp2;go_ret;exact⟨zbC z.o.symm,h.o.trans (B2.o.mono (by rw[A.o];omega))⟩
 |false=>
  go_wp2_with fail;refine (zmA b L 2 _ K.o).mono ?_;rintro e W3 ⟨⟨t2,rfl,Y⟩,ab⟩;have T2:Hid (t2=twB (epN m.ep)):=by
   show _=_;rw[HL.o,tw2] at Y;exact Bool.eq_iff_iff.2 Y
  have B3:=zc (B2.o.trans (ab.mono B2.o.size));have H:=zc (K.o.kept (ab.block _ K.o.lt));clear Y ab B2 K;cases t2 with
  |true=>
   have z:Hid (zar m=2):=by show _=_;rw[zar,<-M.o,<-T2.o];rfl
   go_wp2;go_ret;exact⟨zbC z.o.symm,h.o.trans (B3.o.mono (by rw[A.o];omega))⟩
  |false=>
   obtain⟨c0,c1,c2,c3,c4,cf⟩:=zj ((B3.o.block w.heap.size (by rw[A.o];omega)).trans J.o);go_wp2_with fail;refine (zv4 b L V.ep.a V.ep.cap m.ep _ H.o (RE.o.later B3.o) lE (fun x hx=>(HN.o.2.2.1 x hx).2)).mono ?_;rintro e W4 ⟨rfl,aa⟩;have U:Hid (m.ep.any (unI L)=unB (zbL m) m.ep):=by show _=_;rw[HL.o];exact zvB HF.o
   rw[U.o];have N:=zc (B3.o.trans (aa.mono B3.o.size));have I:=zc (H.o.kept (aa.block _ H.o.lt));clear aa B3 H U c0 c1 c2 c3 c4 cf;cases hu:unB (zbL m) m.ep with
   |true=>
    have z:Hid (zar m=3):=by show _=_;rw[zar,<-M.o,<-T2.o,hu];rfl
    go_wp2;go_ret;exact⟨zbC z.o.symm,h.o.trans (N.o.mono (by rw[A.o];omega))⟩
   |false=>
    obtain⟨c0,c1,c2,c3,c4,cf⟩:=zj ((N.o.block w.heap.size (by rw[A.o];omega)).trans J.o);go_wp2_with fail;refine (zvW b L V m _ I.o (RE.o.later N.o) (RS.o.later N.o) (RX.o.later N.o) lE lS lX HN.o).mono ?_;rintro e W5 ⟨rfl,O⟩;have U:Hid ((m.ep.any (seI L)||(m.st.any (ssI L)||m.ex.any (sxI L)))=(seB m.im m.ep||sxB m.im m.ex||ssB m.im m.st)):=by show _=_;rw[HL.o];exact zvC M.o.symm
    rw[U.o];have B5:=zc (N.o.trans (O.mono N.o.size));have af:=zc (I.o.kept (O.block _ I.o.lt));clear O N I U c0 c1 c2 c3 c4 cf;cases hs:(seB m.im m.ep||sxB m.im m.ex||ssB m.im m.st) with
    |true=>
     have z:Hid (zar m=4):=by show _=_;rw[zar,<-M.o,<-T2.o,hu,hs];rfl
     go_wp2;go_ret;exact⟨zbC z.o.symm,h.o.trans (B5.o.mono (by rw[A.o];omega))⟩
    |false=>
     obtain⟨c0,c1,c2,c3,c4,cf⟩:=zj ((B5.o.block w.heap.size (by rw[A.o];omega)).trans J.o);go_wp2_with fail;refine (zv5 b L V.ex.a V.ex.cap m.ex _ af.o (RX.o.later B5.o) lX HN.o.2.2.2).mono ?_;rintro e W6 ⟨rfl,ae⟩;have U:Hid (m.ex.any (mxI L)=mxB m.im m.ex):=by show _=_;rw[HL.o];exact zvD M.o.symm
     rw[U.o];have B6:=zc (B5.o.trans (ae.mono B5.o.size));clear ae B5 af U c0 c1 c2 c3 c4 cf;cases hm:mxB m.im m.ex with
     |true=>
      have z:Hid (zar m=5):=by show _=_;rw[zar,<-M.o,<-T2.o,hu,hs,hm];rfl
      go_wp2;go_ret;exact⟨zbC z.o.symm,h.o.trans (B6.o.mono (by rw[A.o];omega))⟩
     |false=>
      have z:Hid (zar m=0):=by show _=_;rw[zar,<-M.o,<-T2.o,hu,hs,hm];rfl
      go_wp2;go_ret;exact⟨zbC z.o.symm,h.o.trans (B6.o.mono (by rw[A.o];omega))⟩
end Go.Proofs.YtgcbmogmniahjaaGreat
