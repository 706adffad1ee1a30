/-
 What impl.mapSpecs does: the walk.
-/
import Derived.Test.YtjdddblpfbmpaaaGreatClMapLawBToSpecTwice
namespace Go.Proofs.YtjdddblpfbmpaaaGreat
set_option maxRecDepth 100000
set_option maxHeartbeats 3200000
open Go.RowKit Go.PlainAid Go.Sort
def zjI (f:FuncId):Prop:=∀(a:Option Addr) (g len cap:Nat) (Pt Tx:Nat→ByteArray) (s:ByteArray) (w:World),FilesAt w a g 0 len Pt Tx→len≤1048576→(∀j,j<len→(Pt j).size≤1048576)→(∀j,j<len→(Tx j).size≤1048576)→s.size≤1048576→
 Calls Tryz.prog f #[.slice a len cap,.string s] w fun e w'=>e= .returned (.string (zZ len Pt Tx s))∧Below w.heap.size w w'
theorem zjJ (w:World):OwnR (w.alloc (.cells #[] 9)) w.heap.size 9 1 ⟨some ⟨w.heap.size,0,none⟩,0⟩ 0 []:=World.ownsRow_lit w #[] 0 (Nat.le_refl _) (by unfold maxLen;omega) rfl
theorem Tryz.infoStrM:(Tryz.prog.info? 9).map (fun i=>(i.zero,i.size,i.bytes))=some (some (.string {data:=#[]}),1,16):=by kernel_rfl
theorem zqb (cM:zjI 21) (z L:Nat) (a:Option Addr) (g len af:Nat) (Pt Tx:Nat→ByteArray) (S:Sv) (m:Md) (I H:Nat) (w:World) (h:MW z L a g len Pt Tx w w S m I H) (hl:len≤1048576) (hp: ∀j,j<len→(Pt j).size≤1048576) (ht: ∀j,j<len→(Tx j).size≤1048576)
  (aD:m.rq.length≤1000) (aJ:I≤10000) (aI:H≤10000) (aw: ∀x∈m.rq,x.size≤1048576) (ar: ∀x∈m.im,x.spec.size≤1048576) (aq: ∀x∈m.ep,x.spec.size≤1048576):
  Calls Tryz.prog 50 #[.slice a len af,.pointer (some ⟨L,0,none⟩)] w fun e w'=>e= .returned (.tuple #[])∧∃S',MW z L a g len Pt Tx w w' S' (zaM (zZ len Pt Tx) m) I H:=by
 have ay:=zc h
 have CM:=zc cM
 have HP:=zc hp
 have HT:=zc ht
 have H1:=zc aw
 have H2:=zc ar
 have H3:=zc aq
 obtain⟨F,hF⟩: ∃F,F=zZ len Pt Tx:=⟨_,rfl⟩
 have HF:=zc hF
 obtain⟨c0,Y,X,c3,c4,cf⟩:=zg (h.later ((Below.refl w.heap.size w).alloc (Nat.le_refl _) (.cells #[] 9))).box
 have B0:Hid (MW z L a g len Pt Tx w (w.alloc (.cells #[] 9)) S m I H):=h.later ((Below.refl _ _).alloc (Nat.le_refl _) _)
 obtain⟨ra,ah⟩: ∃ra,S.rq.a=ra:=⟨_,rfl⟩
 have aH:=zc ah
 rw[ah] at c0
 clear h cM hp ht aw ar aq hF ah
 go_enter Tryz.func50,Tryz.ntmps50
 go_wp2
 go_loopw [18,4,6,7] (fun i o _ _ wr=>∃(k:Nat) (r:Rw),k≤m.rq.length∧i= .int .i64 k∧o= .slice r.a (zbJ F m.rq k).length r.cap∧Hid (OwnR wr w.heap.size 9 1 r (zbJ F m.rq k).length ((zbJ F m.rq k).map .string))∧Hid (MW z L a g len Pt Tx w wr S m I H)) (fun i _ _ _ _=>(m.rq.length-intOf i).toNat)
 case atStart=>exact⟨0,⟨some ⟨w.heap.size,0,none⟩,0⟩,Nat.zero_le _,rfl,rfl,zjJ w,B0⟩
 case round=>
  obtain⟨k,r,hk,rfl,rfl,HO,V⟩:=hrel
  clear c0 Y X c3 c4 cf B0
  obtain⟨l,hL⟩: ∃l,l=zbJ F m.rq k:=⟨_,rfl⟩
  have aK:l.length≤1000:=by rw[hL];exact Nat.le_trans (zhz F m.rq k) aD
  rw[←hL] at HO ⊢
  have HL:=zc hL
  clear hL
  by_cases ak:k<m.rq.length
  ·obtain⟨x,M⟩: ∃x,m.rq[k]? =some x:=⟨_,List.getElem?_eq_getElem ak⟩
   obtain⟨gr,ab,cx⟩:=V.out.rqAt M
   obtain rfl:ra=some ⟨gr,0,none⟩:=aH.out.symm.trans ab
   have O:=H1.out x (List.mem_of_getElem? M)
   obtain⟨y,Z⟩: ∃y,y=zZ len Pt Tx x:=⟨_,rfl⟩
   have U:Hid (zbJ F m.rq (k+1)=zcn l y):=by show _=_;rw[zjx M,←HL.out,Z,HF.out]
   clear ab M
   go_wp2_with fail
   refine (CM.out a g len af Pt Tx x _ V.out.rules hl HP.out HT.out O).mono ?_
   rintro e w2 ⟨rfl,am⟩
   rw[←Z]
   have ap:=zc (V.out.later am)
   have al:=zc (HO.out.keep fun k g=>am.block k (HO.out.typed g).2.1)
   clear am V HO Z O cx
   go_wp2_with fail
   refine (zfV w.heap.size r l y _ al.out (by omega)).mono ?_
   rintro e w3 ⟨rfl,hw⟩
   rw[hw]
   clear hw w3
   cases hh:zaJ l y with
   |true=>
    go_wp2
    go_roundw
    case rel=>exact⟨k+1,r,by omega,by go_num,by rw[U.out,zhx hh],by show OwnR _ _ _ _ _ _ _;rw[U.out,zhx hh];exact al.out,ap⟩
    case measure=>simp[intOf];omega
   |false=>
    obtain⟨i0,hi,aB,aG,aE⟩:=info_parts Tryz.infoStrM
    have ag:=fun o1=>al.out.alloc (o:=o1)
    have aA: ∀o1,w.heap.size≤(w2.alloc o1).heap.size:=fun o1=>by rw[zn];have:=ap.out.bel.size;omega
    go_wp2_with (at_builtin;refine zcv _ rfl _ _ 22 rfl w.heap.size 9 i0 _ 1 16 Tryz.underlying22 hi aB aG aE rfl (by decide) (by decide) r l.length (l.map .string) (by rfl) (ag _) w2.heap.size [.string y] (by rfl) (by exact heap_alloc_new w2 _) rfl (by simp[Value.oneCell']) (by omega) (aA _) ?_;intro r' wz hr ab aF;have HR:=zc hr;have aC:=zc ab;clear hr ab aF)
    go_roundw
    case rel=>
     refine⟨k+1,r',by omega,by go_num,by rw[U.out,zhy hh,List.length_append];rfl,?_,ay.out.more (ap.out.later ((Below.refl _ _).alloc (Nat.le_refl _) _)) (ag _) aC.out⟩
     show OwnR ..
     rw[U.out,zhy hh,List.length_append,List.map_append]
     exact HR.out
    case measure=>simp[intOf];omega
  ·obtain rfl:k=m.rq.length:=by omega
   obtain⟨c0,Y,X,c3,c4,cf⟩:=zg V.out.box
   have az:Hid (∃N,MW z L a g len Pt Tx w (wr.setCell ⟨L,0,none⟩ (.slice r.a l.length r.cap)) N {m with rq:=l} I H):=⟨_,V.out.set_rq (HO.out.low ay.out.size)⟩
   clear HO
   go_upto_region 9 with fail
   refine zV (R:=fun W=>∃N,MW z L a g len Pt Tx w W N {m with rq:=l} I H) az.out ?_
   rintro w2 ⟨N,hM⟩
   clear az c0 Y X c3 c4 cf V
   have V:=zc hM
   obtain⟨c0,Y,X,c3,c4,cf⟩:=zg hM.box
   clear hM
   obtain⟨ia,ai⟩: ∃ia,N.im.a=ia:=⟨_,rfl⟩
   have ae:=zc ai
   rw[ai] at Y
   clear ai
   go_wp2
   have ax:Hid (MW z L a g len Pt Tx w w2 N {m with rq:=l,im:=zaV (imM F) m.im 0} I H):=by show MW _ _ _ _ _ _ _ _ _ _ _ _ _;rw[zgo];exact V.out
   have au:m.im.length=I:=V.out.hli
   go_loopw [43,9,8] (fun i _ _ wr=>∃k:Nat,k≤I∧i= .int .i64 k∧Hid (MW z L a g len Pt Tx w wr N {m with rq:=l,im:=zaV (imM F) m.im k} I H)) (fun i _ _ _=>(I-intOf i).toNat)
   case atStart=>exact⟨0,Nat.zero_le _,rfl,ax⟩
   case round=>
    obtain⟨k,hk,rfl,HK⟩:=hrel
    clear V ax c0 Y X c3 c4 cf
    by_cases ak:k<I
    ·obtain⟨x,M⟩: ∃x,m.im[k]? =some x:=⟨_,List.getElem?_eq_getElem (by omega)⟩
     have O:=H2.out x (List.mem_of_getElem? M)
     have U:=zc (zfo (f:=imM F) M)
     have HN:=zc (zfp (f:=imM F) M)
     obtain⟨y,Z⟩: ∃y,y=zZ len Pt Tx x.spec:=⟨_,rfl⟩
     have HY:Hid (imM F x=⟨y,x.first,x.loc⟩):=by show _=_;rw[imM,Z,HF.out]
     obtain⟨gi,aj,d0,d1,d2,df⟩:=HK.out.im U.out
     obtain rfl:ia=some ⟨gi,0,none⟩:=ae.out.symm.trans aj
     clear M
     go_upto_region 12 with fail
     refine zV (R:=fun W=>MW z L a g len Pt Tx w W N {m with rq:=l,im:=zaV (imM F) m.im k} I H∧W.cell? ⟨wr.heap.size,0,none⟩=some (.string x.spec)) ⟨HK.out.later ((Below.refl _ _).alloc (Nat.le_refl _) _),by rw[World.cell?_alloc_new];rfl⟩ ?_
     obtain⟨gb,ac⟩: ∃gb,gb=wr.heap.size:=⟨_,rfl⟩
     rw[←ac]
     clear ac
     rintro W ⟨hM,b0⟩
     have HW:=zc hM
     obtain⟨c0,Y,X,c3,c4,cf⟩:=zg hM.box
     rw[ae.out] at Y
     clear hM d0 d1 d2 df HK
     go_region_with (go_at_call 21;refine (CM.out a g len af Pt Tx x.spec _ (HW.out.later (Below.refl _ _).drew).rules hl HP.out HT.out O).mono ?_;rintro e w3 ⟨rfl,aa⟩;rw[←Z];have J:=zc ((HW.out.later (Below.refl _ _).drew).later aa);obtain⟨e0,e1,e2,e3,e4,ef⟩:=zg J.out.box;rw[ae.out] at e1;obtain⟨gj,A,d0,d1,d2,df⟩:=J.out.im U.out;obtain rfl:gi=gj:=(by rw[ae.out] at A;cases A;rfl);have HG:=zc A;clear aa A)
     all_goals
      go_wp2
      go_roundw
      case rel=>
       refine⟨k+1,by omega,by go_num,?_⟩
       show MW ..
       rw[HN.out,HY.out]
       subst Z
       exact J.out.set_im U.out HG.out _
      case measure=>simp[intOf];omega
    ·obtain rfl:k=I:=by omega
     have ao:Hid (MW z L a g len Pt Tx w wr N {m with rq:=l,im:=m.im.map (imM F),ep:=zaV (epM F) m.ep 0} k H):=by
      show MW ..
      have:=HK.out
      rw[←au,zgp,au] at this
      rw[zgo]
      exact this
     have av:m.ep.length=H:=HK.out.hle
     clear HK
     obtain⟨c0,Y,X,c3,c4,cf⟩:=zg ao.out.box
     obtain⟨ea,an⟩: ∃ea,N.ep.a=ea:=⟨_,rfl⟩
     have ad:=zc an
     rw[an] at X
     clear an
     go_wp2
     go_loopw [65,11,10] (fun i _ _ wr=>∃j:Nat,j≤H∧i= .int .i64 j∧Hid (MW z L a g len Pt Tx w wr N {m with rq:=l,im:=m.im.map (imM F),ep:=zaV (epM F) m.ep j} k H)) (fun i _ _ _=>(H-intOf i).toNat)
     case atStart=>exact⟨0,Nat.zero_le _,rfl,ao⟩
     case round=>
      obtain⟨j,hj,rfl,HK⟩:=hrel
      clear ao c0 Y X c3 c4 cf
      by_cases ak:j<H
      ·obtain⟨x,M⟩: ∃x,m.ep[j]? =some x:=⟨_,List.getElem?_eq_getElem (by omega)⟩
       have O:=H3.out x (List.mem_of_getElem? M)
       have U:=zc (zfo (f:=epM F) M)
       have HN:=zc (zfp (f:=epM F) M)
       obtain⟨y,Z⟩: ∃y,y=zZ len Pt Tx x.spec:=⟨_,rfl⟩
       have HY:Hid (epM F x=⟨x.kind,x.name,x.loc,y⟩):=by show _=_;rw[epM,Z,HF.out]
       obtain⟨gi,aj,d0,d1,d2,d3,df⟩:=HK.out.ep U.out
       obtain rfl:ea=some ⟨gi,0,none⟩:=ad.out.symm.trans aj
       clear M
       go_upto_region 17 with fail
       refine zV (R:=fun W=>MW z L a g len Pt Tx w W N {m with rq:=l,im:=m.im.map (imM F),ep:=zaV (epM F) m.ep j} k H∧W.cell? ⟨wr.heap.size,3,none⟩=some (.string x.spec)) ⟨HK.out.later ((Below.refl _ _).alloc (Nat.le_refl _) _),by rw[World.cell?_alloc_new];rfl⟩ ?_
       obtain⟨gb,ac⟩: ∃gb,gb=wr.heap.size:=⟨_,rfl⟩
       rw[←ac]
       clear ac
       rintro W ⟨hM,b0⟩
       have HW:=zc hM
       obtain⟨c0,Y,X,c3,c4,cf⟩:=zg hM.box
       rw[ad.out] at X
       clear hM d0 d1 d2 d3 df HK
       go_region_with (go_at_call 21;refine (CM.out a g len af Pt Tx x.spec _ (HW.out.later (Below.refl _ _).drew).rules hl HP.out HT.out O).mono ?_;rintro e w3 ⟨rfl,aa⟩;rw[←Z];have J:=zc ((HW.out.later (Below.refl _ _).drew).later aa);obtain⟨e0,e1,e2,e3,e4,ef⟩:=zg J.out.box;rw[ad.out] at e2;obtain⟨gj,A,d0,d1,d2,d3,df⟩:=J.out.ep U.out;obtain rfl:gi=gj:=(by rw[ad.out] at A;cases A;rfl);have HG:=zc A;clear aa A)
       all_goals
        go_wp2
        go_roundw
        case rel=>
         refine⟨j+1,by omega,by go_num,?_⟩
         show MW ..
         rw[HN.out,HY.out]
         subst Z
         exact J.out.set_ep U.out HG.out _
        case measure=>simp[intOf];omega
      ·obtain rfl:j=H:=by omega
       go_wp2
       go_end0
       refine⟨rfl,N,?_⟩
       have:=HK.out
       rw[←av,zgp,av,HL.out] at this
       rw[zaM,←HF.out]
       exact this
end Go.Proofs.YtjdddblpfbmpaaaGreat