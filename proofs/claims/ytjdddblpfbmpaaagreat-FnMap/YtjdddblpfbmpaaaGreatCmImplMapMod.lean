/-
 What impl.mapSpecs does: the walk.
-/
import Derived.Test.YtjdddblpfbmpaaaGreatCmSpecCopyToSpecMap
import Derived.Deep.RegionWith
namespace Go.Proofs.YtjdddblpfbmpaaaGreat
set_option maxRecDepth 100000
set_option maxHeartbeats 3200000
open Go.RowKit Go.PlainAid Go.Sort
def zkP (f:FuncId):Prop:=∀(a:Option Addr) (g len cap:Nat) (Pt Tx:Nat→ByteArray) (s:ByteArray) (w:World),FilesAt w a g 0 len Pt Tx→len≤1048576→(∀j,j<len→(Pt j).size≤1048576)→(∀j,j<len→(Tx j).size≤1048576)→s.size≤1048576→
 Calls Tryz.prog f #[.slice a len cap,.string s] w fun e w'=>e= .returned (.string (zT len Pt Tx s))∧Below w.heap.size w w'
theorem zkQ (w:World):OwnR (w.alloc (.cells #[] 9)) w.heap.size 9 1 ⟨some ⟨w.heap.size,0,none⟩,0⟩ 0 []:=World.ownsRow_lit w #[] 0 (Nat.le_refl _) (by unfold maxLen;omega) rfl
theorem Tryz.infoStrM:(Tryz.prog.info? 9).map (fun i=>(i.zero,i.size,i.bytes))=some (some (.string {data:=#[]}),1,16):=by kernel_rfl
theorem zr4 (cM:zkP 21) (q J:Nat) (a:Option Addr) (g len af:Nat) (Pt Tx:Nat→ByteArray) (S:Sv) (m:Md) (H A:Nat) (w:World) (h:MW q J a g len Pt Tx w w S m H A) (hl:len≤1048576) (hp: ∀j,j<len→(Pt j).size≤1048576) (ht: ∀j,j<len→(Tx j).size≤1048576)
  (aD:m.rq.length≤1000) (aJ:H≤10000) (aI:A≤10000) (aw: ∀x∈m.rq,x.size≤1048576) (ar: ∀x∈m.im,x.spec.size≤1048576) (aq: ∀x∈m.ep,x.spec.size≤1048576):
  Calls Tryz.prog 50 #[.slice a len af,.pointer (some ⟨J,0,none⟩)] w fun e w'=>e= .returned (.tuple #[])∧∃S',MW q J a g len Pt Tx w w' S' (zaZ (zT len Pt Tx) m) H A:=by
 have ay:=zc h
 have CM:=zc cM
 have HP:=zc hp
 have HT:=zc ht
 have H1:=zc aw
 have H2:=zc ar
 have H3:=zc aq
 obtain⟨F,hF⟩: ∃F,F=zT len Pt Tx:=⟨_,rfl⟩
 have HF:=zc hF
 obtain⟨c0,X,V,c3,c4,cf⟩:=zg (h.later ((Below.refl w.heap.size w).alloc (Nat.le_refl _) (.cells #[] 9))).box
 have B0:Hid (MW q J a g len Pt Tx w (w.alloc (.cells #[] 9)) S m H A):=h.later ((Below.refl _ _).alloc (Nat.le_refl _) _)
 obtain⟨ra,ah⟩: ∃ra,S.rq.a=ra:=⟨_,rfl⟩
 have aH:=zc ah
 rw[ah] at c0
 clear h cM hp ht aw ar aq hF ah
 go_enter Tryz.func50,Tryz.ntmps50
 go_wp2
 go_loopw [18,4,6,7] (fun i o _ _ wr=>∃(k:Nat) (r:Rw),k≤m.rq.length∧i= .int .i64 k∧o= .slice r.a (zbd F m.rq k).length r.cap∧Hid (OwnR wr w.heap.size 9 1 r (zbd F m.rq k).length ((zbd F m.rq k).map .string))∧Hid (MW q J a g len Pt Tx w wr S m H A)) (fun i _ _ _ _=>(m.rq.length-intOf i).toNat)
 case atStart=>exact⟨0,⟨some ⟨w.heap.size,0,none⟩,0⟩,Nat.zero_le _,rfl,rfl,zkQ w,B0⟩
 case round=>
  obtain⟨k,r,hk,rfl,rfl,HO,U⟩:=hrel
  clear c0 X V c3 c4 cf B0
  obtain⟨l,hL⟩: ∃l,l=zbd F m.rq k:=⟨_,rfl⟩
  have aK:l.length≤1000:=by rw[hL];exact Nat.le_trans (zg5 F m.rq k) aD
  rw[←hL] at HO ⊢
  have HL:=zc hL
  clear hL
  by_cases ak:k<m.rq.length
  ·obtain⟨x,L⟩: ∃x,m.rq[k]? =some x:=⟨_,List.getElem?_eq_getElem ak⟩
   obtain⟨gr,ab,cx⟩:=U.out.rqAt L
   obtain rfl:ra=some ⟨gr,0,none⟩:=aH.out.symm.trans ab
   have N:=H1.out x (List.mem_of_getElem? L)
   obtain⟨y,Y⟩: ∃y,y=zT len Pt Tx x:=⟨_,rfl⟩
   have O:Hid (zbd F m.rq (k+1)=zbX l y):=by show _=_;rw[zf6 L,←HL.out,Y,HF.out]
   clear ab L
   go_wp2_with fail
   refine (CM.out a g len af Pt Tx x _ U.out.rules hl HP.out HT.out N).mono ?_
   rintro e w2 ⟨rfl,am⟩
   rw[←Y]
   have ap:=zc (U.out.later am)
   have al:=zc (HO.out.keep fun k g=>am.block k (HO.out.typed g).2.1)
   clear am U HO Y N cx
   go_wp2_with fail
   refine (zgp w.heap.size r l y _ al.out (by omega)).mono ?_
   rintro e w3 ⟨rfl,hw⟩
   rw[hw]
   clear hw w3
   cases hh:zak l y with
   |true=>
    go_wp2
    go_roundw
    case rel=>exact⟨k+1,r,by omega,by go_num,by rw[O.out,zf7 hh],by show OwnR _ _ _ _ _ _ _;rw[O.out,zf7 hh];exact al.out,ap⟩
    case measure=>simp[intOf];omega
   |false=>
    obtain⟨i0,hi,aB,aG,aE⟩:=info_parts Tryz.infoStrM
    have ag:=fun o1=>al.out.alloc (o:=o1)
    have aA: ∀o1,w.heap.size≤(w2.alloc o1).heap.size:=fun o1=>by rw[zl];have:=ap.out.bel.size;omega
    go_wp2_with (at_builtin;refine zcw _ rfl _ _ 22 rfl w.heap.size 9 i0 _ 1 16 Tryz.underlying22 hi aB aG aE rfl (by decide) (by decide) r l.length (l.map .string) (by rfl) (ag _) w2.heap.size [.string y] (by rfl) (by exact heap_alloc_new w2 _) rfl (by simp[Value.oneCell']) (by omega) (aA _) ?_;intro r' wz hr ab aF;have HR:=zc hr;have aC:=zc ab;clear hr ab aF)
    go_roundw
    case rel=>
     refine⟨k+1,r',by omega,by go_num,by rw[O.out,zeH hh,List.length_append];rfl,?_,ay.out.more (ap.out.later ((Below.refl _ _).alloc (Nat.le_refl _) _)) (ag _) aC.out⟩
     show OwnR ..
     rw[O.out,zeH hh,List.length_append,List.map_append]
     exact HR.out
    case measure=>simp[intOf];omega
  ·obtain rfl:k=m.rq.length:=by omega
   obtain⟨c0,X,V,c3,c4,cf⟩:=zg U.out.box
   have az:Hid (∃M,MW q J a g len Pt Tx w (wr.setCell ⟨J,0,none⟩ (.slice r.a l.length r.cap)) M {m with rq:=l} H A):=⟨_,U.out.set_rq (HO.out.low ay.out.size)⟩
   clear HO
   go_upto_region 9 with fail
   refine zac (R:=fun W=>∃M,MW q J a g len Pt Tx w W M {m with rq:=l} H A) az.out ?_
   rintro w2 ⟨M,hM⟩
   clear az c0 X V c3 c4 cf U
   have U:=zc hM
   obtain⟨c0,X,V,c3,c4,cf⟩:=zg hM.box
   clear hM
   obtain⟨ia,ai⟩: ∃ia,M.im.a=ia:=⟨_,rfl⟩
   have ae:=zc ai
   rw[ai] at X
   clear ai
   go_wp2
   have ax:Hid (MW q J a g len Pt Tx w w2 M {m with rq:=l,im:=zaU (imM F) m.im 0} H A):=by show MW _ _ _ _ _ _ _ _ _ _ _ _ _;rw[zg3];exact U.out
   have au:m.im.length=H:=U.out.hli
   go_loopw [43,9,8] (fun i _ _ wr=>∃k:Nat,k≤H∧i= .int .i64 k∧Hid (MW q J a g len Pt Tx w wr M {m with rq:=l,im:=zaU (imM F) m.im k} H A)) (fun i _ _ _=>(H-intOf i).toNat)
   case atStart=>exact⟨0,Nat.zero_le _,rfl,ax⟩
   case round=>
    obtain⟨k,hk,rfl,Z⟩:=hrel
    clear U ax c0 X V c3 c4 cf
    by_cases ak:k<H
    ·obtain⟨x,L⟩: ∃x,m.im[k]? =some x:=⟨_,List.getElem?_eq_getElem (by omega)⟩
     have N:=H2.out x (List.mem_of_getElem? L)
     have O:=zc (zf8 (f:=imM F) L)
     have HN:=zc (zf9 (f:=imM F) L)
     obtain⟨y,Y⟩: ∃y,y=zT len Pt Tx x.spec:=⟨_,rfl⟩
     have HY:Hid (imM F x=⟨y,x.first,x.loc⟩):=by show _=_;rw[imM,Y,HF.out]
     obtain⟨gi,aj,d0,d1,d2,df⟩:=Z.out.im O.out
     obtain rfl:ia=some ⟨gi,0,none⟩:=ae.out.symm.trans aj
     clear L
     go_upto_region 12 with fail
     refine zac (R:=fun W=>MW q J a g len Pt Tx w W M {m with rq:=l,im:=zaU (imM F) m.im k} H A∧W.cell? ⟨wr.heap.size,0,none⟩=some (.string x.spec)) ⟨Z.out.later ((Below.refl _ _).alloc (Nat.le_refl _) _),by rw[World.cell?_alloc_new];rfl⟩ ?_
     obtain⟨gb,ac⟩: ∃gb,gb=wr.heap.size:=⟨_,rfl⟩
     rw[←ac]
     clear ac
     rintro W ⟨hM,b0⟩
     have HW:=zc hM
     obtain⟨c0,X,V,c3,c4,cf⟩:=zg hM.box
     rw[ae.out] at X
     clear hM d0 d1 d2 df Z
     go_region_with (go_at_call 21;refine (CM.out a g len af Pt Tx x.spec _ (HW.out.later (Below.refl _ _).drew).rules hl HP.out HT.out N).mono ?_;rintro e w3 ⟨rfl,aa⟩;rw[←Y];have I:=zc ((HW.out.later (Below.refl _ _).drew).later aa);obtain⟨e0,e1,e2,e3,e4,ef⟩:=zg I.out.box;rw[ae.out] at e1;obtain⟨gj,z,d0,d1,d2,df⟩:=I.out.im O.out;obtain rfl:gi=gj:=(by rw[ae.out] at z;cases z;rfl);have HG:=zc z;clear aa z)
     all_goals
      go_wp2
      go_roundw
      case rel=>
       refine⟨k+1,by omega,by go_num,?_⟩
       show MW ..
       rw[HN.out,HY.out]
       subst Y
       exact I.out.set_im O.out HG.out _
      case measure=>simp[intOf];omega
    ·obtain rfl:k=H:=by omega
     have ao:Hid (MW q J a g len Pt Tx w wr M {m with rq:=l,im:=m.im.map (imM F),ep:=zaU (epM F) m.ep 0} k A):=by
      show MW ..
      have:=Z.out
      rw[←au,zg4,au] at this
      rw[zg3]
      exact this
     have av:m.ep.length=A:=Z.out.hle
     clear Z
     obtain⟨c0,X,V,c3,c4,cf⟩:=zg ao.out.box
     obtain⟨ea,an⟩: ∃ea,M.ep.a=ea:=⟨_,rfl⟩
     have ad:=zc an
     rw[an] at V
     clear an
     go_wp2
     go_loopw [65,11,10] (fun i _ _ wr=>∃j:Nat,j≤A∧i= .int .i64 j∧Hid (MW q J a g len Pt Tx w wr M {m with rq:=l,im:=m.im.map (imM F),ep:=zaU (epM F) m.ep j} k A)) (fun i _ _ _=>(A-intOf i).toNat)
     case atStart=>exact⟨0,Nat.zero_le _,rfl,ao⟩
     case round=>
      obtain⟨j,hj,rfl,Z⟩:=hrel
      clear ao c0 X V c3 c4 cf
      by_cases ak:j<A
      ·obtain⟨x,L⟩: ∃x,m.ep[j]? =some x:=⟨_,List.getElem?_eq_getElem (by omega)⟩
       have N:=H3.out x (List.mem_of_getElem? L)
       have O:=zc (zf8 (f:=epM F) L)
       have HN:=zc (zf9 (f:=epM F) L)
       obtain⟨y,Y⟩: ∃y,y=zT len Pt Tx x.spec:=⟨_,rfl⟩
       have HY:Hid (epM F x=⟨x.kind,x.name,x.loc,y⟩):=by show _=_;rw[epM,Y,HF.out]
       obtain⟨gi,aj,d0,d1,d2,d3,df⟩:=Z.out.ep O.out
       obtain rfl:ea=some ⟨gi,0,none⟩:=ad.out.symm.trans aj
       clear L
       go_upto_region 17 with fail
       refine zac (R:=fun W=>MW q J a g len Pt Tx w W M {m with rq:=l,im:=m.im.map (imM F),ep:=zaU (epM F) m.ep j} k A∧W.cell? ⟨wr.heap.size,3,none⟩=some (.string x.spec)) ⟨Z.out.later ((Below.refl _ _).alloc (Nat.le_refl _) _),by rw[World.cell?_alloc_new];rfl⟩ ?_
       obtain⟨gb,ac⟩: ∃gb,gb=wr.heap.size:=⟨_,rfl⟩
       rw[←ac]
       clear ac
       rintro W ⟨hM,b0⟩
       have HW:=zc hM
       obtain⟨c0,X,V,c3,c4,cf⟩:=zg hM.box
       rw[ad.out] at V
       clear hM d0 d1 d2 d3 df Z
       go_region_with (go_at_call 21;refine (CM.out a g len af Pt Tx x.spec _ (HW.out.later (Below.refl _ _).drew).rules hl HP.out HT.out N).mono ?_;rintro e w3 ⟨rfl,aa⟩;rw[←Y];have I:=zc ((HW.out.later (Below.refl _ _).drew).later aa);obtain⟨e0,e1,e2,e3,e4,ef⟩:=zg I.out.box;rw[ad.out] at e2;obtain⟨gj,z,d0,d1,d2,d3,df⟩:=I.out.ep O.out;obtain rfl:gi=gj:=(by rw[ad.out] at z;cases z;rfl);have HG:=zc z;clear aa z)
       all_goals
        go_wp2
        go_roundw
        case rel=>
         refine⟨j+1,by omega,by go_num,?_⟩
         show MW ..
         rw[HN.out,HY.out]
         subst Y
         exact I.out.set_ep O.out HG.out _
        case measure=>simp[intOf];omega
      ·obtain rfl:j=A:=by omega
       go_wp2
       go_end0
       refine⟨rfl,M,?_⟩
       have:=Z.out
       rw[←av,zg4,av,HL.out] at this
       rw[zaZ,←HF.out]
       exact this
end Go.Proofs.YtjdddblpfbmpaaaGreat