/-
  What spec.MapMod answers: the walk.
  What l4Same of the specification answers,the model's != handed in: the walk.
-/
import Derived.Test.YtjdddblpfbmpaaaGreatClImplMapMod
namespace Go.Proofs.YtjdddblpfbmpaaaGreat
set_option maxRecDepth 100000
set_option maxHeartbeats 12800000
open Go.RowKit Go.PlainAid Go.Sort
theorem OwnMd.rqAt {w:World} {base:Nat} {S:Sv} {m:Md} (h:OwnMd w base S m) {i:Nat} {x:ByteArray} (A:m.rq[i]? =some x): ∃j,S.rq.a=some ⟨j,0,none⟩∧w.cell? ⟨j,i,none⟩=some (.string x):=by
 obtain⟨I,H⟩:=List.getElem?_eq_some_iff.1 A
 obtain⟨j,z⟩:=h.rq.addrA (by omega)
 refine⟨j,z,?_⟩
 have:=World.ownsRow.cellAt (h.rq.at z) i (by omega)
 rw[this,List.getElem?_map,A]
 rfl
theorem zqc {w:World} {base:Nat} {r:Rw} {l:List ByteArray} (h:OwnR w base 9 1 r l.length (l.map .string)):zjH w r.a l:=by
 cases I:l with
 |nil=>exact .inl rfl
 |cons y t=>
  rw[←I]
  obtain⟨g,A⟩:=h.addrA (by rw[I];exact Nat.succ_pos _)
  refine .inr ⟨g,0,A,(h.typed (OwnR.blkOf A)).2.1,fun j x H i v z=>?_⟩
  have J:=(List.getElem?_eq_some_iff.1 H).1
  cases i with
  |succ i=>simp at z
  |zero=>
   simp at z
   subst z
   have:=World.ownsRow.cellAt (h.at A) j (by omega)
   rw[List.getElem?_map,H] at this
   simpa using this
section
variable {base gx g len li le:Nat} {a:Option Addr} {Pt Tx:Nat→ByteArray} {w0 W W':World} {S:Sv} {n:Md}
theorem MW.rq_box (h:MW base gx a g len Pt Tx w0 W S n li le) (z:W.grownBy W' S.rq.blk):W'.heap[gx]? =W.heap[gx]? :=
 z.block gx (Array.getElem?_eq_some_iff.1 h.box).1 fun e=>by
  obtain⟨_,_,w,j⟩:=h.own.rq.typed e.symm
  rw[h.box] at j
  exact absurd j (by simp)
end
theorem zqd (cO:OkC 7) (base:Nat) (g len ak:Nat) (Pt Tx:Nat→ByteArray) (S:Sv) (m:Md) (w:World) (hf:FilesAt w (some ⟨g,0,none⟩) g 0 len Pt Tx) (hl:len≤1048576) (hp: ∀j,j<len→(Pt j).size≤1048576) (ht: ∀j,j<len→(Tx j).size≤1048576) (h:OwnMd w base S m) (hc:zbb m≤1048576) (hn:zaR m.ex):
  Calls Tryz.prog 12 #[.slice (some ⟨g,0,none⟩) len ak,zh S m] w (zj1 (zZ len Pt Tx) m w):=by
 have CO:=zc cO
 have HH:=zc h
 have HF:=zc hf
 have HP:=zc hp
 have HT:=zc ht
 have HC:=zc hc
 have HN:=zc hn
 clear h hf hp ht hn hc cO
 unfold zh
 go_enter Tryz.func12,Tryz.ntmps12
 go_upto_region 1 with fail
 have e1:(w.alloc (.cells #[.slice S.rq.a m.rq.length S.rq.cap,.slice S.im.a m.im.length S.im.cap,.slice S.ep.a m.ep.length S.ep.cap,.slice S.st.a m.st.length S.st.cap,.slice S.ex.a m.ex.length S.ex.cap] 36)).heap.size=w.heap.size+1:=zn _ _
 have HW:Hid (Below w.heap.size w ((w.alloc (.cells #[.slice S.rq.a m.rq.length S.rq.cap,.slice S.im.a m.im.length S.im.cap,.slice S.ep.a m.ep.length S.ep.cap,.slice S.st.a m.st.length S.st.cap,.slice S.ex.a m.ex.length S.ex.cap] 36)).alloc (.cells #[.slice none 0 0,.slice none 0 0,.slice none 0 0,.slice none 0 0,.slice none 0 0] 36))):=((Below.refl _ _).alloc (Nat.le_refl _) _).alloc (by rw[e1];omega) _
 refine zV (R:=fun W=>W.heap[w.heap.size]? =some (.cells #[.slice S.rq.a m.rq.length S.rq.cap,.slice S.im.a m.im.length S.im.cap,.slice S.ep.a m.ep.length S.ep.cap,.slice S.st.a m.st.length S.st.cap,.slice S.ex.a m.ex.length S.ex.cap] 36 (0,0))∧W.heap[w.heap.size+1]? =some (.cells #[.slice none 0 0,.slice none 0 0,.slice none 0 0,.slice none 0 0,.slice none 0 0] 36 (0,0))∧OwnMd W base S m∧Below w.heap.size w W) ⟨(heap_alloc_old _ _ (by rw[e1];omega)).trans (heap_alloc_new w _),heap_alloc2_new w _ _,HH.out.later HW.out,HW.out⟩ ?_
 obtain⟨gx,ap⟩: ∃gx,gx=w.heap.size:=⟨_,rfl⟩
 obtain⟨gz,aG⟩: ∃gz,gz=w.heap.size+1:=⟨_,rfl⟩
 rw[←aG,←ap]
 rintro w1 ⟨J,hz,ho,I⟩
 rw[ap] at I
 have aw:Hid (w.heap.size≤gz):=by show _≤_;omega
 clear ap aG HW HH e1
 have X1:=zc J
 have Z1:=zc hz
 have O1:=zc ho
 have au:=zc I
 clear J hz ho I
 obtain⟨V,U,O,Y,Z,X⟩:=zg X1.out
 go_wp2_with fail
 refine (CO.out base S m w1 O1.out (Nat.le_trans HC.out (by decide)) HN.out).mono ?_
 rintro e H ⟨ao,I⟩
 obtain⟨b,rfl,ad⟩:=ao
 have OK:=zc ad
 have X2:=zc ((I.block _ (Array.getElem?_eq_some_iff.1 X1.out).1).trans X1.out)
 have Z2:=zc ((I.block _ (Array.getElem?_eq_some_iff.1 Z1.out).1).trans Z1.out)
 have B2:=zc (au.out.trans (I.mono au.out.size))
 have O2:=zc (O1.out.later I)
 have F2:=zc ((HF.out.later au.out).later I)
 clear ad I V U O Y Z X X1 Z1 O1
 obtain⟨V,U,O,Y,Z,X⟩:=zg X2.out
 obtain⟨k0,k1,k2,k3,k4,kf⟩:=zg Z2.out
 cases b with
 |false=>
  go_wp2
  refine bodyPost_ret (zar rfl _ _ gz 36 _ (0,0) _ rfl (zbH Z2.out) Tryz.underlying36 rfl (by kernel_rfl)) rfl ?_
  exact⟨false,S0,rfl,ze4 _ _,⟨fun k=>(by cases k),fun k=>OK.out.2 k.1⟩,zbN B2.out aw.out _ _ _ _ _⟩
 |true=>
  have MK:=zc (OK.out.1 rfl)
  have PT:=zc MK.out.parts
  clear OK
  go_wp2_with fail
  refine (zpX base S m H O2.out ⟨by have:=PT.out.rq;omega,PT.out.im,PT.out.ep,PT.out.st,PT.out.ex⟩).mono ?_
  rintro e w3 ⟨Sy,rfl,oy,I⟩
  clear k0 k1 k2 k3 k4 kf V U O Y Z X
  have B3:=zc I
  have OY:=zc oy
  clear I oy
  unfold zh
  go_upto_region 4 with fail
  refine zV (R:=fun W=>W.heap[w3.heap.size]? =some (.cells #[.slice Sy.rq.a m.rq.length Sy.rq.cap,.slice Sy.im.a m.im.length Sy.im.cap,.slice Sy.ep.a m.ep.length Sy.ep.cap,.slice Sy.st.a m.st.length Sy.st.cap,.slice Sy.ex.a m.ex.length Sy.ex.cap] 36 (0,0))∧OwnMd W H.heap.size Sy m∧Below H.heap.size H W) ⟨heap_alloc_new w3 _,OY.out.later ((Below.refl _ _).alloc (Nat.le_refl _) _),B3.out.alloc B3.out.size _⟩ ?_
  have HG:Hid (H.heap.size≤w3.heap.size):=B3.out.size
  obtain⟨gy,aF⟩: ∃gy,gy=w3.heap.size:=⟨_,rfl⟩
  rw[←aF] at HG ⊢
  rintro w4 ⟨hy,ho,I⟩
  clear aF B3 OY
  have LX:Hid (gx<H.heap.size):=(Array.getElem?_eq_some_iff.1 X2.out).1
  have LZ:Hid (gz<H.heap.size):=(Array.getElem?_eq_some_iff.1 Z2.out).1
  have M4:Hid (MW H.heap.size gy (some ⟨g,0,none⟩) g len Pt Tx H w4 Sy m m.im.length m.ep.length):=⟨hy,ho,F2.out.later I,fun hl=>F2.out.lt hl,I,HG.out,rfl,rfl⟩
  clear hy ho I
  obtain⟨V,U,O,Y,Z,X⟩:=zg (M4.out.later ((Below.refl w4.heap.size w4).alloc (Nat.le_refl _) (.cells #[] 9))).box
  go_upto_region 5 with fail
  refine zV (R:=fun W=>∃S1,MW H.heap.size gy (some ⟨g,0,none⟩) g len Pt Tx H W S1 {m with rq:=[]} m.im.length m.ep.length) ⟨_,(M4.out.later ((Below.refl _ _).alloc (Nat.le_refl _) _)).set_rq (r:=⟨some ⟨w4.heap.size,0,none⟩,0⟩) (l:=[]) ((zjJ w4).low M4.out.bel.size)⟩ ?_
  rintro w5 ⟨S5,hM⟩
  have M5:=zc hM
  clear hM M4 V U O Y Z X
  obtain⟨F,hF⟩: ∃F,F=zZ len Pt Tx:=⟨_,rfl⟩
  have ac:=zc hF
  clear hF
  obtain⟨li,aj⟩: ∃li,li=m.im.length:=⟨_,rfl⟩
  obtain⟨le,ah⟩: ∃le,le=m.ep.length:=⟨_,rfl⟩
  rw[←aj,←ah] at M5
  have aH:=PT.out.im
  have aD:=PT.out.ep
  rw[←aj] at aH
  rw[←ah] at aD
  have an:=zc aj
  have ax:=zc ah
  have aO:=PT.out.rq
  clear aj ah
  have H1:=zc (zeA HC.out).1
  have H2:=zc (zeA HC.out).2.1
  have H3:=zc (zeA HC.out).2.2
  go_wp2
  go_loopw [7,8] (fun i _ wr=>∃(k:Nat) (A:Sv),k≤m.rq.length∧i= .int .i64 k∧Hid (MW H.heap.size gy (some ⟨g,0,none⟩) g len Pt Tx H wr A {m with rq:=zbJ F m.rq k} li le)) (fun i _ _=>(m.rq.length-intOf i).toNat)
  case atStart=>exact⟨0,S5,Nat.zero_le _,rfl,M5⟩
  case round=>
   obtain⟨k,A,hk,rfl,HM⟩:=hrel
   clear M5
   obtain⟨V,U,O,Y,Z,X⟩:=zg ((HM.out.bel.block gx LX.out).trans X2.out)
   by_cases aq:k<m.rq.length
   ·obtain⟨l,hL⟩: ∃l,l=zbJ F m.rq k:=⟨_,rfl⟩
    have aP:l.length≤1000:=by rw[hL];exact Nat.le_trans (zhz F m.rq k) (by omega)
    rw[←hL] at HM
    obtain⟨x,J⟩: ∃x,m.rq[k]? =some x:=⟨_,List.getElem?_eq_getElem aq⟩
    obtain⟨gr,ae,cx⟩:=(O2.out.later HM.out.bel).rqAt J
    rw[ae] at V
    have ab:=H1.out x (List.mem_of_getElem? J)
    obtain⟨y,hy⟩: ∃y,y=zZ len Pt Tx x:=⟨_,rfl⟩
    have HX:Hid (zbJ F m.rq (k+1)=zcn l y):=by show _=_;rw[zjx J,hL,hy,ac.out]
    clear hL ae J
    go_wp2_with fail
    refine (zh4 g len ak Pt Tx x _ HM.out.rules hl HP.out HT.out ab).mono ?_
    rintro e w6 ⟨rfl,N⟩
    rw[←hy]
    have z:=zc (HM.out.later N)
    clear N HM hy ab cx V U O Y Z X
    obtain⟨d0,d1,d2,d3,d4,df⟩:=zg z.out.box
    go_wp2_with fail
    refine (zqa A.rq.a A.rq.cap l.length l y _ rfl (zqc z.out.own.rq) (by omega)).mono ?_
    rintro e w7 ⟨rfl,hw⟩
    rw[hw]
    clear hw w7
    rw[show inL l y=zaJ l y from rfl]
    cases hh:zaJ l y with
    |true=>
     go_wp2
     go_roundw
     case rel=>exact⟨k+1,A,by omega,by go_num,by show MW _ _ _ _ _ _ _ _ _ _ _ _ _;rw[HX.out,zhx hh];exact z.out⟩
     case measure=>simp[intOf];omega
    |false=>
     obtain⟨i0,hi,aJ,aM,aK⟩:=info_parts Tryz.infoStrM
     have aE:=fun o1=>z.out.own.rq.alloc (o:=o1)
     have aI: ∀o1,H.heap.size≤(w6.alloc o1).heap.size:=fun o1=>by rw[zn];have:=z.out.bel.size;omega
     have ar:=fun o1=>zc (z.out.later ((Below.refl w6.heap.size w6).alloc (Nat.le_refl _) o1))
     go_wp2_with (at_builtin;refine zcv _ rfl _ _ 22 rfl H.heap.size 9 i0 _ 1 16 Tryz.underlying22 hi aJ aM aK rfl (by decide) (by decide) A.rq l.length (l.map .string) (by rfl) (aE _) w6.heap.size [.string y] (by rfl) (by exact heap_alloc_new w6 _) rfl (by simp[Value.oneCell']) (by omega) (aI _) ?_;intro r' wz hr ae aL;have HR:=zc hr;have az:=zc ae;clear hr ae aL;obtain⟨d0,d1,d2,d3,d4,df⟩:=zg (((ar _).out.rq_box az.out).trans (ar _).out.box))
     go_roundw
     case rel=>
      refine⟨k+1,{A with rq:=r'},by omega,by go_num,?_⟩
      show MW ..
      rw[HX.out,zhy hh]
      exact (ar _).out.push_rq az.out HR.out
     case measure=>simp[intOf];omega
   ·obtain rfl:k=m.rq.length:=by omega
    obtain⟨l,hL⟩: ∃l,l=zbJ F m.rq m.rq.length:=⟨_,rfl⟩
    rw[←hL] at HM
    have HL:=zc hL
    clear hL
    have aC:Hid (MW H.heap.size gy (some ⟨g,0,none⟩) g len Pt Tx H wr A {m with rq:=l,im:=zaV (imM F) m.im 0} li le):=by show MW _ _ _ _ _ _ _ _ _ _ _ _ _;rw[zgo];exact HM.out
    clear HM
    obtain⟨ia,ay⟩: ∃ia,A.im.a=ia:=⟨_,rfl⟩
    have ai:=zc ay
    clear ay
    go_wp2
    go_loopw [9] (fun i wr=>∃k:Nat,k≤li∧i= .int .i64 k∧Hid (MW H.heap.size gy (some ⟨g,0,none⟩) g len Pt Tx H wr A {m with rq:=l,im:=zaV (imM F) m.im k} li le)) (fun i _=>(li-intOf i).toNat)
    case atStart=>exact⟨0,Nat.zero_le _,rfl,aC⟩
    case round=>
     obtain⟨k,hk,rfl,HK⟩:=hrel
     clear aC V U O Y Z X
     obtain⟨V,U,O,Y,Z,X⟩:=zg HK.out.box
     rw[ai.out] at U
     by_cases aq:k<li
     ·obtain⟨x,J⟩: ∃x,m.im[k]? =some x:=⟨_,List.getElem?_eq_getElem (by have:=an.out;omega)⟩
      have ab:=H2.out x (List.mem_of_getElem? J)
      have HX:=zc (zfo (f:=imM F) J)
      have af:=zc (zfp (f:=imM F) J)
      obtain⟨y,hy⟩: ∃y,y=zZ len Pt Tx x.spec:=⟨_,rfl⟩
      have HY:Hid (imM F x=⟨y,x.first,x.loc⟩):=by show _=_;rw[imM,hy,ac.out]
      obtain⟨gi,aa,d0,d1,d2,df⟩:=HK.out.im HX.out
      obtain rfl:ia=some ⟨gi,0,none⟩:=ai.out.symm.trans aa
      clear J aa
      go_wp2_with fail
      go_region_with (go_at_call 22;refine (zh4 g len ak Pt Tx x.spec _ (HK.out.later (Below.refl _ _).drew).rules hl HP.out HT.out ab).mono ?_;rintro e w6 ⟨rfl,N⟩;rw[←hy];have z:=zc ((HK.out.later (Below.refl _ _).drew).later N);obtain⟨e0,e1,e2,e3,e4,ef⟩:=zg z.out.box;rw[ai.out] at e1;obtain⟨gj,L,f0,f1,f2,ff⟩:=z.out.im HX.out;obtain rfl:gi=gj:=(by rw[ai.out] at L;cases L;rfl);have am:=zc L;clear N L)
      all_goals
       go_wp2
       go_roundw
       case rel=>
        refine⟨k+1,by omega,by go_num,?_⟩
        show MW ..
        rw[af.out,HY.out]
        subst hy
        exact z.out.set_im HX.out am.out _
       case measure=>simp[intOf];omega
     ·obtain rfl:k=li:=by omega
      have aB:Hid (MW H.heap.size gy (some ⟨g,0,none⟩) g len Pt Tx H wr A {m with rq:=l,im:=m.im.map (imM F),ep:=zaV (epM F) m.ep 0} k le):=by
       show MW ..
       have:=HK.out
       rw[an.out,zgp,←an.out] at this
       rw[zgo]
       exact this
      clear HK
      obtain⟨ea,aA⟩: ∃ea,A.ep.a=ea:=⟨_,rfl⟩
      have ag:=zc aA
      clear aA
      go_wp2
      go_loopw [10] (fun i wr=>∃j:Nat,j≤le∧i= .int .i64 j∧Hid (MW H.heap.size gy (some ⟨g,0,none⟩) g len Pt Tx H wr A {m with rq:=l,im:=m.im.map (imM F),ep:=zaV (epM F) m.ep j} k le)) (fun i _=>(le-intOf i).toNat)
      case atStart=>exact⟨0,Nat.zero_le _,rfl,aB⟩
      case round=>
       obtain⟨j,hj,rfl,HK⟩:=hrel
       clear aB V U O Y Z X
       obtain⟨V,U,O,Y,Z,X⟩:=zg HK.out.box
       rw[ag.out] at O
       by_cases aq:j<le
       ·obtain⟨x,J⟩: ∃x,m.ep[j]? =some x:=⟨_,List.getElem?_eq_getElem (by have:=ax.out;omega)⟩
        have ab:=H3.out x (List.mem_of_getElem? J)
        have HX:=zc (zfo (f:=epM F) J)
        obtain⟨gi,aa,d0,d1,d2,d3,df⟩:=HK.out.ep HX.out
        obtain rfl:ea=some ⟨gi,0,none⟩:=ag.out.symm.trans aa
        by_cases av:x.kind=1
        ·have aN:(x.kind !=1)=false:=by rw[av];rfl
         have af:Hid (zaV (epM F) m.ep (j+1)=zaV (epM F) m.ep j):=zok J (by rw[ac.out];exact zon (PT.out.fit x (List.mem_of_getElem? J)) av)
         clear J aa
         go_wp2
         go_roundw
         case rel=>exact⟨j+1,by omega,by go_num,by show MW _ _ _ _ _ _ _ _ _ _ _ _ _;rw[af.out];exact HK.out⟩
         case measure=>simp[intOf];omega
        ·have aN:(x.kind !=1)=true:=by simpa using av
         have af:=zc (zfp (f:=epM F) J)
         obtain⟨y,hy⟩: ∃y,y=zZ len Pt Tx x.spec:=⟨_,rfl⟩
         have HY:Hid (epM F x=⟨x.kind,x.name,x.loc,y⟩):=by show _=_;rw[epM,hy,ac.out]
         clear J aa
         go_wp2_with fail
         go_region_with (go_at_call 22;refine (zh4 g len ak Pt Tx x.spec _ (HK.out.later (Below.refl _ _).drew).rules hl HP.out HT.out ab).mono ?_;rintro e w6 ⟨rfl,N⟩;rw[←hy];have z:=zc ((HK.out.later (Below.refl _ _).drew).later N);obtain⟨e0,e1,e2,e3,e4,ef⟩:=zg z.out.box;rw[ag.out] at e2;obtain⟨gj,L,f0,f1,f2,f3,ff⟩:=z.out.ep HX.out;obtain rfl:gi=gj:=(by rw[ag.out] at L;cases L;rfl);have am:=zc L;clear N L)
         all_goals
          go_wp2
          go_roundw
          case rel=>
           refine⟨j+1,by omega,by go_num,?_⟩
           show MW ..
           rw[af.out,HY.out]
           subst hy
           exact z.out.set_ep HX.out am.out _
          case measure=>simp[intOf];omega
       ·obtain rfl:j=le:=by omega
        go_upto_region 20 with fail
        have M6:Hid (MW H.heap.size gy (some ⟨g,0,none⟩) g len Pt Tx H wr A (zaM (zZ len Pt Tx) m) k j):=by
         show MW ..
         have:=HK.out
         rw[ax.out,zgp,←ax.out,HL.out] at this
         rw[zaM,←ac.out]
         exact this
        clear HK
        have al:Hid (zbb (zaM (zZ len Pt Tx) m)≤67108864):=by
         show _≤_
         have h:=zjz (F:=zZ len Pt Tx) zj0 m
         have:=HC.out
         omega
        have NM:Hid (zaR (zaM (zZ len Pt Tx) m).ex):=HN.out
        have Z6:=zc ((M6.out.bel.block gz LZ.out).trans Z2.out)
        have B6:=zc (B2.out.trans (M6.out.bel.mono B2.out.size))
        obtain⟨M,hM⟩: ∃M,M=zaM (zZ len Pt Tx) m:=⟨_,rfl⟩
        have HM:=zc hM
        rw[←hM] at M6 al NM
        clear hM
        have BX:=M6.out.box
        rw[←M6.out.hli,←M6.out.hle] at BX
        have X6:=zc BX
        clear V U O Y Z X
        obtain⟨V,U,O,Y,Z,X⟩:=zg BX
        clear BX
        go_wp2_with fail
        refine (CO.out H.heap.size A M wr M6.out.own al.out NM.out).mono ?_
        rintro e w7 ⟨ao,I⟩
        obtain⟨b,rfl,ad⟩:=ao
        have OK:=zc ad
        have X7:=zc ((I.block _ (Array.getElem?_eq_some_iff.1 X6.out).1).trans X6.out)
        have Z7:=zc ((I.block _ (Array.getElem?_eq_some_iff.1 Z6.out).1).trans Z6.out)
        have B7:=zc (B6.out.trans (I.mono B6.out.size))
        have O7:=zc (M6.out.own.later I)
        clear ad I V U O Y Z X X6 Z6 B6
        obtain⟨V,U,O,Y,Z,X⟩:=zg X7.out
        obtain⟨k0,k1,k2,k3,k4,kf⟩:=zg Z7.out
        cases b with
        |false=>
         go_wp2
         refine bodyPost_ret (zar rfl _ _ gz 36 _ (0,0) _ rfl (zbH Z7.out) Tryz.underlying36 rfl (by kernel_rfl)) rfl ?_
         exact⟨false,S0,rfl,ze4 _ _,⟨fun k=>(by cases k),fun k=>OK.out.2 (HM.out▸k.2)⟩,zbN B7.out aw.out _ _ _ _ _⟩
        |true=>
         go_wp2
         refine bodyPost_ret (zar rfl _ _ gz 36 _ (0,0) _ rfl (zbH Z7.out) Tryz.underlying36 rfl (by kernel_rfl)) rfl ?_
         have hO:=(zdZ (o:=0) (x0:=.slice A.rq.a M.rq.length A.rq.cap) (x1:=.slice A.im.a M.im.length A.im.cap) (x2:=.slice A.ep.a M.ep.length A.ep.cap) (x3:=.slice A.st.a M.st.length A.st.cap) (x4:=.slice A.ex.a M.ex.length A.ex.cap) O7.out ⟨_,Z7.out⟩).low B2.out.size
         have hK:=OK.out.1 (by first|trivial|rfl)
         have hE:=HM.out
         subst hE
         exact⟨true,A,rfl,hO,⟨fun _=>⟨MK.out,hK⟩,fun _=>rfl⟩,zbN B7.out aw.out _ _ _ _ _⟩
theorem zqe (ad: ∀(x y:Im) (W:World),Sem.run Tryz.prog (binOp .neq 84 (.agg #[.string x.spec,.string x.first,.string x.loc]) (.agg #[.string y.spec,.string y.first,.string y.loc])) W= .ok (.bool (!zdg x y)) W) (al: ∀(V:BinOp) (a b:Operand) (x y:Im) (W:World),Sem.run Tryz.prog (eqGuard V 84 a b (.agg #[.string x.spec,.string x.first,.string x.loc]) (.agg #[.string y.spec,.string y.first,.string y.loc])) W= .ok () W) (aj: ∀(x y:Ep) (W:World),Sem.run Tryz.prog (binOp .neq 86 (.agg #[.int .i64 x.kind,.string x.name,.string x.loc,.string x.spec]) (.agg #[.int .i64 y.kind,.string y.name,.string y.loc,.string y.spec])) W= .ok (.bool (!zdh x y)) W) (ag: ∀(V:BinOp) (a b:Operand) (x y:Ep) (W:World),Sem.run Tryz.prog (eqGuard V 86 a b (.agg #[.int .i64 x.kind,.string x.name,.string x.loc,.string x.spec]) (.agg #[.int .i64 y.kind,.string y.name,.string y.loc,.string y.spec])) W= .ok () W) (ak: ∀(x y:Sm) (W:World),Sem.run Tryz.prog (binOp .neq 107 (.agg #[.int .i64 x.kind,.string x.name,.int .i64 x.expr]) (.agg #[.int .i64 y.kind,.string y.name,.int .i64 y.expr])) W= .ok (.bool (!zdi x y)) W) (af: ∀(V:BinOp) (a b:Operand) (x y:Sm) (W:World),Sem.run Tryz.prog (eqGuard V 107 a b (.agg #[.int .i64 x.kind,.string x.name,.int .i64 x.expr]) (.agg #[.int .i64 y.kind,.string y.name,.int .i64 y.expr])) W= .ok () W) (ai: ∀(x y:Ex) (W:World),Sem.run Tryz.prog (binOp .neq 109 (.agg #[.int .i64 x.kind,.int .i64 x.num,.string x.name,.string x.field,.int .i64 x.l,.int .i64 x.r]) (.agg #[.int .i64 y.kind,.int .i64 y.num,.string y.name,.string y.field,.int .i64 y.l,.int .i64 y.r])) W= .ok (.bool (!zdj x y)) W) (ae: ∀(V:BinOp) (a b:Operand) (x y:Ex) (W:World),Sem.run Tryz.prog (eqGuard V 109 a b (.agg #[.int .i64 x.kind,.int .i64 x.num,.string x.name,.string x.field,.int .i64 x.l,.int .i64 x.r]) (.agg #[.int .i64 y.kind,.int .i64 y.num,.string y.name,.string y.field,.int .i64 y.l,.int .i64 y.r])) W= .ok () W) (b1 b2:Nat) (S1 S2:Sv) (z J:Md) (w:World) (O:OwnMd w b1 S1 z) (N:OwnMd w b2 S2 J) (hf:zdB z):
  Calls Tryz.prog 34 #[zh S1 z,zh S2 J] w fun e w'=>zbX (z=J) e∧Below w.heap.size w w':=by
 have H1:=zc O
 have H2:=zc N
 obtain⟨f1,f2,f3,f4,f5⟩:=hf
 clear O N
 unfold zh
 go_enter Tryz.func34,Tryz.ntmps34
 go_upto_region 1 with fail
 refine zV (R:=TwoM w b1 b2 S1 S2 z J) (zhn w b1 b2 S1 S2 z J H1.out H2.out) ?_
 clear H1 H2
 intro w0 h
 have T:=zc h
 clear h
 obtain⟨c0,c1,c2,c3,c4,cf⟩:=zg T.out.1
 obtain⟨d0,d1,d2,d3,d4,df⟩:=zg T.out.2.1
 by_cases q0:(z.rq.length:Int)=(J.rq.length:Int)
 case neg=>
  go_wp2
  go_ret
  exact⟨⟨false,rfl,⟨fun k=>(by cases k),fun k=>absurd (by rw[k]) q0⟩⟩,T.out.2.2.2.2⟩
 by_cases q1:(z.im.length:Int)=(J.im.length:Int)
 case neg=>
  go_wp2
  go_ret
  exact⟨⟨false,rfl,⟨fun k=>(by cases k),fun k=>absurd (by rw[k]) q1⟩⟩,T.out.2.2.2.2⟩
 by_cases q2:(z.ep.length:Int)=(J.ep.length:Int)
 case neg=>
  go_wp2
  go_ret
  exact⟨⟨false,rfl,⟨fun k=>(by cases k),fun k=>absurd (by rw[k]) q2⟩⟩,T.out.2.2.2.2⟩
 by_cases q3:(z.st.length:Int)=(J.st.length:Int)
 case neg=>
  go_wp2
  go_ret
  exact⟨⟨false,rfl,⟨fun k=>(by cases k),fun k=>absurd (by rw[k]) q3⟩⟩,T.out.2.2.2.2⟩
 by_cases q4:(z.ex.length:Int)=(J.ex.length:Int)
 case neg=>
  go_wp2
  go_ret
  exact⟨⟨false,rfl,⟨fun k=>(by cases k),fun k=>absurd (by rw[k]) q4⟩⟩,T.out.2.2.2.2⟩
 go_wp2
 go_loopg [5] z.rq.length (fun k i wr=>∃j:Nat,i= .int .i64 j∧j+k=z.rq.length∧z.rq.take j=J.rq.take j∧TwoM w b1 b2 S1 S2 z J wr)
 case atStart=>exact⟨0,rfl,by omega,rfl,T.out⟩
 case round=>
  obtain⟨j,rfl,hj,ht,hT⟩:=hrel
  clear T c0 c1 c2 c3 c4 cf d0 d1 d2 d3 d4 df
  have T:=zc hT
  have HT:=zc ht
  clear hT ht
  obtain⟨c0,c1,c2,c3,c4,cf⟩:=zg T.out.1
  obtain⟨d0,d1,d2,d3,d4,df⟩:=zg T.out.2.1
  by_cases L:j<z.rq.length
  ·have I:(j:Int)<(z.rq.length:Int):=by omega
   have ab:(j:Int)<(J.rq.length:Int):=by omega
   obtain⟨x,X⟩:=zbp L
   obtain⟨y,Z⟩:=zbp (show j<J.rq.length by omega)
   obtain⟨g1,ga,O⟩:=OwnR.elem (f:=(fun x=>[Value.string x])) (m:=1) (fun _=>rfl) (show OwnR wr b1 9 1 S1.rq z.rq.length (z.rq.flatMap (fun x=>[Value.string x])) by rw[←ze5];exact T.out.2.2.1.rq) X
   obtain⟨g2,gb,N⟩:=OwnR.elem (f:=(fun x=>[Value.string x])) (m:=1) (fun _=>rfl) (show OwnR wr b2 9 1 S2.rq J.rq.length (J.rq.flatMap (fun x=>[Value.string x])) by rw[←ze5];exact T.out.2.2.2.1.rq) Z
   rw[ga] at c0
   rw[gb] at d0
   have C0:=zc (O 0 (by omega))
   have D0:=zc (N 0 (by omega))
   have HX:=zc X
   have HY:=zc Z
   clear O N ga gb X Z
   obtain⟨U,M⟩: ∃U,U=j+1:=⟨_,rfl⟩
   have ej:(j:Int)+1=(U:Int):=by omega
   have HJ:=zc M
   clear M
   obtain⟨b,A⟩: ∃b,zhm x y=b:=⟨_,rfl⟩
   have am:(x.toList==y.toList)=b:=A
   go_wp2
   have kc:=cell_regrown c0
   have kd:=cell_regrown d0
   have k0:=cell_regrown C0.out
   have v0:=cell_regrown D0.out
   simp only[Nat.add_zero,Nat.mul_one] at k0 v0
   refine wp_region_quiet_below (by kernel_rfl) (by kernel_rfl) ?_
   repeat (go_big_quiet_step (fail))
   refine wpQuiet_nil ?_
   intro w2 Y
   obtain⟨⟨dq,aa⟩,H⟩:=Y
   have T2:Hid (TwoM w b1 b2 S1 S2 z J w2):=by show TwoM _ _ _ _ _ _ _ _;rw[H];exact T.out.later (below_regrown wr dq aa)
   clear H kc kd c0 c1 c2 c3 c4 cf d0 d1 d2 d3 d4 df k0 v0 C0 D0
   cases b with
   |true=>
    go_wp2
    go_roundg (gk-1)
    case rel=>exact⟨U,rfl,by have:=HJ.out;omega,by rw[HJ.out];have e:=zfY.1 A;exact zde HT.out HX.out (by rw[e];exact HY.out),T2.out⟩
    case measure=>omega
   |false=>
    go_wp2
    go_ret
    exact⟨⟨false,rfl,⟨fun k=>(by cases k),fun k=>(by have e:=HX.out;rw[k,HY.out] at e;cases e;rw[zfY.2 rfl] at A;cases A)⟩⟩,T2.out.2.2.2.2⟩
  ·have I: ¬(j:Int)<(z.rq.length:Int):=by omega
   obtain rfl:j=z.rq.length:=by omega
   have A0:=zc (zdf (by omega) HT.out)
   clear HT I L hj
   go_wp2
   go_loopg [6] z.im.length (fun k i wr=>∃j:Nat,i= .int .i64 j∧j+k=z.im.length∧z.im.take j=J.im.take j∧TwoM w b1 b2 S1 S2 z J wr)
   case atStart=>exact⟨0,rfl,by omega,rfl,T.out⟩
   case round=>
    obtain⟨j,rfl,hj,ht,hT⟩:=hrel
    clear T c0 c1 c2 c3 c4 cf d0 d1 d2 d3 d4 df
    have T:=zc hT
    have HT:=zc ht
    clear hT ht
    obtain⟨c0,c1,c2,c3,c4,cf⟩:=zg T.out.1
    obtain⟨d0,d1,d2,d3,d4,df⟩:=zg T.out.2.1
    by_cases L:j<z.im.length
    ·have I:(j:Int)<(z.im.length:Int):=by omega
     have ab:(j:Int)<(J.im.length:Int):=by omega
     obtain⟨x,X⟩:=zbp L
     obtain⟨y,Z⟩:=zbp (show j<J.im.length by omega)
     obtain⟨g1,ga,O⟩:=OwnR.elem (f:=imL) (m:=3) (fun _=>rfl) T.out.2.2.1.im X
     obtain⟨g2,gb,N⟩:=OwnR.elem (f:=imL) (m:=3) (fun _=>rfl) T.out.2.2.2.1.im Z
     rw[ga] at c1
     rw[gb] at d1
     have C0:=zc (O 0 (by omega))
     have D0:=zc (N 0 (by omega))
     have C1:=zc (O 1 (by omega))
     have D1:=zc (N 1 (by omega))
     have C2:=zc (O 2 (by omega))
     have D2:=zc (N 2 (by omega))
     have HX:=zc X
     have HY:=zc Z
     clear O N ga gb X Z
     obtain⟨U,M⟩: ∃U,U=j+1:=⟨_,rfl⟩
     have ej:(j:Int)+1=(U:Int):=by omega
     have HJ:=zc M
     clear M
     obtain⟨b,A⟩: ∃b,zdg x y=b:=⟨_,rfl⟩
     have ac: ∀W:World,Sem.run Tryz.prog (binOp .neq 84 (.agg #[.string x.spec,.string x.first,.string x.loc]) (.agg #[.string y.spec,.string y.first,.string y.loc])) W= .ok (.bool !b) W:=fun W=>by rw[ad,A]
     have ah: ∀(V:BinOp) (a b:Operand) (W:World),Sem.run Tryz.prog (eqGuard V 84 a b (.agg #[.string x.spec,.string x.first,.string x.loc]) (.agg #[.string y.spec,.string y.first,.string y.loc])) W= .ok () W:=fun V a b W=>al V a b x y W
     go_wp2
     have kc:=cell_regrown c1
     have kd:=cell_regrown d1
     have k0:=cell_regrown C0.out
     have v0:=cell_regrown D0.out
     have k1:=cell_regrown C1.out
     have v1:=cell_regrown D1.out
     have k2:=cell_regrown C2.out
     have v2:=cell_regrown D2.out
     simp only[Nat.add_zero] at k0 v0
     refine wp_region_quiet_below (by kernel_rfl) (by kernel_rfl) ?_
     repeat (go_big_quiet_step (fail))
     refine wpQuiet_nil ?_
     intro w2 Y
     obtain⟨⟨dq,aa⟩,H⟩:=Y
     have T2:Hid (TwoM w b1 b2 S1 S2 z J w2):=by show TwoM _ _ _ _ _ _ _ _;rw[H];exact T.out.later (below_regrown wr dq aa)
     clear H kc kd c0 c1 c2 c3 c4 cf d0 d1 d2 d3 d4 df k0 v0 C0 D0 k1 v1 C1 D1 k2 v2 C2 D2
     cases b with
     |true=>
      go_wp2
      go_roundg (gk-1)
      case rel=>exact⟨U,rfl,by have:=HJ.out;omega,by rw[HJ.out];have e:=zfZ.1 A;exact zde HT.out HX.out (by rw[e];exact HY.out),T2.out⟩
      case measure=>omega
     |false=>
      go_wp2
      go_ret
      exact⟨⟨false,rfl,⟨fun k=>(by cases k),fun k=>(by have e:=HX.out;rw[k,HY.out] at e;cases e;rw[zfZ.2 rfl] at A;cases A)⟩⟩,T2.out.2.2.2.2⟩
    ·have I: ¬(j:Int)<(z.im.length:Int):=by omega
     obtain rfl:j=z.im.length:=by omega
     have A1:=zc (zdf (by omega) HT.out)
     clear HT I L hj
     go_wp2
     go_loopg [7] z.ep.length (fun k i wr=>∃j:Nat,i= .int .i64 j∧j+k=z.ep.length∧z.ep.take j=J.ep.take j∧TwoM w b1 b2 S1 S2 z J wr)
     case atStart=>exact⟨0,rfl,by omega,rfl,T.out⟩
     case round=>
      obtain⟨j,rfl,hj,ht,hT⟩:=hrel
      clear T c0 c1 c2 c3 c4 cf d0 d1 d2 d3 d4 df
      have T:=zc hT
      have HT:=zc ht
      clear hT ht
      obtain⟨c0,c1,c2,c3,c4,cf⟩:=zg T.out.1
      obtain⟨d0,d1,d2,d3,d4,df⟩:=zg T.out.2.1
      by_cases L:j<z.ep.length
      ·have I:(j:Int)<(z.ep.length:Int):=by omega
       have ab:(j:Int)<(J.ep.length:Int):=by omega
       obtain⟨x,X⟩:=zbp L
       obtain⟨y,Z⟩:=zbp (show j<J.ep.length by omega)
       obtain⟨g1,ga,O⟩:=OwnR.elem (f:=epL) (m:=4) (fun _=>rfl) T.out.2.2.1.ep X
       obtain⟨g2,gb,N⟩:=OwnR.elem (f:=epL) (m:=4) (fun _=>rfl) T.out.2.2.2.1.ep Z
       rw[ga] at c2
       rw[gb] at d2
       have C0:=zc (O 0 (by omega))
       have D0:=zc (N 0 (by omega))
       have C1:=zc (O 1 (by omega))
       have D1:=zc (N 1 (by omega))
       have C2:=zc (O 2 (by omega))
       have D2:=zc (N 2 (by omega))
       have C3:=zc (O 3 (by omega))
       have D3:=zc (N 3 (by omega))
       have HX:=zc X
       have HY:=zc Z
       clear O N ga gb X Z
       obtain⟨U,M⟩: ∃U,U=j+1:=⟨_,rfl⟩
       have ej:(j:Int)+1=(U:Int):=by omega
       have HJ:=zc M
       clear M
       obtain⟨b,A⟩: ∃b,zdh x y=b:=⟨_,rfl⟩
       have ac: ∀W:World,Sem.run Tryz.prog (binOp .neq 86 (.agg #[.int .i64 x.kind,.string x.name,.string x.loc,.string x.spec]) (.agg #[.int .i64 y.kind,.string y.name,.string y.loc,.string y.spec])) W= .ok (.bool !b) W:=fun W=>by rw[aj,A]
       have ah: ∀(V:BinOp) (a b:Operand) (W:World),Sem.run Tryz.prog (eqGuard V 86 a b (.agg #[.int .i64 x.kind,.string x.name,.string x.loc,.string x.spec]) (.agg #[.int .i64 y.kind,.string y.name,.string y.loc,.string y.spec])) W= .ok () W:=fun V a b W=>ag V a b x y W
       go_wp2
       have kc:=cell_regrown c2
       have kd:=cell_regrown d2
       have k0:=cell_regrown C0.out
       have v0:=cell_regrown D0.out
       have k1:=cell_regrown C1.out
       have v1:=cell_regrown D1.out
       have k2:=cell_regrown C2.out
       have v2:=cell_regrown D2.out
       have k3:=cell_regrown C3.out
       have v3:=cell_regrown D3.out
       simp only[Nat.add_zero] at k0 v0
       refine wp_region_quiet_below (by kernel_rfl) (by kernel_rfl) ?_
       repeat (go_big_quiet_step (fail))
       refine wpQuiet_nil ?_
       intro w2 Y
       obtain⟨⟨dq,aa⟩,H⟩:=Y
       have T2:Hid (TwoM w b1 b2 S1 S2 z J w2):=by show TwoM _ _ _ _ _ _ _ _;rw[H];exact T.out.later (below_regrown wr dq aa)
       clear H kc kd c0 c1 c2 c3 c4 cf d0 d1 d2 d3 d4 df k0 v0 C0 D0 k1 v1 C1 D1 k2 v2 C2 D2 k3 v3 C3 D3
       cases b with
       |true=>
        go_wp2
        go_roundg (gk-1)
        case rel=>exact⟨U,rfl,by have:=HJ.out;omega,by rw[HJ.out];have e:=zga.1 A;exact zde HT.out HX.out (by rw[e];exact HY.out),T2.out⟩
        case measure=>omega
       |false=>
        go_wp2
        go_ret
        exact⟨⟨false,rfl,⟨fun k=>(by cases k),fun k=>(by have e:=HX.out;rw[k,HY.out] at e;cases e;rw[zga.2 rfl] at A;cases A)⟩⟩,T2.out.2.2.2.2⟩
      ·have I: ¬(j:Int)<(z.ep.length:Int):=by omega
       obtain rfl:j=z.ep.length:=by omega
       have A2:=zc (zdf (by omega) HT.out)
       clear HT I L hj
       go_wp2
       go_loopg [8] z.st.length (fun k i wr=>∃j:Nat,i= .int .i64 j∧j+k=z.st.length∧z.st.take j=J.st.take j∧TwoM w b1 b2 S1 S2 z J wr)
       case atStart=>exact⟨0,rfl,by omega,rfl,T.out⟩
       case round=>
        obtain⟨j,rfl,hj,ht,hT⟩:=hrel
        clear T c0 c1 c2 c3 c4 cf d0 d1 d2 d3 d4 df
        have T:=zc hT
        have HT:=zc ht
        clear hT ht
        obtain⟨c0,c1,c2,c3,c4,cf⟩:=zg T.out.1
        obtain⟨d0,d1,d2,d3,d4,df⟩:=zg T.out.2.1
        by_cases L:j<z.st.length
        ·have I:(j:Int)<(z.st.length:Int):=by omega
         have ab:(j:Int)<(J.st.length:Int):=by omega
         obtain⟨x,X⟩:=zbp L
         obtain⟨y,Z⟩:=zbp (show j<J.st.length by omega)
         obtain⟨g1,ga,O⟩:=OwnR.elem (f:=smL) (m:=3) (fun _=>rfl) T.out.2.2.1.st X
         obtain⟨g2,gb,N⟩:=OwnR.elem (f:=smL) (m:=3) (fun _=>rfl) T.out.2.2.2.1.st Z
         rw[ga] at c3
         rw[gb] at d3
         have C0:=zc (O 0 (by omega))
         have D0:=zc (N 0 (by omega))
         have C1:=zc (O 1 (by omega))
         have D1:=zc (N 1 (by omega))
         have C2:=zc (O 2 (by omega))
         have D2:=zc (N 2 (by omega))
         have HX:=zc X
         have HY:=zc Z
         clear O N ga gb X Z
         obtain⟨U,M⟩: ∃U,U=j+1:=⟨_,rfl⟩
         have ej:(j:Int)+1=(U:Int):=by omega
         have HJ:=zc M
         clear M
         obtain⟨b,A⟩: ∃b,zdi x y=b:=⟨_,rfl⟩
         have ac: ∀W:World,Sem.run Tryz.prog (binOp .neq 107 (.agg #[.int .i64 x.kind,.string x.name,.int .i64 x.expr]) (.agg #[.int .i64 y.kind,.string y.name,.int .i64 y.expr])) W= .ok (.bool !b) W:=fun W=>by rw[ak,A]
         have ah: ∀(V:BinOp) (a b:Operand) (W:World),Sem.run Tryz.prog (eqGuard V 107 a b (.agg #[.int .i64 x.kind,.string x.name,.int .i64 x.expr]) (.agg #[.int .i64 y.kind,.string y.name,.int .i64 y.expr])) W= .ok () W:=fun V a b W=>af V a b x y W
         go_wp2
         have kc:=cell_regrown c3
         have kd:=cell_regrown d3
         have k0:=cell_regrown C0.out
         have v0:=cell_regrown D0.out
         have k1:=cell_regrown C1.out
         have v1:=cell_regrown D1.out
         have k2:=cell_regrown C2.out
         have v2:=cell_regrown D2.out
         simp only[Nat.add_zero] at k0 v0
         refine wp_region_quiet_below (by kernel_rfl) (by kernel_rfl) ?_
         repeat (go_big_quiet_step (fail))
         refine wpQuiet_nil ?_
         intro w2 Y
         obtain⟨⟨dq,aa⟩,H⟩:=Y
         have T2:Hid (TwoM w b1 b2 S1 S2 z J w2):=by show TwoM _ _ _ _ _ _ _ _;rw[H];exact T.out.later (below_regrown wr dq aa)
         clear H kc kd c0 c1 c2 c3 c4 cf d0 d1 d2 d3 d4 df k0 v0 C0 D0 k1 v1 C1 D1 k2 v2 C2 D2
         cases b with
         |true=>
          go_wp2
          go_roundg (gk-1)
          case rel=>exact⟨U,rfl,by have:=HJ.out;omega,by rw[HJ.out];have e:=zgb.1 A;exact zde HT.out HX.out (by rw[e];exact HY.out),T2.out⟩
          case measure=>omega
         |false=>
          go_wp2
          go_ret
          exact⟨⟨false,rfl,⟨fun k=>(by cases k),fun k=>(by have e:=HX.out;rw[k,HY.out] at e;cases e;rw[zgb.2 rfl] at A;cases A)⟩⟩,T2.out.2.2.2.2⟩
        ·have I: ¬(j:Int)<(z.st.length:Int):=by omega
         obtain rfl:j=z.st.length:=by omega
         have A3:=zc (zdf (by omega) HT.out)
         clear HT I L hj
         go_wp2
         go_loopg [9] z.ex.length (fun k i wr=>∃j:Nat,i= .int .i64 j∧j+k=z.ex.length∧z.ex.take j=J.ex.take j∧TwoM w b1 b2 S1 S2 z J wr)
         case atStart=>exact⟨0,rfl,by omega,rfl,T.out⟩
         case round=>
          obtain⟨j,rfl,hj,ht,hT⟩:=hrel
          clear T c0 c1 c2 c3 c4 cf d0 d1 d2 d3 d4 df
          have T:=zc hT
          have HT:=zc ht
          clear hT ht
          obtain⟨c0,c1,c2,c3,c4,cf⟩:=zg T.out.1
          obtain⟨d0,d1,d2,d3,d4,df⟩:=zg T.out.2.1
          by_cases L:j<z.ex.length
          ·have I:(j:Int)<(z.ex.length:Int):=by omega
           have ab:(j:Int)<(J.ex.length:Int):=by omega
           obtain⟨x,X⟩:=zbp L
           obtain⟨y,Z⟩:=zbp (show j<J.ex.length by omega)
           obtain⟨g1,ga,O⟩:=OwnR.elem (f:=exL) (m:=6) (fun _=>rfl) T.out.2.2.1.ex X
           obtain⟨g2,gb,N⟩:=OwnR.elem (f:=exL) (m:=6) (fun _=>rfl) T.out.2.2.2.1.ex Z
           rw[ga] at c4
           rw[gb] at d4
           have C0:=zc (O 0 (by omega))
           have D0:=zc (N 0 (by omega))
           have C1:=zc (O 1 (by omega))
           have D1:=zc (N 1 (by omega))
           have C2:=zc (O 2 (by omega))
           have D2:=zc (N 2 (by omega))
           have C3:=zc (O 3 (by omega))
           have D3:=zc (N 3 (by omega))
           have C4:=zc (O 4 (by omega))
           have D4:=zc (N 4 (by omega))
           have C5:=zc (O 5 (by omega))
           have D5:=zc (N 5 (by omega))
           have HX:=zc X
           have HY:=zc Z
           clear O N ga gb X Z
           obtain⟨U,M⟩: ∃U,U=j+1:=⟨_,rfl⟩
           have ej:(j:Int)+1=(U:Int):=by omega
           have HJ:=zc M
           clear M
           obtain⟨b,A⟩: ∃b,zdj x y=b:=⟨_,rfl⟩
           have ac: ∀W:World,Sem.run Tryz.prog (binOp .neq 109 (.agg #[.int .i64 x.kind,.int .i64 x.num,.string x.name,.string x.field,.int .i64 x.l,.int .i64 x.r]) (.agg #[.int .i64 y.kind,.int .i64 y.num,.string y.name,.string y.field,.int .i64 y.l,.int .i64 y.r])) W= .ok (.bool !b) W:=fun W=>by rw[ai,A]
           have ah: ∀(V:BinOp) (a b:Operand) (W:World),Sem.run Tryz.prog (eqGuard V 109 a b (.agg #[.int .i64 x.kind,.int .i64 x.num,.string x.name,.string x.field,.int .i64 x.l,.int .i64 x.r]) (.agg #[.int .i64 y.kind,.int .i64 y.num,.string y.name,.string y.field,.int .i64 y.l,.int .i64 y.r])) W= .ok () W:=fun V a b W=>ae V a b x y W
           go_wp2
           have kc:=cell_regrown c4
           have kd:=cell_regrown d4
           have k0:=cell_regrown C0.out
           have v0:=cell_regrown D0.out
           have k1:=cell_regrown C1.out
           have v1:=cell_regrown D1.out
           have k2:=cell_regrown C2.out
           have v2:=cell_regrown D2.out
           have k3:=cell_regrown C3.out
           have v3:=cell_regrown D3.out
           have k4:=cell_regrown C4.out
           have v4:=cell_regrown D4.out
           have k5:=cell_regrown C5.out
           have v5:=cell_regrown D5.out
           simp only[Nat.add_zero] at k0 v0
           refine wp_region_quiet_below (by kernel_rfl) (by kernel_rfl) ?_
           repeat (go_big_quiet_step (fail))
           refine wpQuiet_nil ?_
           intro w2 Y
           obtain⟨⟨dq,aa⟩,H⟩:=Y
           have T2:Hid (TwoM w b1 b2 S1 S2 z J w2):=by show TwoM _ _ _ _ _ _ _ _;rw[H];exact T.out.later (below_regrown wr dq aa)
           clear H kc kd c0 c1 c2 c3 c4 cf d0 d1 d2 d3 d4 df k0 v0 C0 D0 k1 v1 C1 D1 k2 v2 C2 D2 k3 v3 C3 D3 k4 v4 C4 D4 k5 v5 C5 D5
           cases b with
           |true=>
            go_wp2
            go_roundg (gk-1)
            case rel=>exact⟨U,rfl,by have:=HJ.out;omega,by rw[HJ.out];have e:=zgc.1 A;exact zde HT.out HX.out (by rw[e];exact HY.out),T2.out⟩
            case measure=>omega
           |false=>
            go_wp2
            go_ret
            exact⟨⟨false,rfl,⟨fun k=>(by cases k),fun k=>(by have e:=HX.out;rw[k,HY.out] at e;cases e;rw[zgc.2 rfl] at A;cases A)⟩⟩,T2.out.2.2.2.2⟩
          ·have I: ¬(j:Int)<(z.ex.length:Int):=by omega
           obtain rfl:j=z.ex.length:=by omega
           have A4:=zc (zdf (by omega) HT.out)
           clear HT I L hj
           go_wp2
           go_ret
           exact⟨⟨true,rfl,⟨fun _=>ziX A0.out A1.out A2.out A3.out A4.out,fun _=>rfl⟩⟩,T.out.2.2.2.2⟩
end Go.Proofs.YtjdddblpfbmpaaaGreat
