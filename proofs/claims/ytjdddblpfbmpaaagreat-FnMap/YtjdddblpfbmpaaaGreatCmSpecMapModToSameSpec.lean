/-
  What spec.MapMod answers: the walk.
  What l4Same of the specification answers,the model's != handed in: the walk.
-/
import Derived.Test.YtjdddblpfbmpaaaGreatCmSpecTwiceToHasLaw
import Derived.Test.YtjdddblpfbmpaaaGreatCmImplMapMod
namespace Go.Proofs.YtjdddblpfbmpaaaGreat
set_option maxRecDepth 100000
set_option maxHeartbeats 12800000
open Go.RowKit Go.PlainAid Go.Sort
theorem OwnMd.rqAt {w:World} {base:Nat} {S:Sv} {m:Md} (h:OwnMd w base S m) {i:Nat} {x:ByteArray} (z:m.rq[i]? =some x): ∃j,S.rq.a=some ⟨j,0,none⟩∧w.cell? ⟨j,i,none⟩=some (.string x):=by
 obtain⟨H,A⟩:=List.getElem?_eq_some_iff.1 z
 obtain⟨j,q⟩:=h.rq.addrA (by omega)
 refine⟨j,q,?_⟩
 have:=World.ownsRow.cellAt (h.rq.at q) i (by omega)
 rw[this,List.getElem?_map,z]
 rfl
theorem zkR {w:World} {base:Nat} {r:Rw} {l:List ByteArray} (h:OwnR w base 9 1 r l.length (l.map .string)):zib w r.a l:=by
 cases H:l with
 |nil=>exact .inl rfl
 |cons y t=>
  rw[←H]
  obtain⟨g,z⟩:=h.addrA (by rw[H];exact Nat.succ_pos _)
  refine .inr ⟨g,0,z,(h.typed (OwnR.blkOf z)).2.1,fun j x A i v q=>?_⟩
  have I:=(List.getElem?_eq_some_iff.1 A).1
  cases i with
  |succ i=>simp at q
  |zero=>
   simp at q
   subst q
   have:=World.ownsRow.cellAt (h.at z) j (by omega)
   rw[List.getElem?_map,A] at this
   simpa using this
section
variable {base gx g len li le:Nat} {a:Option Addr} {Pt Tx:Nat→ByteArray} {w0 W W':World} {S:Sv} {n:Md}
theorem MW.rq_box (h:MW base gx a g len Pt Tx w0 W S n li le) (z:W.grownBy W' S.rq.blk):W'.heap[gx]? =W.heap[gx]? :=
 z.block gx (Array.getElem?_eq_some_iff.1 h.box).1 fun e=>by
  obtain⟨_,_,q,j⟩:=h.own.rq.typed e.symm
  rw[h.box] at j
  exact absurd j (by simp)
end
theorem zr5 (cO:OkC 7) (base:Nat) (g len ak:Nat) (Pt Tx:Nat→ByteArray) (S:Sv) (m:Md) (w:World) (hf:FilesAt w (some ⟨g,0,none⟩) g 0 len Pt Tx) (hl:len≤1048576) (hp: ∀j,j<len→(Pt j).size≤1048576) (ht: ∀j,j<len→(Tx j).size≤1048576) (h:OwnMd w base S m) (hc:MapFit m) (hn:zaW m.ex):
  Calls Tryz.prog 12 #[.slice (some ⟨g,0,none⟩) len ak,zp S m] w (zjQ (zT len Pt Tx) m w):=by
 have CO:=zc cO
 have HH:=zc h
 have HF:=zc hf
 have HP:=zc hp
 have HT:=zc ht
 have HC:=zc hc
 have HN:=zc hn
 clear h hf hp ht hn hc cO
 unfold zp
 go_enter Tryz.func12,Tryz.ntmps12
 go_upto_region 1 with fail
 have e1:(w.alloc (.cells #[.slice S.rq.a m.rq.length S.rq.cap,.slice S.im.a m.im.length S.im.cap,.slice S.ep.a m.ep.length S.ep.cap,.slice S.st.a m.st.length S.st.cap,.slice S.ex.a m.ex.length S.ex.cap] 36)).heap.size=w.heap.size+1:=zl _ _
 have HW:Hid (Below w.heap.size w ((w.alloc (.cells #[.slice S.rq.a m.rq.length S.rq.cap,.slice S.im.a m.im.length S.im.cap,.slice S.ep.a m.ep.length S.ep.cap,.slice S.st.a m.st.length S.st.cap,.slice S.ex.a m.ex.length S.ex.cap] 36)).alloc (.cells #[.slice none 0 0,.slice none 0 0,.slice none 0 0,.slice none 0 0,.slice none 0 0] 36))):=((Below.refl _ _).alloc (Nat.le_refl _) _).alloc (by rw[e1];omega) _
 refine zac (R:=fun W=>W.heap[w.heap.size]? =some (.cells #[.slice S.rq.a m.rq.length S.rq.cap,.slice S.im.a m.im.length S.im.cap,.slice S.ep.a m.ep.length S.ep.cap,.slice S.st.a m.st.length S.st.cap,.slice S.ex.a m.ex.length S.ex.cap] 36 (0,0))∧W.heap[w.heap.size+1]? =some (.cells #[.slice none 0 0,.slice none 0 0,.slice none 0 0,.slice none 0 0,.slice none 0 0] 36 (0,0))∧OwnMd W base S m∧Below w.heap.size w W) ⟨(heap_alloc_old _ _ (by rw[e1];omega)).trans (heap_alloc_new w _),heap_alloc2_new w _ _,HH.out.later HW.out,HW.out⟩ ?_
 obtain⟨gx,ap⟩: ∃gx,gx=w.heap.size:=⟨_,rfl⟩
 obtain⟨gz,aG⟩: ∃gz,gz=w.heap.size+1:=⟨_,rfl⟩
 rw[←aG,←ap]
 rintro w1 ⟨I,hz,ho,H⟩
 rw[ap] at H
 have aw:Hid (w.heap.size≤gz):=by show _≤_;omega
 clear ap aG HW HH e1
 have X1:=zc I
 have Z1:=zc hz
 have O1:=zc ho
 have au:=zc H
 clear I hz ho H
 obtain⟨U,O,N,X,Y,V⟩:=zg X1.out
 go_wp2_with fail
 refine (CO.out base S m w1 O1.out HC.out.cost HN.out).mono ?_
 rintro e A ⟨ao,H⟩
 obtain⟨b,rfl,ad⟩:=ao
 have OK:=zc ad
 have X2:=zc ((H.block _ (Array.getElem?_eq_some_iff.1 X1.out).1).trans X1.out)
 have Z2:=zc ((H.block _ (Array.getElem?_eq_some_iff.1 Z1.out).1).trans Z1.out)
 have B2:=zc (au.out.trans (H.mono au.out.size))
 have O2:=zc (O1.out.later H)
 have F2:=zc ((HF.out.later au.out).later H)
 clear ad H U O N X Y V X1 Z1 O1
 obtain⟨U,O,N,X,Y,V⟩:=zg X2.out
 obtain⟨k0,k1,k2,k3,k4,kf⟩:=zg Z2.out
 cases b with
 |false=>
  go_wp2
  refine bodyPost_ret (zas rfl _ _ gz 36 _ (0,0) _ rfl (zbN Z2.out) Tryz.underlying36 rfl (by kernel_rfl)) rfl ?_
  exact⟨false,S0,rfl,zeC _ _,⟨fun k=>(by cases k),fun k=>OK.out.2 k.1⟩,zcb B2.out aw.out _ _ _ _ _⟩
 |true=>
  have MK:=zc (OK.out.1 rfl)
  have PT:=zc MK.out.parts
  clear OK
  go_wp2_with fail
  refine (zr3 base S m A O2.out ⟨by have:=PT.out.rq;omega,Nat.le_trans PT.out.im (by decide),Nat.le_trans PT.out.ep (by decide),Nat.le_trans PT.out.st (by decide),Nat.le_trans PT.out.ex (by decide)⟩).mono ?_
  rintro e w3 ⟨Sy,rfl,oy,H⟩
  clear k0 k1 k2 k3 k4 kf U O N X Y V
  have B3:=zc H
  have OY:=zc oy
  clear H oy
  unfold zp
  go_upto_region 4 with fail
  refine zac (R:=fun W=>W.heap[w3.heap.size]? =some (.cells #[.slice Sy.rq.a m.rq.length Sy.rq.cap,.slice Sy.im.a m.im.length Sy.im.cap,.slice Sy.ep.a m.ep.length Sy.ep.cap,.slice Sy.st.a m.st.length Sy.st.cap,.slice Sy.ex.a m.ex.length Sy.ex.cap] 36 (0,0))∧OwnMd W A.heap.size Sy m∧Below A.heap.size A W) ⟨heap_alloc_new w3 _,OY.out.later ((Below.refl _ _).alloc (Nat.le_refl _) _),B3.out.alloc B3.out.size _⟩ ?_
  have HG:Hid (A.heap.size≤w3.heap.size):=B3.out.size
  obtain⟨gy,aF⟩: ∃gy,gy=w3.heap.size:=⟨_,rfl⟩
  rw[←aF] at HG ⊢
  rintro w4 ⟨Z,ho,H⟩
  clear aF B3 OY
  have LX:Hid (gx<A.heap.size):=(Array.getElem?_eq_some_iff.1 X2.out).1
  have LZ:Hid (gz<A.heap.size):=(Array.getElem?_eq_some_iff.1 Z2.out).1
  have M4:Hid (MW A.heap.size gy (some ⟨g,0,none⟩) g len Pt Tx A w4 Sy m m.im.length m.ep.length):=⟨Z,ho,F2.out.later H,fun hl=>F2.out.lt hl,H,HG.out,rfl,rfl⟩
  clear Z ho H
  obtain⟨U,O,N,X,Y,V⟩:=zg (M4.out.later ((Below.refl w4.heap.size w4).alloc (Nat.le_refl _) (.cells #[] 9))).box
  go_upto_region 5 with fail
  refine zac (R:=fun W=>∃S1,MW A.heap.size gy (some ⟨g,0,none⟩) g len Pt Tx A W S1 {m with rq:=[]} m.im.length m.ep.length) ⟨_,(M4.out.later ((Below.refl _ _).alloc (Nat.le_refl _) _)).set_rq (r:=⟨some ⟨w4.heap.size,0,none⟩,0⟩) (l:=[]) ((zkQ w4).low M4.out.bel.size)⟩ ?_
  rintro w5 ⟨S5,hM⟩
  have M5:=zc hM
  clear hM M4 U O N X Y V
  obtain⟨F,hF⟩: ∃F,F=zT len Pt Tx:=⟨_,rfl⟩
  have ac:=zc hF
  clear hF
  obtain⟨li,aj⟩: ∃li,li=m.im.length:=⟨_,rfl⟩
  obtain⟨le,ah⟩: ∃le,le=m.ep.length:=⟨_,rfl⟩
  rw[←aj,←ah] at M5
  have aH:=PT.out.im
  have aD:=PT.out.ep
  rw[←aj] at aH
  rw[←ah] at aD
  have an:=zc aj
  have ax:=zc ah
  have aO:=PT.out.rq
  clear aj ah
  have H1:=zc HC.out.parts.1
  have H2:=zc HC.out.parts.2.1
  have H3:=zc HC.out.parts.2.2
  go_wp2
  go_loopw [7,8] (fun i _ wr=>∃(k:Nat) (z:Sv),k≤m.rq.length∧i= .int .i64 k∧Hid (MW A.heap.size gy (some ⟨g,0,none⟩) g len Pt Tx A wr z {m with rq:=zbd F m.rq k} li le)) (fun i _ _=>(m.rq.length-intOf i).toNat)
  case atStart=>exact⟨0,S5,Nat.zero_le _,rfl,M5⟩
  case round=>
   obtain⟨k,z,hk,rfl,HM⟩:=hrel
   clear M5
   obtain⟨U,O,N,X,Y,V⟩:=zg ((HM.out.bel.block gx LX.out).trans X2.out)
   by_cases aq:k<m.rq.length
   ·obtain⟨l,hL⟩: ∃l,l=zbd F m.rq k:=⟨_,rfl⟩
    have aP:l.length≤1000:=by rw[hL];exact Nat.le_trans (zg5 F m.rq k) (by omega)
    rw[←hL] at HM
    obtain⟨x,I⟩: ∃x,m.rq[k]? =some x:=⟨_,List.getElem?_eq_getElem aq⟩
    obtain⟨gr,ae,cx⟩:=(O2.out.later HM.out.bel).rqAt I
    rw[ae] at U
    have ab:=H1.out x (List.mem_of_getElem? I)
    obtain⟨y,Z⟩: ∃y,y=zT len Pt Tx x:=⟨_,rfl⟩
    have HX:Hid (zbd F m.rq (k+1)=zbX l y):=by show _=_;rw[zf6 I,hL,Z,ac.out]
    clear hL ae I
    go_wp2_with fail
    refine (zfM g len ak Pt Tx x _ HM.out.rules hl HP.out HT.out ab).mono ?_
    rintro e w6 ⟨rfl,L⟩
    rw[←Z]
    have q:=zc (HM.out.later L)
    clear L HM Z ab cx U O N X Y V
    obtain⟨d0,d1,d2,d3,d4,df⟩:=zg q.out.box
    go_wp2_with fail
    refine (zrk z.rq.a z.rq.cap l.length l y _ rfl (zkR q.out.own.rq) (by omega)).mono ?_
    rintro e w7 ⟨rfl,hw⟩
    rw[hw]
    clear hw w7
    rw[show inL l y=zak l y from rfl]
    cases hh:zak l y with
    |true=>
     go_wp2
     go_roundw
     case rel=>exact⟨k+1,z,by omega,by go_num,by show MW _ _ _ _ _ _ _ _ _ _ _ _ _;rw[HX.out,zf7 hh];exact q.out⟩
     case measure=>simp[intOf];omega
    |false=>
     obtain⟨i0,hi,aJ,aM,aK⟩:=info_parts Tryz.infoStrM
     have aE:=fun o1=>q.out.own.rq.alloc (o:=o1)
     have aI: ∀o1,A.heap.size≤(w6.alloc o1).heap.size:=fun o1=>by rw[zl];have:=q.out.bel.size;omega
     have ar:=fun o1=>zc (q.out.later ((Below.refl w6.heap.size w6).alloc (Nat.le_refl _) o1))
     go_wp2_with (at_builtin;refine zcw _ rfl _ _ 22 rfl A.heap.size 9 i0 _ 1 16 Tryz.underlying22 hi aJ aM aK rfl (by decide) (by decide) z.rq l.length (l.map .string) (by rfl) (aE _) w6.heap.size [.string y] (by rfl) (by exact heap_alloc_new w6 _) rfl (by simp[Value.oneCell']) (by omega) (aI _) ?_;intro r' wz hr ae aL;have HR:=zc hr;have az:=zc ae;clear hr ae aL;obtain⟨d0,d1,d2,d3,d4,df⟩:=zg (((ar _).out.rq_box az.out).trans (ar _).out.box))
     go_roundw
     case rel=>
      refine⟨k+1,{z with rq:=r'},by omega,by go_num,?_⟩
      show MW ..
      rw[HX.out,zeH hh]
      exact (ar _).out.push_rq az.out HR.out
     case measure=>simp[intOf];omega
   ·obtain rfl:k=m.rq.length:=by omega
    obtain⟨l,hL⟩: ∃l,l=zbd F m.rq m.rq.length:=⟨_,rfl⟩
    rw[←hL] at HM
    have HL:=zc hL
    clear hL
    have aC:Hid (MW A.heap.size gy (some ⟨g,0,none⟩) g len Pt Tx A wr z {m with rq:=l,im:=zaU (imM F) m.im 0} li le):=by show MW _ _ _ _ _ _ _ _ _ _ _ _ _;rw[zg3];exact HM.out
    clear HM
    obtain⟨ia,ay⟩: ∃ia,z.im.a=ia:=⟨_,rfl⟩
    have ai:=zc ay
    clear ay
    go_wp2
    go_loopw [9] (fun i wr=>∃k:Nat,k≤li∧i= .int .i64 k∧Hid (MW A.heap.size gy (some ⟨g,0,none⟩) g len Pt Tx A wr z {m with rq:=l,im:=zaU (imM F) m.im k} li le)) (fun i _=>(li-intOf i).toNat)
    case atStart=>exact⟨0,Nat.zero_le _,rfl,aC⟩
    case round=>
     obtain⟨k,hk,rfl,HK⟩:=hrel
     clear aC U O N X Y V
     obtain⟨U,O,N,X,Y,V⟩:=zg HK.out.box
     rw[ai.out] at O
     by_cases aq:k<li
     ·obtain⟨x,I⟩: ∃x,m.im[k]? =some x:=⟨_,List.getElem?_eq_getElem (by have:=an.out;omega)⟩
      have ab:=H2.out x (List.mem_of_getElem? I)
      have HX:=zc (zf8 (f:=imM F) I)
      have af:=zc (zf9 (f:=imM F) I)
      obtain⟨y,Z⟩: ∃y,y=zT len Pt Tx x.spec:=⟨_,rfl⟩
      have HY:Hid (imM F x=⟨y,x.first,x.loc⟩):=by show _=_;rw[imM,Z,ac.out]
      obtain⟨gi,aa,d0,d1,d2,df⟩:=HK.out.im HX.out
      obtain rfl:ia=some ⟨gi,0,none⟩:=ai.out.symm.trans aa
      clear I aa
      go_wp2_with fail
      go_region_with (go_at_call 22;refine (zfM g len ak Pt Tx x.spec _ (HK.out.later (Below.refl _ _).drew).rules hl HP.out HT.out ab).mono ?_;rintro e w6 ⟨rfl,L⟩;rw[←Z];have q:=zc ((HK.out.later (Below.refl _ _).drew).later L);obtain⟨e0,e1,e2,e3,e4,ef⟩:=zg q.out.box;rw[ai.out] at e1;obtain⟨gj,J,f0,f1,f2,ff⟩:=q.out.im HX.out;obtain rfl:gi=gj:=(by rw[ai.out] at J;cases J;rfl);have am:=zc J;clear L J)
      all_goals
       go_wp2
       go_roundw
       case rel=>
        refine⟨k+1,by omega,by go_num,?_⟩
        show MW ..
        rw[af.out,HY.out]
        subst Z
        exact q.out.set_im HX.out am.out _
       case measure=>simp[intOf];omega
     ·obtain rfl:k=li:=by omega
      have aB:Hid (MW A.heap.size gy (some ⟨g,0,none⟩) g len Pt Tx A wr z {m with rq:=l,im:=m.im.map (imM F),ep:=zaU (epM F) m.ep 0} k le):=by
       show MW ..
       have:=HK.out
       rw[an.out,zg4,←an.out] at this
       rw[zg3]
       exact this
      clear HK
      obtain⟨ea,aA⟩: ∃ea,z.ep.a=ea:=⟨_,rfl⟩
      have ag:=zc aA
      clear aA
      go_wp2
      go_loopw [10] (fun i wr=>∃j:Nat,j≤le∧i= .int .i64 j∧Hid (MW A.heap.size gy (some ⟨g,0,none⟩) g len Pt Tx A wr z {m with rq:=l,im:=m.im.map (imM F),ep:=zaU (epM F) m.ep j} k le)) (fun i _=>(le-intOf i).toNat)
      case atStart=>exact⟨0,Nat.zero_le _,rfl,aB⟩
      case round=>
       obtain⟨j,hj,rfl,HK⟩:=hrel
       clear aB U O N X Y V
       obtain⟨U,O,N,X,Y,V⟩:=zg HK.out.box
       rw[ag.out] at N
       by_cases aq:j<le
       ·obtain⟨x,I⟩: ∃x,m.ep[j]? =some x:=⟨_,List.getElem?_eq_getElem (by have:=ax.out;omega)⟩
        have ab:=H3.out x (List.mem_of_getElem? I)
        have HX:=zc (zf8 (f:=epM F) I)
        obtain⟨gi,aa,d0,d1,d2,d3,df⟩:=HK.out.ep HX.out
        obtain rfl:ea=some ⟨gi,0,none⟩:=ag.out.symm.trans aa
        by_cases av:x.kind=1
        ·have aN:(x.kind !=1)=false:=by rw[av];rfl
         have af:Hid (zaU (epM F) m.ep (j+1)=zaU (epM F) m.ep j):=zoG I (by rw[ac.out];exact zoJ (PT.out.fit x (List.mem_of_getElem? I)) av)
         clear I aa
         go_wp2
         go_roundw
         case rel=>exact⟨j+1,by omega,by go_num,by show MW _ _ _ _ _ _ _ _ _ _ _ _ _;rw[af.out];exact HK.out⟩
         case measure=>simp[intOf];omega
        ·have aN:(x.kind !=1)=true:=by simpa using av
         have af:=zc (zf9 (f:=epM F) I)
         obtain⟨y,Z⟩: ∃y,y=zT len Pt Tx x.spec:=⟨_,rfl⟩
         have HY:Hid (epM F x=⟨x.kind,x.name,x.loc,y⟩):=by show _=_;rw[epM,Z,ac.out]
         clear I aa
         go_wp2_with fail
         go_region_with (go_at_call 22;refine (zfM g len ak Pt Tx x.spec _ (HK.out.later (Below.refl _ _).drew).rules hl HP.out HT.out ab).mono ?_;rintro e w6 ⟨rfl,L⟩;rw[←Z];have q:=zc ((HK.out.later (Below.refl _ _).drew).later L);obtain⟨e0,e1,e2,e3,e4,ef⟩:=zg q.out.box;rw[ag.out] at e2;obtain⟨gj,J,f0,f1,f2,f3,ff⟩:=q.out.ep HX.out;obtain rfl:gi=gj:=(by rw[ag.out] at J;cases J;rfl);have am:=zc J;clear L J)
         all_goals
          go_wp2
          go_roundw
          case rel=>
           refine⟨j+1,by omega,by go_num,?_⟩
           show MW ..
           rw[af.out,HY.out]
           subst Z
           exact q.out.set_ep HX.out am.out _
          case measure=>simp[intOf];omega
       ·obtain rfl:j=le:=by omega
        go_upto_region 20 with fail
        have M6:Hid (MW A.heap.size gy (some ⟨g,0,none⟩) g len Pt Tx A wr z (zaZ (zT len Pt Tx) m) k j):=by
         show MW ..
         have:=HK.out
         rw[ax.out,zg4,←ax.out,HL.out] at this
         rw[zaZ,←ac.out]
         exact this
        clear HK
        have al:Hid (zbW (zaZ (zT len Pt Tx) m)≤67108864):=by
         show _≤_
         have h:=zhH (F:=zT len Pt Tx) zhI m
         have:=HC.out.big
         omega
        have NM:Hid (zaW (zaZ (zT len Pt Tx) m).ex):=HN.out
        have Z6:=zc ((M6.out.bel.block gz LZ.out).trans Z2.out)
        have B6:=zc (B2.out.trans (M6.out.bel.mono B2.out.size))
        obtain⟨M,hM⟩: ∃M,M=zaZ (zT len Pt Tx) m:=⟨_,rfl⟩
        have HM:=zc hM
        rw[←hM] at M6 al NM
        clear hM
        have BX:=M6.out.box
        rw[←M6.out.hli,←M6.out.hle] at BX
        have X6:=zc BX
        clear U O N X Y V
        obtain⟨U,O,N,X,Y,V⟩:=zg BX
        clear BX
        go_wp2_with fail
        refine (CO.out A.heap.size z M wr M6.out.own al.out NM.out).mono ?_
        rintro e w7 ⟨ao,H⟩
        obtain⟨b,rfl,ad⟩:=ao
        have OK:=zc ad
        have X7:=zc ((H.block _ (Array.getElem?_eq_some_iff.1 X6.out).1).trans X6.out)
        have Z7:=zc ((H.block _ (Array.getElem?_eq_some_iff.1 Z6.out).1).trans Z6.out)
        have B7:=zc (B6.out.trans (H.mono B6.out.size))
        have O7:=zc (M6.out.own.later H)
        clear ad H U O N X Y V X6 Z6 B6
        obtain⟨U,O,N,X,Y,V⟩:=zg X7.out
        obtain⟨k0,k1,k2,k3,k4,kf⟩:=zg Z7.out
        cases b with
        |false=>
         go_wp2
         refine bodyPost_ret (zas rfl _ _ gz 36 _ (0,0) _ rfl (zbN Z7.out) Tryz.underlying36 rfl (by kernel_rfl)) rfl ?_
         exact⟨false,S0,rfl,zeC _ _,⟨fun k=>(by cases k),fun k=>OK.out.2 (HM.out▸k.2)⟩,zcb B7.out aw.out _ _ _ _ _⟩
        |true=>
         go_wp2
         refine bodyPost_ret (zas rfl _ _ gz 36 _ (0,0) _ rfl (zbN Z7.out) Tryz.underlying36 rfl (by kernel_rfl)) rfl ?_
         have hO:=(zfK (o:=0) (x0:=.slice z.rq.a M.rq.length z.rq.cap) (x1:=.slice z.im.a M.im.length z.im.cap) (x2:=.slice z.ep.a M.ep.length z.ep.cap) (x3:=.slice z.st.a M.st.length z.st.cap) (x4:=.slice z.ex.a M.ex.length z.ex.cap) O7.out ⟨_,Z7.out⟩).low B2.out.size
         have hK:=OK.out.1 (by first|trivial|rfl)
         have hE:=HM.out
         subst hE
         exact⟨true,z,rfl,hO,⟨fun _=>⟨MK.out,hK⟩,fun _=>rfl⟩,zcb B7.out aw.out _ _ _ _ _⟩
theorem zr6 (ac: ∀(x y:Im) (W:World),Sem.run Tryz.prog (binOp .neq 84 (.agg #[.string x.spec,.string x.first,.string x.loc]) (.agg #[.string y.spec,.string y.first,.string y.loc])) W= .ok (.bool (!zcD x y)) W) (ak: ∀(U:BinOp) (a b:Operand) (x y:Im) (W:World),Sem.run Tryz.prog (eqGuard U 84 a b (.agg #[.string x.spec,.string x.first,.string x.loc]) (.agg #[.string y.spec,.string y.first,.string y.loc])) W= .ok () W) (ai: ∀(x y:Ep) (W:World),Sem.run Tryz.prog (binOp .neq 86 (.agg #[.int .i64 x.kind,.string x.name,.string x.loc,.string x.spec]) (.agg #[.int .i64 y.kind,.string y.name,.string y.loc,.string y.spec])) W= .ok (.bool (!zcE x y)) W) (af: ∀(U:BinOp) (a b:Operand) (x y:Ep) (W:World),Sem.run Tryz.prog (eqGuard U 86 a b (.agg #[.int .i64 x.kind,.string x.name,.string x.loc,.string x.spec]) (.agg #[.int .i64 y.kind,.string y.name,.string y.loc,.string y.spec])) W= .ok () W) (aj: ∀(x y:Sm) (W:World),Sem.run Tryz.prog (binOp .neq 107 (.agg #[.int .i64 x.kind,.string x.name,.int .i64 x.expr]) (.agg #[.int .i64 y.kind,.string y.name,.int .i64 y.expr])) W= .ok (.bool (!zcF x y)) W) (ae: ∀(U:BinOp) (a b:Operand) (x y:Sm) (W:World),Sem.run Tryz.prog (eqGuard U 107 a b (.agg #[.int .i64 x.kind,.string x.name,.int .i64 x.expr]) (.agg #[.int .i64 y.kind,.string y.name,.int .i64 y.expr])) W= .ok () W) (ah: ∀(x y:Ex) (W:World),Sem.run Tryz.prog (binOp .neq 109 (.agg #[.int .i64 x.kind,.int .i64 x.num,.string x.name,.string x.field,.int .i64 x.l,.int .i64 x.r]) (.agg #[.int .i64 y.kind,.int .i64 y.num,.string y.name,.string y.field,.int .i64 y.l,.int .i64 y.r])) W= .ok (.bool (!zcG x y)) W) (ad: ∀(U:BinOp) (a b:Operand) (x y:Ex) (W:World),Sem.run Tryz.prog (eqGuard U 109 a b (.agg #[.int .i64 x.kind,.int .i64 x.num,.string x.name,.string x.field,.int .i64 x.l,.int .i64 x.r]) (.agg #[.int .i64 y.kind,.int .i64 y.num,.string y.name,.string y.field,.int .i64 y.l,.int .i64 y.r])) W= .ok () W) (b1 b2:Nat) (S1 S2:Sv) (q I:Md) (w:World) (N:OwnMd w b1 S1 q) (M:OwnMd w b2 S2 I) (hf:zee q):
  Calls Tryz.prog 34 #[zp S1 q,zp S2 I] w fun e w'=>zbV (q=I) e∧Below w.heap.size w w':=by
 have H1:=zc N
 have H2:=zc M
 obtain⟨f1,f2,f3,f4,f5⟩:=hf
 clear N M
 unfold zp
 go_enter Tryz.func34,Tryz.ntmps34
 go_upto_region 1 with fail
 refine zac (R:=TwoM w b1 b2 S1 S2 q I) (zh9 w b1 b2 S1 S2 q I H1.out H2.out) ?_
 clear H1 H2
 intro w0 h
 have T:=zc h
 clear h
 obtain⟨c0,c1,c2,c3,c4,cf⟩:=zg T.out.1
 obtain⟨d0,d1,d2,d3,d4,df⟩:=zg T.out.2.1
 by_cases q0:(q.rq.length:Int)=(I.rq.length:Int)
 case neg=>
  go_wp2
  go_ret
  exact⟨⟨false,rfl,⟨fun k=>(by cases k),fun k=>absurd (by rw[k]) q0⟩⟩,T.out.2.2.2.2⟩
 by_cases q1:(q.im.length:Int)=(I.im.length:Int)
 case neg=>
  go_wp2
  go_ret
  exact⟨⟨false,rfl,⟨fun k=>(by cases k),fun k=>absurd (by rw[k]) q1⟩⟩,T.out.2.2.2.2⟩
 by_cases q2:(q.ep.length:Int)=(I.ep.length:Int)
 case neg=>
  go_wp2
  go_ret
  exact⟨⟨false,rfl,⟨fun k=>(by cases k),fun k=>absurd (by rw[k]) q2⟩⟩,T.out.2.2.2.2⟩
 by_cases q3:(q.st.length:Int)=(I.st.length:Int)
 case neg=>
  go_wp2
  go_ret
  exact⟨⟨false,rfl,⟨fun k=>(by cases k),fun k=>absurd (by rw[k]) q3⟩⟩,T.out.2.2.2.2⟩
 by_cases q4:(q.ex.length:Int)=(I.ex.length:Int)
 case neg=>
  go_wp2
  go_ret
  exact⟨⟨false,rfl,⟨fun k=>(by cases k),fun k=>absurd (by rw[k]) q4⟩⟩,T.out.2.2.2.2⟩
 go_wp2
 go_loopg [5] q.rq.length (fun k i wr=>∃j:Nat,i= .int .i64 j∧j+k=q.rq.length∧q.rq.take j=I.rq.take j∧TwoM w b1 b2 S1 S2 q I wr)
 case atStart=>exact⟨0,rfl,by omega,rfl,T.out⟩
 case round=>
  obtain⟨j,rfl,hj,ht,hT⟩:=hrel
  clear T c0 c1 c2 c3 c4 cf d0 d1 d2 d3 d4 df
  have T:=zc hT
  have HT:=zc ht
  clear hT ht
  obtain⟨c0,c1,c2,c3,c4,cf⟩:=zg T.out.1
  obtain⟨d0,d1,d2,d3,d4,df⟩:=zg T.out.2.1
  by_cases J:j<q.rq.length
  ·have H:(j:Int)<(q.rq.length:Int):=by omega
   have aa:(j:Int)<(I.rq.length:Int):=by omega
   obtain⟨x,V⟩:=zaS J
   obtain⟨y,Y⟩:=zaS (show j<I.rq.length by omega)
   obtain⟨g1,ga,N⟩:=OwnR.elem (f:=(fun x=>[Value.string x])) (m:=1) (fun _=>rfl) (show OwnR wr b1 9 1 S1.rq q.rq.length (q.rq.flatMap (fun x=>[Value.string x])) by rw[←zeD];exact T.out.2.2.1.rq) V
   obtain⟨g2,gb,M⟩:=OwnR.elem (f:=(fun x=>[Value.string x])) (m:=1) (fun _=>rfl) (show OwnR wr b2 9 1 S2.rq I.rq.length (I.rq.flatMap (fun x=>[Value.string x])) by rw[←zeD];exact T.out.2.2.2.1.rq) Y
   rw[ga] at c0
   rw[gb] at d0
   have C0:=zc (N 0 (by omega))
   have D0:=zc (M 0 (by omega))
   have HX:=zc V
   have HY:=zc Y
   clear N M ga gb V Y
   obtain⟨O,L⟩: ∃O,O=j+1:=⟨_,rfl⟩
   have ej:(j:Int)+1=(O:Int):=by omega
   have HJ:=zc L
   clear L
   obtain⟨b,z⟩: ∃b,zh8 x y=b:=⟨_,rfl⟩
   have al:(x.toList==y.toList)=b:=z
   go_wp2
   have kc:=cell_regrown c0
   have kd:=cell_regrown d0
   have k0:=cell_regrown C0.out
   have v0:=cell_regrown D0.out
   simp only[Nat.add_zero,Nat.mul_one] at k0 v0
   refine wp_region_quiet_below (by kernel_rfl) (by kernel_rfl) ?_
   repeat (go_big_quiet_step (fail))
   refine wpQuiet_nil ?_
   intro w2 X
   obtain⟨⟨dq,Z⟩,A⟩:=X
   have T2:Hid (TwoM w b1 b2 S1 S2 q I w2):=by show TwoM _ _ _ _ _ _ _ _;rw[A];exact T.out.later (below_regrown wr dq Z)
   clear A kc kd c0 c1 c2 c3 c4 cf d0 d1 d2 d3 d4 df k0 v0 C0 D0
   cases b with
   |true=>
    go_wp2
    go_roundg (gk-1)
    case rel=>exact⟨O,rfl,by have:=HJ.out;omega,by rw[HJ.out];have e:=zgs.1 z;exact zdm HT.out HX.out (by rw[e];exact HY.out),T2.out⟩
    case measure=>omega
   |false=>
    go_wp2
    go_ret
    exact⟨⟨false,rfl,⟨fun k=>(by cases k),fun k=>(by have e:=HX.out;rw[k,HY.out] at e;cases e;rw[zgs.2 rfl] at z;cases z)⟩⟩,T2.out.2.2.2.2⟩
  ·have H: ¬(j:Int)<(q.rq.length:Int):=by omega
   obtain rfl:j=q.rq.length:=by omega
   have A0:=zc (zdn (by omega) HT.out)
   clear HT H J hj
   go_wp2
   go_loopg [6] q.im.length (fun k i wr=>∃j:Nat,i= .int .i64 j∧j+k=q.im.length∧q.im.take j=I.im.take j∧TwoM w b1 b2 S1 S2 q I wr)
   case atStart=>exact⟨0,rfl,by omega,rfl,T.out⟩
   case round=>
    obtain⟨j,rfl,hj,ht,hT⟩:=hrel
    clear T c0 c1 c2 c3 c4 cf d0 d1 d2 d3 d4 df
    have T:=zc hT
    have HT:=zc ht
    clear hT ht
    obtain⟨c0,c1,c2,c3,c4,cf⟩:=zg T.out.1
    obtain⟨d0,d1,d2,d3,d4,df⟩:=zg T.out.2.1
    by_cases J:j<q.im.length
    ·have H:(j:Int)<(q.im.length:Int):=by omega
     have aa:(j:Int)<(I.im.length:Int):=by omega
     obtain⟨x,V⟩:=zaS J
     obtain⟨y,Y⟩:=zaS (show j<I.im.length by omega)
     obtain⟨g1,ga,N⟩:=OwnR.elem (f:=imL) (m:=3) (fun _=>rfl) T.out.2.2.1.im V
     obtain⟨g2,gb,M⟩:=OwnR.elem (f:=imL) (m:=3) (fun _=>rfl) T.out.2.2.2.1.im Y
     rw[ga] at c1
     rw[gb] at d1
     have C0:=zc (N 0 (by omega))
     have D0:=zc (M 0 (by omega))
     have C1:=zc (N 1 (by omega))
     have D1:=zc (M 1 (by omega))
     have C2:=zc (N 2 (by omega))
     have D2:=zc (M 2 (by omega))
     have HX:=zc V
     have HY:=zc Y
     clear N M ga gb V Y
     obtain⟨O,L⟩: ∃O,O=j+1:=⟨_,rfl⟩
     have ej:(j:Int)+1=(O:Int):=by omega
     have HJ:=zc L
     clear L
     obtain⟨b,z⟩: ∃b,zcD x y=b:=⟨_,rfl⟩
     have ab: ∀W:World,Sem.run Tryz.prog (binOp .neq 84 (.agg #[.string x.spec,.string x.first,.string x.loc]) (.agg #[.string y.spec,.string y.first,.string y.loc])) W= .ok (.bool !b) W:=fun W=>by rw[ac,z]
     have ag: ∀(U:BinOp) (a b:Operand) (W:World),Sem.run Tryz.prog (eqGuard U 84 a b (.agg #[.string x.spec,.string x.first,.string x.loc]) (.agg #[.string y.spec,.string y.first,.string y.loc])) W= .ok () W:=fun U a b W=>ak U a b x y W
     go_wp2
     have kc:=cell_regrown c1
     have kd:=cell_regrown d1
     have k0:=cell_regrown C0.out
     have v0:=cell_regrown D0.out
     have k1:=cell_regrown C1.out
     have v1:=cell_regrown D1.out
     have k2:=cell_regrown C2.out
     have v2:=cell_regrown D2.out
     simp only[Nat.add_zero] at k0 v0
     refine wp_region_quiet_below (by kernel_rfl) (by kernel_rfl) ?_
     repeat (go_big_quiet_step (fail))
     refine wpQuiet_nil ?_
     intro w2 X
     obtain⟨⟨dq,Z⟩,A⟩:=X
     have T2:Hid (TwoM w b1 b2 S1 S2 q I w2):=by show TwoM _ _ _ _ _ _ _ _;rw[A];exact T.out.later (below_regrown wr dq Z)
     clear A kc kd c0 c1 c2 c3 c4 cf d0 d1 d2 d3 d4 df k0 v0 C0 D0 k1 v1 C1 D1 k2 v2 C2 D2
     cases b with
     |true=>
      go_wp2
      go_roundg (gk-1)
      case rel=>exact⟨O,rfl,by have:=HJ.out;omega,by rw[HJ.out];have e:=zfu.1 z;exact zdm HT.out HX.out (by rw[e];exact HY.out),T2.out⟩
      case measure=>omega
     |false=>
      go_wp2
      go_ret
      exact⟨⟨false,rfl,⟨fun k=>(by cases k),fun k=>(by have e:=HX.out;rw[k,HY.out] at e;cases e;rw[zfu.2 rfl] at z;cases z)⟩⟩,T2.out.2.2.2.2⟩
    ·have H: ¬(j:Int)<(q.im.length:Int):=by omega
     obtain rfl:j=q.im.length:=by omega
     have A1:=zc (zdn (by omega) HT.out)
     clear HT H J hj
     go_wp2
     go_loopg [7] q.ep.length (fun k i wr=>∃j:Nat,i= .int .i64 j∧j+k=q.ep.length∧q.ep.take j=I.ep.take j∧TwoM w b1 b2 S1 S2 q I wr)
     case atStart=>exact⟨0,rfl,by omega,rfl,T.out⟩
     case round=>
      obtain⟨j,rfl,hj,ht,hT⟩:=hrel
      clear T c0 c1 c2 c3 c4 cf d0 d1 d2 d3 d4 df
      have T:=zc hT
      have HT:=zc ht
      clear hT ht
      obtain⟨c0,c1,c2,c3,c4,cf⟩:=zg T.out.1
      obtain⟨d0,d1,d2,d3,d4,df⟩:=zg T.out.2.1
      by_cases J:j<q.ep.length
      ·have H:(j:Int)<(q.ep.length:Int):=by omega
       have aa:(j:Int)<(I.ep.length:Int):=by omega
       obtain⟨x,V⟩:=zaS J
       obtain⟨y,Y⟩:=zaS (show j<I.ep.length by omega)
       obtain⟨g1,ga,N⟩:=OwnR.elem (f:=epL) (m:=4) (fun _=>rfl) T.out.2.2.1.ep V
       obtain⟨g2,gb,M⟩:=OwnR.elem (f:=epL) (m:=4) (fun _=>rfl) T.out.2.2.2.1.ep Y
       rw[ga] at c2
       rw[gb] at d2
       have C0:=zc (N 0 (by omega))
       have D0:=zc (M 0 (by omega))
       have C1:=zc (N 1 (by omega))
       have D1:=zc (M 1 (by omega))
       have C2:=zc (N 2 (by omega))
       have D2:=zc (M 2 (by omega))
       have C3:=zc (N 3 (by omega))
       have D3:=zc (M 3 (by omega))
       have HX:=zc V
       have HY:=zc Y
       clear N M ga gb V Y
       obtain⟨O,L⟩: ∃O,O=j+1:=⟨_,rfl⟩
       have ej:(j:Int)+1=(O:Int):=by omega
       have HJ:=zc L
       clear L
       obtain⟨b,z⟩: ∃b,zcE x y=b:=⟨_,rfl⟩
       have ab: ∀W:World,Sem.run Tryz.prog (binOp .neq 86 (.agg #[.int .i64 x.kind,.string x.name,.string x.loc,.string x.spec]) (.agg #[.int .i64 y.kind,.string y.name,.string y.loc,.string y.spec])) W= .ok (.bool !b) W:=fun W=>by rw[ai,z]
       have ag: ∀(U:BinOp) (a b:Operand) (W:World),Sem.run Tryz.prog (eqGuard U 86 a b (.agg #[.int .i64 x.kind,.string x.name,.string x.loc,.string x.spec]) (.agg #[.int .i64 y.kind,.string y.name,.string y.loc,.string y.spec])) W= .ok () W:=fun U a b W=>af U a b x y W
       go_wp2
       have kc:=cell_regrown c2
       have kd:=cell_regrown d2
       have k0:=cell_regrown C0.out
       have v0:=cell_regrown D0.out
       have k1:=cell_regrown C1.out
       have v1:=cell_regrown D1.out
       have k2:=cell_regrown C2.out
       have v2:=cell_regrown D2.out
       have k3:=cell_regrown C3.out
       have v3:=cell_regrown D3.out
       simp only[Nat.add_zero] at k0 v0
       refine wp_region_quiet_below (by kernel_rfl) (by kernel_rfl) ?_
       repeat (go_big_quiet_step (fail))
       refine wpQuiet_nil ?_
       intro w2 X
       obtain⟨⟨dq,Z⟩,A⟩:=X
       have T2:Hid (TwoM w b1 b2 S1 S2 q I w2):=by show TwoM _ _ _ _ _ _ _ _;rw[A];exact T.out.later (below_regrown wr dq Z)
       clear A kc kd c0 c1 c2 c3 c4 cf d0 d1 d2 d3 d4 df k0 v0 C0 D0 k1 v1 C1 D1 k2 v2 C2 D2 k3 v3 C3 D3
       cases b with
       |true=>
        go_wp2
        go_roundg (gk-1)
        case rel=>exact⟨O,rfl,by have:=HJ.out;omega,by rw[HJ.out];have e:=zfv.1 z;exact zdm HT.out HX.out (by rw[e];exact HY.out),T2.out⟩
        case measure=>omega
       |false=>
        go_wp2
        go_ret
        exact⟨⟨false,rfl,⟨fun k=>(by cases k),fun k=>(by have e:=HX.out;rw[k,HY.out] at e;cases e;rw[zfv.2 rfl] at z;cases z)⟩⟩,T2.out.2.2.2.2⟩
      ·have H: ¬(j:Int)<(q.ep.length:Int):=by omega
       obtain rfl:j=q.ep.length:=by omega
       have A2:=zc (zdn (by omega) HT.out)
       clear HT H J hj
       go_wp2
       go_loopg [8] q.st.length (fun k i wr=>∃j:Nat,i= .int .i64 j∧j+k=q.st.length∧q.st.take j=I.st.take j∧TwoM w b1 b2 S1 S2 q I wr)
       case atStart=>exact⟨0,rfl,by omega,rfl,T.out⟩
       case round=>
        obtain⟨j,rfl,hj,ht,hT⟩:=hrel
        clear T c0 c1 c2 c3 c4 cf d0 d1 d2 d3 d4 df
        have T:=zc hT
        have HT:=zc ht
        clear hT ht
        obtain⟨c0,c1,c2,c3,c4,cf⟩:=zg T.out.1
        obtain⟨d0,d1,d2,d3,d4,df⟩:=zg T.out.2.1
        by_cases J:j<q.st.length
        ·have H:(j:Int)<(q.st.length:Int):=by omega
         have aa:(j:Int)<(I.st.length:Int):=by omega
         obtain⟨x,V⟩:=zaS J
         obtain⟨y,Y⟩:=zaS (show j<I.st.length by omega)
         obtain⟨g1,ga,N⟩:=OwnR.elem (f:=smL) (m:=3) (fun _=>rfl) T.out.2.2.1.st V
         obtain⟨g2,gb,M⟩:=OwnR.elem (f:=smL) (m:=3) (fun _=>rfl) T.out.2.2.2.1.st Y
         rw[ga] at c3
         rw[gb] at d3
         have C0:=zc (N 0 (by omega))
         have D0:=zc (M 0 (by omega))
         have C1:=zc (N 1 (by omega))
         have D1:=zc (M 1 (by omega))
         have C2:=zc (N 2 (by omega))
         have D2:=zc (M 2 (by omega))
         have HX:=zc V
         have HY:=zc Y
         clear N M ga gb V Y
         obtain⟨O,L⟩: ∃O,O=j+1:=⟨_,rfl⟩
         have ej:(j:Int)+1=(O:Int):=by omega
         have HJ:=zc L
         clear L
         obtain⟨b,z⟩: ∃b,zcF x y=b:=⟨_,rfl⟩
         have ab: ∀W:World,Sem.run Tryz.prog (binOp .neq 107 (.agg #[.int .i64 x.kind,.string x.name,.int .i64 x.expr]) (.agg #[.int .i64 y.kind,.string y.name,.int .i64 y.expr])) W= .ok (.bool !b) W:=fun W=>by rw[aj,z]
         have ag: ∀(U:BinOp) (a b:Operand) (W:World),Sem.run Tryz.prog (eqGuard U 107 a b (.agg #[.int .i64 x.kind,.string x.name,.int .i64 x.expr]) (.agg #[.int .i64 y.kind,.string y.name,.int .i64 y.expr])) W= .ok () W:=fun U a b W=>ae U a b x y W
         go_wp2
         have kc:=cell_regrown c3
         have kd:=cell_regrown d3
         have k0:=cell_regrown C0.out
         have v0:=cell_regrown D0.out
         have k1:=cell_regrown C1.out
         have v1:=cell_regrown D1.out
         have k2:=cell_regrown C2.out
         have v2:=cell_regrown D2.out
         simp only[Nat.add_zero] at k0 v0
         refine wp_region_quiet_below (by kernel_rfl) (by kernel_rfl) ?_
         repeat (go_big_quiet_step (fail))
         refine wpQuiet_nil ?_
         intro w2 X
         obtain⟨⟨dq,Z⟩,A⟩:=X
         have T2:Hid (TwoM w b1 b2 S1 S2 q I w2):=by show TwoM _ _ _ _ _ _ _ _;rw[A];exact T.out.later (below_regrown wr dq Z)
         clear A kc kd c0 c1 c2 c3 c4 cf d0 d1 d2 d3 d4 df k0 v0 C0 D0 k1 v1 C1 D1 k2 v2 C2 D2
         cases b with
         |true=>
          go_wp2
          go_roundg (gk-1)
          case rel=>exact⟨O,rfl,by have:=HJ.out;omega,by rw[HJ.out];have e:=zfw.1 z;exact zdm HT.out HX.out (by rw[e];exact HY.out),T2.out⟩
          case measure=>omega
         |false=>
          go_wp2
          go_ret
          exact⟨⟨false,rfl,⟨fun k=>(by cases k),fun k=>(by have e:=HX.out;rw[k,HY.out] at e;cases e;rw[zfw.2 rfl] at z;cases z)⟩⟩,T2.out.2.2.2.2⟩
        ·have H: ¬(j:Int)<(q.st.length:Int):=by omega
         obtain rfl:j=q.st.length:=by omega
         have A3:=zc (zdn (by omega) HT.out)
         clear HT H J hj
         go_wp2
         go_loopg [9] q.ex.length (fun k i wr=>∃j:Nat,i= .int .i64 j∧j+k=q.ex.length∧q.ex.take j=I.ex.take j∧TwoM w b1 b2 S1 S2 q I wr)
         case atStart=>exact⟨0,rfl,by omega,rfl,T.out⟩
         case round=>
          obtain⟨j,rfl,hj,ht,hT⟩:=hrel
          clear T c0 c1 c2 c3 c4 cf d0 d1 d2 d3 d4 df
          have T:=zc hT
          have HT:=zc ht
          clear hT ht
          obtain⟨c0,c1,c2,c3,c4,cf⟩:=zg T.out.1
          obtain⟨d0,d1,d2,d3,d4,df⟩:=zg T.out.2.1
          by_cases J:j<q.ex.length
          ·have H:(j:Int)<(q.ex.length:Int):=by omega
           have aa:(j:Int)<(I.ex.length:Int):=by omega
           obtain⟨x,V⟩:=zaS J
           obtain⟨y,Y⟩:=zaS (show j<I.ex.length by omega)
           obtain⟨g1,ga,N⟩:=OwnR.elem (f:=exL) (m:=6) (fun _=>rfl) T.out.2.2.1.ex V
           obtain⟨g2,gb,M⟩:=OwnR.elem (f:=exL) (m:=6) (fun _=>rfl) T.out.2.2.2.1.ex Y
           rw[ga] at c4
           rw[gb] at d4
           have C0:=zc (N 0 (by omega))
           have D0:=zc (M 0 (by omega))
           have C1:=zc (N 1 (by omega))
           have D1:=zc (M 1 (by omega))
           have C2:=zc (N 2 (by omega))
           have D2:=zc (M 2 (by omega))
           have C3:=zc (N 3 (by omega))
           have D3:=zc (M 3 (by omega))
           have C4:=zc (N 4 (by omega))
           have D4:=zc (M 4 (by omega))
           have C5:=zc (N 5 (by omega))
           have D5:=zc (M 5 (by omega))
           have HX:=zc V
           have HY:=zc Y
           clear N M ga gb V Y
           obtain⟨O,L⟩: ∃O,O=j+1:=⟨_,rfl⟩
           have ej:(j:Int)+1=(O:Int):=by omega
           have HJ:=zc L
           clear L
           obtain⟨b,z⟩: ∃b,zcG x y=b:=⟨_,rfl⟩
           have ab: ∀W:World,Sem.run Tryz.prog (binOp .neq 109 (.agg #[.int .i64 x.kind,.int .i64 x.num,.string x.name,.string x.field,.int .i64 x.l,.int .i64 x.r]) (.agg #[.int .i64 y.kind,.int .i64 y.num,.string y.name,.string y.field,.int .i64 y.l,.int .i64 y.r])) W= .ok (.bool !b) W:=fun W=>by rw[ah,z]
           have ag: ∀(U:BinOp) (a b:Operand) (W:World),Sem.run Tryz.prog (eqGuard U 109 a b (.agg #[.int .i64 x.kind,.int .i64 x.num,.string x.name,.string x.field,.int .i64 x.l,.int .i64 x.r]) (.agg #[.int .i64 y.kind,.int .i64 y.num,.string y.name,.string y.field,.int .i64 y.l,.int .i64 y.r])) W= .ok () W:=fun U a b W=>ad U a b x y W
           go_wp2
           have kc:=cell_regrown c4
           have kd:=cell_regrown d4
           have k0:=cell_regrown C0.out
           have v0:=cell_regrown D0.out
           have k1:=cell_regrown C1.out
           have v1:=cell_regrown D1.out
           have k2:=cell_regrown C2.out
           have v2:=cell_regrown D2.out
           have k3:=cell_regrown C3.out
           have v3:=cell_regrown D3.out
           have k4:=cell_regrown C4.out
           have v4:=cell_regrown D4.out
           have k5:=cell_regrown C5.out
           have v5:=cell_regrown D5.out
           simp only[Nat.add_zero] at k0 v0
           refine wp_region_quiet_below (by kernel_rfl) (by kernel_rfl) ?_
           repeat (go_big_quiet_step (fail))
           refine wpQuiet_nil ?_
           intro w2 X
           obtain⟨⟨dq,Z⟩,A⟩:=X
           have T2:Hid (TwoM w b1 b2 S1 S2 q I w2):=by show TwoM _ _ _ _ _ _ _ _;rw[A];exact T.out.later (below_regrown wr dq Z)
           clear A kc kd c0 c1 c2 c3 c4 cf d0 d1 d2 d3 d4 df k0 v0 C0 D0 k1 v1 C1 D1 k2 v2 C2 D2 k3 v3 C3 D3 k4 v4 C4 D4 k5 v5 C5 D5
           cases b with
           |true=>
            go_wp2
            go_roundg (gk-1)
            case rel=>exact⟨O,rfl,by have:=HJ.out;omega,by rw[HJ.out];have e:=zfx.1 z;exact zdm HT.out HX.out (by rw[e];exact HY.out),T2.out⟩
            case measure=>omega
           |false=>
            go_wp2
            go_ret
            exact⟨⟨false,rfl,⟨fun k=>(by cases k),fun k=>(by have e:=HX.out;rw[k,HY.out] at e;cases e;rw[zfx.2 rfl] at z;cases z)⟩⟩,T2.out.2.2.2.2⟩
          ·have H: ¬(j:Int)<(q.ex.length:Int):=by omega
           obtain rfl:j=q.ex.length:=by omega
           have A4:=zc (zdn (by omega) HT.out)
           clear HT H J hj
           go_wp2
           go_ret
           exact⟨⟨true,rfl,⟨fun _=>zj1 A0.out A1.out A2.out A3.out A4.out,fun _=>rfl⟩⟩,T.out.2.2.2.2⟩
end Go.Proofs.YtjdddblpfbmpaaaGreat
