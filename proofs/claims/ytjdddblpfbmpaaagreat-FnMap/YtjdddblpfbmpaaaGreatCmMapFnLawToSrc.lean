/-
  What laws.FnMap answers of a code that is not too long: the walk.
  What is known of a []byte that came in. No program is spoken of.
-/
import Derived.Test.YtjdddblpfbmpaaaGreatCmSameLaw
import Derived.Test.YtjdddblpfbmpaaaGreatCmReadAgainToBig
namespace Go.Proofs.YtjdddblpfbmpaaaGreat
set_option maxRecDepth 100000
set_option maxHeartbeats 12800000
open Go.RowKit Go.PlainAid Go.Sort
theorem ziD:OkC 7:=fun j S m w h z q=>(zsf j S m false w h (zhC z q) (fun t=>by have:=(zf0 t q).1;omega)).mono fun e w' ⟨h1,h2⟩=>⟨zo2 h1,h2⟩
theorem zuD (S:Src) (hS:S.ok) (w:World) (hc:zcI S w) (hl:S.lim≤w.heap.size) (aM:S.len≤1048576):
  Calls Tryz.prog 5 #[.slice S.a S.len S.cap] w fun e w'=>e= .returned (.bool true)∧Below w.heap.size w w':=by
 have am:decide ((1048576:Int)<S.len)=false:=by simp;omega
 have HC:=zc hc
 clear hc
 go_enter Tryz.func5,Tryz.ntmps5
 go_wp2_with fail
 refine (zmp _ _ _ _ (by omega)).mono ?_
 rintro e w' ⟨rfl,hw⟩
 rw[hw,am]
 clear hw
 go_wp2_with fail
 refine (zpR S hS w HC.out hl).mono ?_
 rintro e w1 ⟨gr,n,al,fs,s,rfl,ho,hn,hf,bu,q⟩
 obtain⟨Pt,Tx,ab,hp,ht⟩:=zkn ho hf
 have F1:=zc ab
 have HP:=zc hp
 have HT:=zc ht
 have B1:=zc q
 clear ho hf ab hp ht q am fs
 go_wp2_with fail
 refine (ziC (some ⟨gr,0,none⟩) gr n al Pt Tx s w1 F1.out (by omega) HP.out HT.out (by omega)).mono ?_
 rintro e w2 ⟨rfl,q⟩
 obtain⟨X,hX⟩: ∃X,X=zT n Pt Tx s:=⟨_,rfl⟩
 rw[←hX]
 have HX:=zc hX
 have F2:=zc (F1.out.later q)
 have B2:=zc (B1.out.trans (q.mono B1.out.size))
 clear hX q F1 B1
 have bp:(!(X.toList==X.toList))=false:=by simp
 go_upto_region 5 with fail
 go_cut [40] (fun be wx=>be= .bool false∧Hid (FilesAt wx (some ⟨gr,0,none⟩) gr 0 n Pt Tx)∧Hid (Below w.heap.size w wx))
 case first=>
  go_wp2_with fail
  refine (zfM gr n al Pt Tx s w2 F2.out (by omega) HP.out HT.out (by omega)).mono ?_
  rintro e w3 ⟨rfl,q⟩
  rw[←HX.out]
  have F3:=zc (F2.out.later q)
  have B3:=zc (B2.out.trans (q.mono B2.out.size))
  clear q F2 B2
  go_wp2_with fail
  refine (zcX gr n al Pt Tx w3 F3.out (by omega) HP.out HT.out).mono ?_
  rintro e w4 ⟨rfl,q⟩
  have F4:=zc (F3.out.later q)
  have B4:=zc (B3.out.trans (q.mono B3.out.size))
  clear q F3 B3
  cases hr:zaY n Pt Tx with
  |false=>
   have bC:(!(X.toList==s.toList))=false:=by rw[HX.out,zf4 hr];simp
   go_wp2
   go_meet
   case rel=>exact⟨rfl,F4,B4⟩
  |true=>
   go_wp2
   go_meet
   case rel=>exact⟨rfl,F4,B4⟩
 case rest=>
  obtain⟨rfl,F4,B4⟩:=hcut
  clear F2 B2
  go_upto_block 0 with fail
  go_cut [6] from 41 to 66 (fun _ wx=>Hid (Below w.heap.size w wx))
  case first=>
   go_wp2_with fail
   go_loopw [6] (fun i wr=>∃k:Nat,k≤n∧i= .int .i64 k∧Hid (FilesAt wr (some ⟨gr,0,none⟩) gr 0 n Pt Tx)∧Hid (Below w.heap.size w wr)) (fun i _=>(n-intOf i).toNat)
   case atStart=>exact⟨0,by omega,rfl,F4,B4⟩
   case round=>
    obtain⟨k,hk,rfl,HF,HB⟩:=hrel
    clear F4 B4
    by_cases ac:k<n
    ·go_wp2_with fail
     refine (zcX gr n al Pt Tx wr HF.out (by omega) HP.out HT.out).mono ?_
     rintro e w5 ⟨rfl,q⟩
     have F5:=zc (HF.out.later q)
     have B5:=zc (HB.out.trans (q.mono HB.out.size))
     clear q HF HB
     cases hr:zaY n Pt Tx with
     |false=>
      go_wp2
      go_meet
      case rel=>exact B5
     |true=>
      have p0:=F5.out.path k ac
      have p1:=F5.out.text k ac
      simp only[Nat.zero_add] at p0 p1
      cases hq:((Pt k).toList==s.toList) with
      |false=>
       go_wp2
       go_roundw
       case rel=>exact⟨k+1,by omega,by go_num,F5,B5⟩
       case measure=>simp[intOf];omega
      |true=>
       have bB:(!(X.toList==(Tx k).toList))=false:=by
        rw[HX.out,zoR hr ac ((zfV _ _).1 hq)]
        simp
       go_wp2
       go_roundw
       case rel=>exact⟨k+1,by omega,by go_num,F5,B5⟩
       case measure=>simp[intOf];omega
    ·go_wp2
     go_meet
     case rel=>exact HB
  case rest=>
   have B5:=hcut
   clear hcut F4 B4 HX bp HP HT
   go_wp2_with fail
   refine (zrj S hS _ (zg7 HC.out B5.out hl) (Nat.le_trans hl B5.out.size) aM).mono ?_
   rintro e w6 ⟨g2,n2,ag,fs,V,m,rfl,ho,bE,hf,ap,hd,q⟩
   obtain⟨z,A,ab,hp,ht⟩:=zkn ho hf
   obtain⟨M,a4⟩: ∃M,M=wc.heap.size:=⟨_,rfl⟩
   rw[←a4] at ap
   have au:=zc hp
   have av:=zc ht
   have DR:=zc hd
   have FT:=zc hd.fit
   have F6:=zc ab
   have O6:=zc ap
   have B6:=zc (B5.out.trans (q.mono B5.out.size))
   clear ho hf ab hp ht hd ap q a4 B5 fs
   unfold zp
   go_upto_region 13 with fail
   have H:Hid (Below w6.heap.size w6 (w6.alloc (zeB V m))):=(Below.refl _ _).alloc (Nat.le_refl _) _
   refine zac (R:=fun W=>ML w g2 n2 z A M V m w6.heap.size W) ⟨B6.out.trans (H.out.mono B6.out.size),F6.out.later H.out,heap_alloc_new w6 _,O6.out.later H.out⟩ ?_
   obtain⟨b8,aQ⟩: ∃b8,b8=w6.heap.size:=⟨_,rfl⟩
   rw[←aQ]
   intro w7 h7
   have M7:=zc h7
   clear h7 aQ H F6 O6 B6
   obtain⟨J,O,L,Y,Z,U⟩:=zg M7.out.box
   go_wp2_with fail
   refine (zmg ziC M (some ⟨g2,0,none⟩) g2 n2 ag z A V m w7 M7.out.ru (by omega) au.out av.out M7.out.own FT.out DR.out.nums).mono ?_
   rintro e w8 ⟨t,S8,rfl,o8,i8,q⟩
   obtain⟨F,hF⟩: ∃F,F=zT n2 z A:=⟨_,rfl⟩
   rw[←hF] at o8 i8 ⊢
   have HF:=zc hF
   obtain⟨N,hN⟩: ∃N,N=(if t=true then zaZ F m else md0):=⟨_,rfl⟩
   rw[←hN] at o8 ⊢
   have HN:=zc hN
   have I8:=zc i8
   have O8:=zc o8
   have M8:=zc (M7.out.later q)
   clear hF hN o8 i8 q M7 J O L Y Z U
   unfold zp
   go_upto_region 14 with fail
   have H:Hid (Below w8.heap.size w8 (w8.alloc (zeB S8 N))):=(Below.refl _ _).alloc (Nat.le_refl _) _
   refine zac (R:=fun W=>ML w g2 n2 z A M V m b8 W∧MY w7.heap.size S8 N w8.heap.size W) ⟨M8.out.later H.out,heap_alloc_new w8 _,O8.out.later H.out⟩ ?_
   obtain⟨b9,aV⟩: ∃b9,b9=w8.heap.size:=⟨_,rfl⟩
   obtain⟨I,aW⟩: ∃I,I=w7.heap.size:=⟨_,rfl⟩
   rw[←aV,←aW]
   rintro w9 ⟨h9,y9⟩
   have M9:=zc h9
   have Y9:=zc y9
   clear h9 y9 aV aW H M8 O8
   obtain⟨J,O,L,Y,Z,U⟩:=zg M9.out.box
   go_wp2_with fail
   refine (zr5 ziD M g2 n2 ag z A V m w9 M9.out.ru (by omega) au.out av.out M9.out.own FT.out DR.out.nums).mono ?_
   rintro e aB ⟨t2,bg,rfl,_,az,q⟩
   rw[←HF.out] at az ⊢
   obtain rfl:t2=t:=zko (az.trans I8.out.symm)
   rw[←HN.out]
   have aZ:=zc (M9.out.later q)
   have aX:=zc (Y9.out.later q)
   clear az q M9 Y9 J O L Y Z U
   unfold zp
   go_upto_region 15 with fail
   have H:Hid (Below aB.heap.size aB (aB.alloc (zeB bg N))):=(Below.refl _ _).alloc (Nat.le_refl _) _
   refine zac (R:=fun W=>ML w g2 n2 z A M V m b8 W∧MY I S8 N b9 W) ⟨aZ.out.later H.out,aX.out.later H.out⟩ ?_
   rintro ay ⟨a6,aR⟩
   have ak:=zc a6
   have aN:=zc aR
   clear a6 aR H aZ aX
   obtain⟨J,O,L,Y,Z,U⟩:=zg ak.out.box
   go_wp2_with fail
   refine (zmg ziC M none 0 0 0 z A V m ay ⟨fun h=>absurd h (Nat.lt_irrefl _),fun h=>absurd h (Nat.lt_irrefl _),fun j hj=>absurd hj (Nat.not_lt_zero j),fun j hj=>absurd hj (Nat.not_lt_zero j)⟩ (by omega) (fun j hj=>absurd hj (Nat.not_lt_zero j)) (fun j hj=>absurd hj (Nat.not_lt_zero j)) ak.out.own FT.out DR.out.nums).mono ?_
   rintro e aa ⟨t3,aE,rfl,aC,aG,q⟩
   obtain⟨N3,aq⟩: ∃N3,N3=(if t3=true then zaZ (zT 0 z A) m else md0):=⟨_,rfl⟩
   rw[←aq] at aC ⊢
   have ai:Hid (t3=true↔MOk m):=⟨fun h=>(aG.1 h).1,fun h=>aG.2 ⟨h,by rw[zjU zjT h];exact h⟩⟩
   have a7:Hid (t3=true→N3=m):=fun h=>by rw[aq,if_pos h,zjU zjT (ai.out.1 h)]
   have aL:=zc aC
   have aO:=zc (ak.out.later q)
   have a2:=zc (aN.out.later q)
   clear aG aq aC q ak aN J O L Y Z U
   unfold zp
   go_upto_region 16 with fail
   have H:Hid (Below aa.heap.size aa (aa.alloc (zeB aE N3))):=(Below.refl _ _).alloc (Nat.le_refl _) _
   refine zac (R:=fun W=>ML w g2 n2 z A M V m b8 W∧MY I S8 N b9 W∧MY ay.heap.size aE N3 aa.heap.size W) ⟨aO.out.later H.out,a2.out.later H.out,heap_alloc_new aa _,aL.out.later H.out⟩ ?_
   obtain⟨aY,an⟩: ∃aY,aY=aa.heap.size:=⟨_,rfl⟩
   obtain⟨bz,aJ⟩: ∃bz,bz=ay.heap.size:=⟨_,rfl⟩
   rw[←an,←aJ]
   rintro bj ⟨aH,a5,aI⟩
   have af:=zc aH
   have ax:=zc a5
   have ar:=zc aI
   clear aH a5 aI an aJ H aO a2 aL
   have tt:(t2 !=t2)=false:=by simp
   go_cut [106] (fun a3 wx=>a3= .bool false∧Hid (ML w g2 n2 z A M V m b8 wx)∧Hid (MY I S8 N b9 wx))
   case first=>
    obtain⟨J,O,L,Y,Z,U⟩:=zg af.out.box
    go_wp2_with fail
    refine (ziD M V m bj af.out.own FT.out.cost DR.out.nums).mono ?_
    rintro e bA ⟨⟨b,rfl,ad⟩,q⟩
    obtain rfl:b=t3:=zko (ad.trans ai.out.symm)
    have ah:=zc (af.out.later q)
    have aA:=zc (ax.out.later q)
    have aw:=zc (ar.out.later q)
    clear q ad af ax ar J O L Y Z U
    have bb:(b !=b)=false:=by simp
    cases b with
    |false=>
     go_wp2
     go_meet
     case rel=>exact⟨rfl,ah,aA⟩
    |true=>
     obtain rfl:N3=m:=a7.out rfl
     have MF:=zc (ai.out.1 rfl).few
     obtain⟨J,O,L,Y,Z,U⟩:=zg ah.out.box
     obtain⟨d0,d1,d2,d3,d4,df⟩:=zg aw.out.box
     go_wp2_with fail
     refine (zrp zie zif zig zih zii zij zik zil bz M aE V N3 _ aw.out.own ah.out.own MF.out).mono ?_
     rintro e bt ⟨rfl,q⟩
     have bf:=zc (ah.out.later q)
     have a9:=zc (aA.out.later q)
     clear q ah aA aw J O L Y Z U d0 d1 d2 d3 d4 df
     go_wp2
     go_meet
     case rel=>exact⟨rfl,bf,a9⟩
   case rest=>
    obtain⟨rfl,aF,aD⟩:=hcut
    clear af ax ar a7 ai tt
    cases t2 with
    |false=>
     obtain rfl:N=md0:=by rw[HN.out];rfl
     obtain⟨d0,d1,d2,d3,d4,df⟩:=zg aD.out.box
     have e0:md0.st.length=0:=rfl
     rw[e0] at d3
     go_wp2
     go_ret
     exact⟨rfl,aF.out.bel⟩
    |true=>
     have ae:N=zaZ F m:=by rw[HN.out];rfl
     have aj:=zc ae
     have aP:=zc (I8.out.1 rfl)
     have LN:=zc aP.out.1.parts.rq
     have LR:N.rq.length≤m.rq.length:=by rw[ae];exact zg5 F m.rq _
     have LI:N.im.length=m.im.length:=by rw[ae];exact List.length_map _
     have LS:N.st.length=m.st.length:=by rw[ae];rfl
     have bv:m.rq.length≤40:=LN.out
     obtain⟨nr,ao⟩: ∃nr,nr=N.rq.length:=⟨_,rfl⟩
     have a0:=zc ao
     have a8:=zc LI
     have bi:=zc LS
     rw[←ao] at LR
     clear ae ao LI LS
     go_wp2
     go_loopw [15] (fun i wr=>∃k:Nat,k≤m.rq.length∧i= .int .i64 k∧Hid (ML w g2 n2 z A M V m b8 wr)∧Hid (MY I S8 N b9 wr)) (fun i _=>(m.rq.length-intOf i).toNat)
     case atStart=>exact⟨0,by omega,rfl,aF,aD⟩
     case round=>
      obtain⟨k,hk,rfl,HM,HY⟩:=hrel
      clear aF aD
      obtain⟨J,O,L,Y,Z,U⟩:=zg HM.out.box
      obtain⟨d0,d1,d2,d3,d4,df⟩:=zg HY.out.box
      by_cases ac:k<m.rq.length
      ·obtain⟨x,hx⟩: ∃x,m.rq[k]? =some x:=⟨_,List.getElem?_eq_getElem ac⟩
       have bo:Hid (inL N.rq (F x)=true):=by show inL N.rq (F x)=true;rw[aj.out];exact zoU hx
       have bc:Hid (x.size≤1048576):=FT.out.parts.1 x (List.mem_of_getElem? hx)
       obtain⟨gq,aK,cx⟩:=HM.out.own.rqAt hx
       rw[aK] at J
       clear hx aK
       go_upto_region 23 with fail
       go_cut [130] (fun a1 wx=>a1= .bool false∧Hid (Below wr.heap.size wr wx))
       case first=>
        have bs:=(Array.getElem?_eq_some_iff.1 HM.out.box).1
        have bD:=(Array.getElem?_eq_some_iff.1 HY.out.box).1
        go_region_with (first|(go_at_call 22;refine (zfM g2 n2 ag z A x _ (HM.out.ru.later (Below.refl wr.heap.size wr).drew) (by omega) au.out av.out bc.out).mono ?_;rintro e wa ⟨rfl,ba⟩;have BA:=zc (((Below.refl wr.heap.size wr).drew).trans ba);rw[←HF.out];have YA:=zc (HY.out.later BA.out);clear ba;obtain⟨q0,q1,q2,q3,q4,qf⟩:=zg YA.out.box;have bq:=(Array.getElem?_eq_some_iff.1 YA.out.box).1)|(go_at_call 26;refine (zrl S8.rq.a S8.rq.cap N.rq.length N.rq (F x) _ rfl (zkR YA.out.own.rq) (by have:=a0.out;omega)).mono ?_;rintro e wb ⟨rfl,aT⟩;rw[aT,bo.out];clear aT))
        all_goals
         go_wp2
         go_meet
         case rel=>exact⟨rfl,BA⟩
       case rest=>
        obtain⟨rfl,q⟩:=hcut
        have bl:=zc (HM.out.later q.out)
        have bn:=zc (HY.out.later q.out)
        clear q HM HY J O L Y Z U d0 d1 d2 d3 d4 df
        go_wp2
        go_roundw
        case rel=>exact⟨k+1,by omega,by go_num,bl,bn⟩
        case measure=>simp[intOf];omega
      ·have nm:zaW N.ex:=by rw[aj.out];exact DR.out.nums
       have cs:zbW N≤67108864:=by
        have h1:=zhH (F:=F) (by rw[HF.out];exact zhI) m
        have h2:=FT.out.big
        rw[aj.out]
        omega
       have aU:=zc (And.intro cs nm)
       clear nm cs
       go_wp2_with fail
       refine (ziD I S8 N _ HY.out.own aU.out.1 aU.out.2).mono ?_
       rintro e br ⟨⟨b,rfl,ad⟩,q⟩
       obtain rfl:b=true:=ad.2 (by rw[aj.out];exact aP.out.2)
       have aS:=zc (HM.out.later q)
       have bk:=zc (HY.out.later q)
       clear ad q HM HY J O L Y Z U d0 d1 d2 d3 d4 df
       obtain⟨J,O,L,Y,Z,U⟩:=zg aS.out.box
       obtain⟨d0,d1,d2,d3,d4,df⟩:=zg bk.out.box
       rw[a8.out] at d1
       rw[bi.out] at d3
       rw[←a0.out] at d0
       have lr:(nr:Int)≤(m.rq.length:Int):=by omega
       go_wp2
       go_ret
       exact⟨rfl,aS.out.bel⟩
def zhb (S:Src) (w:World):Prop:=S.len≤9223372036854775807∧(∀j,0≤S.Z j∧S.Z j≤255)∧zcI S w∧S.lim=w.heap.size∧S.len≤S.cap
theorem zuE (w:World):zhb ⟨none,0,0,fun _=>0,w.heap.size⟩ w:=⟨by simp,fun _=>by simp,fun j q=>absurd q (Nat.not_lt_zero j),rfl,Nat.le_refl _⟩
theorem zuF {w:World} {b i:Nat} {v:Value} (h:w.cell? ⟨b,i,none⟩=some v):b<w.heap.size:=by
 rcases Nat.lt_or_ge b w.heap.size with k|k
 ·exact k
 ·have e:w.heap[b]? =none:=Array.getElem?_eq_none k
  simp[World.cell?,e] at h
theorem zuG {w:World} {x:Addr} {len H:Nat} {z:List Int} (V:len≤H) (U:H≤maxLen) (Y:z.length=H) (q: ∀i,i<z.length→w.cell? (x.add i)=some (.int .u8 (z.getD i 0))) (M: ∀n∈z,(Lit.int .u8 n).wf=true):
  zhb ⟨some x,len,H,fun j=>z.getD j 0,w.heap.size⟩ w:=by
 refine⟨?_,fun j=>?_,fun j X=>?_,rfl,V⟩
 ·unfold maxLen at U
  simp only
  omega
 ·simp only
  by_cases h:j<z.length
  ·have e:z.getD j 0=z[j]:=by simp[List.getD,List.getElem?_eq_getElem h]
   rw[e]
   exact bounds_u8 (M _ (List.getElem_mem h))
  ·have e:z.getD j 0=0:=by simp[List.getD,List.getElem?_eq_none (Nat.le_of_not_lt h)]
   rw[e]
   omega
 ·simp only at X ⊢
  have h:=q j (by omega)
  obtain⟨b,A,L⟩:=x
  have N:=q 0 (by omega)
  have J:L=none:=by simpa [Addr.add] using World.cell?_spot N
  subst J
  have I:(⟨b,A,none⟩:Addr).add j=⟨b,A+j,none⟩:=by unfold Addr.add;split<;>simp_all
  have O:w.cell? ⟨b,A+j,none⟩=some (.int .u8 (z.getD j 0)):=by rw[←I];exact h
  exact⟨b,A,rfl,zuF O,O⟩
end Go.Proofs.YtjdddblpfbmpaaaGreat
