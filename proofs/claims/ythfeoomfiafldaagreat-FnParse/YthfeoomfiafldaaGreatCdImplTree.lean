/-
 What areExprsUsedOnce answers: the walk.
-/
import Derived.Test.YthfeoomfiafldaaGreatCdSpecTreeToImplPrintA
namespace Go.Proofs.YthfeoomfiafldaaGreat
set_option maxRecDepth 100000
set_option maxHeartbeats 6400000
open Go.RowKit Go.PlainAid Go.Sort
def UM (w0:World) (base:Nat) (S:Sv) (m:Md) (gu:Nat) (f:Nat→Nat) (w:World):Prop:=
 (w.heap[gu]? =some (.cells #[.slice (some ⟨w0.heap.size+1,0,none⟩) m.ex.length m.ex.length] 104 (0,0))∧w0.heap.size+1<gu)∧
 w.ownsRow (w0.heap.size+1) 3 1 (.slice (some ⟨w0.heap.size+1,0,none⟩) m.ex.length m.ex.length) m.ex.length (zbu m.ex.length f)∧OwnMd w base S m∧
 w.heap[w0.heap.size]? =some (.cells #[.slice S.rq.a m.rq.length S.rq.cap,.slice S.im.a m.im.length S.im.cap,.slice S.ep.a m.ep.length S.ep.cap,.slice S.st.a m.st.length S.st.cap,.slice S.ex.a m.ex.length S.ex.cap] 32 (0,0))∧Below w0.heap.size w0 w
theorem UM.later {w0 w E:World} {j:Nat} {S:Sv} {m:Md} {H:Nat} {f:Nat→Nat} (h:UM w0 j S m H f w) (o:Below w.heap.size w E):UM w0 j S m H f E:=by
 obtain⟨⟨I,K⟩,J,L,z,D⟩:=h
 exact⟨⟨(o.block _ (Array.getElem?_eq_some_iff.1 I).1).trans I,K⟩,ziK J o,L.later o,(o.block _ (Array.getElem?_eq_some_iff.1 z).1).trans z,D.trans (o.mono D.size)⟩
theorem UM.used {w0 w:World} {j:Nat} {S:Sv} {m:Md} {z:Nat} {f:Nat→Nat} (h:UM w0 j S m z f w) (i:Nat):UM w0 j S m z (zbO f i) (w.setCell ⟨w0.heap.size+1,i,none⟩ (.int .i64 (f i+1:Nat))):=by
 obtain⟨⟨I,H⟩,o,J,D,E⟩:=h
 exact⟨⟨(zx (by omega)).trans I,H⟩,zrU o i _ rfl,zrV J (zrX o),(zx (by omega)).trans D,E.setCell (Nat.le_succ _) _⟩
theorem UM.congr {w0 w:World} {j:Nat} {S:Sv} {m:Md} {o:Nat} {f g:Nat→Nat} (h:UM w0 j S m o f w) (e: ∀k,k<m.ex.length→f k=g k):UM w0 j S m o g w:=by
 obtain⟨H,D,I,z,E⟩:=h
 exact⟨H,by rw[←zlu e];exact D,I,z,E⟩
theorem ziN {w0:World} {b0:Nat} {S:Sv} {m:Md} {j:Nat} {f:Nat→Nat} (i:Nat) (n:Int) (w:World) (h:UM w0 b0 S m j f w) (E:f i≤17179869184) (H:i<m.ex.length) (z:(i:Int)<n):
  Calls Tryz.prog 57 #[.int .i64 (i:Int),.int .i64 n,.pointer (some ⟨j,0,none⟩)] w fun e o=>e= .returned (.bool true)∧UM w0 b0 S m j (zbO f i) o∧∀k,k≠w0.heap.size+1→o.heap[k]? =w.heap[k]?:=by
 refine (zrZ i m.ex.length (w0.heap.size+1) (w0.heap.size+1) j n f w h.1.1 h.2.1 E H z).mono ?_
 rintro e o ⟨rfl,rfl⟩
 exact⟨rfl,h.used i,fun k D=>zx D⟩
theorem zl1 {n:Nat} {f:Nat→Nat}:odd n f 0=false↔∀k,k<n→f k=1:=by
 rw[Bool.eq_false_iff]
 constructor
 ·intro h k j
  by_cases e:f k=1
  ·exact e
  ·exact absurd (by
    simp only[odd,List.any_eq_true,List.mem_range,Bool.and_eq_true,decide_eq_true_eq]
    exact⟨k,j,Nat.zero_le _,by rw[bne_iff_ne];omega⟩) h
 ·intro h e
  simp only[odd,List.any_eq_true,List.mem_range,Bool.and_eq_true,decide_eq_true_eq] at e
  obtain⟨k,j,_,o⟩:=e
  rw[bne_iff_ne] at o
  have:=h k j
  omega
theorem zse (o:Nat) (S:Sv) (m:Md) (w:World) (h:OwnMd w o S m) (hl:m.ex.length≤4294967296) (hs:m.st.length≤4294967296):
  Calls Tryz.prog 22 #[zbM S m] w fun e w'=>ziL m e∧Below w.heap.size w w':=by
 obtain⟨i0,hi,aD,aA,aB⟩:=info_parts Tryz.infoInt
 have HH:=zc h
 clear h
 unfold zbM
 go_enter Tryz.func22,Tryz.ntmps22
 go_wp2_with (first|(at_make;refine wpList_make_full _ rfl _ _ 104 rfl (w.heap.size+1) 3 i0 (.int .i64 0) 1 Tryz.underlying104 hi aD aA .i64 .i64 _ _ m.ex.length (by rfl) (by rfl) rfl rfl (by rw[aB];omega) (by unfold maxLen;omega) (by rw[zW];omega) ?_))
 intro U Q K
 rw[zrT] at Q
 have bb:Below (w.heap.size+1) (w.alloc _) U:=⟨K.os,K.tape,K.output,K.size,fun k L=>K.block k (by rw[zW];exact L) (by simp)⟩
 have Z:Hid (Below w.heap.size w U):=((Below.refl _ _).alloc (Nat.le_refl _) _).trans (bb.mono (by omega))
 have aj:Hid (U.heap[w.heap.size]? =some (.cells #[.slice S.rq.a m.rq.length S.rq.cap,.slice S.im.a m.im.length S.im.cap,.slice S.ep.a m.ep.length S.ep.cap,.slice S.st.a m.st.length S.st.cap,.slice S.ex.a m.ex.length S.ex.cap] 32 (0,0))):=(bb.block _ (by omega)).trans (heap_alloc_new w _)
 have av:=zc (HH.out.later Z.out)
 have ac:Hid (U.ownsRow (w.heap.size+1) 3 1 (.slice (some ⟨w.heap.size+1,0,none⟩) m.ex.length m.ex.length) m.ex.length (zbu m.ex.length (cE m.ex 0))):=by show World.ownsRow _ _ _ _ _ _ _;rw[show zbu m.ex.length (cE m.ex 0)=zbu m.ex.length (fun _=>0) from zlu fun k _=>by simp[cE,zZ]];exact Q
 clear Q K bb
 have ax:=(zly ac.out).2
 go_upto_region 3 with fail
 have HA:Hid (Below U.heap.size U (U.alloc (.cells #[.slice (some ⟨w.heap.size+1,0,none⟩) m.ex.length m.ex.length] 104))):=(Below.refl _ _).alloc (Nat.le_refl _) _
 have hz:=(Array.getElem?_eq_some_iff.1 aj.out).1
 refine zaA (R:=UM w o S m U.heap.size (cE m.ex 0)) ⟨⟨heap_alloc_new U _,ax⟩,ziK ac.out HA.out,av.out.later HA.out,(HA.out.block _ hz).trans aj.out,Z.out.trans (HA.out.mono Z.out.size)⟩ ?_
 obtain⟨gu,ap⟩: ∃gu,gu=U.heap.size:=⟨_,rfl⟩
 rw[←ap]
 rw[←ap] at ax
 clear HA aj Z av ac hz ap U
 intro W z
 have HM:=zc z
 clear z
 obtain⟨c0,c1,c2,c3,c4,cf⟩:=zaa HM.out.2.2.2.1
 go_wp2
 go_loopg [17] m.ex.length (fun k i wr=>∃j:Nat,i= .int .i64 j∧j+k=m.ex.length∧AheadTo m.ex j∧UM w o S m gu (cE m.ex j) wr)
 case atStart=>exact⟨0,rfl,by omega,fun i x hi=>absurd hi (Nat.not_lt_zero i),HM.out⟩
 case round=>
  obtain⟨j,rfl,hj,ah,z⟩:=hrel
  have AH:=zc ah
  have J:=zc z
  clear ah z
  clear c0 c1 c2 c3 c4 cf
  obtain⟨c0,c1,c2,c3,c4,cf⟩:=zaa J.out.2.2.2.1
  by_cases E:j<m.ex.length
  ·have ar:(j:Int)<(m.ex.length:Int):=by omega
   obtain⟨g,hg,aF,x0,x1,x2,x3,x4,x5⟩:=J.out.2.2.1.expr E
   have HG:Hid (Value.slice S.ex.a m.ex.length S.ex.cap=Value.slice (some ⟨g,0,none⟩) m.ex.length S.ex.cap):=by show _=_;rw[hg]
   clear hg c0 c1 c2 c3 c4 cf
   rw[HG.out]
   have au:=zc (zf5 E)
   obtain⟨x,ae⟩: ∃x,m.ex.getD j zn=x:=⟨_,rfl⟩
   rw[ae] at x0 x1 x2 x3 x4 x5
   have N:Hid (m.ex[j]=x):=au.out.symm.trans ae
   clear ae au
   obtain⟨X,O⟩: ∃X,X=j+1:=⟨_,rfl⟩
   have ej:(j:Int)+1=(X:Int):=by omega
   have V:=zc O
   clear O
   go_upto_region 6 with fail
   have HW:Hid (Below wr.heap.size wr (wr.alloc (.cells #[.int .i64 x.kind,.int .i64 x.num,.string x.name,.string x.field,.int .i64 x.l,.int .i64 x.r] 81))):=(Below.refl _ _).alloc (Nat.le_refl _) _
   refine zaA (R:=fun W=>W.heap[wr.heap.size]? =some (.cells #[.int .i64 x.kind,.int .i64 x.num,.string x.name,.string x.field,.int .i64 x.l,.int .i64 x.r] 81 (0,0))∧UM w o S m gu (cE m.ex j) W) ⟨heap_alloc_new wr _,J.out.later HW.out⟩ ?_
   have az:wr.heap.size≠w.heap.size+1:=by have:=(zly J.out.2.1).2;omega
   obtain⟨gx,aq⟩: ∃gx,gx=wr.heap.size:=⟨_,rfl⟩
   rw[←aq]
   rw[←aq] at az
   clear x0 x1 x2 x3 x4 x5 HW
   rintro W ⟨xb,z⟩
   clear aq J
   have XB:=zc xb
   have J:=zc z
   clear xb z
   obtain⟨x0,x1,x2,x3,x4,x5,xf⟩:=zC XB.out
   go_wp2_with fail
   refine (zlz x.kind _).mono ?_
   rintro e w2 ⟨rfl,M⟩
   rw[M]
   clear M w2
   cases ht:zO x.kind with
   |false=>
    go_wp2
    rw[←HG.out]
    go_roundg (gk-1)
    case rel=>exact⟨X,rfl,by have:=V.out;omega,by rw[V.out];exact AH.out.next E (fun k=>by rw[N.out,ht] at k;cases k),by rw[V.out];exact J.out.congr fun k _=>zrN E (by rw[N.out];exact ht) k⟩
    case measure=>omega
   |true=>
    go_wp2_with fail
    by_cases a1:0≤x.l∧x.l<(j:Int)
    ·obtain⟨ln,am⟩: ∃ln:Nat,x.l=(ln:Int):=⟨x.l.toNat,by omega⟩
     have ao:=zlt (m.ex.take j)
     have aw:(m.ex.take j).length≤4294967296:=by rw[List.length_take];omega
     rw[am]
     refine (ziN (w0:=w) (b0:=o) (S:=S) (m:=m) (f:=cE m.ex j) ln (j:Int) W J.out (by have:=ao (ln:Int);unfold cE;omega) (by omega) (by omega)).mono ?_
     rintro e W2 ⟨rfl,aa,L⟩
     have D:=zc aa
     have aC:=zc ((L gx az).trans XB.out)
     clear aa L x0 x1 x2 x3 x4 x5 xf
     obtain⟨x0,x1,x2,x3,x4,x5,xf⟩:=zC aC.out
     go_wp2_with fail
     by_cases a2:0≤x.r∧x.r<(j:Int)
     ·obtain⟨rn,af⟩: ∃rn:Nat,x.r=(rn:Int):=⟨x.r.toNat,by omega⟩
      rw[af]
      refine (ziN (w0:=w) (b0:=o) (S:=S) (m:=m) (f:=zbO (cE m.ex j) ln) rn (j:Int) W2 D.out (by have:=ao (rn:Int);unfold zbO cE;split<;>omega) (by omega) (by omega)).mono ?_
      rintro e W3 ⟨rfl,H,L⟩
      have ak:=zc H
      have ad:Hid (∀k:Nat,zbO (zbO (cE m.ex j) ln) rn k=cE m.ex (j+1) k):=fun k=>by have:=zrM E (by rw[N.out];exact ht) (by rw[N.out];omega) (by rw[N.out];omega) k;rw[N.out,am,af] at this;exact this
      have aE:Hid (AheadTo m.ex (j+1)):=AH.out.next E (fun _=>by rw[N.out];omega)
      clear H L x0 x1 x2 x3 x4 x5 xf am af a1 a2 ao aw
      go_wp2
      rw[←HG.out]
      go_roundg (gk-1)
      case rel=>exact⟨X,rfl,by have:=V.out;omega,by rw[V.out];exact aE.out,by rw[V.out];exact ak.out.congr fun k _=>ad.out k⟩
      case measure=>omega
     ·refine (ziM x.r (j:Int) _ W2 a2).mono ?_
      rintro e w3 ⟨rfl,M⟩
      rw[M]
      clear M w3
      go_wp2
      go_ret
      exact⟨zhg (fun (t:Tree m)=>absurd t.ahead (AheadTo.not E (by rw[N.out];exact ht) (by rw[N.out];omega))),D.out.2.2.2.2⟩
    ·refine (ziM x.l (j:Int) _ W a1).mono ?_
     rintro e w2 ⟨rfl,M⟩
     rw[M]
     clear M w2
     go_wp2
     go_ret
     exact⟨zhg (fun (t:Tree m)=>absurd t.ahead (AheadTo.not E (by rw[N.out];exact ht) (by rw[N.out];omega))),J.out.2.2.2.2⟩
  ·have ar: ¬(j:Int)<(m.ex.length:Int):=by omega
   obtain rfl:j=m.ex.length:=by omega
   have HA:=zc AH.out.all
   have HC:Hid (UM w o S m gu (cS m 0) wr):=J.out.congr fun k _=>by simp[cE,cS,za6]
   go_wp2
   go_loopg [44] m.st.length (fun k i wr=>∃j:Nat,i= .int .i64 j∧j+k=m.st.length∧(∀s∈m.st.take j,0≤s.expr∧s.expr<(m.ex.length:Int))∧UM w o S m gu (cS m j) wr)
   case atStart=>exact⟨0,rfl,by omega,(fun s hs=>by simp at hs),HC.out⟩
   case round=>
    obtain⟨j,rfl,aG,ah,z⟩:=hrel
    have AS:=zc ah
    have D:=zc z
    clear ah z c0 c1 c2 c3 c4 cf
    obtain⟨c0,c1,c2,c3,c4,cf⟩:=zaa D.out.2.2.2.1
    by_cases I:j<m.st.length
    ·have al:(j:Int)<(m.st.length:Int):=by omega
     obtain⟨s,ag⟩: ∃s,m.st[j]? =some s:=⟨_,List.getElem?_eq_getElem I⟩
     obtain⟨g,hg,Y⟩:=OwnR.elem (f:=smL) (m:=3) (fun _=>rfl) D.out.2.2.1.st ag
     have k0:=Y 0 (by omega)
     have k1:=Y 1 (by omega)
     have k2:=Y 2 (by omega)
     simp only[smL,Nat.add_zero,List.getElem?_cons_zero,List.getElem?_cons_succ] at k0 k1 k2
     have HG:Hid (Value.slice S.st.a m.st.length S.st.cap=Value.slice (some ⟨g,0,none⟩) m.st.length S.st.cap):=by show _=_;rw[hg]
     obtain⟨_,ab⟩:=List.getElem?_eq_some_iff.1 ag
     have HS:Hid (m.st[j]=s):=ab
     clear hg Y ag ab
     rw[HG.out]
     obtain⟨X,O⟩: ∃X,X=j+1:=⟨_,rfl⟩
     have ej:(j:Int)+1=(X:Int):=by omega
     have V:=zc O
     clear O
     go_upto_region 12 with fail
     have HW:Hid (Below wr.heap.size wr (wr.alloc (.cells #[.int .i64 s.kind,.string s.name,.int .i64 s.expr] 79))):=(Below.refl _ _).alloc (Nat.le_refl _) _
     refine zaA (R:=fun W=>W.heap[wr.heap.size]? =some (.cells #[.int .i64 s.kind,.string s.name,.int .i64 s.expr] 79 (0,0))∧UM w o S m gu (cS m j) W) ⟨heap_alloc_new wr _,D.out.later HW.out⟩ ?_
     clear k0 k1 k2 HW c0 c1 c2 c3 c4 cf
     rintro W ⟨xb,z⟩
     have J:=zc z
     obtain⟨k0,k1,k2,kf⟩:=zdm xb
     clear z xb
     obtain⟨c0,c1,c2,c3,c4,cf⟩:=zaa J.out.2.2.2.1
     go_wp2_with fail
     by_cases a1:0≤s.expr∧s.expr<(m.ex.length:Int)
     ·obtain⟨en,ai⟩: ∃en:Nat,s.expr=(en:Int):=⟨s.expr.toNat,by omega⟩
      have an:Hid (∀s∈m.st.take (j+1),0≤s.expr∧s.expr<(m.ex.length:Int)):=by
       intro y hy
       rw[List.take_succ_eq_append_getElem I,List.mem_append] at hy
       rcases hy with hy|hy
       ·exact AS.out y hy
       ·simp only[List.mem_singleton] at hy
        rw[hy,HS.out]
        omega
      have ad:Hid (∀k:Nat,zbO (cS m j) en k=cS m (j+1) k):=fun k=>by have:=zrO (ex:=m.ex) I (by rw[HS.out];omega) k;rw[HS.out,ai] at this;exact this
      rw[ai]
      refine (ziN (w0:=w) (b0:=o) (S:=S) (m:=m) (f:=cS m j) en _ W J.out (by unfold cS;have:=zlt m.ex (en:Int);have:=zrI (m.st.take j) (en:Int);rw[List.length_take] at this;omega) (by omega) (by omega)).mono ?_
      rintro e W2 ⟨rfl,H,L⟩
      have ak:=zc H
      clear H L k0 k1 k2 kf c0 c1 c2 c3 c4 cf ai a1
      go_wp2
      rw[←HG.out]
      go_roundg (gk-1)
      case rel=>exact⟨X,rfl,by have:=V.out;omega,by rw[V.out];exact an.out,by rw[V.out];exact ak.out.congr fun k _=>ad.out k⟩
      case measure=>omega
     ·refine (ziM s.expr _ _ W a1).mono ?_
      rintro e w3 ⟨rfl,M⟩
      rw[M]
      clear M w3
      go_wp2
      go_ret
      exact⟨zhg (fun (t:Tree m)=>by have:=t.stm _ (List.getElem_mem I);rw[HS.out] at this;omega),J.out.2.2.2.2⟩
    ·have al: ¬(j:Int)<(m.st.length:Int):=by omega
     obtain rfl:j=m.st.length:=by omega
     have an:Hid (∀s∈m.st,0≤s.expr∧s.expr<(m.ex.length:Int)):=by have:=AS.out;rw[List.take_length] at this;exact this
     obtain⟨t0,tf⟩:=zl0 D.out.1.1
     go_wp2_with fail
     refine (zsd (w.heap.size+1) (w.heap.size+1) m.ex.length (cS m m.st.length) _ D.out.2.1 hl).mono ?_
     rintro e w3 ⟨rfl,hb⟩
     have ay:Hid (Below w.heap.size w w3):=D.out.2.2.2.2.trans (hb.mono D.out.2.2.2.2.size)
     clear hb
     cases ho:odd m.ex.length (cS m m.st.length) 0 with
     |true=>
      go_wp2
      go_ret
      exact⟨zhg (fun (t:Tree m)=>by
       have:=zl1.2 (fun k L=>by have:=t.once k L;show cS m m.st.length k=1;unfold cS;rw[List.take_length];omega)
       rw[ho] at this
       cases this),ay.out⟩
     |false=>
      go_wp2
      go_ret
      exact⟨zrW ⟨HA.out,an.out,fun k L=>by have:=zl1.1 ho k L;unfold cS at this;rw[List.take_length] at this;exact this⟩,ay.out⟩
end Go.Proofs.YthfeoomfiafldaaGreat