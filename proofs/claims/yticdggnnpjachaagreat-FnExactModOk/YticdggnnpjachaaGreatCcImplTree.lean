/-
 What areExprsUsedOnce answers: the walk.
-/
import Derived.Test.YticdggnnpjachaaGreatCcSpecTreeToImplPrintA
namespace Go.Proofs.YticdggnnpjachaaGreat
set_option maxRecDepth 100000
set_option maxHeartbeats 6400000
open Go.RowKit Go.PlainAid Go.Sort
def UM (w0:World) (base:Nat) (S:Sv) (m:Md) (gu:Nat) (f:Nat→Nat) (w:World):Prop:=
 (w.heap[gu]? =some (.cells #[.slice (some ⟨w0.heap.size+1,0,none⟩) m.ex.length m.ex.length] 151 (0,0))∧w0.heap.size+1<gu)∧
 w.ownsRow (w0.heap.size+1) 3 1 (.slice (some ⟨w0.heap.size+1,0,none⟩) m.ex.length m.ex.length) m.ex.length (zai m.ex.length f)∧OwnMd w base S m∧
 w.heap[w0.heap.size]? =some (.cells #[.slice S.rq.a m.rq.length S.rq.cap,.slice S.im.a m.im.length S.im.cap,.slice S.ep.a m.ep.length S.ep.cap,.slice S.st.a m.st.length S.st.cap,.slice S.ex.a m.ex.length S.ex.cap] 28 (0,0))∧Below w0.heap.size w0 w
theorem UM.later {w0 w z:World} {j:Nat} {S:Sv} {m:Md} {D:Nat} {f:Nat→Nat} (h:UM w0 j S m D f w) (n:Below w.heap.size w z):UM w0 j S m D f z:=by
 obtain⟨⟨q,I⟩,H,E,o,A⟩:=h
 exact⟨⟨(n.block _ (Array.getElem?_eq_some_iff.1 q).1).trans q,I⟩,zez H n,E.later n,(n.block _ (Array.getElem?_eq_some_iff.1 o).1).trans o,A.trans (n.mono A.size)⟩
theorem UM.used {w0 w:World} {j:Nat} {S:Sv} {m:Md} {o:Nat} {f:Nat→Nat} (h:UM w0 j S m o f w) (i:Nat):UM w0 j S m o (za9 f i) (w.setCell ⟨w0.heap.size+1,i,none⟩ (.int .i64 (f i+1:Nat))):=by
 obtain⟨⟨z,E⟩,n,A,q,D⟩:=h
 exact⟨⟨(zp (by omega)).trans z,E⟩,zfk n i _ rfl,zfl A (zfn n),(zp (by omega)).trans q,D.setCell (Nat.le_succ _) _⟩
theorem UM.congr {w0 w:World} {j:Nat} {S:Sv} {m:Md} {n:Nat} {f g:Nat→Nat} (h:UM w0 j S m n f w) (e: ∀k,k<m.ex.length→f k=g k):UM w0 j S m n g w:=by
 obtain⟨q,A,z,o,D⟩:=h
 exact⟨q,by rw[←zdq e];exact A,z,o,D⟩
theorem zge {w0:World} {b0:Nat} {S:Sv} {m:Md} {j:Nat} {f:Nat→Nat} (i:Nat) (n:Int) (w:World) (h:UM w0 b0 S m j f w) (z:f i≤17179869184) (D:i<m.ex.length) (A:(i:Int)<n):
  Calls Tryz.prog 112 #[.int .i64 (i:Int),.int .i64 n,.pointer (some ⟨j,0,none⟩)] w fun e o=>e= .returned (.bool true)∧UM w0 b0 S m j (za9 f i) o∧∀k,k≠w0.heap.size+1→o.heap[k]? =w.heap[k]?:=by
 refine (zmg i m.ex.length (w0.heap.size+1) (w0.heap.size+1) j n f w h.1.1 h.2.1 z D A).mono ?_
 rintro e o ⟨rfl,rfl⟩
 exact⟨rfl,h.used i,fun k q=>zp q⟩
theorem zhW {n:Nat} {f:Nat→Nat}:odd n f 0=false↔∀k,k<n→f k=1:=by
 rw[Bool.eq_false_iff]
 constructor
 ·intro h k j
  by_cases e:f k=1
  ·exact e
  ·exact absurd (by
    simp only[odd,List.any_eq_true,List.mem_range,Bool.and_eq_true,decide_eq_true_eq]
    exact⟨k,j,Nat.zero_le _,by rw[bne_iff_ne];omega⟩) h
 ·intro h e
  simp only[odd,List.any_eq_true,List.mem_range,Bool.and_eq_true,decide_eq_true_eq] at e
  obtain⟨k,j,_,o⟩:=e
  rw[bne_iff_ne] at o
  have:=h k j
  omega
theorem zml (n:Nat) (S:Sv) (m:Md) (w:World) (h:OwnMd w n S m) (hl:m.ex.length≤4294967296) (hs:m.st.length≤4294967296):
  Calls Tryz.prog 56 #[zt S m] w fun e w'=>zfm m e∧Below w.heap.size w w':=by
 obtain⟨i0,hi,aA,ay,aB⟩:=info_parts Tryz.infoInt
 have HH:=zc h
 clear h
 unfold zt
 go_enter Tryz.func56,Tryz.ntmps56
 go_wp2_with (first|(at_make;refine wpList_make_full _ rfl _ _ 151 rfl (w.heap.size+1) 3 i0 (.int .i64 0) 1 Tryz.underlying151 hi aA ay .i64 .i64 _ _ m.ex.length (by rfl) (by rfl) rfl rfl (by rw[aB];omega) (by unfold maxLen;omega) (by rw[zj];omega) ?_))
 intro K M H
 rw[zhS] at M
 have bb:Below (w.heap.size+1) (w.alloc _) K:=⟨H.os,H.tape,H.output,H.size,fun k I=>H.block k (by rw[zj];exact I) (by simp)⟩
 have X:Hid (Below w.heap.size w K):=((Below.refl _ _).alloc (Nat.le_refl _) _).trans (bb.mono (by omega))
 have aj:Hid (K.heap[w.heap.size]? =some (.cells #[.slice S.rq.a m.rq.length S.rq.cap,.slice S.im.a m.im.length S.im.cap,.slice S.ep.a m.ep.length S.ep.cap,.slice S.st.a m.st.length S.st.cap,.slice S.ex.a m.ex.length S.ex.cap] 28 (0,0))):=(bb.block _ (by omega)).trans (heap_alloc_new w _)
 have ax:=zc (HH.out.later X.out)
 have af:Hid (K.ownsRow (w.heap.size+1) 3 1 (.slice (some ⟨w.heap.size+1,0,none⟩) m.ex.length m.ex.length) m.ex.length (zai m.ex.length (cE m.ex 0))):=by show World.ownsRow _ _ _ _ _ _ _;rw[show zai m.ex.length (cE m.ex 0)=zai m.ex.length (fun _=>0) from zdq fun k _=>by simp[cE,zaj]];exact M
 clear M H bb
 have av:=(zgc af.out).2
 go_upto_region 3 with fail
 have HA:Hid (Below K.heap.size K (K.alloc (.cells #[.slice (some ⟨w.heap.size+1,0,none⟩) m.ex.length m.ex.length] 151))):=(Below.refl _ _).alloc (Nat.le_refl _) _
 have hz:=(Array.getElem?_eq_some_iff.1 aj.out).1
 refine zah (R:=UM w n S m K.heap.size (cE m.ex 0)) ⟨⟨heap_alloc_new K _,av⟩,zez af.out HA.out,ax.out.later HA.out,(HA.out.block _ hz).trans aj.out,X.out.trans (HA.out.mono X.out.size)⟩ ?_
 obtain⟨gu,am⟩: ∃gu,gu=K.heap.size:=⟨_,rfl⟩
 rw[←am]
 rw[←am] at av
 clear HA aj X ax af hz am K
 intro W o
 have HM:=zc o
 clear o
 obtain⟨c0,c1,c2,Z,c4,cf⟩:=zk HM.out.2.2.2.1
 go_wp2
 go_loopg [17] m.ex.length (fun k i wr=>∃j:Nat,i= .int .i64 j∧j+k=m.ex.length∧AheadTo m.ex j∧UM w n S m gu (cE m.ex j) wr)
 case atStart=>exact⟨0,rfl,by omega,fun i x hi=>absurd hi (Nat.not_lt_zero i),HM.out⟩
 case round=>
  obtain⟨j,rfl,hj,ah,o⟩:=hrel
  have AH:=zc ah
  have E:=zc o
  clear ah o
  clear c0 c1 c2 Z c4 cf
  obtain⟨c0,c1,c2,Z,c4,cf⟩:=zk E.out.2.2.2.1
  by_cases z:j<m.ex.length
  ·have aw:(j:Int)<(m.ex.length:Int):=by omega
   obtain⟨g,hg,aD,x0,x1,x2,x3,x4,x5⟩:=E.out.2.2.1.expr z
   have HG:Hid (Value.slice S.ex.a m.ex.length S.ex.cap=Value.slice (some ⟨g,0,none⟩) m.ex.length S.ex.cap):=by show _=_;rw[hg]
   clear hg c0 c1 c2 Z c4 cf
   rw[HG.out]
   have au:=zc (zdf z)
   obtain⟨x,ad⟩: ∃x,m.ex.getD j zf=x:=⟨_,rfl⟩
   rw[ad] at x0 x1 x2 x3 x4 x5
   have J:Hid (m.ex[j]=x):=au.out.symm.trans ad
   clear ad au
   obtain⟨U,N⟩: ∃U,U=j+1:=⟨_,rfl⟩
   have ej:(j:Int)+1=(U:Int):=by omega
   have O:=zc N
   clear N
   go_upto_region 6 with fail
   have HW:Hid (Below wr.heap.size wr (wr.alloc (.cells #[.int .i64 x.kind,.int .i64 x.num,.string x.name,.string x.field,.int .i64 x.l,.int .i64 x.r] 108))):=(Below.refl _ _).alloc (Nat.le_refl _) _
   refine zah (R:=fun W=>W.heap[wr.heap.size]? =some (.cells #[.int .i64 x.kind,.int .i64 x.num,.string x.name,.string x.field,.int .i64 x.l,.int .i64 x.r] 108 (0,0))∧UM w n S m gu (cE m.ex j) W) ⟨heap_alloc_new wr _,E.out.later HW.out⟩ ?_
   have aq:wr.heap.size≠w.heap.size+1:=by have:=(zgc E.out.2.1).2;omega
   obtain⟨gx,al⟩: ∃gx,gx=wr.heap.size:=⟨_,rfl⟩
   rw[←al]
   rw[←al] at aq
   clear x0 x1 x2 x3 x4 x5 HW
   rintro W ⟨xb,o⟩
   clear al E
   have XB:=zc xb
   have E:=zc o
   clear xb o
   obtain⟨x0,x1,x2,x3,x4,x5,xf⟩:=zu XB.out
   go_wp2_with fail
   refine (zhU x.kind _).mono ?_
   rintro e w2 ⟨rfl,L⟩
   rw[L]
   clear L w2
   cases ht:zT x.kind with
   |false=>
    go_wp2
    rw[←HG.out]
    go_roundg (gk-1)
    case rel=>exact⟨U,rfl,by have:=O.out;omega,by rw[O.out];exact AH.out.next z (fun k=>by rw[J.out,ht] at k;cases k),by rw[O.out];exact E.out.congr fun k _=>zhM z (by rw[J.out];exact ht) k⟩
    case measure=>omega
   |true=>
    go_wp2_with fail
    by_cases a1:0≤x.l∧x.l<(j:Int)
    ·obtain⟨ln,ac⟩: ∃ln:Nat,x.l=(ln:Int):=⟨x.l.toNat,by omega⟩
     have ap:=zfh (m.ex.take j)
     have ar:(m.ex.take j).length≤4294967296:=by rw[List.length_take];omega
     rw[ac]
     refine (zge (w0:=w) (b0:=n) (S:=S) (m:=m) (f:=cE m.ex j) ln (j:Int) W E.out (by have:=ap (ln:Int);unfold cE;omega) (by omega) (by omega)).mono ?_
     rintro e W2 ⟨rfl,Y,I⟩
     have q:=zc Y
     have az:=zc ((I gx aq).trans XB.out)
     clear Y I x0 x1 x2 x3 x4 x5 xf
     obtain⟨x0,x1,x2,x3,x4,x5,xf⟩:=zu az.out
     go_wp2_with fail
     by_cases a2:0≤x.r∧x.r<(j:Int)
     ·obtain⟨rn,ai⟩: ∃rn:Nat,x.r=(rn:Int):=⟨x.r.toNat,by omega⟩
      rw[ai]
      refine (zge (w0:=w) (b0:=n) (S:=S) (m:=m) (f:=za9 (cE m.ex j) ln) rn (j:Int) W2 q.out (by have:=ap (rn:Int);unfold za9 cE;split<;>omega) (by omega) (by omega)).mono ?_
      rintro e W3 ⟨rfl,A,I⟩
      have an:=zc A
      have ag:Hid (∀k:Nat,za9 (za9 (cE m.ex j) ln) rn k=cE m.ex (j+1) k):=fun k=>by have:=zhL z (by rw[J.out];exact ht) (by rw[J.out];omega) (by rw[J.out];omega) k;rw[J.out,ac,ai] at this;exact this
      have aC:Hid (AheadTo m.ex (j+1)):=AH.out.next z (fun _=>by rw[J.out];omega)
      clear A I x0 x1 x2 x3 x4 x5 xf ac ai a1 a2 ap ar
      go_wp2
      rw[←HG.out]
      go_roundg (gk-1)
      case rel=>exact⟨U,rfl,by have:=O.out;omega,by rw[O.out];exact aC.out,by rw[O.out];exact an.out.congr fun k _=>ag.out k⟩
      case measure=>omega
     ·refine (zgd x.r (j:Int) _ W2 a2).mono ?_
      rintro e w3 ⟨rfl,L⟩
      rw[L]
      clear L w3
      go_wp2
      go_ret
      exact⟨zcq (fun (t:Tree m)=>absurd t.ahead (AheadTo.not z (by rw[J.out];exact ht) (by rw[J.out];omega))),q.out.2.2.2.2⟩
    ·refine (zgd x.l (j:Int) _ W a1).mono ?_
     rintro e w2 ⟨rfl,L⟩
     rw[L]
     clear L w2
     go_wp2
     go_ret
     exact⟨zcq (fun (t:Tree m)=>absurd t.ahead (AheadTo.not z (by rw[J.out];exact ht) (by rw[J.out];omega))),E.out.2.2.2.2⟩
  ·have aw: ¬(j:Int)<(m.ex.length:Int):=by omega
   obtain rfl:j=m.ex.length:=by omega
   have HA:=zc AH.out.all
   have HC:Hid (UM w n S m gu (cS m 0) wr):=E.out.congr fun k _=>by simp[cE,cS,zaB]
   go_wp2
   go_loopg [44] m.st.length (fun k i wr=>∃j:Nat,i= .int .i64 j∧j+k=m.st.length∧(∀s∈m.st.take j,0≤s.expr∧s.expr<(m.ex.length:Int))∧UM w n S m gu (cS m j) wr)
   case atStart=>exact⟨0,rfl,by omega,(fun s hs=>by simp at hs),HC.out⟩
   case round=>
    obtain⟨j,rfl,aE,ah,o⟩:=hrel
    have AS:=zc ah
    have q:=zc o
    clear ah o c0 c1 c2 Z c4 cf
    obtain⟨c0,c1,c2,Z,c4,cf⟩:=zk q.out.2.2.2.1
    by_cases D:j<m.st.length
    ·have ae:(j:Int)<(m.st.length:Int):=by omega
     obtain⟨s,ao⟩: ∃s,m.st[j]? =some s:=⟨_,List.getElem?_eq_getElem D⟩
     obtain⟨g,hg,V⟩:=OwnR.elem (f:=smL) (m:=3) (fun _=>rfl) q.out.2.2.1.st ao
     have k0:=V 0 (by omega)
     have k1:=V 1 (by omega)
     have k2:=V 2 (by omega)
     simp only[smL,Nat.add_zero,List.getElem?_cons_zero,List.getElem?_cons_succ] at k0 k1 k2
     have HG:Hid (Value.slice S.st.a m.st.length S.st.cap=Value.slice (some ⟨g,0,none⟩) m.st.length S.st.cap):=by show _=_;rw[hg]
     obtain⟨_,aa⟩:=List.getElem?_eq_some_iff.1 ao
     have HS:Hid (m.st[j]=s):=aa
     clear hg V ao aa
     rw[HG.out]
     obtain⟨U,N⟩: ∃U,U=j+1:=⟨_,rfl⟩
     have ej:(j:Int)+1=(U:Int):=by omega
     have O:=zc N
     clear N
     go_upto_region 12 with fail
     have HW:Hid (Below wr.heap.size wr (wr.alloc (.cells #[.int .i64 s.kind,.string s.name,.int .i64 s.expr] 106))):=(Below.refl _ _).alloc (Nat.le_refl _) _
     refine zah (R:=fun W=>W.heap[wr.heap.size]? =some (.cells #[.int .i64 s.kind,.string s.name,.int .i64 s.expr] 106 (0,0))∧UM w n S m gu (cS m j) W) ⟨heap_alloc_new wr _,q.out.later HW.out⟩ ?_
     clear k0 k1 k2 HW c0 c1 c2 Z c4 cf
     rintro W ⟨xb,o⟩
     have E:=zc o
     obtain⟨k0,k1,k2,kf⟩:=zbt xb
     clear o xb
     obtain⟨c0,c1,c2,Z,c4,cf⟩:=zk E.out.2.2.2.1
     go_wp2_with fail
     by_cases a1:0≤s.expr∧s.expr<(m.ex.length:Int)
     ·obtain⟨en,ak⟩: ∃en:Nat,s.expr=(en:Int):=⟨s.expr.toNat,by omega⟩
      have ab:Hid (∀s∈m.st.take (j+1),0≤s.expr∧s.expr<(m.ex.length:Int)):=by
       intro y hy
       rw[List.take_succ_eq_append_getElem D,List.mem_append] at hy
       rcases hy with hy|hy
       ·exact AS.out y hy
       ·simp only[List.mem_singleton] at hy
        rw[hy,HS.out]
        omega
      have ag:Hid (∀k:Nat,za9 (cS m j) en k=cS m (j+1) k):=fun k=>by have:=zhN (ex:=m.ex) D (by rw[HS.out];omega) k;rw[HS.out,ak] at this;exact this
      rw[ak]
      refine (zge (w0:=w) (b0:=n) (S:=S) (m:=m) (f:=cS m j) en _ W E.out (by unfold cS;have:=zfh m.ex (en:Int);have:=zhK (m.st.take j) (en:Int);rw[List.length_take] at this;omega) (by omega) (by omega)).mono ?_
      rintro e W2 ⟨rfl,A,I⟩
      have an:=zc A
      clear A I k0 k1 k2 kf c0 c1 c2 Z c4 cf ak a1
      go_wp2
      rw[←HG.out]
      go_roundg (gk-1)
      case rel=>exact⟨U,rfl,by have:=O.out;omega,by rw[O.out];exact ab.out,by rw[O.out];exact an.out.congr fun k _=>ag.out k⟩
      case measure=>omega
     ·refine (zgd s.expr _ _ W a1).mono ?_
      rintro e w3 ⟨rfl,L⟩
      rw[L]
      clear L w3
      go_wp2
      go_ret
      exact⟨zcq (fun (t:Tree m)=>by have:=t.stm _ (List.getElem_mem D);rw[HS.out] at this;omega),E.out.2.2.2.2⟩
    ·have ae: ¬(j:Int)<(m.st.length:Int):=by omega
     obtain rfl:j=m.st.length:=by omega
     have ab:Hid (∀s∈m.st,0≤s.expr∧s.expr<(m.ex.length:Int)):=by have:=AS.out;rw[List.take_length] at this;exact this
     obtain⟨t0,tf⟩:=zhV q.out.1.1
     go_wp2_with fail
     refine (zmk (w.heap.size+1) (w.heap.size+1) m.ex.length (cS m m.st.length) _ q.out.2.1 hl).mono ?_
     rintro e w3 ⟨rfl,hb⟩
     have as:Hid (Below w.heap.size w w3):=q.out.2.2.2.2.trans (hb.mono q.out.2.2.2.2.size)
     clear hb
     cases ho:odd m.ex.length (cS m m.st.length) 0 with
     |true=>
      go_wp2
      go_ret
      exact⟨zcq (fun (t:Tree m)=>by
       have:=zhW.2 (fun k I=>by have:=t.once k I;show cS m m.st.length k=1;unfold cS;rw[List.take_length];omega)
       rw[ho] at this
       cases this),as.out⟩
     |false=>
      go_wp2
      go_ret
      exact⟨zhT ⟨HA.out,ab.out,fun k I=>by have:=zhW.1 ho k I;unfold cS at this;rw[List.take_length] at this;exact this⟩,as.out⟩
end Go.Proofs.YticdggnnpjachaaGreat