/-
  What areExprsUsedOnce answers: the walk.
  Paths,and what Clean makes of them,as plain functions; a row of texts in memory. No program is spoken of.
  The directories that a path is in,as a plain function. No program is spoken of.
-/
import Derived.Deep.Cut
import Derived.Test.YtjdddblpfbmpaaaGreatCoSpecTreeToImplPrintA
namespace Go.Proofs.YtjdddblpfbmpaaaGreat
set_option maxRecDepth 100000
set_option maxHeartbeats 6400000
open Go.RowKit Go.PlainAid Go.Sort
def UM (w0:World) (base:Nat) (S:Sv) (m:Md) (gu:Nat) (f:Nat→Nat) (w:World):Prop:=
 (w.heap[gu]? =some (.cells #[.slice (some ⟨w0.heap.size+1,0,none⟩) m.ex.length m.ex.length] 152 (0,0))∧w0.heap.size+1<gu)∧
 w.ownsRow (w0.heap.size+1) 3 1 (.slice (some ⟨w0.heap.size+1,0,none⟩) m.ex.length m.ex.length) m.ex.length (zah m.ex.length f)∧OwnMd w base S m∧
 w.heap[w0.heap.size]? =some (.cells #[.slice S.rq.a m.rq.length S.rq.cap,.slice S.im.a m.im.length S.im.cap,.slice S.ep.a m.ep.length S.ep.cap,.slice S.st.a m.st.length S.st.cap,.slice S.ex.a m.ex.length S.ex.cap] 36 (0,0))∧Below w0.heap.size w0 w
theorem UM.later {w0 w z:World} {j:Nat} {S:Sv} {m:Md} {E:Nat} {f:Nat→Nat} (h:UM w0 j S m E f w) (n:Below w.heap.size w z):UM w0 j S m E f z:=by
 obtain⟨⟨A,H⟩,J,I,D,q⟩:=h
 exact⟨⟨(n.block _ (Array.getElem?_eq_some_iff.1 A).1).trans A,H⟩,zew J n,I.later n,(n.block _ (Array.getElem?_eq_some_iff.1 D).1).trans D,q.trans (n.mono q.size)⟩
theorem UM.used {w0 w:World} {j:Nat} {S:Sv} {m:Md} {q:Nat} {f:Nat→Nat} (h:UM w0 j S m q f w) (i:Nat):UM w0 j S m q (za7 f i) (w.setCell ⟨w0.heap.size+1,i,none⟩ (.int .i64 (f i+1:Nat))):=by
 obtain⟨⟨E,A⟩,n,D,H,z⟩:=h
 exact⟨⟨(zt (by omega)).trans E,A⟩,zfh n i _ rfl,zfi D (zfk n),(zt (by omega)).trans H,z.setCell (Nat.le_succ _) _⟩
theorem UM.congr {w0 w:World} {j:Nat} {S:Sv} {m:Md} {n:Nat} {f g:Nat→Nat} (h:UM w0 j S m n f w) (e: ∀k,k<m.ex.length→f k=g k):UM w0 j S m n g w:=by
 obtain⟨A,E,z,D,q⟩:=h
 exact⟨A,by rw[←zdo e];exact E,z,D,q⟩
theorem zgb {w0:World} {b0:Nat} {S:Sv} {m:Md} {j:Nat} {f:Nat→Nat} (i:Nat) (n:Int) (w:World) (h:UM w0 b0 S m j f w) (z:f i≤17179869184) (D:i<m.ex.length) (E:(i:Int)<n):
  Calls Tryz.prog 166 #[.int .i64 (i:Int),.int .i64 n,.pointer (some ⟨j,0,none⟩)] w fun e q=>e= .returned (.bool true)∧UM w0 b0 S m j (za7 f i) q∧∀k,k≠w0.heap.size+1→q.heap[k]? =w.heap[k]?:=by
 refine (zmm i m.ex.length (w0.heap.size+1) (w0.heap.size+1) j n f w h.1.1 h.2.1 z D E).mono ?_
 rintro e q ⟨rfl,rfl⟩
 exact⟨rfl,h.used i,fun k A=>zt A⟩
theorem zhV {n:Nat} {f:Nat→Nat}:odd n f 0=false↔∀k,k<n→f k=1:=by
 rw[Bool.eq_false_iff]
 constructor
 ·intro h k j
  by_cases e:f k=1
  ·exact e
  ·exact absurd (by
    simp only[odd,List.any_eq_true,List.mem_range,Bool.and_eq_true,decide_eq_true_eq]
    exact⟨k,j,Nat.zero_le _,by rw[bne_iff_ne];omega⟩) h
 ·intro h e
  simp only[odd,List.any_eq_true,List.mem_range,Bool.and_eq_true,decide_eq_true_eq] at e
  obtain⟨k,j,_,q⟩:=e
  rw[bne_iff_ne] at q
  have:=h k j
  omega
theorem zmr (n:Nat) (S:Sv) (m:Md) (w:World) (h:OwnMd w n S m) (hl:m.ex.length≤4294967296) (hs:m.st.length≤4294967296):
  Calls Tryz.prog 121 #[zq S m] w fun e w'=>zfj m e∧Below w.heap.size w w':=by
 obtain⟨i0,hi,az,aD,aB⟩:=info_parts Tryz.infoInt
 have HH:=zc h
 clear h
 unfold zq
 go_enter Tryz.func121,Tryz.ntmps121
 go_wp2_with (first|(at_make;refine wpList_make_full _ rfl _ _ 152 rfl (w.heap.size+1) 3 i0 (.int .i64 0) 1 Tryz.underlying152 hi az aD .i64 .i64 _ _ m.ex.length (by rfl) (by rfl) rfl rfl (by rw[aB];omega) (by unfold maxLen;omega) (by rw[zk];omega) ?_))
 intro N O I
 rw[zhR] at O
 have bb:Below (w.heap.size+1) (w.alloc _) N:=⟨I.os,I.tape,I.output,I.size,fun k J=>I.block k (by rw[zk];exact J) (by simp)⟩
 have X:Hid (Below w.heap.size w N):=((Below.refl _ _).alloc (Nat.le_refl _) _).trans (bb.mono (by omega))
 have ai:Hid (N.heap[w.heap.size]? =some (.cells #[.slice S.rq.a m.rq.length S.rq.cap,.slice S.im.a m.im.length S.im.cap,.slice S.ep.a m.ep.length S.ep.cap,.slice S.st.a m.st.length S.st.cap,.slice S.ex.a m.ex.length S.ex.cap] 36 (0,0))):=(bb.block _ (by omega)).trans (heap_alloc_new w _)
 have av:=zc (HH.out.later X.out)
 have af:Hid (N.ownsRow (w.heap.size+1) 3 1 (.slice (some ⟨w.heap.size+1,0,none⟩) m.ex.length m.ex.length) m.ex.length (zah m.ex.length (cE m.ex 0))):=by show World.ownsRow _ _ _ _ _ _ _;rw[show zah m.ex.length (cE m.ex 0)=zah m.ex.length (fun _=>0) from zdo fun k _=>by simp[cE,zai]];exact O
 clear O I bb
 have ar:=(zfZ af.out).2
 go_upto_region 3 with fail
 have HA:Hid (Below N.heap.size N (N.alloc (.cells #[.slice (some ⟨w.heap.size+1,0,none⟩) m.ex.length m.ex.length] 152))):=(Below.refl _ _).alloc (Nat.le_refl _) _
 have hz:=(Array.getElem?_eq_some_iff.1 ai.out).1
 refine zac (R:=UM w n S m N.heap.size (cE m.ex 0)) ⟨⟨heap_alloc_new N _,ar⟩,zew af.out HA.out,av.out.later HA.out,(HA.out.block _ hz).trans ai.out,X.out.trans (HA.out.mono X.out.size)⟩ ?_
 obtain⟨gu,ak⟩: ∃gu,gu=N.heap.size:=⟨_,rfl⟩
 rw[←ak]
 rw[←ak] at ar
 clear HA ai X av af hz ak N
 intro W q
 have HM:=zc q
 clear q
 obtain⟨c0,c1,c2,c3,c4,cf⟩:=zi HM.out.2.2.2.1
 go_wp2
 go_loopg [17] m.ex.length (fun k i wr=>∃j:Nat,i= .int .i64 j∧j+k=m.ex.length∧AheadTo m.ex j∧UM w n S m gu (cE m.ex j) wr)
 case atStart=>exact⟨0,rfl,by omega,fun i x hi=>absurd hi (Nat.not_lt_zero i),HM.out⟩
 case round=>
  obtain⟨j,rfl,hj,ah,q⟩:=hrel
  have AH:=zc ah
  have E:=zc q
  clear ah q
  clear c0 c1 c2 c3 c4 cf
  obtain⟨c0,c1,c2,c3,c4,cf⟩:=zi E.out.2.2.2.1
  by_cases A:j<m.ex.length
  ·have ax:(j:Int)<(m.ex.length:Int):=by omega
   obtain⟨g,hg,aE,x0,x1,x2,x3,x4,x5⟩:=E.out.2.2.1.expr A
   have HG:Hid (Value.slice S.ex.a m.ex.length S.ex.cap=Value.slice (some ⟨g,0,none⟩) m.ex.length S.ex.cap):=by show _=_;rw[hg]
   clear hg c0 c1 c2 c3 c4 cf
   rw[HG.out]
   have aw:=zc (zdd A)
   obtain⟨x,ag⟩: ∃x,m.ex.getD j zf=x:=⟨_,rfl⟩
   rw[ag] at x0 x1 x2 x3 x4 x5
   have L:Hid (m.ex[j]=x):=aw.out.symm.trans ag
   clear ag aw
   obtain⟨U,K⟩: ∃U,U=j+1:=⟨_,rfl⟩
   have ej:(j:Int)+1=(U:Int):=by omega
   have V:=zc K
   clear K
   go_upto_region 6 with fail
   have HW:Hid (Below wr.heap.size wr (wr.alloc (.cells #[.int .i64 x.kind,.int .i64 x.num,.string x.name,.string x.field,.int .i64 x.l,.int .i64 x.r] 109))):=(Below.refl _ _).alloc (Nat.le_refl _) _
   refine zac (R:=fun W=>W.heap[wr.heap.size]? =some (.cells #[.int .i64 x.kind,.int .i64 x.num,.string x.name,.string x.field,.int .i64 x.l,.int .i64 x.r] 109 (0,0))∧UM w n S m gu (cE m.ex j) W) ⟨heap_alloc_new wr _,E.out.later HW.out⟩ ?_
   have aq:wr.heap.size≠w.heap.size+1:=by have:=(zfZ E.out.2.1).2;omega
   obtain⟨gx,ae⟩: ∃gx,gx=wr.heap.size:=⟨_,rfl⟩
   rw[←ae]
   rw[←ae] at aq
   clear x0 x1 x2 x3 x4 x5 HW
   rintro W ⟨xb,q⟩
   clear ae E
   have XB:=zc xb
   have E:=zc q
   clear xb q
   obtain⟨x0,x1,x2,x3,x4,x5,xf⟩:=zu XB.out
   go_wp2_with fail
   refine (zhT x.kind _).mono ?_
   rintro e w2 ⟨rfl,M⟩
   rw[M]
   clear M w2
   cases ht:zR x.kind with
   |false=>
    go_wp2
    rw[←HG.out]
    go_roundg (gk-1)
    case rel=>exact⟨U,rfl,by have:=V.out;omega,by rw[V.out];exact AH.out.next A (fun k=>by rw[L.out,ht] at k;cases k),by rw[V.out];exact E.out.congr fun k _=>zhM A (by rw[L.out];exact ht) k⟩
    case measure=>omega
   |true=>
    go_wp2_with fail
    by_cases a1:0≤x.l∧x.l<(j:Int)
    ·obtain⟨ln,ad⟩: ∃ln:Nat,x.l=(ln:Int):=⟨x.l.toNat,by omega⟩
     have am:=zfe (m.ex.take j)
     have au:(m.ex.take j).length≤4294967296:=by rw[List.length_take];omega
     rw[ad]
     refine (zgb (w0:=w) (b0:=n) (S:=S) (m:=m) (f:=cE m.ex j) ln (j:Int) W E.out (by have:=am (ln:Int);unfold cE;omega) (by omega) (by omega)).mono ?_
     rintro e W2 ⟨rfl,aa,J⟩
     have z:=zc aa
     have aC:=zc ((J gx aq).trans XB.out)
     clear aa J x0 x1 x2 x3 x4 x5 xf
     obtain⟨x0,x1,x2,x3,x4,x5,xf⟩:=zu aC.out
     go_wp2_with fail
     by_cases a2:0≤x.r∧x.r<(j:Int)
     ·obtain⟨rn,ab⟩: ∃rn:Nat,x.r=(rn:Int):=⟨x.r.toNat,by omega⟩
      rw[ab]
      refine (zgb (w0:=w) (b0:=n) (S:=S) (m:=m) (f:=za7 (cE m.ex j) ln) rn (j:Int) W2 z.out (by have:=am (rn:Int);unfold za7 cE;split<;>omega) (by omega) (by omega)).mono ?_
      rintro e W3 ⟨rfl,D,J⟩
      have aj:=zc D
      have ac:Hid (∀k:Nat,za7 (za7 (cE m.ex j) ln) rn k=cE m.ex (j+1) k):=fun k=>by have:=zhL A (by rw[L.out];exact ht) (by rw[L.out];omega) (by rw[L.out];omega) k;rw[L.out,ad,ab] at this;exact this
      have aA:Hid (AheadTo m.ex (j+1)):=AH.out.next A (fun _=>by rw[L.out];omega)
      clear D J x0 x1 x2 x3 x4 x5 xf ad ab a1 a2 am au
      go_wp2
      rw[←HG.out]
      go_roundg (gk-1)
      case rel=>exact⟨U,rfl,by have:=V.out;omega,by rw[V.out];exact aA.out,by rw[V.out];exact aj.out.congr fun k _=>ac.out k⟩
      case measure=>omega
     ·refine (zga x.r (j:Int) _ W2 a2).mono ?_
      rintro e w3 ⟨rfl,M⟩
      rw[M]
      clear M w3
      go_wp2
      go_ret
      exact⟨zcn (fun (t:Tree m)=>absurd t.ahead (AheadTo.not A (by rw[L.out];exact ht) (by rw[L.out];omega))),z.out.2.2.2.2⟩
    ·refine (zga x.l (j:Int) _ W a1).mono ?_
     rintro e w2 ⟨rfl,M⟩
     rw[M]
     clear M w2
     go_wp2
     go_ret
     exact⟨zcn (fun (t:Tree m)=>absurd t.ahead (AheadTo.not A (by rw[L.out];exact ht) (by rw[L.out];omega))),E.out.2.2.2.2⟩
  ·have ax: ¬(j:Int)<(m.ex.length:Int):=by omega
   obtain rfl:j=m.ex.length:=by omega
   have HA:=zc AH.out.all
   have HC:Hid (UM w n S m gu (cS m 0) wr):=E.out.congr fun k _=>by simp[cE,cS,za9]
   go_wp2
   go_loopg [44] m.st.length (fun k i wr=>∃j:Nat,i= .int .i64 j∧j+k=m.st.length∧(∀s∈m.st.take j,0≤s.expr∧s.expr<(m.ex.length:Int))∧UM w n S m gu (cS m j) wr)
   case atStart=>exact⟨0,rfl,by omega,(fun s hs=>by simp at hs),HC.out⟩
   case round=>
    obtain⟨j,rfl,aF,ah,q⟩:=hrel
    have AS:=zc ah
    have z:=zc q
    clear ah q c0 c1 c2 c3 c4 cf
    obtain⟨c0,c1,c2,c3,c4,cf⟩:=zi z.out.2.2.2.1
    by_cases H:j<m.st.length
    ·have al:(j:Int)<(m.st.length:Int):=by omega
     obtain⟨s,ap⟩: ∃s,m.st[j]? =some s:=⟨_,List.getElem?_eq_getElem H⟩
     obtain⟨g,hg,Y⟩:=OwnR.elem (f:=smL) (m:=3) (fun _=>rfl) z.out.2.2.1.st ap
     have k0:=Y 0 (by omega)
     have k1:=Y 1 (by omega)
     have k2:=Y 2 (by omega)
     simp only[smL,Nat.add_zero,List.getElem?_cons_zero,List.getElem?_cons_succ] at k0 k1 k2
     have HG:Hid (Value.slice S.st.a m.st.length S.st.cap=Value.slice (some ⟨g,0,none⟩) m.st.length S.st.cap):=by show _=_;rw[hg]
     obtain⟨_,Z⟩:=List.getElem?_eq_some_iff.1 ap
     have HS:Hid (m.st[j]=s):=Z
     clear hg Y ap Z
     rw[HG.out]
     obtain⟨U,K⟩: ∃U,U=j+1:=⟨_,rfl⟩
     have ej:(j:Int)+1=(U:Int):=by omega
     have V:=zc K
     clear K
     go_upto_region 12 with fail
     have HW:Hid (Below wr.heap.size wr (wr.alloc (.cells #[.int .i64 s.kind,.string s.name,.int .i64 s.expr] 107))):=(Below.refl _ _).alloc (Nat.le_refl _) _
     refine zac (R:=fun W=>W.heap[wr.heap.size]? =some (.cells #[.int .i64 s.kind,.string s.name,.int .i64 s.expr] 107 (0,0))∧UM w n S m gu (cS m j) W) ⟨heap_alloc_new wr _,z.out.later HW.out⟩ ?_
     clear k0 k1 k2 HW c0 c1 c2 c3 c4 cf
     rintro W ⟨xb,q⟩
     have E:=zc q
     obtain⟨k0,k1,k2,kf⟩:=zbq xb
     clear q xb
     obtain⟨c0,c1,c2,c3,c4,cf⟩:=zi E.out.2.2.2.1
     go_wp2_with fail
     by_cases a1:0≤s.expr∧s.expr<(m.ex.length:Int)
     ·obtain⟨en,an⟩: ∃en:Nat,s.expr=(en:Int):=⟨s.expr.toNat,by omega⟩
      have ao:Hid (∀s∈m.st.take (j+1),0≤s.expr∧s.expr<(m.ex.length:Int)):=by
       intro y hy
       rw[List.take_succ_eq_append_getElem H,List.mem_append] at hy
       rcases hy with hy|hy
       ·exact AS.out y hy
       ·simp only[List.mem_singleton] at hy
        rw[hy,HS.out]
        omega
      have ac:Hid (∀k:Nat,za7 (cS m j) en k=cS m (j+1) k):=fun k=>by have:=zhN (ex:=m.ex) H (by rw[HS.out];omega) k;rw[HS.out,an] at this;exact this
      rw[an]
      refine (zgb (w0:=w) (b0:=n) (S:=S) (m:=m) (f:=cS m j) en _ W E.out (by unfold cS;have:=zfe m.ex (en:Int);have:=zhK (m.st.take j) (en:Int);rw[List.length_take] at this;omega) (by omega) (by omega)).mono ?_
      rintro e W2 ⟨rfl,D,J⟩
      have aj:=zc D
      clear D J k0 k1 k2 kf c0 c1 c2 c3 c4 cf an a1
      go_wp2
      rw[←HG.out]
      go_roundg (gk-1)
      case rel=>exact⟨U,rfl,by have:=V.out;omega,by rw[V.out];exact ao.out,by rw[V.out];exact aj.out.congr fun k _=>ac.out k⟩
      case measure=>omega
     ·refine (zga s.expr _ _ W a1).mono ?_
      rintro e w3 ⟨rfl,M⟩
      rw[M]
      clear M w3
      go_wp2
      go_ret
      exact⟨zcn (fun (t:Tree m)=>by have:=t.stm _ (List.getElem_mem H);rw[HS.out] at this;omega),E.out.2.2.2.2⟩
    ·have al: ¬(j:Int)<(m.st.length:Int):=by omega
     obtain rfl:j=m.st.length:=by omega
     have ao:Hid (∀s∈m.st,0≤s.expr∧s.expr<(m.ex.length:Int)):=by have:=AS.out;rw[List.take_length] at this;exact this
     obtain⟨t0,tf⟩:=zhU z.out.1.1
     go_wp2_with fail
     refine (zmq (w.heap.size+1) (w.heap.size+1) m.ex.length (cS m m.st.length) _ z.out.2.1 hl).mono ?_
     rintro e w3 ⟨rfl,hb⟩
     have ay:Hid (Below w.heap.size w w3):=z.out.2.2.2.2.trans (hb.mono z.out.2.2.2.2.size)
     clear hb
     cases ho:odd m.ex.length (cS m m.st.length) 0 with
     |true=>
      go_wp2
      go_ret
      exact⟨zcn (fun (t:Tree m)=>by
       have:=zhV.2 (fun k J=>by have:=t.once k J;show cS m m.st.length k=1;unfold cS;rw[List.take_length];omega)
       rw[ho] at this
       cases this),ay.out⟩
     |false=>
      go_wp2
      go_ret
      exact⟨zhS ⟨HA.out,ao.out,fun k J=>by have:=zhV.1 ho k J;unfold cS at this;rw[List.take_length] at this;exact this⟩,ay.out⟩
abbrev okc (c:Int):Prop:=(97≤c∧c≤122)∨(48≤c∧c≤57)∨c=46∨c=95∨c=45∨c=47
abbrev zms (s:ByteArray):Prop:=1≤s.size∧s.size≤40∧bt s 0=47∧∀j,j<s.size→okc (bt s j)
def zmt (s:ByteArray):Bool:=decide (zms s)
def upd (p:ByteArray) (l:List ByteArray):List ByteArray:=
 if p.toList.isEmpty=true∨(p.toList==[46])=true then l else if (p.toList==[46,46])=false then l++[p] else l.dropLast
def zmu (s:ByteArray) (i:Nat) (st:Nat×List ByteArray):Nat×List ByteArray:=
 if i<s.size∧bt s i≠47 then st else (i+1,upd (s.extract st.1 i) st.2)
def zhW (s:ByteArray):Nat→Nat×List ByteArray
 |0=>(0,[])
 |k+1=>zmu s k (zhW s k)
def zdN (s:ByteArray):List ByteArray:=(zhW s (s.size+1)).2
def zhX (l:List ByteArray):Nat→ByteArray
 |0=>{data:=#[]}
 |k+1=>zhX l k++{data:=#[47]}++l.getD k {data:=#[]}
def zmv (s:ByteArray):ByteArray:=if zmt s then (if (zdN s).length=0 then {data:=#[47]} else zhX (zdN s) (zdN s).length) else {data:=#[]}
def zre (w:World) (base:Nat) (e:TypeId) (g n cap:Nat) (xs:List ByteArray):Prop:=w.ownsRow base e 1 (.slice (some ⟨g,0,none⟩) n cap) n (xs.map Value.string)∧n=xs.length
def zrf (a s:ByteArray):Bool:=decide (a.size≤s.size)&&((s.extract 0 a.size).toList==a.toList)
def zhY (c:ByteArray):Nat→List ByteArray
 |0=>[]
 |k+1=>(if bt c (k+1)=47 then [c.extract 0 (k+1)] else [])++zhY c k
def upC (c:ByteArray):List ByteArray:=zhY c (c.size-1)++if 1<c.size then [{data:=#[47]}] else []
def upL (p:ByteArray):List ByteArray:=upC (zmv p)
end Go.Proofs.YtjdddblpfbmpaaaGreat
