/-
  What l5Tree of the specification answers: the walk.
  What spec.Print answers: the walk.
  What spec's l4Spec answers: the walk.
-/
import Derived.BigRegion
import Derived.Test.YtgcbmogmniahjaaGreatCReEqModToCountMath
namespace Go.Proofs.YtgcbmogmniahjaaGreat
set_option maxRecDepth 100000
set_option maxHeartbeats 12800000
open Go.RowKit Go.PlainAid Go.Sort
theorem Tryz.infoInt:(Tryz.prog.info? 3).map (fun i=>(i.zero,i.size,i.bytes))=some (some (.int .i64 0),1,8):=by kernel_rfl
theorem zll (n:Nat):(madeCells #[.int .i64 0] n).toList=zau n (fun _=>0):=by
 rw[toList_madeCells_one]
 unfold zau
 rw[List.map_const',List.length_range]
 rfl
theorem zfe {w:World} {base g n q:Nat} {f:Nat→Nat} (h:w.ownsRow base 3 1 (.slice (some ⟨g,0,none⟩) n q) n (zau n f)) {k:Nat} (z:k<n):w.cell? ⟨g,k,none⟩=some (.int .i64 (f k:Int)):=by
 rw[h.cellAt k (by omega)]
 exact zgS f z
theorem zgT {w:World} {base g n q:Nat} {f:Nat→Nat} (h:w.ownsRow base 3 1 (.slice (some ⟨g,0,none⟩) n q) n (zau n f)) (k v:Nat) (z:v=f k+1):(w.setCell ⟨g,k,none⟩ (.int .i64 (v:Int))).ownsRow base 3 1 (.slice (some ⟨g,0,none⟩) n q) n (zau n (zaM f k)):=by
 have:=(h.stored k (.int .i64 (v:Int))).1
 rw[zrJ f (zaM f k) v (by rw[zrK,z]) (fun j A=>zrL f A)] at this
 exact this
theorem zfT {w A:World} {base g n q:Nat} {xs:List Value} (h:w.ownsRow base 3 1 (.slice (some ⟨g,0,none⟩) n q) n xs) (D:Below w.heap.size w A):A.ownsRow base 3 1 (.slice (some ⟨g,0,none⟩) n q) n xs:=by
 have z:OwnR w base 3 1 ⟨some ⟨g,0,none⟩,q⟩ n xs:=h
 exact z.keep fun k e=>D.block k (z.typed e).2.1
theorem zir {w:World} {base g n q:Nat} {xs:List Value} (h:w.ownsRow base 3 1 (.slice (some ⟨g,0,none⟩) n q) n xs):base≤g∧g<w.heap.size:=by
 have z:OwnR w base 3 1 ⟨some ⟨g,0,none⟩,q⟩ n xs:=h
 exact⟨(z.typed rfl).1,(z.typed rfl).2.1⟩
theorem zgU {w:World} {base g k:Nat} {S:Sv} {m:Md} {u:Value} (h:OwnMd w base S m) (K: ∀b,w.heap[g]? =some b→∃A,b= .cells A 3 (0,0)):OwnMd (w.setCell ⟨g,k,none⟩ u) base S m:=by
 have D: ∀(e:TypeId) (q n:Nat) (r:Rw) (E:List Value),OwnR w base e q r n E→e≠3→OwnR (w.setCell ⟨g,k,none⟩ u) base e q r n E:=fun e q n r E h H=>h.keep fun b J=>Below.heap_setCell w ⟨g,k,none⟩ u b (fun I=>by
  obtain⟨_,_,c,L⟩:=h.typed J
  obtain⟨A,z⟩:=K _ (by rw[←show b=g from I];exact L)
  simp only[Obj.cells.injEq] at z
  exact H z.2.1)
 exact⟨D _ _ _ _ _ h.rq (by decide),D _ _ _ _ _ h.im (by decide),D _ _ _ _ _ h.ep (by decide),D _ _ _ _ _ h.st (by decide),D _ _ _ _ _ h.ex (by decide)⟩
def cE (ex:List Ex) (j:Nat):Nat→Nat:=fun k=>zav (ex.take j) (k:Int)
theorem OwnMd.drewI {w:World} {base:Nat} {S:Sv} {m:Md} (h:OwnMd w base S m):OwnMd w.drew base S m:=⟨h.rq,h.im,h.ep,h.st,h.ex⟩
def cS (m:Md) (j:Nat):Nat→Nat:=fun k=>zav m.ex (k:Int)+zaP (m.st.take j) (k:Int)
def zgV (m:Md) (e:Ending):Prop:=∃b,e= .returned (.bool b)∧(b=true↔Tree m)
theorem zdb {m:Md} (h: ¬Tree m):zgV m (.returned (.bool false)):=⟨false,rfl,⟨(fun k=>by cases k),fun t=>absurd t h⟩⟩
theorem zlm {m:Md} (h:Tree m):zgV m (.returned (.bool true)):=⟨true,rfl,⟨fun _=>h,fun _=>rfl⟩⟩
theorem zgW {w:World} {base g n q:Nat} {xs:List Value} (h:w.ownsRow base 3 1 (.slice (some ⟨g,0,none⟩) n q) n xs): ∀b,w.heap[g]? =some b→∃z,b= .cells z 3 (0,0):=by
 have D:OwnR w base 3 1 ⟨some ⟨g,0,none⟩,q⟩ n xs:=h
 obtain⟨_,_,c,E⟩:=D.typed rfl
 intro b A
 rw[E] at A
 exact⟨c,(Option.some.inj A).symm⟩
theorem zrM (base:Nat) (S:Sv) (m:Md) (w:World) (h:OwnMd w base S m) (hl:m.ex.length≤4294967296) (hs:m.st.length≤4294967296):
  Calls Tryz.prog 83 #[zl S m] w fun e w'=>zgV m e∧Below w.heap.size w w':=by
 obtain⟨i0,hi,aM,aW,aT⟩:=info_parts Tryz.infoInt
 have HH:=zc h
 clear h
 unfold zl
 go_enter Tryz.func83,Tryz.ntmps83
 go_wp2_with (first|(at_make;refine wpList_make_full _ rfl _ _ 36 rfl (w.heap.size+1) 3 i0 (.int .i64 0) 1 Tryz.underlying36 hi aM aW .i64 .i64 _ _ m.ex.length (by rfl) (by rfl) rfl rfl (by rw[aT];omega) (by unfold maxLen;omega) (by rw[zg];omega) ?_))
 intro w1 ad X
 rw[zll] at ad
 have bb:Below (w.heap.size+1) (w.alloc _) w1:=⟨X.os,X.tape,X.output,X.size,fun k hk=>X.block k (by rw[zg];exact hk) (by simp)⟩
 have aD:Hid (Below w.heap.size w w1):=((Below.refl _ _).alloc (Nat.le_refl _) _).trans (bb.mono (by omega))
 have aC:Hid (w1.heap[w.heap.size]? =some (.cells #[.slice S.rq.a m.rq.length S.rq.cap,.slice S.im.a m.im.length S.im.cap,.slice S.ep.a m.ep.length S.ep.cap,.slice S.st.a m.st.length S.st.cap,.slice S.ex.a m.ex.length S.ex.cap] 54 (0,0))):=(bb.block _ (by omega)).trans (heap_alloc_new w _)
 have aL:=zc (HH.out.later aD.out)
 have aO:Hid (w1.ownsRow (w.heap.size+1) 3 1 (.slice (some ⟨w.heap.size+1,0,none⟩) m.ex.length m.ex.length) m.ex.length (zau m.ex.length (cE m.ex 0))):=by show World.ownsRow _ _ _ _ _ _ _;rw[show zau m.ex.length (cE m.ex 0)=zau m.ex.length (fun _=>0) from ze7 fun k _=>by simp[cE,zav]];exact ad
 clear ad X bb
 obtain⟨c0,c1,c2,c3,c4,cf⟩:=zj aC.out
 go_wp2
 go_loopg [4] m.ex.length (fun k i wr=>∃j:Nat,i= .int .i64 j∧j+k=m.ex.length∧AheadTo m.ex j∧wr.ownsRow (w.heap.size+1) 3 1 (.slice (some ⟨w.heap.size+1,0,none⟩) m.ex.length m.ex.length) m.ex.length (zau m.ex.length (cE m.ex j))∧OwnMd wr base S m∧wr.heap[w.heap.size]? =some (.cells #[.slice S.rq.a m.rq.length S.rq.cap,.slice S.im.a m.im.length S.im.cap,.slice S.ep.a m.ep.length S.ep.cap,.slice S.st.a m.st.length S.st.cap,.slice S.ex.a m.ex.length S.ex.cap] 54 (0,0))∧Below w.heap.size w wr)
 case atStart=>exact⟨0,rfl,by omega,fun i x hi=>absurd hi (Nat.not_lt_zero i),aO.out,aL.out,aC.out,aD.out⟩
 case round=>
  obtain⟨j,rfl,hj,ah,z,M,N,I⟩:=hrel
  have AH:=zc ah
  have HN:=zc z
  have HO:=zc M
  have HX:=zc N
  have U:=zc I
  clear ah z M N I
  clear c0 c1 c2 c3 c4 cf
  obtain⟨c0,c1,c2,c3,c4,cf⟩:=zj HX.out
  have ak:=(Array.getElem?_eq_some_iff.1 HX.out).1
  by_cases A:j<m.ex.length
  ·have aB:(j:Int)<(m.ex.length:Int):=by omega
   obtain⟨g,hg,bj,x0,x1,x2,x3,x4,x5⟩:=HO.out.expr A
   rw[hg] at c4
   clear hg
   have aA:=zc (zen A)
   obtain⟨x,am⟩: ∃x,m.ex.getD j zh=x:=⟨_,rfl⟩
   rw[am] at x0 x1 x2 x3 x4 x5
   have K:Hid (m.ex[j]=x):=aA.out.symm.trans am
   clear am aA
   obtain⟨J,E⟩: ∃J,J=j+1:=⟨_,rfl⟩
   have ej:(j:Int)+1=(J:Int):=by omega
   have O:=zc E
   clear E
   have Y:Hid (Below wr.heap.size wr (wr.alloc (.cells #[.int .i64 x.kind,.int .i64 x.num,.string x.name,.string x.field,.int .i64 x.l,.int .i64 x.r] 100))):=(Below.refl _ _).alloc (Nat.le_refl _) _
   go_wp2_with fail
   refine (zlc x.kind _).mono ?_
   rintro e w2 ⟨rfl,hw⟩
   rw[hw]
   clear hw w2
   cases ht:zac x.kind with
   |false=>
    go_wp2
    go_roundg (gk-1)
    case rel=>exact⟨J,rfl,by have:=O.out;omega,by rw[O.out];exact AH.out.next A (fun k=>by rw[K.out,ht] at k;cases k),by rw[O.out,show zau m.ex.length (cE m.ex (j+1))=zau m.ex.length (cE m.ex j) from ze7 fun k _=>(zlj A (by rw[K.out];exact ht) k).symm];exact zfT HN.out Y.out,HO.out.later Y.out,(Y.out.block _ ak).trans HX.out,U.out.trans (Y.out.mono U.out.size)⟩
    case measure=>omega
   |true=>
    by_cases a1:x.l<0
    ·have ac:decide (x.l<0)=true:=decide_eq_true a1
     go_wp2
     go_ret
     exact⟨zdb (fun (t:Tree m)=>absurd t.ahead (AheadTo.not A (by rw[K.out];exact ht) (by rw[K.out];omega))),U.out.trans (Y.out.mono U.out.size)⟩
    have ac:decide (x.l<0)=false:=decide_eq_false a1
    by_cases a2:(j:Int)≤x.l
    ·have af:decide ((j:Int)≤x.l)=true:=decide_eq_true a2
     go_wp2
     go_ret
     exact⟨zdb (fun (t:Tree m)=>absurd t.ahead (AheadTo.not A (by rw[K.out];exact ht) (by rw[K.out];omega))),U.out.trans (Y.out.mono U.out.size)⟩
    have af:decide ((j:Int)≤x.l)=false:=decide_eq_false a2
    by_cases a3:x.r<0
    ·have aE:decide (x.r<0)=true:=decide_eq_true a3
     go_wp2
     go_ret
     exact⟨zdb (fun (t:Tree m)=>absurd t.ahead (AheadTo.not A (by rw[K.out];exact ht) (by rw[K.out];omega))),U.out.trans (Y.out.mono U.out.size)⟩
    have aE:decide (x.r<0)=false:=decide_eq_false a3
    by_cases a4:(j:Int)≤x.r
    ·have aH:decide ((j:Int)≤x.r)=true:=decide_eq_true a4
     go_wp2
     go_ret
     exact⟨zdb (fun (t:Tree m)=>absurd t.ahead (AheadTo.not A (by rw[K.out];exact ht) (by rw[K.out];omega))),U.out.trans (Y.out.mono U.out.size)⟩
    have aH:decide ((j:Int)≤x.r)=false:=decide_eq_false a4
    go_wp2_with fail
    obtain⟨q,aa⟩: ∃q:Nat,x.l=(q:Int):=⟨x.l.toNat,by omega⟩
    obtain⟨D,Z⟩: ∃D:Nat,x.r=(D:Int):=⟨x.r.toNat,by omega⟩
    have bt:q<m.ex.length:=by omega
    have bl:D<m.ex.length:=by omega
    have a0:(q:Int)<(m.ex.length:Int):=by omega
    have a6:(D:Int)<(m.ex.length:Int):=by omega
    have aN:Hid (AheadTo m.ex (j+1)):=AH.out.next A (fun _=>by rw[K.out];omega)
    have HU:Hid (∀k:Nat,zaM (zaM (cE m.ex j) q) D k=cE m.ex (j+1) k):=fun k=>by have:=zli A (by rw[K.out];exact ht) (by rw[K.out];omega) (by rw[K.out];omega) k;rw[K.out,aa,Z] at this;exact this
    have aF:=zgR (m.ex.take j)
    have aZ:(m.ex.take j).length≤4294967296:=by rw[List.length_take];omega
    have be:=(zir HN.out).2
    refine zu (R:=fun W=>W.heap[wr.heap.size]? =some (.cells #[.int .i64 x.kind,.int .i64 x.num,.string x.name,.string x.field,.int .i64 (q:Int),.int .i64 (D:Int)] 100 (0,0))∧W.ownsRow (w.heap.size+1) 3 1 (.slice (some ⟨w.heap.size+1,0,none⟩) m.ex.length m.ex.length) m.ex.length (zau m.ex.length (cE m.ex j))∧OwnMd W base S m∧W.heap[w.heap.size]? =some (.cells #[.slice S.rq.a m.rq.length S.rq.cap,.slice S.im.a m.im.length S.im.cap,.slice S.ep.a m.ep.length S.ep.cap,.slice S.st.a m.st.length S.st.cap,.slice S.ex.a m.ex.length S.ex.cap] 54 (0,0))∧Below w.heap.size w W) ⟨by have:=heap_alloc_new wr (.cells #[.int .i64 x.kind,.int .i64 x.num,.string x.name,.string x.field,.int .i64 x.l,.int .i64 x.r] 100);rw[aa,Z] at this;rw[aa,Z];exact this,zfT HN.out Y.out,HO.out.later Y.out,(Y.out.block _ ak).trans HX.out,U.out.trans (Y.out.mono U.out.size)⟩ ?_
    have bn:=zc aa
    have bf:=zc Z
    clear aa Z ac af aE aH a1 a2 a3 a4
    rintro W ⟨xb,z,M,N,I⟩
    have bk:=zc xb
    have bm:=zc z
    have bg:=zc M
    have bo:=zc N
    have bs:=zc I
    obtain⟨s0,s1,s2,s3,s4,s5,sf⟩:=zy xb
    obtain⟨va,ai⟩: ∃v,(cE m.ex j) q=v:=⟨_,rfl⟩
    have ea:=zfe z (k:=q) (by omega)
    have ef:=z.frozenAt
    rw[ai] at ea
    have a9:va≤17179869184:=by rw[←ai];have:=aF (q:Int);unfold cE;omega
    obtain⟨ua,aw⟩: ∃u,u=va+1:=⟨_,rfl⟩
    have bq:(va:Int)+1=(ua:Int):=by omega
    have a8:IntKind.i64.wrap (ua:Int)=(ua:Int):=IntWalk.i64_in _ ⟨by omega,by omega⟩
    have aQ:Hid ((W.setCell ⟨w.heap.size+1,q,none⟩ (.int .i64 (ua:Int))).ownsRow (w.heap.size+1) 3 1 (.slice (some ⟨w.heap.size+1,0,none⟩) m.ex.length m.ex.length) m.ex.length (zau m.ex.length (zaM (cE m.ex j) q))):=zgT z q ua (by rw[aw,ai])
    have aX:Hid (OwnMd (W.setCell ⟨w.heap.size+1,q,none⟩ (.int .i64 (ua:Int))) base S m):=zgU M (zgW z)
    have aP:Hid ((W.setCell ⟨w.heap.size+1,q,none⟩ (.int .i64 (ua:Int))).heap[w.heap.size]? =some (.cells #[.slice S.rq.a m.rq.length S.rq.cap,.slice S.im.a m.im.length S.im.cap,.slice S.ep.a m.ep.length S.ep.cap,.slice S.st.a m.st.length S.st.cap,.slice S.ex.a m.ex.length S.ex.cap] 54 (0,0))):=(zx (by omega)).trans N
    have aV:Hid (Below w.heap.size w (W.setCell ⟨w.heap.size+1,q,none⟩ (.int .i64 (ua:Int)))):=I.setCell (Nat.le_succ _) _
    have aY:Hid ((W.setCell ⟨w.heap.size+1,q,none⟩ (.int .i64 (ua:Int))).heap[wr.heap.size]? =some (.cells #[.int .i64 x.kind,.int .i64 x.num,.string x.name,.string x.field,.int .i64 (q:Int),.int .i64 (D:Int)] 100 (0,0))):=(zx (by omega)).trans xb
    clear xb z M N I ai aw
    go_region
    clear s0 s1 s2 s3 s4 s5 sf ef ea
    go_wp2_with fail
    refine zu (R:=fun W=>W.heap[wr.heap.size]? =some (.cells #[.int .i64 x.kind,.int .i64 x.num,.string x.name,.string x.field,.int .i64 (q:Int),.int .i64 (D:Int)] 100 (0,0))∧W.ownsRow (w.heap.size+1) 3 1 (.slice (some ⟨w.heap.size+1,0,none⟩) m.ex.length m.ex.length) m.ex.length (zau m.ex.length (zaM (cE m.ex j) q))∧OwnMd W base S m∧W.heap[w.heap.size]? =some (.cells #[.slice S.rq.a m.rq.length S.rq.cap,.slice S.im.a m.im.length S.im.cap,.slice S.ep.a m.ep.length S.ep.cap,.slice S.st.a m.st.length S.st.cap,.slice S.ex.a m.ex.length S.ex.cap] 54 (0,0))∧Below w.heap.size w W) ⟨aY.out,aQ.out,aX.out.drewI,aP.out,aV.out.drew⟩ ?_
    rintro V ⟨xb,z,M,N,I⟩
    have bv:=zc xb
    have bp:=zc z
    have bc:=zc M
    have bu:=zc N
    have bh:=zc I
    obtain⟨s0,s1,s2,s3,s4,s5,sf⟩:=zy xb
    obtain⟨vb,ae⟩: ∃v,(zaM (cE m.ex j) q) D=v:=⟨_,rfl⟩
    have eb:=zfe z (k:=D) (by omega)
    have ef:=z.frozenAt
    rw[ae] at eb
    have a5:vb≤17179869184:=by rw[←ae];have:=aF (D:Int);unfold zaM cE;split<;>omega
    obtain⟨ub,an⟩: ∃u,u=vb+1:=⟨_,rfl⟩
    have bi:(vb:Int)+1=(ub:Int):=by omega
    have a7:IntKind.i64.wrap (ub:Int)=(ub:Int):=IntWalk.i64_in _ ⟨by omega,by omega⟩
    have aK:Hid ((V.setCell ⟨w.heap.size+1,D,none⟩ (.int .i64 (ub:Int))).ownsRow (w.heap.size+1) 3 1 (.slice (some ⟨w.heap.size+1,0,none⟩) m.ex.length m.ex.length) m.ex.length (zau m.ex.length (zaM (zaM (cE m.ex j) q) D))):=zgT z D ub (by rw[an,ae])
    have aS:Hid (OwnMd (V.setCell ⟨w.heap.size+1,D,none⟩ (.int .i64 (ub:Int))) base S m):=zgU M (zgW z)
    have aJ:Hid ((V.setCell ⟨w.heap.size+1,D,none⟩ (.int .i64 (ub:Int))).heap[w.heap.size]? =some (.cells #[.slice S.rq.a m.rq.length S.rq.cap,.slice S.im.a m.im.length S.im.cap,.slice S.ep.a m.ep.length S.ep.cap,.slice S.st.a m.st.length S.st.cap,.slice S.ex.a m.ex.length S.ex.cap] 54 (0,0))):=(zx (by omega)).trans N
    have aU:Hid (Below w.heap.size w (V.setCell ⟨w.heap.size+1,D,none⟩ (.int .i64 (ub:Int)))):=I.setCell (Nat.le_succ _) _
    have br:Hid ((V.setCell ⟨w.heap.size+1,D,none⟩ (.int .i64 (ub:Int))).heap[wr.heap.size]? =some (.cells #[.int .i64 x.kind,.int .i64 x.num,.string x.name,.string x.field,.int .i64 (q:Int),.int .i64 (D:Int)] 100 (0,0))):=(zx (by omega)).trans xb
    clear xb z M N I ae an
    go_region
    clear s0 s1 s2 s3 s4 s5 sf ef eb
    go_wp2
    go_roundg (gk-1)
    case rel=>exact⟨J,rfl,by have:=O.out;omega,by rw[O.out];exact aN.out,by rw[O.out,←ze7 fun k _=>HU.out k];exact aK.out,aS.out.drewI,aJ.out,aU.out.drew⟩
    case measure=>omega
  ·have aB: ¬(j:Int)<(m.ex.length:Int):=by omega
   obtain rfl:j=m.ex.length:=by omega
   have HA:=zc AH.out.all
   have HC:Hid (wr.ownsRow (w.heap.size+1) 3 1 (.slice (some ⟨w.heap.size+1,0,none⟩) m.ex.length m.ex.length) m.ex.length (zau m.ex.length (cS m 0))):=by show World.ownsRow _ _ _ _ _ _ _;rw[show zau m.ex.length (cS m 0)=zau m.ex.length (cE m.ex m.ex.length) from ze7 fun k _=>by simp[cE,cS,zaP]];exact HN.out
   go_wp2
   go_loopg [6] m.st.length (fun k i wr=>∃j:Nat,i= .int .i64 j∧j+k=m.st.length∧(∀s∈m.st.take j,0≤s.expr∧s.expr<(m.ex.length:Int))∧wr.ownsRow (w.heap.size+1) 3 1 (.slice (some ⟨w.heap.size+1,0,none⟩) m.ex.length m.ex.length) m.ex.length (zau m.ex.length (cS m j))∧OwnMd wr base S m∧wr.heap[w.heap.size]? =some (.cells #[.slice S.rq.a m.rq.length S.rq.cap,.slice S.im.a m.im.length S.im.cap,.slice S.ep.a m.ep.length S.ep.cap,.slice S.st.a m.st.length S.st.cap,.slice S.ex.a m.ex.length S.ex.cap] 54 (0,0))∧Below w.heap.size w wr)
   case atStart=>exact⟨0,rfl,by omega,(fun s hs=>by simp at hs),HC.out,HO.out,HX.out,U.out⟩
   case round=>
    obtain⟨j,rfl,bx,ah,z,M,N,I⟩:=hrel
    have AS:=zc ah
    have ab:=zc z
    have ay:=zc M
    have aG:=zc N
    have ag:=zc I
    clear ah z M N I c0 c1 c2 c3 c4 cf
    obtain⟨c0,c1,c2,c3,c4,cf⟩:=zj aG.out
    by_cases H:j<m.st.length
    ·have ap:(j:Int)<(m.st.length:Int):=by omega
     obtain⟨s,av⟩: ∃s,m.st[j]? =some s:=⟨_,List.getElem?_eq_getElem H⟩
     obtain⟨g,hg,aI⟩:=OwnR.elem (f:=smL) (m:=3) (fun _=>rfl) ay.out.st av
     have k2:=aI 2 (by omega)
     simp only[smL,List.getElem?_cons_zero,List.getElem?_cons_succ] at k2
     rw[hg] at c3
     obtain⟨_,aj⟩:=List.getElem?_eq_some_iff.1 av
     have HS:Hid (m.st[j]=s):=aj
     clear hg aI av aj
     obtain⟨J,E⟩: ∃J,J=j+1:=⟨_,rfl⟩
     have ej:(j:Int)+1=(J:Int):=by omega
     have O:=zc E
     clear E
     by_cases a1:s.expr<0
     ·have ac:decide (s.expr<0)=true:=decide_eq_true a1
      go_wp2
      go_ret
      exact⟨zdb (fun (t:Tree m)=>by have:=t.stm _ (List.getElem_mem H);rw[HS.out] at this;omega),ag.out⟩
     have ac:decide (s.expr<0)=false:=decide_eq_false a1
     by_cases a2:(m.ex.length:Int)≤s.expr
     ·have af:decide ((m.ex.length:Int)≤s.expr)=true:=decide_eq_true a2
      go_wp2
      go_ret
      exact⟨zdb (fun (t:Tree m)=>by have:=t.stm _ (List.getElem_mem H);rw[HS.out] at this;omega),ag.out⟩
     have af:decide ((m.ex.length:Int)≤s.expr)=false:=decide_eq_false a2
     obtain⟨L,ar⟩: ∃L:Nat,s.expr=(L:Int):=⟨s.expr.toNat,by omega⟩
     have aR:L<m.ex.length:=by omega
     have ba:(L:Int)<(m.ex.length:Int):=by omega
     have au:Hid (∀s∈m.st.take (j+1),0≤s.expr∧s.expr<(m.ex.length:Int)):=by
      intro y hy
      rw[List.take_succ_eq_append_getElem H,List.mem_append] at hy
      rcases hy with hy|hy
      ·exact AS.out y hy
      ·simp only[List.mem_singleton] at hy
       rw[hy,HS.out]
       omega
     have HU:Hid (∀k:Nat,zaM (cS m j) L k=cS m (j+1) k):=fun k=>by have:=zlk (ex:=m.ex) H (by rw[HS.out];omega) k;rw[HS.out,ar] at this;exact this
     rw[ar] at k2 a1 a2 ac af
     obtain⟨v,hv⟩: ∃v,cS m j L=v:=⟨_,rfl⟩
     have ea:=zfe ab.out aR
     have ef:=ab.out.frozenAt
     rw[hv] at ea
     have ae:v≤17179869184:=by rw[←hv];unfold cS;have:=zgR m.ex (L:Int);have:=zlh (m.st.take j) (L:Int);rw[List.length_take] at this;omega
     obtain⟨u,hu⟩: ∃u,u=v+1:=⟨_,rfl⟩
     have ev:(v:Int)+1=(u:Int):=by omega
     have an:u≤17179869185:=by omega
     have NN:Hid ((wr.setCell ⟨w.heap.size+1,L,none⟩ (.int .i64 (u:Int))).ownsRow (w.heap.size+1) 3 1 (.slice (some ⟨w.heap.size+1,0,none⟩) m.ex.length m.ex.length) m.ex.length (zau m.ex.length (zaM (cS m j) L))):=zgT ab.out L u (by rw[hu,hv])
     have NO:Hid (OwnMd (wr.setCell ⟨w.heap.size+1,L,none⟩ (.int .i64 (u:Int))) base S m):=zgU ay.out (zgW ab.out)
     have NX:Hid ((wr.setCell ⟨w.heap.size+1,L,none⟩ (.int .i64 (u:Int))).heap[w.heap.size]? =some (.cells #[.slice S.rq.a m.rq.length S.rq.cap,.slice S.im.a m.im.length S.im.cap,.slice S.ep.a m.ep.length S.ep.cap,.slice S.st.a m.st.length S.st.cap,.slice S.ex.a m.ex.length S.ex.cap] 54 (0,0))):=(zx (by omega)).trans aG.out
     have NB:Hid (Below w.heap.size w (wr.setCell ⟨w.heap.size+1,L,none⟩ (.int .i64 (u:Int)))):=ag.out.setCell (Nat.le_succ _) _
     clear ar hv hu
     go_wp2
     go_roundg (gk-1)
     case rel=>exact⟨J,rfl,by have:=O.out;omega,by rw[O.out];exact au.out,by rw[O.out,←ze7 fun k _=>HU.out k];exact NN.out,NO.out,NX.out,NB.out⟩
     case measure=>omega
    ·have ap: ¬(j:Int)<(m.st.length:Int):=by omega
     obtain rfl:j=m.st.length:=by omega
     have au:Hid (∀s∈m.st,0≤s.expr∧s.expr<(m.ex.length:Int)):=by have:=AS.out;rw[List.take_length] at this;exact this
     go_wp2
     go_loopg [8] m.ex.length (fun k i wr=>∃j:Nat,i= .int .i64 j∧j+k=m.ex.length∧(∀k,k<j→cS m m.st.length k=1)∧wr.ownsRow (w.heap.size+1) 3 1 (.slice (some ⟨w.heap.size+1,0,none⟩) m.ex.length m.ex.length) m.ex.length (zau m.ex.length (cS m m.st.length))∧Below w.heap.size w wr)
     case atStart=>exact⟨0,rfl,by omega,fun k hk=>absurd hk (Nat.not_lt_zero k),ab.out,ag.out⟩
     case round=>
      obtain⟨j,rfl,bw,ah,z,I⟩:=hrel
      have AC:=zc ah
      have az:=zc z
      have ao:=zc I
      clear ah z I c0 c1 c2 c3 c4 cf
      by_cases al:j<m.ex.length
      ·have aq:(j:Int)<(m.ex.length:Int):=by omega
       obtain⟨v,hv⟩: ∃v,cS m m.st.length j=v:=⟨_,rfl⟩
       have ea:=zfe az.out al
       rw[hv] at ea
       have HV:=zc hv
       clear hv
       obtain⟨J,E⟩: ∃J,J=j+1:=⟨_,rfl⟩
       have ej:(j:Int)+1=(J:Int):=by omega
       have O:=zc E
       clear E
       by_cases ax:v=1
       ·subst ax
        go_wp2
        go_roundg (gk-1)
        case rel=>exact⟨J,rfl,by have:=O.out;omega,(fun k hk=>(Nat.lt_or_eq_of_le (show k≤j by have:=O.out;omega)).elim (AC.out k) (fun e=>by rw[e];exact HV.out)),az.out,ao.out⟩
        case measure=>omega
       ·have dv:((v:Int) !=1)=true:=by rw[bne_iff_ne];omega
        go_wp2
        go_ret
        exact⟨zdb (fun (t:Tree m)=>absurd (by have:=t.once j al;have h2:=HV.out;unfold cS at h2;rw[List.take_length] at h2;omega) ax),ao.out⟩
      ·have aq: ¬(j:Int)<(m.ex.length:Int):=by omega
       go_wp2
       go_ret
       exact⟨zlm ⟨HA.out,au.out,fun k hk=>by have:=AC.out k (by omega);unfold cS at this;rw[List.take_length] at this;exact this⟩,ao.out⟩
theorem zgX {α:Type} {l:List α} {j:Nat} (h:j<l.length): ∃x,l[j]? =some x:=⟨_,List.getElem?_eq_getElem h⟩
theorem zrN (t:ByteArray):t++sNone=t:=by
 cases t with
 |mk d=>
  show ByteArray.append _ _=_
  simp[ByteArray.append]
theorem zrO (m:Md):(acc (stF m.ex) m.st (zcm m)).size≤(zcn m).size:=Nat.le_refl _
theorem zln (m:Md):(acc epF m.ep (acc zaf m.im (acc rqT m.rq sNone))).size≤(zcn m).size:=zew _ _ _
theorem zlo (m:Md):(acc zaf m.im (acc rqT m.rq sNone)).size≤(zcn m).size:=Nat.le_trans (zew _ _ _) (zln m)
theorem zrP (m:Md):(acc rqT m.rq sNone).size≤(zcn m).size:=Nat.le_trans (zew _ _ _) (zlo m)
theorem zrQ (k:Int) (n e:ByteArray):e.size≤(za9 k n e).size:=by
 unfold za9
 repeat (first|split|(simp only[ByteArray.size_append];omega))
theorem zrR (base:Nat) (S:Sv) (m:Md) (ay:Bool) (w:World) (h:OwnMd w base S m) (hm:Small m) (al:Tree m→(zcn m).size≤1099511627776):
  Calls Tryz.prog 55 #[zl S m,.bool ay] w fun e w'=>PrintOut (zcn m) m e∧Below w.heap.size w w':=by
 have HH:=zc h
 have SM:=zc hm
 have HU:=zc al
 obtain⟨f1,f2,f3,f4,f5⟩:=hm.few
 clear h hm al
 unfold zl
 go_enter Tryz.func55,Tryz.ntmps55
 go_wp2_with fail
 refine (zrM base S m _ (HH.out.alloc _) f5 f4).mono ?_
 rintro e w1 ⟨⟨b,rfl,I⟩,af⟩
 have HT:=zc I
 have ai:Hid (Below w.heap.size w w1):=((Below.refl _ _).alloc (Nat.le_refl _) _).trans (af.mono (by rw[zg];omega))
 have am:Hid (w1.heap[w.heap.size]? =some (.cells #[.slice S.rq.a m.rq.length S.rq.cap,.slice S.im.a m.im.length S.im.cap,.slice S.ep.a m.ep.length S.ep.cap,.slice S.st.a m.st.length S.st.cap,.slice S.ex.a m.ex.length S.ex.cap] 54 (0,0))):=(af.block _ (by rw[zg];omega)).trans (heap_alloc_new w _)
 have aq:=zc (HH.out.later ai.out)
 clear I af
 obtain⟨c0,c1,c2,c3,c4,cf⟩:=zj am.out
 cases b with
 |false=>
  go_wp2
  go_ret
  exact⟨.inr ⟨(fun t=>by have:=HT.out.2 t;cases this),rfl⟩,ai.out⟩
 |true=>
  have TR:=zc (HT.out.1 rfl)
  have HZ:=zc (HU.out TR.out)
  go_wp2
  go_loopg [5,6] m.rq.length (fun k t i wr=>∃(j:Nat) (H:ByteArray),i= .int .i64 j∧t= .string H∧j+k=m.rq.length∧H=acc rqT (m.rq.take j) sNone∧OwnMd wr base S m∧wr.heap[w.heap.size]? =some (.cells #[.slice S.rq.a m.rq.length S.rq.cap,.slice S.im.a m.im.length S.im.cap,.slice S.ep.a m.ep.length S.ep.cap,.slice S.st.a m.st.length S.st.cap,.slice S.ex.a m.ex.length S.ex.cap] 54 (0,0))∧Below w.heap.size w wr)
  case atStart=>exact⟨0,_,rfl,rfl,by omega,rfl,aq.out,am.out,ai.out⟩
  case round=>
   obtain⟨j,H,rfl,rfl,hj,L,ho,hx,I⟩:=hrel
   have q:=zc L
   have X:=zc ho
   have U:=zc hx
   have Z:=zc I
   clear L ho hx I c0 c1 c2 c3 c4 cf
   obtain⟨c0,c1,c2,c3,c4,cf⟩:=zj U.out
   have aa:=(Array.getElem?_eq_some_iff.1 U.out).1
   by_cases V:j<m.rq.length
   ·have N:(j:Int)<(m.rq.length:Int):=by omega
    obtain⟨x,A⟩:=zgX V
    have D:=List.mem_of_getElem? A
    have HS:=zc (zc6 rqT A sNone)
    have z:=zdU rqT m.rq (j+1) sNone
    rw[HS.out,←q.out,ByteArray.size_append] at z
    have J:(acc rqT m.rq sNone).size≤1099511627776:=Nat.le_trans (zrP m) HZ.out
    obtain⟨O,M⟩: ∃O,O=j+1:=⟨_,rfl⟩
    have ej:(j:Int)+1=(O:Int):=by omega
    have HJ:=zc M
    clear M
    have ah:H.size≤1099511627776:=by omega
    obtain⟨g,hg,hc⟩:=X.out.rq.text V
    rw[hg] at c0
    have ak:m.rq.getD j sNone=x:=by rw[List.getD,A];rfl
    rw[ak] at hc
    clear hg ak
    have aC:=SM.out.rq x D
    obtain⟨qt,ag⟩: ∃t,za3 x=t:=⟨_,rfl⟩
    have ao:=zio x
    rw[ag] at ao
    have aA:qt.size≤8589934592:=by omega
    have QT:=zc ag
    clear ag ao z J A D
    go_wp2_with fail
    refine (zgQ x _ (by omega)).mono ?_
    rintro e w2 ⟨rfl,hw⟩
    rw[hw,QT.out]
    clear hw w2
    go_wp2
    go_roundg (gk-1)
    case rel=>exact⟨O,_,rfl,rfl,by have:=HJ.out;omega,by rw[HJ.out,HS.out,←q.out,rqT,QT.out,ByteArray.append_assoc,ByteArray.append_assoc,ByteArray.append_assoc],X.out,U.out,Z.out⟩
    case measure=>omega
   ·have N: ¬(j:Int)<(m.rq.length:Int):=by omega
    have Y:Hid (H=acc rqT m.rq sNone):=by show H=_;rw[q.out,List.take_of_length_le (by omega)]
    clear q
    go_wp2
    go_loopg [5,7] m.im.length (fun k t i wr=>∃(j:Nat) (H:ByteArray),i= .int .i64 j∧t= .string H∧j+k=m.im.length∧H=acc zaf (m.im.take j) (acc rqT m.rq sNone)∧OwnMd wr base S m∧wr.heap[w.heap.size]? =some (.cells #[.slice S.rq.a m.rq.length S.rq.cap,.slice S.im.a m.im.length S.im.cap,.slice S.ep.a m.ep.length S.ep.cap,.slice S.st.a m.st.length S.st.cap,.slice S.ex.a m.ex.length S.ex.cap] 54 (0,0))∧Below w.heap.size w wr)
    case atStart=>exact⟨0,_,rfl,rfl,by omega,Y.out,X.out,U.out,Z.out⟩
    case round=>
     obtain⟨j,H,rfl,rfl,hj,L,ho,hx,I⟩:=hrel
     have q:=zc L
     have X:=zc ho
     have U:=zc hx
     have Z:=zc I
     clear L ho hx I c0 c1 c2 c3 c4 cf
     obtain⟨c0,c1,c2,c3,c4,cf⟩:=zj U.out
     have aa:=(Array.getElem?_eq_some_iff.1 U.out).1
     by_cases V:j<m.im.length
     ·have N:(j:Int)<(m.im.length:Int):=by omega
      obtain⟨x,A⟩:=zgX V
      have D:=List.mem_of_getElem? A
      have HS:=zc (zc6 zaf A (acc rqT m.rq sNone))
      have z:=zdU zaf m.im (j+1) (acc rqT m.rq sNone)
      rw[HS.out,←q.out,ByteArray.size_append] at z
      have J:(acc zaf m.im (acc rqT m.rq sNone)).size≤1099511627776:=Nat.le_trans (zlo m) HZ.out
      obtain⟨O,M⟩: ∃O,O=j+1:=⟨_,rfl⟩
      have ej:(j:Int)+1=(O:Int):=by omega
      have HJ:=zc M
      clear M
      have ah:H.size≤1099511627776:=by omega
      obtain⟨g,hg,E⟩:=OwnR.elem (f:=imL) (m:=3) (fun _=>rfl) X.out.im A
      rw[hg] at c1
      have k0:=E 0 (by omega)
      have k1:=E 1 (by omega)
      have k2:=E 2 (by omega)
      simp only[imL,Nat.add_zero,List.getElem?_cons_zero,List.getElem?_cons_succ] at k0 k1 k2
      obtain⟨z1,z2,z3⟩:=SM.out.im x D
      clear hg E A D
      obtain⟨pt,K⟩: ∃t,zaf x=t:=⟨_,rfl⟩
      have an:pt.size≤1099511627776:=by rw[←K];omega
      have PT:=zc K
      clear K z J
      go_wp2_with fail
      refine (zr8 x _ z1 z2 z3).mono ?_
      rintro e w2 ⟨rfl,I⟩
      rw[PT.out]
      have ab:=zc (X.out.later I)
      have ad:=zc ((I.block _ aa).trans U.out)
      have ac:=zc (Z.out.trans (I.mono Z.out.size))
      clear I
      go_wp2
      go_roundg (gk-1)
      case rel=>exact⟨O,_,rfl,rfl,by have:=HJ.out;omega,by rw[HJ.out,HS.out,←q.out,PT.out],ab.out,ad.out,ac.out⟩
      case measure=>omega
     ·have N: ¬(j:Int)<(m.im.length:Int):=by omega
      have Y:Hid (H=acc zaf m.im (acc rqT m.rq sNone)):=by show H=_;rw[q.out,List.take_of_length_le (by omega)]
      clear q
      go_wp2
      go_loopg [5,8] m.ep.length (fun k t i wr=>∃(j:Nat) (H:ByteArray),i= .int .i64 j∧t= .string H∧j+k=m.ep.length∧H=acc epF (m.ep.take j) (acc zaf m.im (acc rqT m.rq sNone))∧OwnMd wr base S m∧wr.heap[w.heap.size]? =some (.cells #[.slice S.rq.a m.rq.length S.rq.cap,.slice S.im.a m.im.length S.im.cap,.slice S.ep.a m.ep.length S.ep.cap,.slice S.st.a m.st.length S.st.cap,.slice S.ex.a m.ex.length S.ex.cap] 54 (0,0))∧Below w.heap.size w wr)
      case atStart=>exact⟨0,_,rfl,rfl,by omega,Y.out,X.out,U.out,Z.out⟩
      case round=>
       obtain⟨j,H,rfl,rfl,hj,L,ho,hx,I⟩:=hrel
       have q:=zc L
       have X:=zc ho
       have U:=zc hx
       have Z:=zc I
       clear L ho hx I c0 c1 c2 c3 c4 cf
       obtain⟨c0,c1,c2,c3,c4,cf⟩:=zj U.out
       have aa:=(Array.getElem?_eq_some_iff.1 U.out).1
       by_cases V:j<m.ep.length
       ·have N:(j:Int)<(m.ep.length:Int):=by omega
        obtain⟨x,A⟩:=zgX V
        have D:=List.mem_of_getElem? A
        have HS:=zc (zc6 epF A (acc zaf m.im (acc rqT m.rq sNone)))
        have z:=zdU epF m.ep (j+1) (acc zaf m.im (acc rqT m.rq sNone))
        rw[HS.out,←q.out,ByteArray.size_append] at z
        have J:(acc epF m.ep (acc zaf m.im (acc rqT m.rq sNone))).size≤1099511627776:=Nat.le_trans (zln m) HZ.out
        obtain⟨O,M⟩: ∃O,O=j+1:=⟨_,rfl⟩
        have ej:(j:Int)+1=(O:Int):=by omega
        have HJ:=zc M
        clear M
        have ah:H.size≤1099511627776:=by omega
        obtain⟨g,hg,E⟩:=OwnR.elem (f:=epL) (m:=4) (fun _=>rfl) X.out.ep A
        rw[hg] at c2
        have k0:=E 0 (by omega)
        have k1:=E 1 (by omega)
        have k2:=E 2 (by omega)
        have k3:=E 3 (by omega)
        simp only[epL,Nat.add_zero,List.getElem?_cons_zero,List.getElem?_cons_succ] at k0 k1 k2 k3
        obtain⟨z1,z2,z3⟩:=SM.out.ep x D
        clear hg E A D
        cases hd:(x.loc.toList==[42,100,101,102,97,117,108,116]) with
        |true=>
         clear z J
         go_wp2
         go_roundg (gk-1)
         case rel=>exact⟨O,_,rfl,rfl,by have:=HJ.out;omega,by rw[HJ.out,HS.out,←q.out,epF,hd];show H=H++sNone;rw[zrN],X.out,U.out,Z.out⟩
         case measure=>omega
        |false=>
         obtain⟨pt,K⟩: ∃t,zbx x=t:=⟨_,rfl⟩
         have an:pt.size≤1099511627776:=by rw[←K,←show epF x=zbx x from (by rw[epF,hd];rfl)];omega
         have PT:=zc K
         clear K z J
         go_wp2_with fail
         refine (zr9 x _ z1 z2 z3).mono ?_
         rintro e w2 ⟨rfl,I⟩
         rw[PT.out]
         have ab:=zc (X.out.later I)
         have ad:=zc ((I.block _ aa).trans U.out)
         have ac:=zc (Z.out.trans (I.mono Z.out.size))
         clear I
         go_wp2
         go_roundg (gk-1)
         case rel=>exact⟨O,_,rfl,rfl,by have:=HJ.out;omega,by rw[HJ.out,HS.out,←q.out,epF,hd];show _=H++zbx x;rw[PT.out],ab.out,ad.out,ac.out⟩
         case measure=>omega
       ·have N: ¬(j:Int)<(m.ep.length:Int):=by omega
        have Y:Hid (H=acc epF m.ep (acc zaf m.im (acc rqT m.rq sNone))):=by show H=_;rw[q.out,List.take_of_length_le (by omega)]
        clear q
        go_wp2
        go_loopg [5,9] m.st.length (fun k t i wr=>∃(j:Nat) (H:ByteArray),i= .int .i64 j∧t= .string H∧j+k=m.st.length∧H=acc (stF m.ex) (m.st.take j) (zcm m)∧OwnMd wr base S m∧wr.heap[w.heap.size]? =some (.cells #[.slice S.rq.a m.rq.length S.rq.cap,.slice S.im.a m.im.length S.im.cap,.slice S.ep.a m.ep.length S.ep.cap,.slice S.st.a m.st.length S.st.cap,.slice S.ex.a m.ex.length S.ex.cap] 54 (0,0))∧Below w.heap.size w wr)
        case atStart=>exact⟨0,_,rfl,rfl,by omega,Y.out,X.out,U.out,Z.out⟩
        case round=>
         obtain⟨j,H,rfl,rfl,hj,L,ho,hx,I⟩:=hrel
         have q:=zc L
         have X:=zc ho
         have U:=zc hx
         have Z:=zc I
         clear L ho hx I c0 c1 c2 c3 c4 cf
         obtain⟨c0,c1,c2,c3,c4,cf⟩:=zj U.out
         have aa:=(Array.getElem?_eq_some_iff.1 U.out).1
         by_cases V:j<m.st.length
         ·have N:(j:Int)<(m.st.length:Int):=by omega
          obtain⟨x,A⟩:=zgX V
          have D:=List.mem_of_getElem? A
          have HS:=zc (zc6 (stF m.ex) A (zcm m))
          have z:=zdU (stF m.ex) m.st (j+1) (zcm m)
          rw[HS.out,←q.out,ByteArray.size_append] at z
          have J:(acc (stF m.ex) m.st (zcm m)).size≤1099511627776:=Nat.le_trans (zrO m) HZ.out
          obtain⟨O,M⟩: ∃O,O=j+1:=⟨_,rfl⟩
          have ej:(j:Int)+1=(O:Int):=by omega
          have HJ:=zc M
          clear M
          have ah:H.size≤1099511627776:=by omega
          obtain⟨g,hg,E⟩:=OwnR.elem (f:=smL) (m:=3) (fun _=>rfl) X.out.st A
          rw[hg] at c3
          have k0:=E 0 (by omega)
          have k1:=E 1 (by omega)
          have k2:=E 2 (by omega)
          simp only[smL,Nat.add_zero,List.getElem?_cons_zero,List.getElem?_cons_succ] at k0 k1 k2
          have z1:=SM.out.st x D
          obtain⟨t1,t2⟩:=TR.out.stm x D
          obtain⟨en,aj⟩: ∃en:Nat,x.expr=(en:Int):=⟨x.expr.toNat,by omega⟩
          obtain⟨pt,K⟩: ∃t,za9 x.kind x.name (prX m.ex en)=t:=⟨_,rfl⟩
          have ap:stF m.ex x=pt:=by rw[stF,aj,Int.toNat_natCast,K]
          rw[ap] at HS z
          have an:pt.size≤1099511627776:=by omega
          have az:wt m.ex en≤1099511627776:=by have:=zrQ x.kind x.name (prX m.ex en);rw[K] at this;unfold wt;omega
          rw[aj] at k2
          have HG:=zc hg
          have cS: ∀d os,Calls Tryz.prog 87 #[.agg #[.slice S.rq.a m.rq.length S.rq.cap,.slice S.im.a m.im.length S.im.cap,.slice S.ep.a m.ep.length S.ep.cap,.slice (some ⟨g,0,none⟩) m.st.length S.st.cap,.slice S.ex.a m.ex.length S.ex.cap],.agg #[.int .i64 x.kind,.string x.name,.int .i64 (en:Int)]] (grow (redrawn wr d) os) fun e ax=>e= .returned (.string pt)∧∃p:Regrown,ax=grow (redrawn wr p.d) p.os:=fun d os=>Calls.regrown_of (by rw[←K,←hg];exact zrH base S m x.kind x.name en _ (X.out.later (below_regrown _ d os)) (by omega) SM.out.nums TR.out.ahead az z1)
          have C0:=zc c0
          have C1:=zc c1
          have C2:=zc c2
          have C3:=zc c3
          have C4:=zc c4
          have K0:=zc k0
          have K1:=zc k1
          have K2:=zc k2
          clear hg E A D K ap z J aj HG
          go_wp2_with fail
          have y0:=cell_regrown C0.out
          have y1:=cell_regrown C1.out
          have y2:=cell_regrown C2.out
          have y3:=cell_regrown C3.out
          have y4:=cell_regrown C4.out
          have av:=cell_regrown K0.out
          have ar:=cell_regrown K1.out
          have aw:=cell_regrown K2.out
          refine wp_region_quiet_below (by kernel_rfl) (by kernel_rfl) ?_
          repeat (go_big_quiet_step (with_reducible exact cS _ _))
          refine wpQuiet_nil ?_
          intro w2 au
          obtain⟨⟨dq,aB⟩,ae⟩:=au
          have I:Below wr.heap.size wr w2:=by rw[ae];exact below_regrown _ _ _
          have ab:=zc (X.out.later I)
          have ad:=zc ((I.block _ aa).trans U.out)
          have ac:=zc (Z.out.trans (I.mono Z.out.size))
          clear I ae y0 y1 y2 y3 y4 av ar aw cS
          go_wp2
          go_roundg (gk-1)
          case rel=>exact⟨O,_,rfl,rfl,by have:=HJ.out;omega,by rw[HJ.out,HS.out,←q.out],ab.out,ad.out,ac.out⟩
          case measure=>omega
         ·have N: ¬(j:Int)<(m.st.length:Int):=by omega
          have Y:Hid (H=acc (stF m.ex) m.st (zcm m)):=by show H=_;rw[q.out,List.take_of_length_le (by omega)]
          clear q
          go_wp2
          go_ret
          exact⟨.inl ⟨TR.out,za4 Y.out⟩,Z.out⟩
theorem Tryz.infoString:(Tryz.prog.info? 9).map (fun i=>(i.zero,i.size,i.bytes))=some (some (.string {data:=#[]}),1,16):=by kernel_rfl
theorem OwnR.addr {w:World} {base size n:Nat} {e:TypeId} {r:Rw} {xs:List Value} (h:OwnR w base e size r n xs):n=0∨∃g,r.a=some ⟨g,0,none⟩:=by
 rcases h.2 with ⟨_,D⟩|⟨g,A,z,q,_⟩
 ·exact .inl D
 ·simp only[Value.slice.injEq] at q
  exact .inr ⟨g,q.1⟩
theorem OwnR.str {w:World} {base:Nat} {e:TypeId} {r:Rw} {l:List ByteArray} {g:Nat} (h:OwnR w base e 1 r l.length (l.map .string)) (z:r.a=some ⟨g,0,none⟩) {j:Nat} (q:j<l.length):w.cell? ⟨g,j,none⟩=some (.string (l.getD j sNone)):=by
 unfold OwnR at h
 rw[z] at h
 rw[h.cellAt j (by omega)]
 simp[List.getD,q]
theorem OwnR.lt {w:World} {base size n:Nat} {e:TypeId} {r:Rw} {xs:List Value} {g:Nat} (h:OwnR w base e size r n xs) (q:r.a=some ⟨g,0,none⟩):g<w.heap.size:=(h.typed (k:=g) (by simp[Rw.blk,q,Value.ownBlock])).2.1
theorem zrS {l:List ByteArray} {x:ByteArray} {j:Nat} (q:j<l.length) (h:((l.getD j sNone).toList==x.toList)=true):zaU l x=true:=by
 rw[zaU,List.any_eq_true]
 exact⟨l[j],List.getElem_mem q,by simpa [List.getD,q] using h⟩
theorem zrT {l:List ByteArray} {x:ByteArray} (h: ∀j,j<l.length→((l.getD j sNone).toList==x.toList)=false):zaU l x=false:=by
 rw[Bool.eq_false_iff,zaU]
 intro k
 rw[List.any_eq_true] at k
 obtain⟨y,z,w⟩:=k
 obtain⟨j,q,rfl⟩:=List.getElem_of_mem z
 have:=h j q
 simp only[List.getD,List.getElem?_eq_getElem q,Option.getD_some] at this
 rw[this] at w
 cases w
theorem zrU {C:Cx} {x:PR} {q:PS} {z:Int} (E:Is x q z) (D:(decide (z<0)&&((ze C q.pos).kind==3))=false):Is2 (bd x (zM C)) q (zbB C q.pos z) sNone:=by
 unfold zbB
 by_cases h:z<0
 ·obtain⟨w,A⟩:=zaK E h
  simp only[h,decide_true,Bool.true_and] at D
  rw[w,zB,zM,D,if_pos h]
  rfl
 ·obtain⟨e,w,A⟩:=zdG E h
  rw[w,zeK,if_neg h]
  exact A
theorem zrV (C:Cx) (I D base:Nat) (x:PR) (S:Sv) (q:PS) (z:Int) (d:Nat) (w:World) (hx:Is x q z) (N:Mem C I D base S q w) (M:(decide (z<0)&&((ze C q.pos).kind==3))=false):
  Calls Tryz.prog 153 #[pv C I D S q z d] w (zdS C I D base (bd x (zM C)) d S w):=by
 have O:=zc N
 have h:=N.tok
 have E:=N.few
 have X:Hid (Is2 (bd x (zM C)) q (zbB C q.pos z) sNone):=zrU hx M
 clear hx N
 by_cases hz:z<0
 ·have V:decide (0≤z)=false:=decide_eq_false (by omega)
  simp only[hz,decide_true,Bool.true_and] at M
  by_cases hp:q.pos<C.ts.length
  ·obtain⟨L,_,_,_⟩:=h.cells hp (d:=⟨0,sNone,0,C.fin⟩)
   have aa:=(zaw h).1
   change _=some (Value.int .i64 (ze C q.pos).kind) at L
   generalize U:ze C q.pos=t at L M
   have ab:(t.kind !=3)=true:=by rw[bne,M];rfl
   clear U
   unfold pv
   go_enter Tryz.func153,Tryz.ntmps153
   go_wp2_with fail
   refine (zdE C I D base S q z d _ (zr (zr h _) _) E).mono ?_
   rintro e w2 ⟨rfl,A⟩
   have H:Hid (_=_):=(zcV A).2
   obtain⟨L,c1,c2,c3,c4,c5,c6,c7,Y,Z,K,J,cf⟩:=zar H.out
   unfold pv
   go_wp2
   refine bodyPost_ret (zaC rfl _ _ (w.heap.size+1) 121 _ (0,0) _ rfl (zbf H.out) Tryz.underlying121 rfl (by kernel_rfl)) rfl ?_
   exact zes rfl X.out O.out (zce (zbm A) (Nat.le_succ _) ..)
  ·unfold pv
   go_enter Tryz.func153,Tryz.ntmps153
   go_wp2_with fail
   refine (zdE C I D base S q z d _ (zr (zr h _) _) E).mono ?_
   rintro e w2 ⟨rfl,A⟩
   have H:Hid (_=_):=(zcV A).2
   obtain⟨L,c1,c2,c3,c4,c5,c6,c7,Y,Z,K,J,cf⟩:=zar H.out
   unfold pv
   go_wp2
   refine bodyPost_ret (zaC rfl _ _ (w.heap.size+1) 121 _ (0,0) _ rfl (zbf H.out) Tryz.underlying121 rfl (by kernel_rfl)) rfl ?_
   exact zes rfl X.out O.out (zce (zbm A) (Nat.le_succ _) ..)
 ·have V:decide (0≤z)=true:=decide_eq_true (by omega)
  unfold pv
  go_enter Tryz.func153,Tryz.ntmps153
  go_wp2_with fail
  refine (zdE C I D base S q z d _ (zr (zr h _) _) E).mono ?_
  rintro e w2 ⟨rfl,A⟩
  have H:Hid (_=_):=(zcV A).2
  obtain⟨L,c1,c2,c3,c4,c5,c6,c7,Y,Z,K,J,cf⟩:=zar H.out
  unfold pv
  go_wp2
  refine bodyPost_ret (zaC rfl _ _ (w.heap.size+1) 121 _ (0,0) _ rfl (zbf H.out) Tryz.underlying121 rfl (by kernel_rfl)) rfl ?_
  exact zes rfl X.out O.out (zce (zbm A) (Nat.le_succ _) ..)
def txt (C:Cx) (q:PS):ByteArray:=(ze C q.pos).text
theorem zrW {C:Cx} {q:PS} (w:((ze C q.pos).kind==3)=true) (h:zaU q.rq (txt C q)=true):zM C q= .ok (adv q,txt C q):=by
 unfold txt at h
 rw[zM,if_pos w,if_pos h];rfl
theorem zrX {C:Cx} {q:PS} (z:((ze C q.pos).kind==3)=true) (h:zaU q.rq (txt C q)=false) (w:40≤q.rq.length):zM C q= .error (zt C q.pos):=by
 unfold txt at h
 rw[zM,if_pos z,h,if_pos w];rfl
theorem zrY {C:Cx} {q:PS} (z:((ze C q.pos).kind==3)=true) (h:zaU q.rq (txt C q)=false) (w: ¬40≤q.rq.length):zM C q= .ok ({adv q with rq:=q.rq++[txt C q]},txt C q):=by
 unfold txt at h
 rw[zM,if_pos z,h,if_neg w];rfl
theorem zlp (C:Cx) (gt A base:Nat) (S:Sv) (q:PS) (d:Nat) (w:World) (J:Mem C gt A base S q w) (Y:((ze C q.pos).kind==3)=true) (g:Nat) (H:q.rq.length=0∨S.rq.a=some ⟨g,0,none⟩):
  Calls Tryz.prog 153 #[pv C gt A S q (-1) d] w (zdS C gt A base (zM C q) d S w):=by
 obtain⟨i0,hi,ac,ah,ag⟩:=info_parts Tryz.infoString
 have h:=zc J
 have H3:=zc Y
 have X:q.pos<C.ts.length:=zgj Y (by decide)
 have ak:=J.few
 have ap:=J.inv.rq
 have aj:=(zaw J.tok).1
 obtain⟨c0,c1,_,_⟩:=J.tok.cells X (d:=⟨0,sNone,0,C.fin⟩)
 change _=some (Value.int .i64 (ze C q.pos).kind) at c0
 change _=some (Value.string (txt C q)) at c1
 generalize (ze C q.pos).kind=kd at c0 Y
 have aq:(kd !=3)=false:=by rw[bne,Y];rfl
 have aa:=zc H
 obtain⟨R,hR⟩: ∃R:Nat→ByteArray,∀j,R j=q.rq.getD j sNone:=⟨fun j=>q.rq.getD j sNone,fun _=>rfl⟩
 have HR:=zc hR
 have HC:Hid (∀j,j<q.rq.length→w.cell? ⟨g,j,none⟩=some (.string (R j))):=fun j L=>by
  rcases H with e|e
  ·omega
  ·rw[hR];exact h.out.own.rq.str e L
 clear hR
 generalize K:txt C q=tx at c1
 have z:=zc K
 have D:=fun o1 o2 o3=>((h.out.own.rq.alloc o1).alloc o2).alloc o3
 clear K J H
 unfold pv
 go_enter Tryz.func153,Tryz.ntmps153
 go_wp2
 go_loop [5] (fun i=>∃k:Nat,k≤q.rq.length∧i= .int .i64 k∧∀j,j<k→¬(R j).toList=tx.toList) (fun i=>(q.rq.length-intOf i).toNat)
 case atStart=>exact⟨0,Nat.zero_le _,rfl,fun j L=>absurd L (Nat.not_lt_zero j)⟩
 case round=>
  obtain⟨k,hk,rfl,M⟩:=hrel
  have O:=zc M
  clear M
  by_cases N:k<q.rq.length
  ·have ha:S.rq.a=some ⟨g,0,none⟩:=aa.out.elim (fun e=>by omega) id
   have am:=HC.out k N
   have an:=h.out.own.rq.lt ha
   cases he:((R k).toList==tx.toList) with
   |true=>
    have U:Hid (zM C q= .ok (adv q,tx)):=by
     show zM C q= .ok (adv q,tx)
     rw[←z.out]
     exact zrW H3.out (zrS N (by rw[←HR.out,z.out];exact he))
    have HA:=zc ha
    go_wp2
    refine bodyPost_ret (zaC rfl _ _ (w.heap.size+1) 121 _ (0,0) _ rfl (new2 w _ _) Tryz.underlying121 rfl (by kernel_rfl)) rfl ?_
    rw[U.out]
    exact zes (q':=adv q) (z':=-1) (by rw[pv,HA.out];rfl) ⟨rfl,rfl,rfl⟩ (h.out.adv X) (zbg w _ _)
   |false=>
    have HX:Hid (∀j,j<k+1→¬(R j).toList=tx.toList):=fun j L=>by
     by_cases e:j=k
     ·rw[e];exact beq_eq_false_iff_ne.1 he
     ·exact O.out j (by omega)
    go_wp2
    go_round
    case rel=>exact⟨k+1,by omega,by go_num,HX.out⟩
    case measure=>simp[intOf];omega
  ·have HN:Hid (zaU q.rq (txt C q)=false):=zrT fun j L=>by rw[z.out,←HR.out];exact beq_eq_false_iff_ne.2 (O.out j (by omega))
   by_cases hn:40≤q.rq.length
   ·have qn:decide ((40:Int)≤(q.rq.length:Int))=true:=decide_eq_true (by omega)
    have U:Hid (zM C q= .error (zt C q.pos)):=zrX H3.out HN.out hn
    go_wp2_with fail
    refine (zfB C gt A base S (adv q) (-1) d _ (((h.out.adv X).alloc _).alloc _) (by decide) (by simp[adv])).mono ?_
    rintro e w2 ⟨rfl,I⟩
    have G3:Hid (_=_):=(zcV I).2
    obtain⟨b0,b1,b2,b3,b4,b5,b6,b7,b8,b9,ae,ab,bf⟩:=zar G3.out
    have HB:Hid (Below w.heap.size w w2):=zbm I
    clear I
    unfold pv
    go_wp2
    refine bodyPost_ret (zaC rfl _ _ (w.heap.size+1) 121 _ (0,0) _ rfl (zbf G3.out) Tryz.underlying121 rfl (by kernel_rfl)) rfl ?_
    rw[U.out]
    exact zes (q':=adv q) (z':=(zt C q.pos:Int)) rfl rfl (h.out.adv X) (zce HB.out (Nat.le_succ _) ..)
   ·have qn:decide ((40:Int)≤(q.rq.length:Int))=false:=decide_eq_false (by omega)
    have U:Hid (zM C q= .ok ({adv q with rq:=q.rq++[tx]},tx)):=by
     show zM C q= .ok ({adv q with rq:=q.rq++[tx]},tx)
     rw[←z.out]
     exact zrY H3.out HN.out hn
    go_wp2_with (at_builtin;refine zbd _ rfl _ _ 22 rfl base 9 i0 _ 1 16 Tryz.underlying22 hi ac ah ag rfl (by decide) (by decide) S.rq q.rq.length _ (by rfl) (D _ _ _) (w.heap.size+1+1) [.string tx] (by rfl) (by exact (new3 w _ _ _).2.2) rfl (by intro u hu;simp at hu;subst hu;rfl) (by omega) (by have:=h.out.base;rw[zag];omega) ?_)
    intro r' w2 hr Z V
    have ai:=zc hr
    have HG:=zc Z
    have ad:=zc V
    have E:=fun b hb=>zet (W:=w) h.out.own (Nat.le_refl _) (r:=S.rq.blk) (fun k e=>.inl e) b hb
    have g1:=(Z.block w.heap.size (by rw[zag];omega) (E _ (Nat.le_refl _))).trans (new3 w _ _ _).1
    have g2:=(Z.block (w.heap.size+1) (by rw[zag];omega) (E _ (by omega))).trans (new3 w _ _ _).2.1
    obtain⟨a0,a1,a2,a3,a4,a5,a6,a7,a8,a9,al,ao,af⟩:=zar g1
    obtain⟨b0,b1,b2,b3,b4,b5,b6,b7,b8,b9,ae,ab,bf⟩:=zar g2
    have G2:=zc g2
    clear g1 g2 Z hr V E D
    go_wp2
    refine bodyPost_ret (zaC rfl _ _ (w.heap.size+1) 121 _ (0,0) _ rfl (zbf ((zx (by omega)).trans G2.out)) Tryz.underlying121 rfl (by kernel_rfl)) rfl ?_
    obtain⟨m',s'⟩:=(h.out.adv X).grow_rq (x:=tx) (zdp w _ _ _) HG.out ai.out (by rw[zag];exact ad.out) (((Off.refl _ _ _).set (b:=w.heap.size) (Nat.le_refl _) (by rw[zag];omega) _ _).set12 (b:=w.heap.size+1) (by omega) (by rw[zag];omega) ..) (by show q.rq.length<40;omega)
    rw[U.out]
    exact⟨_,{adv q with rq:=q.rq++[tx]},-1,tx,by simp[pv,adv],⟨rfl,rfl,rfl⟩,m',s'⟩
theorem ze8 (C:Cx) (A h base:Nat) (x:PR) (S:Sv) (q:PS) (z:Int) (d:Nat) (w:World) (H:Is x q z) (E:Mem C A h base S q w):
  Calls Tryz.prog 153 #[pv C A h S q z d] w (zdS C A h base (bd x (zM C)) d S w):=by
 cases D:(decide (z<0)&&((ze C q.pos).kind==3)) with
 |false=>exact zrV C A h base x S q z d w H E D
 |true=>
  rw[Bool.and_eq_true,decide_eq_true_eq] at D
  obtain⟨rfl,rfl⟩:=zaK H D.1
  rw[zB]
  rcases E.own.rq.addr with e|⟨g,e⟩
  ·exact zlp C A h base S q d w E D.2 0 (.inl e)
  ·exact zlp C A h base S q d w E D.2 g (.inr e)
end Go.Proofs.YtgcbmogmniahjaaGreat
