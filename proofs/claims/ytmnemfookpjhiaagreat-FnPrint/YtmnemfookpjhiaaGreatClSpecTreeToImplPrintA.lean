/-
  What l5Tree of the specification answers: the walk.
  What impl's isSum,hasSides and the closure that counts a use answer: the walks.
-/
import Derived.BigRegion
import Derived.Test.YtmnemfookpjhiaaGreatClEqModToImplParseQ
namespace Go.Proofs.YtmnemfookpjhiaaGreat
set_option maxRecDepth 100000
set_option maxHeartbeats 6400000
open Go.RowKit Go.PlainAid Go.Sort
theorem Tryz.infoInt:(Tryz.prog.info? 3).map (fun i=>(i.zero,i.size,i.bytes))=some (some (.int .i64 0),1,8):=by kernel_rfl
theorem zyf (n:Nat):(madeCells #[.int .i64 0] n).toList=rowN n (fun _=>0):=by
 rw[toList_madeCells_one]
 unfold rowN
 rw[List.map_const',List.length_range]
 rfl
/-- The row of counts: cell, freedom, and what a store leaves. -/
theorem zkb {w:World} {base g n cap:Nat} {f:Nat→Nat} (h:w.ownsRow base 3 1 (.slice (some ⟨g,0,none⟩) n cap) n (rowN n f)) {k:Nat} (hk:k<n):w.cell? ⟨g,k,none⟩=some (.int .i64 (f k:Int)):=by
 rw[h.cellAt k (by omega)]
 exact zpx f hk
theorem zpy {w:World} {base g n cap:Nat} {f:Nat→Nat} (h:w.ownsRow base 3 1 (.slice (some ⟨g,0,none⟩) n cap) n (rowN n f)) (k v:Nat) (hv:v=f k+1):(w.setCell ⟨g,k,none⟩ (.int .i64 (v:Int))).ownsRow base 3 1 (.slice (some ⟨g,0,none⟩) n cap) n (rowN n (plus f k)):=by
 have:=(h.stored k (.int .i64 (v:Int))).1
 rw[zbiy f (plus f k) v (by rw[zblt,hv]) (fun j hj=>zblu f hj)] at this
 exact this
theorem zkq {w w':World} {base g n cap:Nat} {xs:List Value} (h:w.ownsRow base 3 1 (.slice (some ⟨g,0,none⟩) n cap) n xs) (hb:Below w.heap.size w w'):w'.ownsRow base 3 1 (.slice (some ⟨g,0,none⟩) n cap) n xs:=by
 have h1:OwnR w base 3 1 ⟨some ⟨g,0,none⟩,cap⟩ n xs:=h
 exact h1.keep fun k e=>hb.block k (h1.typed e).2.1
theorem zyg {w:World} {base g n cap:Nat} {xs:List Value} (h:w.ownsRow base 3 1 (.slice (some ⟨g,0,none⟩) n cap) n xs):base≤g∧g<w.heap.size:=by
 have h1:OwnR w base 3 1 ⟨some ⟨g,0,none⟩,cap⟩ n xs:=h
 exact⟨(h1.typed rfl).1,(h1.typed rfl).2.1⟩
theorem zpz {w:World} {base g k:Nat} {S:Sv} {m:Md} {u:Value} (h:OwnMd w base S m) (hg: ∀b,w.heap[g]? =some b→∃cur,b= .cells cur 3 (0,0)):OwnMd (w.setCell ⟨g,k,none⟩ u) base S m:=by
 have hk: ∀(e:TypeId) (size n:Nat) (r:Rw) (xs:List Value),OwnR w base e size r n xs→e≠3→OwnR (w.setCell ⟨g,k,none⟩ u) base e size r n xs:=fun e size n r xs h he=>h.keep fun b hb=>Below.heap_setCell w ⟨g,k,none⟩ u b (fun eq=>by
  obtain⟨_,_,c,hc⟩:=h.typed hb
  obtain⟨cur,hcur⟩:=hg _ (by rw[←show b=g from eq];exact hc)
  simp only[Obj.cells.injEq] at hcur
  exact he hcur.2.1)
 exact⟨hk _ _ _ _ _ h.rq (by decide),hk _ _ _ _ _ h.im (by decide),hk _ _ _ _ _ h.ep (by decide),hk _ _ _ _ _ h.st (by decide),hk _ _ _ _ _ h.ex (by decide)⟩
/-- How often each is a side of one of the first j. -/
def cE (ex:List Ex) (j:Nat):Nat→Nat:=fun k=>zco (ex.take j) (k:Int)
theorem OwnMd.drewI {w:World} {base:Nat} {S:Sv} {m:Md} (h:OwnMd w base S m):OwnMd w.drew base S m:=⟨h.rq,h.im,h.ep,h.st,h.ex⟩
/-- .. or that of one of the first j statements. -/
def cS (m:Md) (j:Nat):Nat→Nat:=fun k=>zco m.ex (k:Int)+zdp (m.st.take j) (k:Int)
/-- Whether it is a tree, told by a flag. -/
def zqa (m:Md) (e:Ending):Prop:=∃b,e= .returned (.bool b)∧(b=true↔Tree m)
theorem zgw {m:Md} (h: ¬Tree m):zqa m (.returned (.bool false)):=⟨false,rfl,⟨(fun k=>by cases k),fun t=>absurd t h⟩⟩
theorem zyh {m:Md} (h:Tree m):zqa m (.returned (.bool true)):=⟨true,rfl,⟨fun _=>h,fun _=>rfl⟩⟩
theorem zmk {w:World} {base g n cap:Nat} {xs:List Value} (h:w.ownsRow base 3 1 (.slice (some ⟨g,0,none⟩) n cap) n xs): ∀b,w.heap[g]? =some b→∃cur,b= .cells cur 3 (0,0):=by
 have h1:OwnR w base 3 1 ⟨some ⟨g,0,none⟩,cap⟩ n xs:=h
 obtain⟨_,_,c,hc⟩:=h1.typed rfl
 intro b hb
 rw[hc] at hb
 exact⟨c,(Option.some.inj hb).symm⟩
theorem zbdu (base:Nat) (S:Sv) (m:Md) (w:World) (h:OwnMd w base S m) (hl:m.ex.length≤4294967296) (hs:m.st.length≤4294967296):
  Calls Tryz.prog 75 #[modD S m] w fun e w'=>zqa m e∧Below w.heap.size w w':=by
 obtain⟨i0,hi,hz0,hz1,hz2⟩:=info_parts Tryz.infoInt
 have HH:=hidI h
 clear h
 unfold modD
 go_enter Tryz.func75,Tryz.ntmps75
 go_wp2_with (first|(at_make;refine wpList_make_full _ rfl _ _ 36 rfl (w.heap.size+1) 3 i0 (.int .i64 0) 1 Tryz.underlying36 hi hz0 hz1 .i64 .i64 _ _ m.ex.length (by rfl) (by rfl) rfl rfl (by rw[hz2];omega) (by unfold maxLen;omega) (by rw[ze];omega) ?_))
 intro w1 hown hgr
 rw[zyf] at hown
 have bb:Below (w.heap.size+1) (w.alloc _) w1:=⟨hgr.os,hgr.tape,hgr.output,hgr.size,fun k hk=>hgr.block k (by rw[ze];exact hk) (by simp)⟩
 have HB1:Hid (Below w.heap.size w w1):=((Below.refl _ _).alloc (Nat.le_refl _) _).trans (bb.mono (by omega))
 have HX1:Hid (w1.heap[w.heap.size]? =some (.cells #[.slice S.rq.a m.rq.length S.rq.cap,.slice S.im.a m.im.length S.im.cap,.slice S.ep.a m.ep.length S.ep.cap,.slice S.st.a m.st.length S.st.cap,.slice S.ex.a m.ex.length S.ex.cap] 54 (0,0))):=(bb.block _ (by omega)).trans (heap_alloc_new w _)
 have HO1:=hidI (HH.out.later HB1.out)
 have HN1:Hid (w1.ownsRow (w.heap.size+1) 3 1 (.slice (some ⟨w.heap.size+1,0,none⟩) m.ex.length m.ex.length) m.ex.length (rowN m.ex.length (cE m.ex 0))):=by show World.ownsRow _ _ _ _ _ _ _;rw[show rowN m.ex.length (cE m.ex 0)=rowN m.ex.length (fun _=>0) from zhf fun k _=>by simp[cE,zco]];exact hown
 clear hown hgr bb
 obtain⟨c0,c1,c2,c3,c4,cf⟩:=zi HX1.out
 go_wp2
 go_loopg [4] m.ex.length (fun k i wr=>∃j:Nat,i= .int .i64 j∧j+k=m.ex.length∧AheadTo m.ex j∧wr.ownsRow (w.heap.size+1) 3 1 (.slice (some ⟨w.heap.size+1,0,none⟩) m.ex.length m.ex.length) m.ex.length (rowN m.ex.length (cE m.ex j))∧OwnMd wr base S m∧wr.heap[w.heap.size]? =some (.cells #[.slice S.rq.a m.rq.length S.rq.cap,.slice S.im.a m.im.length S.im.cap,.slice S.ep.a m.ep.length S.ep.cap,.slice S.st.a m.st.length S.st.cap,.slice S.ex.a m.ex.length S.ex.cap] 54 (0,0))∧Below w.heap.size w wr)
 case atStart=>exact⟨0,rfl,by omega,fun i x hi=>absurd hi (Nat.not_lt_zero i),HN1.out,HO1.out,HX1.out,HB1.out⟩
 case round=>
  obtain⟨j,rfl,hj,ah,hn,ho,hx,hb⟩:=hrel
  have AH:=hidI ah
  have HN:=hidI hn
  have HO:=hidI ho
  have HX:=hidI hx
  have HB:=hidI hb
  clear ah hn ho hx hb
  clear c0 c1 c2 c3 c4 cf
  obtain⟨c0,c1,c2,c3,c4,cf⟩:=zi HX.out
  have hwlt:=(Array.getElem?_eq_some_iff.1 HX.out).1
  by_cases hlt:j<m.ex.length
  ·have hlti:(j:Int)<(m.ex.length:Int):=by omega
   obtain⟨g,hg,hgl,x0,x1,x2,x3,x4,x5⟩:=HO.out.expr hlt
   rw[hg] at c4
   clear hg
   have HGE:=hidI (zjs hlt)
   obtain⟨x,hxx⟩: ∃x,m.ex.getD j exNo=x:=⟨_,rfl⟩
   rw[hxx] at x0 x1 x2 x3 x4 x5
   have HE:Hid (m.ex[j]=x):=HGE.out.symm.trans hxx
   clear hxx HGE
   obtain⟨j1,hj1⟩: ∃j1,j1=j+1:=⟨_,rfl⟩
   have ej:(j:Int)+1=(j1:Int):=by omega
   have HJ:=hidI hj1
   clear hj1
   have HW:Hid (Below wr.heap.size wr (wr.alloc (.cells #[.int .i64 x.kind,.int .i64 x.num,.string x.name,.string x.field,.int .i64 x.l,.int .i64 x.r] 125))):=(Below.refl _ _).alloc (Nat.le_refl _) _
   go_wp2_with fail
   refine (zus x.kind _).mono ?_
   rintro e w2 ⟨rfl,hw⟩
   rw[hw]
   clear hw w2
   cases ht:twoK x.kind with
   |false=>
    go_wp2
    go_roundg (gk-1)
    case rel=>exact⟨j1,rfl,by have:=HJ.out;omega,by rw[HJ.out];exact AH.out.next hlt (fun k=>by rw[HE.out,ht] at k;cases k),by rw[HJ.out,show rowN m.ex.length (cE m.ex (j+1))=rowN m.ex.length (cE m.ex j) from zhf fun k _=>(zyd hlt (by rw[HE.out];exact ht) k).symm];exact zkq HN.out HW.out,HO.out.later HW.out,(HW.out.block _ hwlt).trans HX.out,HB.out.trans (HW.out.mono HB.out.size)⟩
    case measure=>omega
   |true=>
    by_cases a1:x.l<0
    ·have da1:decide (x.l<0)=true:=decide_eq_true a1
     go_wp2
     go_ret
     exact⟨zgw (fun (t:Tree m)=>absurd t.ahead (AheadTo.not hlt (by rw[HE.out];exact ht) (by rw[HE.out];omega))),HB.out.trans (HW.out.mono HB.out.size)⟩
    have da1:decide (x.l<0)=false:=decide_eq_false a1
    by_cases a2:(j:Int)≤x.l
    ·have da2:decide ((j:Int)≤x.l)=true:=decide_eq_true a2
     go_wp2
     go_ret
     exact⟨zgw (fun (t:Tree m)=>absurd t.ahead (AheadTo.not hlt (by rw[HE.out];exact ht) (by rw[HE.out];omega))),HB.out.trans (HW.out.mono HB.out.size)⟩
    have da2:decide ((j:Int)≤x.l)=false:=decide_eq_false a2
    by_cases a3:x.r<0
    ·have da3:decide (x.r<0)=true:=decide_eq_true a3
     go_wp2
     go_ret
     exact⟨zgw (fun (t:Tree m)=>absurd t.ahead (AheadTo.not hlt (by rw[HE.out];exact ht) (by rw[HE.out];omega))),HB.out.trans (HW.out.mono HB.out.size)⟩
    have da3:decide (x.r<0)=false:=decide_eq_false a3
    by_cases a4:(j:Int)≤x.r
    ·have da4:decide ((j:Int)≤x.r)=true:=decide_eq_true a4
     go_wp2
     go_ret
     exact⟨zgw (fun (t:Tree m)=>absurd t.ahead (AheadTo.not hlt (by rw[HE.out];exact ht) (by rw[HE.out];omega))),HB.out.trans (HW.out.mono HB.out.size)⟩
    have da4:decide ((j:Int)≤x.r)=false:=decide_eq_false a4
    go_wp2_with fail
    obtain⟨ln,hln⟩: ∃ln:Nat,x.l=(ln:Int):=⟨x.l.toNat,by omega⟩
    obtain⟨rn,hrn⟩: ∃rn:Nat,x.r=(rn:Int):=⟨x.r.toNat,by omega⟩
    have hll:ln<m.ex.length:=by omega
    have hrl:rn<m.ex.length:=by omega
    have hlli:(ln:Int)<(m.ex.length:Int):=by omega
    have hrli:(rn:Int)<(m.ex.length:Int):=by omega
    have HAH:Hid (AheadTo m.ex (j+1)):=AH.out.next hlt (fun _=>by rw[HE.out];omega)
    have HU:Hid (∀k:Nat,plus (plus (cE m.ex j) ln) rn k=cE m.ex (j+1) k):=fun k=>by have:=zyc hlt (by rw[HE.out];exact ht) (by rw[HE.out];omega) (by rw[HE.out];omega) k;rw[HE.out,hln,hrn] at this;exact this
    have hul:=znu (m.ex.take j)
    have hlen:(m.ex.take j).length≤4294967296:=by rw[List.length_take];omega
    have hgw:=(zyg HN.out).2
    refine zbc (R:=fun W=>W.heap[wr.heap.size]? =some (.cells #[.int .i64 x.kind,.int .i64 x.num,.string x.name,.string x.field,.int .i64 (ln:Int),.int .i64 (rn:Int)] 125 (0,0))∧W.ownsRow (w.heap.size+1) 3 1 (.slice (some ⟨w.heap.size+1,0,none⟩) m.ex.length m.ex.length) m.ex.length (rowN m.ex.length (cE m.ex j))∧OwnMd W base S m∧W.heap[w.heap.size]? =some (.cells #[.slice S.rq.a m.rq.length S.rq.cap,.slice S.im.a m.im.length S.im.cap,.slice S.ep.a m.ep.length S.ep.cap,.slice S.st.a m.st.length S.st.cap,.slice S.ex.a m.ex.length S.ex.cap] 54 (0,0))∧Below w.heap.size w W) ⟨by have:=heap_alloc_new wr (.cells #[.int .i64 x.kind,.int .i64 x.num,.string x.name,.string x.field,.int .i64 x.l,.int .i64 x.r] 125);rw[hln,hrn] at this;rw[hln,hrn];exact this,zkq HN.out HW.out,HO.out.later HW.out,(HW.out.block _ hwlt).trans HX.out,HB.out.trans (HW.out.mono HB.out.size)⟩ ?_
    have HLN:=hidI hln
    have HRN:=hidI hrn
    clear hln hrn da1 da2 da3 da4 a1 a2 a3 a4
    rintro W ⟨xb,hn,ho,hx,hb⟩
    have XBa:=hidI xb
    have HNa:=hidI hn
    have HOa:=hidI ho
    have HXa:=hidI hx
    have HBa:=hidI hb
    obtain⟨s0,s1,s2,s3,s4,s5,sf⟩:=zu xb
    obtain⟨va,hva⟩: ∃v,(cE m.ex j) ln=v:=⟨_,rfl⟩
    have ea:=zkb hn (k:=ln) (by omega)
    have ef:=hn.frozenAt
    rw[hva] at ea
    have hvba:va≤17179869184:=by rw[←hva];have:=hul (ln:Int);unfold cE;omega
    obtain⟨ua,hua⟩: ∃u,u=va+1:=⟨_,rfl⟩
    have eva:(va:Int)+1=(ua:Int):=by omega
    have hwva:IntKind.i64.wrap (ua:Int)=(ua:Int):=IntWalk.i64_in _ ⟨by omega,by omega⟩
    have NNa:Hid ((W.setCell ⟨w.heap.size+1,ln,none⟩ (.int .i64 (ua:Int))).ownsRow (w.heap.size+1) 3 1 (.slice (some ⟨w.heap.size+1,0,none⟩) m.ex.length m.ex.length) m.ex.length (rowN m.ex.length (plus (cE m.ex j) ln))):=zpy hn ln ua (by rw[hua,hva])
    have NOa:Hid (OwnMd (W.setCell ⟨w.heap.size+1,ln,none⟩ (.int .i64 (ua:Int))) base S m):=zpz ho (zmk hn)
    have NXa:Hid ((W.setCell ⟨w.heap.size+1,ln,none⟩ (.int .i64 (ua:Int))).heap[w.heap.size]? =some (.cells #[.slice S.rq.a m.rq.length S.rq.cap,.slice S.im.a m.im.length S.im.cap,.slice S.ep.a m.ep.length S.ep.cap,.slice S.st.a m.st.length S.st.cap,.slice S.ex.a m.ex.length S.ex.cap] 54 (0,0))):=(zj (by omega)).trans hx
    have NBa:Hid (Below w.heap.size w (W.setCell ⟨w.heap.size+1,ln,none⟩ (.int .i64 (ua:Int)))):=hb.setCell (Nat.le_succ _) _
    have NZa:Hid ((W.setCell ⟨w.heap.size+1,ln,none⟩ (.int .i64 (ua:Int))).heap[wr.heap.size]? =some (.cells #[.int .i64 x.kind,.int .i64 x.num,.string x.name,.string x.field,.int .i64 (ln:Int),.int .i64 (rn:Int)] 125 (0,0))):=(zj (by omega)).trans xb
    clear xb hn ho hx hb hva hua
    go_region
    clear s0 s1 s2 s3 s4 s5 sf ef ea
    go_wp2_with fail
    refine zbc (R:=fun W=>W.heap[wr.heap.size]? =some (.cells #[.int .i64 x.kind,.int .i64 x.num,.string x.name,.string x.field,.int .i64 (ln:Int),.int .i64 (rn:Int)] 125 (0,0))∧W.ownsRow (w.heap.size+1) 3 1 (.slice (some ⟨w.heap.size+1,0,none⟩) m.ex.length m.ex.length) m.ex.length (rowN m.ex.length (plus (cE m.ex j) ln))∧OwnMd W base S m∧W.heap[w.heap.size]? =some (.cells #[.slice S.rq.a m.rq.length S.rq.cap,.slice S.im.a m.im.length S.im.cap,.slice S.ep.a m.ep.length S.ep.cap,.slice S.st.a m.st.length S.st.cap,.slice S.ex.a m.ex.length S.ex.cap] 54 (0,0))∧Below w.heap.size w W) ⟨NZa.out,NNa.out,NOa.out.drewI,NXa.out,NBa.out.drew⟩ ?_
    rintro V ⟨xb,hn,ho,hx,hb⟩
    have XBb:=hidI xb
    have HNb:=hidI hn
    have HOb:=hidI ho
    have HXb:=hidI hx
    have HBb:=hidI hb
    obtain⟨s0,s1,s2,s3,s4,s5,sf⟩:=zu xb
    obtain⟨vb,hvb⟩: ∃v,(plus (cE m.ex j) ln) rn=v:=⟨_,rfl⟩
    have eb:=zkb hn (k:=rn) (by omega)
    have ef:=hn.frozenAt
    rw[hvb] at eb
    have hvbb:vb≤17179869184:=by rw[←hvb];have:=hul (rn:Int);unfold plus cE;split<;>omega
    obtain⟨ub,hub⟩: ∃u,u=vb+1:=⟨_,rfl⟩
    have evb:(vb:Int)+1=(ub:Int):=by omega
    have hwvb:IntKind.i64.wrap (ub:Int)=(ub:Int):=IntWalk.i64_in _ ⟨by omega,by omega⟩
    have NNb:Hid ((V.setCell ⟨w.heap.size+1,rn,none⟩ (.int .i64 (ub:Int))).ownsRow (w.heap.size+1) 3 1 (.slice (some ⟨w.heap.size+1,0,none⟩) m.ex.length m.ex.length) m.ex.length (rowN m.ex.length (plus (plus (cE m.ex j) ln) rn))):=zpy hn rn ub (by rw[hub,hvb])
    have NOb:Hid (OwnMd (V.setCell ⟨w.heap.size+1,rn,none⟩ (.int .i64 (ub:Int))) base S m):=zpz ho (zmk hn)
    have NXb:Hid ((V.setCell ⟨w.heap.size+1,rn,none⟩ (.int .i64 (ub:Int))).heap[w.heap.size]? =some (.cells #[.slice S.rq.a m.rq.length S.rq.cap,.slice S.im.a m.im.length S.im.cap,.slice S.ep.a m.ep.length S.ep.cap,.slice S.st.a m.st.length S.st.cap,.slice S.ex.a m.ex.length S.ex.cap] 54 (0,0))):=(zj (by omega)).trans hx
    have NBb:Hid (Below w.heap.size w (V.setCell ⟨w.heap.size+1,rn,none⟩ (.int .i64 (ub:Int)))):=hb.setCell (Nat.le_succ _) _
    have NZb:Hid ((V.setCell ⟨w.heap.size+1,rn,none⟩ (.int .i64 (ub:Int))).heap[wr.heap.size]? =some (.cells #[.int .i64 x.kind,.int .i64 x.num,.string x.name,.string x.field,.int .i64 (ln:Int),.int .i64 (rn:Int)] 125 (0,0))):=(zj (by omega)).trans xb
    clear xb hn ho hx hb hvb hub
    go_region
    clear s0 s1 s2 s3 s4 s5 sf ef eb
    go_wp2
    go_roundg (gk-1)
    case rel=>exact⟨j1,rfl,by have:=HJ.out;omega,by rw[HJ.out];exact HAH.out,by rw[HJ.out,←zhf fun k _=>HU.out k];exact NNb.out,NOb.out.drewI,NXb.out,NBb.out.drew⟩
    case measure=>omega
  ·have hlti: ¬(j:Int)<(m.ex.length:Int):=by omega
   obtain rfl:j=m.ex.length:=by omega
   have HA:=hidI AH.out.all
   have HC:Hid (wr.ownsRow (w.heap.size+1) 3 1 (.slice (some ⟨w.heap.size+1,0,none⟩) m.ex.length m.ex.length) m.ex.length (rowN m.ex.length (cS m 0))):=by show World.ownsRow _ _ _ _ _ _ _;rw[show rowN m.ex.length (cS m 0)=rowN m.ex.length (cE m.ex m.ex.length) from zhf fun k _=>by simp[cE,cS,zdp]];exact HN.out
   go_wp2
   go_loopg [6] m.st.length (fun k i wr=>∃j:Nat,i= .int .i64 j∧j+k=m.st.length∧(∀s∈m.st.take j,0≤s.expr∧s.expr<(m.ex.length:Int))∧wr.ownsRow (w.heap.size+1) 3 1 (.slice (some ⟨w.heap.size+1,0,none⟩) m.ex.length m.ex.length) m.ex.length (rowN m.ex.length (cS m j))∧OwnMd wr base S m∧wr.heap[w.heap.size]? =some (.cells #[.slice S.rq.a m.rq.length S.rq.cap,.slice S.im.a m.im.length S.im.cap,.slice S.ep.a m.ep.length S.ep.cap,.slice S.st.a m.st.length S.st.cap,.slice S.ex.a m.ex.length S.ex.cap] 54 (0,0))∧Below w.heap.size w wr)
   case atStart=>exact⟨0,rfl,by omega,(fun s hs=>by simp at hs),HC.out,HO.out,HX.out,HB.out⟩
   case round=>
    obtain⟨j,rfl,hj2,ah,hn,ho,hx,hb⟩:=hrel
    have AS:=hidI ah
    have HN2:=hidI hn
    have HO2:=hidI ho
    have HX2:=hidI hx
    have HB2:=hidI hb
    clear ah hn ho hx hb c0 c1 c2 c3 c4 cf
    obtain⟨c0,c1,c2,c3,c4,cf⟩:=zi HX2.out
    by_cases hlt2:j<m.st.length
    ·have hlti2:(j:Int)<(m.st.length:Int):=by omega
     obtain⟨s,hsj⟩: ∃s,m.st[j]? =some s:=⟨_,List.getElem?_eq_getElem hlt2⟩
     obtain⟨g,hg,hcl⟩:=OwnR.elem (f:=smL) (m:=3) (fun _=>rfl) HO2.out.st hsj
     have k2:=hcl 2 (by omega)
     simp only[smL,List.getElem?_cons_zero,List.getElem?_cons_succ] at k2
     rw[hg] at c3
     obtain⟨_,hsj2⟩:=List.getElem?_eq_some_iff.1 hsj
     have HS:Hid (m.st[j]=s):=hsj2
     clear hg hcl hsj hsj2
     obtain⟨j1,hj1⟩: ∃j1,j1=j+1:=⟨_,rfl⟩
     have ej:(j:Int)+1=(j1:Int):=by omega
     have HJ:=hidI hj1
     clear hj1
     by_cases a1:s.expr<0
     ·have da1:decide (s.expr<0)=true:=decide_eq_true a1
      go_wp2
      go_ret
      exact⟨zgw (fun (t:Tree m)=>by have:=t.stm _ (List.getElem_mem hlt2);rw[HS.out] at this;omega),HB2.out⟩
     have da1:decide (s.expr<0)=false:=decide_eq_false a1
     by_cases a2:(m.ex.length:Int)≤s.expr
     ·have da2:decide ((m.ex.length:Int)≤s.expr)=true:=decide_eq_true a2
      go_wp2
      go_ret
      exact⟨zgw (fun (t:Tree m)=>by have:=t.stm _ (List.getElem_mem hlt2);rw[HS.out] at this;omega),HB2.out⟩
     have da2:decide ((m.ex.length:Int)≤s.expr)=false:=decide_eq_false a2
     obtain⟨en,hen⟩: ∃en:Nat,s.expr=(en:Int):=⟨s.expr.toNat,by omega⟩
     have hel:en<m.ex.length:=by omega
     have heli:(en:Int)<(m.ex.length:Int):=by omega
     have HST:Hid (∀s∈m.st.take (j+1),0≤s.expr∧s.expr<(m.ex.length:Int)):=by
      intro y hy
      rw[List.take_succ_eq_append_getElem hlt2,List.mem_append] at hy
      rcases hy with hy|hy
      ·exact AS.out y hy
      ·simp only[List.mem_singleton] at hy
       rw[hy,HS.out]
       omega
     have HU:Hid (∀k:Nat,plus (cS m j) en k=cS m (j+1) k):=fun k=>by have:=zye (ex:=m.ex) hlt2 (by rw[HS.out];omega) k;rw[HS.out,hen] at this;exact this
     rw[hen] at k2 a1 a2 da1 da2
     obtain⟨v,hv⟩: ∃v,cS m j en=v:=⟨_,rfl⟩
     have ea:=zkb HN2.out hel
     have ef:=HN2.out.frozenAt
     rw[hv] at ea
     have hvb:v≤17179869184:=by rw[←hv];unfold cS;have:=znu m.ex (en:Int);have:=zyb (m.st.take j) (en:Int);rw[List.length_take] at this;omega
     obtain⟨u,hu⟩: ∃u,u=v+1:=⟨_,rfl⟩
     have ev:(v:Int)+1=(u:Int):=by omega
     have hub:u≤17179869185:=by omega
     have NN:Hid ((wr.setCell ⟨w.heap.size+1,en,none⟩ (.int .i64 (u:Int))).ownsRow (w.heap.size+1) 3 1 (.slice (some ⟨w.heap.size+1,0,none⟩) m.ex.length m.ex.length) m.ex.length (rowN m.ex.length (plus (cS m j) en))):=zpy HN2.out en u (by rw[hu,hv])
     have NO:Hid (OwnMd (wr.setCell ⟨w.heap.size+1,en,none⟩ (.int .i64 (u:Int))) base S m):=zpz HO2.out (zmk HN2.out)
     have NX:Hid ((wr.setCell ⟨w.heap.size+1,en,none⟩ (.int .i64 (u:Int))).heap[w.heap.size]? =some (.cells #[.slice S.rq.a m.rq.length S.rq.cap,.slice S.im.a m.im.length S.im.cap,.slice S.ep.a m.ep.length S.ep.cap,.slice S.st.a m.st.length S.st.cap,.slice S.ex.a m.ex.length S.ex.cap] 54 (0,0))):=(zj (by omega)).trans HX2.out
     have NB:Hid (Below w.heap.size w (wr.setCell ⟨w.heap.size+1,en,none⟩ (.int .i64 (u:Int)))):=HB2.out.setCell (Nat.le_succ _) _
     clear hen hv hu
     go_wp2
     go_roundg (gk-1)
     case rel=>exact⟨j1,rfl,by have:=HJ.out;omega,by rw[HJ.out];exact HST.out,by rw[HJ.out,←zhf fun k _=>HU.out k];exact NN.out,NO.out,NX.out,NB.out⟩
     case measure=>omega
    ·have hlti2: ¬(j:Int)<(m.st.length:Int):=by omega
     obtain rfl:j=m.st.length:=by omega
     have HST:Hid (∀s∈m.st,0≤s.expr∧s.expr<(m.ex.length:Int)):=by have:=AS.out;rw[List.take_length] at this;exact this
     go_wp2
     go_loopg [8] m.ex.length (fun k i wr=>∃j:Nat,i= .int .i64 j∧j+k=m.ex.length∧(∀k,k<j→cS m m.st.length k=1)∧wr.ownsRow (w.heap.size+1) 3 1 (.slice (some ⟨w.heap.size+1,0,none⟩) m.ex.length m.ex.length) m.ex.length (rowN m.ex.length (cS m m.st.length))∧Below w.heap.size w wr)
     case atStart=>exact⟨0,rfl,by omega,fun k hk=>absurd hk (Nat.not_lt_zero k),HN2.out,HB2.out⟩
     case round=>
      obtain⟨j,rfl,hj3,ah,hn,hb⟩:=hrel
      have AC:=hidI ah
      have HN3:=hidI hn
      have HB3:=hidI hb
      clear ah hn hb c0 c1 c2 c3 c4 cf
      by_cases hlt3:j<m.ex.length
      ·have hlti3:(j:Int)<(m.ex.length:Int):=by omega
       obtain⟨v,hv⟩: ∃v,cS m m.st.length j=v:=⟨_,rfl⟩
       have ea:=zkb HN3.out hlt3
       rw[hv] at ea
       have HV:=hidI hv
       clear hv
       obtain⟨j1,hj1⟩: ∃j1,j1=j+1:=⟨_,rfl⟩
       have ej:(j:Int)+1=(j1:Int):=by omega
       have HJ:=hidI hj1
       clear hj1
       by_cases hv1:v=1
       ·subst hv1
        go_wp2
        go_roundg (gk-1)
        case rel=>exact⟨j1,rfl,by have:=HJ.out;omega,(fun k hk=>(Nat.lt_or_eq_of_le (show k≤j by have:=HJ.out;omega)).elim (AC.out k) (fun e=>by rw[e];exact HV.out)),HN3.out,HB3.out⟩
        case measure=>omega
       ·have dv:((v:Int) !=1)=true:=by rw[bne_iff_ne];omega
        go_wp2
        go_ret
        exact⟨zgw (fun (t:Tree m)=>absurd (by have:=t.once j hlt3;have h2:=HV.out;unfold cS at h2;rw[List.take_length] at h2;omega) hv1),HB3.out⟩
      ·have hlti3: ¬(j:Int)<(m.ex.length:Int):=by omega
       go_wp2
       go_ret
       exact⟨zyh ⟨HA.out,HST.out,fun k hk=>by have:=AC.out k (by omega);unfold cS at this;rw[List.take_length] at this;exact this⟩,HB3.out⟩
theorem zjl (k:Int) (w:World):Calls Tryz.prog 204 #[.int .i64 k] w fun e w'=>e= .returned (.bool (k==6||k==7))∧w'=w:=by
 cases h6:(k==6) with
 |true=>
  go_enter Tryz.func204,Tryz.ntmps204
  go_wp2
  go_ret
  exact⟨rfl,rfl⟩
 |false=>
  cases h7:(k==7) with
  |true=>
   go_enter Tryz.func204,Tryz.ntmps204
   go_wp2
   go_ret
   exact⟨rfl,rfl⟩
  |false=>
   go_enter Tryz.func204,Tryz.ntmps204
   go_wp2
   go_ret
   exact⟨rfl,rfl⟩
theorem zpg (k:Int) (w:World):Calls Tryz.prog 130 #[.int .i64 k] w fun e w'=>e= .returned (.bool (twoK k))∧w'=w:=by
 cases hs:(k==6||k==7) with
 |true=>
  have HV:Hid (twoK k=true):=by show _=_;rw[twoK,hs];rfl
  go_enter Tryz.func130,Tryz.ntmps130
  go_wp2_with fail
  refine (zjl k _).mono ?_
  rintro e w2 ⟨rfl,rfl⟩
  rw[hs]
  go_wp2
  go_ret
  exact⟨zh HV.out.symm,rfl⟩
 |false=>
  cases h8:(k==8) with
  |true=>
   have HV:Hid (twoK k=true):=by show _=_;rw[twoK,hs,h8];rfl
   go_enter Tryz.func130,Tryz.ntmps130
   go_wp2_with fail
   refine (zjl k _).mono ?_
   rintro e w2 ⟨rfl,rfl⟩
   rw[hs]
   go_wp2
   go_ret
   exact⟨zh HV.out.symm,rfl⟩
  |false=>
   have HV:Hid (twoK k=false):=by show _=_;rw[twoK,hs,h8];rfl
   go_enter Tryz.func130,Tryz.ntmps130
   go_wp2_with fail
   refine (zjl k _).mono ?_
   rintro e w2 ⟨rfl,rfl⟩
   rw[hs]
   go_wp2
   go_ret
   exact⟨zh HV.out.symm,rfl⟩
theorem zbdv (k:Int) (w:World):Calls Tryz.prog 132 #[.int .i64 k] w fun e w'=>e= .returned (.bool (k !=1))∧w'=w:=by
 go_enter Tryz.func132,Tryz.ntmps132
 go_wp2
 go_ret
 exact⟨rfl,rfl⟩
theorem zbgl {w:World} {b:Nat} {t:TypeId} {v0:Value} (h:w.heap[b]? =some (.cells #[v0] t (0,0))):w.cell? ⟨b,0,none⟩=some v0∧∀i,w.frozen? ⟨b,i,none⟩=false:=by
 refine⟨?_,fun i=>?_⟩<;>simp[World.cell?,World.frozen?,h]
/-- One use told where the place stands ahead of the end; else nothing is written. -/
theorem ztl (i n:Int) (u:Value) (w:World) (h: ¬(0≤i∧i<n)):
  Calls Tryz.prog 129 #[.int .i64 i,.int .i64 n,u] w fun e w'=>e= .returned (.bool false)∧w'=w:=by
 by_cases h0:i<0
 ·go_enter Tryz.func129,Tryz.ntmps129
  go_wp2
  go_ret
  exact⟨rfl,rfl⟩
 ·have h1:n≤i:=by omega
  clear h
  go_enter Tryz.func129,Tryz.ntmps129
  go_wp2
  go_ret
  exact⟨rfl,rfl⟩
theorem zbjh (i len base g gu:Nat) (n:Int) (f:Nat→Nat) (w:World) (hu:w.heap[gu]? =some (.cells #[.slice (some ⟨g,0,none⟩) len len] 36 (0,0))) (h:w.ownsRow base 3 1 (.slice (some ⟨g,0,none⟩) len len) len (rowN len f)) (hf:f i≤17179869184) (hi:i<len) (hn:(i:Int)<n):
  Calls Tryz.prog 129 #[.int .i64 (i:Int),.int .i64 n,.pointer (some ⟨gu,0,none⟩)] w fun e w'=>e= .returned (.bool true)∧w'=w.setCell ⟨g,i,none⟩ (.int .i64 (f i+1:Nat)):=by
 have h0: ¬(i:Int)<0:=by omega
 have h1: ¬n≤(i:Int):=by omega
 have hii:(i:Int)<(len:Int):=by omega
 obtain⟨s0,sf⟩:=zbgl hu
 obtain⟨va,hva⟩: ∃v,f i=v:=⟨_,rfl⟩
 have ea:=zkb h (k:=i) (by omega)
 have ef:=h.frozenAt
 rw[hva] at ea hf
 rw[hva]
 obtain⟨ua,hua⟩: ∃u,u=va+1:=⟨_,rfl⟩
 have eva:(va:Int)+1=(ua:Int):=by omega
 have hwva:IntKind.i64.wrap (ua:Int)=(ua:Int):=IntWalk.i64_in _ ⟨by omega,by omega⟩
 rw[←hua]
 clear hu h hva hua
 go_enter Tryz.func129,Tryz.ntmps129
 go_wp2
 go_ret
 exact⟨rfl,rfl⟩
/-- Whether one of the counts is no 1. -/
def odd (n:Nat) (f:Nat→Nat) (j:Nat):Bool:=(List.range n).any fun k=>decide (j≤k)&&((f k:Int) !=1)
theorem zbji {n:Nat} {f:Nat→Nat} {j:Nat} (hj:j<n):odd n f j=(((f j:Int) !=1)||odd n f (j+1)):=by
 rw[Bool.eq_iff_iff,Bool.or_eq_true]
 simp only[odd,List.any_eq_true,List.mem_range,Bool.and_eq_true,decide_eq_true_eq]
 constructor
 ·rintro⟨k,hk,hjk,h⟩
  by_cases e:k=j
  ·exact .inl (e▸h)
  ·exact .inr ⟨k,hk,by omega,h⟩
 ·rintro (h|⟨k,hk,hjk,h⟩)
  ·exact⟨j,hj,Nat.le_refl _,h⟩
  ·exact⟨k,hk,by omega,h⟩
theorem zblw {n:Nat} (f:Nat→Nat) {j:Nat} (hj:n≤j):odd n f j=false:=by
 rw[Bool.eq_false_iff]
 intro h
 simp only[odd,List.any_eq_true,List.mem_range,Bool.and_eq_true,decide_eq_true_eq] at h
 obtain⟨k,hk,hjk,_⟩:=h
 omega
theorem zyi (base g len:Nat) (f:Nat→Nat) (w:World) (h:w.ownsRow base 3 1 (.slice (some ⟨g,0,none⟩) len len) len (rowN len f)) (hl:len≤4294967296):
  Calls Tryz.prog 205 #[.slice (some ⟨g,0,none⟩) len len,.func (.func 132) #[] #[]] w fun e w'=>(∃v:Int,e= .returned (.int .i64 v)∧decide (0≤v)=odd len f 0)∧Below w.heap.size w w':=by
 have HO:=hidI h
 clear h
 go_enter Tryz.func205,Tryz.ntmps205
 go_wp2
 go_loopg [8] (len+1) (fun k i wr=>∃j:Nat,i= .int .i64 j∧j+k=len+1∧odd len f j=odd len f 0∧Below w.heap.size w wr)
 case atStart=>exact⟨0,rfl,by omega,rfl,Below.refl _ _⟩
 case round=>
  obtain⟨j,rfl,hj,he,hb⟩:=hrel
  have HE:=hidI he
  have HB:=hidI hb
  clear he hb
  by_cases hlt:j<len
  ·have hlti:(j:Int)<(len:Int):=by omega
   have k0:=zkb (zkq HO.out HB.out) hlt
   have HS:=hidI (zbji (f:=f) hlt)
   obtain⟨v,hv⟩: ∃v,f j=v:=⟨_,rfl⟩
   rw[hv] at k0
   have HV:=hidI hv
   clear hv
   obtain⟨j1,hj1⟩: ∃j1,j1=j+1:=⟨_,rfl⟩
   have ej:(j:Int)+1=(j1:Int):=by omega
   have HJ:=hidI hj1
   clear hj1
   go_wp2_with fail
   refine (zbdv (v:Int) _).mono ?_
   rintro e w1 ⟨rfl,hw⟩
   rw[hw]
   clear hw w1
   cases ex:((v:Int) !=1) with
   |true=>
    go_wp2
    go_ret
    refine⟨⟨_,rfl,?_⟩,HB.out⟩
    rw[←HE.out,HS.out,HV.out,ex]
    simp
   |false=>
    go_wp2
    go_roundg (gk-1)
    case rel=>
     refine⟨j1,rfl,by have:=HJ.out;omega,?_,HB.out⟩
     rw[←HE.out,HS.out,HV.out,ex,HJ.out]
     simp
    case measure=>omega
  ·have hlti: ¬(j:Int)<(len:Int):=by omega
   go_wp2
   go_ret
   refine⟨⟨_,rfl,?_⟩,HB.out⟩
   rw[←HE.out,zblw f (by omega)]
   rfl
theorem zsn (base g len:Nat) (f:Nat→Nat) (w:World) (h:w.ownsRow base 3 1 (.slice (some ⟨g,0,none⟩) len len) len (rowN len f)) (hl:len≤4294967296):
  Calls Tryz.prog 131 #[.slice (some ⟨g,0,none⟩) len len,.func (.func 132) #[] #[]] w fun e w'=>e= .returned (.bool (odd len f 0))∧Below w.heap.size w w':=by
 have HO:=hidI h
 clear h
 go_enter Tryz.func131,Tryz.ntmps131
 go_wp2_with fail
 refine (zyi base g len f _ HO.out hl).mono ?_
 rintro e w1 ⟨⟨v,rfl,hv⟩,hb⟩
 have HV:=hidI hv
 have HB:=hidI hb
 clear hv hb
 go_wp2
 go_ret
 exact⟨zh HV.out,HB.out⟩
end Go.Proofs.YtmnemfookpjhiaaGreat
