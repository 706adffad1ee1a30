/-
  What l5Tree of the specification answers: the walk.
  What impl's isSum,hasSides and the closure that counts a use answer: the walks.
-/
import Derived.BigRegion
import Derived.Test.YticdggnnpjachaaGreatCcEqModToImplParseQ
namespace Go.Proofs.YticdggnnpjachaaGreat
set_option maxRecDepth 100000
set_option maxHeartbeats 6400000
open Go.RowKit Go.PlainAid Go.Sort
theorem Tryz.infoInt:(Tryz.prog.info? 3).map (fun i=>(i.zero,i.size,i.bytes))=some (some (.int .i64 0),1,8):=by kernel_rfl
theorem zhS (n:Nat):(madeCells #[.int .i64 0] n).toList=zai n (fun _=>0):=by
 rw[toList_madeCells_one]
 unfold zai
 rw[List.map_const',List.length_range]
 rfl
theorem zdQ {w:World} {j g n o:Nat} {f:Nat→Nat} (h:w.ownsRow j 3 1 (.slice (some ⟨g,0,none⟩) n o) n (zai n f)) {k:Nat} (q:k<n):w.cell? ⟨g,k,none⟩=some (.int .i64 (f k:Int)):=by
 rw[h.cellAt k (by omega)]
 exact zfi f q
theorem zfk {w:World} {o g n q:Nat} {f:Nat→Nat} (h:w.ownsRow o 3 1 (.slice (some ⟨g,0,none⟩) n q) n (zai n f)) (k v:Nat) (A:v=f k+1):(w.setCell ⟨g,k,none⟩ (.int .i64 (v:Int))).ownsRow o 3 1 (.slice (some ⟨g,0,none⟩) n q) n (zai n (za9 f k)):=by
 have:=(h.stored k (.int .i64 (v:Int))).1
 rw[zlI f (za9 f k) v (by rw[zlJ,A]) (fun j z=>zlK f z)] at this
 exact this
theorem zez {w q:World} {j g n o:Nat} {xs:List Value} (h:w.ownsRow j 3 1 (.slice (some ⟨g,0,none⟩) n o) n xs) (A:Below w.heap.size w q):q.ownsRow j 3 1 (.slice (some ⟨g,0,none⟩) n o) n xs:=by
 have z:OwnR w j 3 1 ⟨some ⟨g,0,none⟩,o⟩ n xs:=h
 exact z.keep fun k e=>A.block k (z.typed e).2.1
theorem zgc {w:World} {j g n o:Nat} {xs:List Value} (h:w.ownsRow j 3 1 (.slice (some ⟨g,0,none⟩) n o) n xs):j≤g∧g<w.heap.size:=by
 have q:OwnR w j 3 1 ⟨some ⟨g,0,none⟩,o⟩ n xs:=h
 exact⟨(q.typed rfl).1,(q.typed rfl).2.1⟩
theorem zfl {w:World} {j g k:Nat} {S:Sv} {m:Md} {u:Value} (h:OwnMd w j S m) (H: ∀b,w.heap[g]? =some b→∃z,b= .cells z 3 (0,0)):OwnMd (w.setCell ⟨g,k,none⟩ u) j S m:=by
 have A: ∀(e:TypeId) (o n:Nat) (r:Rw) (D:List Value),OwnR w j e o r n D→e≠3→OwnR (w.setCell ⟨g,k,none⟩ u) j e o r n D:=fun e o n r D h E=>h.keep fun b I=>Below.heap_setCell w ⟨g,k,none⟩ u b (fun J=>by
  obtain⟨_,_,c,K⟩:=h.typed I
  obtain⟨z,q⟩:=H _ (by rw[←show b=g from J];exact K)
  simp only[Obj.cells.injEq] at q
  exact E q.2.1)
 exact⟨A _ _ _ _ _ h.rq (by decide),A _ _ _ _ _ h.im (by decide),A _ _ _ _ _ h.ep (by decide),A _ _ _ _ _ h.st (by decide),A _ _ _ _ _ h.ex (by decide)⟩
def cE (ex:List Ex) (j:Nat):Nat→Nat:=fun k=>zaj (ex.take j) (k:Int)
theorem OwnMd.drewI {w:World} {j:Nat} {S:Sv} {m:Md} (h:OwnMd w j S m):OwnMd w.drew j S m:=⟨h.rq,h.im,h.ep,h.st,h.ex⟩
def cS (m:Md) (j:Nat):Nat→Nat:=fun k=>zaj m.ex (k:Int)+zaB (m.st.take j) (k:Int)
def zfm (m:Md) (e:Ending):Prop:=∃b,e= .returned (.bool b)∧(b=true↔Tree m)
theorem zcq {m:Md} (h: ¬Tree m):zfm m (.returned (.bool false)):=⟨false,rfl,⟨(fun k=>by cases k),fun t=>absurd t h⟩⟩
theorem zhT {m:Md} (h:Tree m):zfm m (.returned (.bool true)):=⟨true,rfl,⟨fun _=>h,fun _=>rfl⟩⟩
theorem zfn {w:World} {j g n o:Nat} {xs:List Value} (h:w.ownsRow j 3 1 (.slice (some ⟨g,0,none⟩) n o) n xs): ∀b,w.heap[g]? =some b→∃q,b= .cells q 3 (0,0):=by
 have D:OwnR w j 3 1 ⟨some ⟨g,0,none⟩,o⟩ n xs:=h
 obtain⟨_,_,c,A⟩:=D.typed rfl
 intro b z
 rw[A] at z
 exact⟨c,(Option.some.inj z).symm⟩
theorem zme (n:Nat) (S:Sv) (m:Md) (w:World) (h:OwnMd w n S m) (hl:m.ex.length≤4294967296) (hs:m.st.length≤4294967296):
  Calls Tryz.prog 61 #[zt S m] w fun e w'=>zfm m e∧Below w.heap.size w w':=by
 obtain⟨i0,hi,aN,aT,aQ⟩:=info_parts Tryz.infoInt
 have HH:=zc h
 clear h
 unfold zt
 go_enter Tryz.func61,Tryz.ntmps61
 go_wp2_with (first|(at_make;refine wpList_make_full _ rfl _ _ 151 rfl (w.heap.size+1) 3 i0 (.int .i64 0) 1 Tryz.underlying151 hi aN aT .i64 .i64 _ _ m.ex.length (by rfl) (by rfl) rfl rfl (by rw[aQ];omega) (by unfold maxLen;omega) (by rw[zj];omega) ?_))
 intro w1 Y O
 rw[zhS] at Y
 have bb:Below (w.heap.size+1) (w.alloc _) w1:=⟨O.os,O.tape,O.output,O.size,fun k hk=>O.block k (by rw[zj];exact hk) (by simp)⟩
 have ay:Hid (Below w.heap.size w w1):=((Below.refl _ _).alloc (Nat.le_refl _) _).trans (bb.mono (by omega))
 have aE:Hid (w1.heap[w.heap.size]? =some (.cells #[.slice S.rq.a m.rq.length S.rq.cap,.slice S.im.a m.im.length S.im.cap,.slice S.ep.a m.ep.length S.ep.cap,.slice S.st.a m.st.length S.st.cap,.slice S.ex.a m.ex.length S.ex.cap] 28 (0,0))):=(bb.block _ (by omega)).trans (heap_alloc_new w _)
 have aW:=zc (HH.out.later ay.out)
 have aJ:Hid (w1.ownsRow (w.heap.size+1) 3 1 (.slice (some ⟨w.heap.size+1,0,none⟩) m.ex.length m.ex.length) m.ex.length (zai m.ex.length (cE m.ex 0))):=by show World.ownsRow _ _ _ _ _ _ _;rw[show zai m.ex.length (cE m.ex 0)=zai m.ex.length (fun _=>0) from zdq fun k _=>by simp[cE,zaj]];exact Y
 clear Y O bb
 obtain⟨c0,c1,c2,c3,c4,cf⟩:=zk aE.out
 go_wp2
 go_loopg [4] m.ex.length (fun k i wr=>∃j:Nat,i= .int .i64 j∧j+k=m.ex.length∧AheadTo m.ex j∧wr.ownsRow (w.heap.size+1) 3 1 (.slice (some ⟨w.heap.size+1,0,none⟩) m.ex.length m.ex.length) m.ex.length (zai m.ex.length (cE m.ex j))∧OwnMd wr n S m∧wr.heap[w.heap.size]? =some (.cells #[.slice S.rq.a m.rq.length S.rq.cap,.slice S.im.a m.im.length S.im.cap,.slice S.ep.a m.ep.length S.ep.cap,.slice S.st.a m.st.length S.st.cap,.slice S.ex.a m.ex.length S.ex.cap] 28 (0,0))∧Below w.heap.size w wr)
 case atStart=>exact⟨0,rfl,by omega,fun i x hi=>absurd hi (Nat.not_lt_zero i),aJ.out,aW.out,aE.out,ay.out⟩
 case round=>
  obtain⟨j,rfl,hj,ah,o,U,N,H⟩:=hrel
  have AH:=zc ah
  have HN:=zc o
  have HO:=zc U
  have HX:=zc N
  have L:=zc H
  clear ah o U N H
  clear c0 c1 c2 c3 c4 cf
  obtain⟨c0,c1,c2,c3,c4,cf⟩:=zk HX.out
  have aj:=(Array.getElem?_eq_some_iff.1 HX.out).1
  by_cases z:j<m.ex.length
  ·have aF:(j:Int)<(m.ex.length:Int):=by omega
   obtain⟨g,hg,bw,x0,x1,x2,x3,x4,x5⟩:=HO.out.expr z
   rw[hg] at c4
   clear hg
   have av:=zc (zdf z)
   obtain⟨x,al⟩: ∃x,m.ex.getD j zf=x:=⟨_,rfl⟩
   rw[al] at x0 x1 x2 x3 x4 x5
   have I:Hid (m.ex[j]=x):=av.out.symm.trans al
   clear al av
   obtain⟨J,D⟩: ∃J,J=j+1:=⟨_,rfl⟩
   have ej:(j:Int)+1=(J:Int):=by omega
   have M:=zc D
   clear D
   have X:Hid (Below wr.heap.size wr (wr.alloc (.cells #[.int .i64 x.kind,.int .i64 x.num,.string x.name,.string x.field,.int .i64 x.l,.int .i64 x.r] 108))):=(Below.refl _ _).alloc (Nat.le_refl _) _
   go_wp2_with fail
   refine (zhP x.kind _).mono ?_
   rintro e w2 ⟨rfl,hw⟩
   rw[hw]
   clear hw w2
   cases ht:zT x.kind with
   |false=>
    go_wp2
    go_roundg (gk-1)
    case rel=>exact⟨J,rfl,by have:=M.out;omega,by rw[M.out];exact AH.out.next z (fun k=>by rw[I.out,ht] at k;cases k),by rw[M.out,show zai m.ex.length (cE m.ex (j+1))=zai m.ex.length (cE m.ex j) from zdq fun k _=>(zhM z (by rw[I.out];exact ht) k).symm];exact zez HN.out X.out,HO.out.later X.out,(X.out.block _ aj).trans HX.out,L.out.trans (X.out.mono L.out.size)⟩
    case measure=>omega
   |true=>
    by_cases a1:x.l<0
    ·have Z:decide (x.l<0)=true:=decide_eq_true a1
     go_wp2
     go_ret
     exact⟨zcq (fun (t:Tree m)=>absurd t.ahead (AheadTo.not z (by rw[I.out];exact ht) (by rw[I.out];omega))),L.out.trans (X.out.mono L.out.size)⟩
    have Z:decide (x.l<0)=false:=decide_eq_false a1
    by_cases a2:(j:Int)≤x.l
    ·have aa:decide ((j:Int)≤x.l)=true:=decide_eq_true a2
     go_wp2
     go_ret
     exact⟨zcq (fun (t:Tree m)=>absurd t.ahead (AheadTo.not z (by rw[I.out];exact ht) (by rw[I.out];omega))),L.out.trans (X.out.mono L.out.size)⟩
    have aa:decide ((j:Int)≤x.l)=false:=decide_eq_false a2
    by_cases a3:x.r<0
    ·have aB:decide (x.r<0)=true:=decide_eq_true a3
     go_wp2
     go_ret
     exact⟨zcq (fun (t:Tree m)=>absurd t.ahead (AheadTo.not z (by rw[I.out];exact ht) (by rw[I.out];omega))),L.out.trans (X.out.mono L.out.size)⟩
    have aB:decide (x.r<0)=false:=decide_eq_false a3
    by_cases a4:(j:Int)≤x.r
    ·have aw:decide ((j:Int)≤x.r)=true:=decide_eq_true a4
     go_wp2
     go_ret
     exact⟨zcq (fun (t:Tree m)=>absurd t.ahead (AheadTo.not z (by rw[I.out];exact ht) (by rw[I.out];omega))),L.out.trans (X.out.mono L.out.size)⟩
    have aw:decide ((j:Int)≤x.r)=false:=decide_eq_false a4
    go_wp2_with fail
    obtain⟨q,ae⟩: ∃q:Nat,x.l=(q:Int):=⟨x.l.toNat,by omega⟩
    obtain⟨A,ad⟩: ∃A:Nat,x.r=(A:Int):=⟨x.r.toNat,by omega⟩
    have bu:q<m.ex.length:=by omega
    have bg:A<m.ex.length:=by omega
    have aZ:(q:Int)<(m.ex.length:Int):=by omega
    have a5:(A:Int)<(m.ex.length:Int):=by omega
    have aR:Hid (AheadTo m.ex (j+1)):=AH.out.next z (fun _=>by rw[I.out];omega)
    have HU:Hid (∀k:Nat,za9 (za9 (cE m.ex j) q) A k=cE m.ex (j+1) k):=fun k=>by have:=zhL z (by rw[I.out];exact ht) (by rw[I.out];omega) (by rw[I.out];omega) k;rw[I.out,ae,ad] at this;exact this
    have aD:=zfh (m.ex.take j)
    have a9:(m.ex.take j).length≤4294967296:=by rw[List.length_take];omega
    have bt:=(zgc HN.out).2
    refine zah (R:=fun W=>W.heap[wr.heap.size]? =some (.cells #[.int .i64 x.kind,.int .i64 x.num,.string x.name,.string x.field,.int .i64 (q:Int),.int .i64 (A:Int)] 108 (0,0))∧W.ownsRow (w.heap.size+1) 3 1 (.slice (some ⟨w.heap.size+1,0,none⟩) m.ex.length m.ex.length) m.ex.length (zai m.ex.length (cE m.ex j))∧OwnMd W n S m∧W.heap[w.heap.size]? =some (.cells #[.slice S.rq.a m.rq.length S.rq.cap,.slice S.im.a m.im.length S.im.cap,.slice S.ep.a m.ep.length S.ep.cap,.slice S.st.a m.st.length S.st.cap,.slice S.ex.a m.ex.length S.ex.cap] 28 (0,0))∧Below w.heap.size w W) ⟨by have:=heap_alloc_new wr (.cells #[.int .i64 x.kind,.int .i64 x.num,.string x.name,.string x.field,.int .i64 x.l,.int .i64 x.r] 108);rw[ae,ad] at this;rw[ae,ad];exact this,zez HN.out X.out,HO.out.later X.out,(X.out.block _ aj).trans HX.out,L.out.trans (X.out.mono L.out.size)⟩ ?_
    have bi:=zc ae
    have bo:=zc ad
    clear ae ad Z aa aB aw a1 a2 a3 a4
    rintro W ⟨xb,o,U,N,H⟩
    have bm:=zc xb
    have bl:=zc o
    have bj:=zc U
    have bf:=zc N
    have bk:=zc H
    obtain⟨s0,s1,s2,s3,s4,s5,sf⟩:=zu xb
    obtain⟨va,af⟩: ∃v,(cE m.ex j) q=v:=⟨_,rfl⟩
    have ea:=zdQ o (k:=q) (by omega)
    have ef:=o.frozenAt
    rw[af] at ea
    have a6:va≤17179869184:=by rw[←af];have:=aD (q:Int);unfold cE;omega
    obtain⟨ua,aC⟩: ∃u,u=va+1:=⟨_,rfl⟩
    have bp:(va:Int)+1=(ua:Int):=by omega
    have a7:IntKind.i64.wrap (ua:Int)=(ua:Int):=IntWalk.i64_in _ ⟨by omega,by omega⟩
    have aX:Hid ((W.setCell ⟨w.heap.size+1,q,none⟩ (.int .i64 (ua:Int))).ownsRow (w.heap.size+1) 3 1 (.slice (some ⟨w.heap.size+1,0,none⟩) m.ex.length m.ex.length) m.ex.length (zai m.ex.length (za9 (cE m.ex j) q))):=zfk o q ua (by rw[aC,af])
    have aK:Hid (OwnMd (W.setCell ⟨w.heap.size+1,q,none⟩ (.int .i64 (ua:Int))) n S m):=zfl U (zfn o)
    have aL:Hid ((W.setCell ⟨w.heap.size+1,q,none⟩ (.int .i64 (ua:Int))).heap[w.heap.size]? =some (.cells #[.slice S.rq.a m.rq.length S.rq.cap,.slice S.im.a m.im.length S.im.cap,.slice S.ep.a m.ep.length S.ep.cap,.slice S.st.a m.st.length S.st.cap,.slice S.ex.a m.ex.length S.ex.cap] 28 (0,0))):=(zp (by omega)).trans N
    have aU:Hid (Below w.heap.size w (W.setCell ⟨w.heap.size+1,q,none⟩ (.int .i64 (ua:Int)))):=H.setCell (Nat.le_succ _) _
    have aV:Hid ((W.setCell ⟨w.heap.size+1,q,none⟩ (.int .i64 (ua:Int))).heap[wr.heap.size]? =some (.cells #[.int .i64 x.kind,.int .i64 x.num,.string x.name,.string x.field,.int .i64 (q:Int),.int .i64 (A:Int)] 108 (0,0))):=(zp (by omega)).trans xb
    clear xb o U N H af aC
    go_region
    clear s0 s1 s2 s3 s4 s5 sf ef ea
    go_wp2_with fail
    refine zah (R:=fun W=>W.heap[wr.heap.size]? =some (.cells #[.int .i64 x.kind,.int .i64 x.num,.string x.name,.string x.field,.int .i64 (q:Int),.int .i64 (A:Int)] 108 (0,0))∧W.ownsRow (w.heap.size+1) 3 1 (.slice (some ⟨w.heap.size+1,0,none⟩) m.ex.length m.ex.length) m.ex.length (zai m.ex.length (za9 (cE m.ex j) q))∧OwnMd W n S m∧W.heap[w.heap.size]? =some (.cells #[.slice S.rq.a m.rq.length S.rq.cap,.slice S.im.a m.im.length S.im.cap,.slice S.ep.a m.ep.length S.ep.cap,.slice S.st.a m.st.length S.st.cap,.slice S.ex.a m.ex.length S.ex.cap] 28 (0,0))∧Below w.heap.size w W) ⟨aV.out,aX.out,aK.out.drewI,aL.out,aU.out.drew⟩ ?_
    rintro V ⟨xb,o,U,N,H⟩
    have ba:=zc xb
    have be:=zc o
    have bn:=zc U
    have bs:=zc N
    have br:=zc H
    obtain⟨s0,s1,s2,s3,s4,s5,sf⟩:=zu xb
    obtain⟨vb,ab⟩: ∃v,(za9 (cE m.ex j) q) A=v:=⟨_,rfl⟩
    have eb:=zdQ o (k:=A) (by omega)
    have ef:=o.frozenAt
    rw[ab] at eb
    have a8:vb≤17179869184:=by rw[←ab];have:=aD (A:Int);unfold za9 cE;split<;>omega
    obtain⟨ub,am⟩: ∃u,u=vb+1:=⟨_,rfl⟩
    have bv:(vb:Int)+1=(ub:Int):=by omega
    have a0:IntKind.i64.wrap (ub:Int)=(ub:Int):=IntWalk.i64_in _ ⟨by omega,by omega⟩
    have aO:Hid ((V.setCell ⟨w.heap.size+1,A,none⟩ (.int .i64 (ub:Int))).ownsRow (w.heap.size+1) 3 1 (.slice (some ⟨w.heap.size+1,0,none⟩) m.ex.length m.ex.length) m.ex.length (zai m.ex.length (za9 (za9 (cE m.ex j) q) A))):=zfk o A ub (by rw[am,ab])
    have aP:Hid (OwnMd (V.setCell ⟨w.heap.size+1,A,none⟩ (.int .i64 (ub:Int))) n S m):=zfl U (zfn o)
    have aM:Hid ((V.setCell ⟨w.heap.size+1,A,none⟩ (.int .i64 (ub:Int))).heap[w.heap.size]? =some (.cells #[.slice S.rq.a m.rq.length S.rq.cap,.slice S.im.a m.im.length S.im.cap,.slice S.ep.a m.ep.length S.ep.cap,.slice S.st.a m.st.length S.st.cap,.slice S.ex.a m.ex.length S.ex.cap] 28 (0,0))):=(zp (by omega)).trans N
    have aS:Hid (Below w.heap.size w (V.setCell ⟨w.heap.size+1,A,none⟩ (.int .i64 (ub:Int)))):=H.setCell (Nat.le_succ _) _
    have bh:Hid ((V.setCell ⟨w.heap.size+1,A,none⟩ (.int .i64 (ub:Int))).heap[wr.heap.size]? =some (.cells #[.int .i64 x.kind,.int .i64 x.num,.string x.name,.string x.field,.int .i64 (q:Int),.int .i64 (A:Int)] 108 (0,0))):=(zp (by omega)).trans xb
    clear xb o U N H ab am
    go_region
    clear s0 s1 s2 s3 s4 s5 sf ef eb
    go_wp2
    go_roundg (gk-1)
    case rel=>exact⟨J,rfl,by have:=M.out;omega,by rw[M.out];exact aR.out,by rw[M.out,←zdq fun k _=>HU.out k];exact aO.out,aP.out.drewI,aM.out,aS.out.drew⟩
    case measure=>omega
  ·have aF: ¬(j:Int)<(m.ex.length:Int):=by omega
   obtain rfl:j=m.ex.length:=by omega
   have HA:=zc AH.out.all
   have HC:Hid (wr.ownsRow (w.heap.size+1) 3 1 (.slice (some ⟨w.heap.size+1,0,none⟩) m.ex.length m.ex.length) m.ex.length (zai m.ex.length (cS m 0))):=by show World.ownsRow _ _ _ _ _ _ _;rw[show zai m.ex.length (cS m 0)=zai m.ex.length (cE m.ex m.ex.length) from zdq fun k _=>by simp[cE,cS,zaB]];exact HN.out
   go_wp2
   go_loopg [6] m.st.length (fun k i wr=>∃j:Nat,i= .int .i64 j∧j+k=m.st.length∧(∀s∈m.st.take j,0≤s.expr∧s.expr<(m.ex.length:Int))∧wr.ownsRow (w.heap.size+1) 3 1 (.slice (some ⟨w.heap.size+1,0,none⟩) m.ex.length m.ex.length) m.ex.length (zai m.ex.length (cS m j))∧OwnMd wr n S m∧wr.heap[w.heap.size]? =some (.cells #[.slice S.rq.a m.rq.length S.rq.cap,.slice S.im.a m.im.length S.im.cap,.slice S.ep.a m.ep.length S.ep.cap,.slice S.st.a m.st.length S.st.cap,.slice S.ex.a m.ex.length S.ex.cap] 28 (0,0))∧Below w.heap.size w wr)
   case atStart=>exact⟨0,rfl,by omega,(fun s hs=>by simp at hs),HC.out,HO.out,HX.out,L.out⟩
   case round=>
    obtain⟨j,rfl,bc,ah,o,U,N,H⟩:=hrel
    have AS:=zc ah
    have ac:=zc o
    have ax:=zc U
    have az:=zc N
    have ag:=zc H
    clear ah o U N H c0 c1 c2 c3 c4 cf
    obtain⟨c0,c1,c2,c3,c4,cf⟩:=zk az.out
    by_cases E:j<m.st.length
    ·have ap:(j:Int)<(m.st.length:Int):=by omega
     obtain⟨s,ar⟩: ∃s,m.st[j]? =some s:=⟨_,List.getElem?_eq_getElem E⟩
     obtain⟨g,hg,aG⟩:=OwnR.elem (f:=smL) (m:=3) (fun _=>rfl) ax.out.st ar
     have k2:=aG 2 (by omega)
     simp only[smL,List.getElem?_cons_zero,List.getElem?_cons_succ] at k2
     rw[hg] at c3
     obtain⟨_,ak⟩:=List.getElem?_eq_some_iff.1 ar
     have HS:Hid (m.st[j]=s):=ak
     clear hg aG ar ak
     obtain⟨J,D⟩: ∃J,J=j+1:=⟨_,rfl⟩
     have ej:(j:Int)+1=(J:Int):=by omega
     have M:=zc D
     clear D
     by_cases a1:s.expr<0
     ·have Z:decide (s.expr<0)=true:=decide_eq_true a1
      go_wp2
      go_ret
      exact⟨zcq (fun (t:Tree m)=>by have:=t.stm _ (List.getElem_mem E);rw[HS.out] at this;omega),ag.out⟩
     have Z:decide (s.expr<0)=false:=decide_eq_false a1
     by_cases a2:(m.ex.length:Int)≤s.expr
     ·have aa:decide ((m.ex.length:Int)≤s.expr)=true:=decide_eq_true a2
      go_wp2
      go_ret
      exact⟨zcq (fun (t:Tree m)=>by have:=t.stm _ (List.getElem_mem E);rw[HS.out] at this;omega),ag.out⟩
     have aa:decide ((m.ex.length:Int)≤s.expr)=false:=decide_eq_false a2
     obtain⟨K,ao⟩: ∃K:Nat,s.expr=(K:Int):=⟨s.expr.toNat,by omega⟩
     have aI:K<m.ex.length:=by omega
     have aY:(K:Int)<(m.ex.length:Int):=by omega
     have an:Hid (∀s∈m.st.take (j+1),0≤s.expr∧s.expr<(m.ex.length:Int)):=by
      intro y hy
      rw[List.take_succ_eq_append_getElem E,List.mem_append] at hy
      rcases hy with hy|hy
      ·exact AS.out y hy
      ·simp only[List.mem_singleton] at hy
       rw[hy,HS.out]
       omega
     have HU:Hid (∀k:Nat,za9 (cS m j) K k=cS m (j+1) k):=fun k=>by have:=zhN (ex:=m.ex) E (by rw[HS.out];omega) k;rw[HS.out,ao] at this;exact this
     rw[ao] at k2 a1 a2 Z aa
     obtain⟨v,hv⟩: ∃v,cS m j K=v:=⟨_,rfl⟩
     have ea:=zdQ ac.out aI
     have ef:=ac.out.frozenAt
     rw[hv] at ea
     have ab:v≤17179869184:=by rw[←hv];unfold cS;have:=zfh m.ex (K:Int);have:=zhK (m.st.take j) (K:Int);rw[List.length_take] at this;omega
     obtain⟨u,hu⟩: ∃u,u=v+1:=⟨_,rfl⟩
     have ev:(v:Int)+1=(u:Int):=by omega
     have am:u≤17179869185:=by omega
     have NN:Hid ((wr.setCell ⟨w.heap.size+1,K,none⟩ (.int .i64 (u:Int))).ownsRow (w.heap.size+1) 3 1 (.slice (some ⟨w.heap.size+1,0,none⟩) m.ex.length m.ex.length) m.ex.length (zai m.ex.length (za9 (cS m j) K))):=zfk ac.out K u (by rw[hu,hv])
     have NO:Hid (OwnMd (wr.setCell ⟨w.heap.size+1,K,none⟩ (.int .i64 (u:Int))) n S m):=zfl ax.out (zfn ac.out)
     have NX:Hid ((wr.setCell ⟨w.heap.size+1,K,none⟩ (.int .i64 (u:Int))).heap[w.heap.size]? =some (.cells #[.slice S.rq.a m.rq.length S.rq.cap,.slice S.im.a m.im.length S.im.cap,.slice S.ep.a m.ep.length S.ep.cap,.slice S.st.a m.st.length S.st.cap,.slice S.ex.a m.ex.length S.ex.cap] 28 (0,0))):=(zp (by omega)).trans az.out
     have NB:Hid (Below w.heap.size w (wr.setCell ⟨w.heap.size+1,K,none⟩ (.int .i64 (u:Int)))):=ag.out.setCell (Nat.le_succ _) _
     clear ao hv hu
     go_wp2
     go_roundg (gk-1)
     case rel=>exact⟨J,rfl,by have:=M.out;omega,by rw[M.out];exact an.out,by rw[M.out,←zdq fun k _=>HU.out k];exact NN.out,NO.out,NX.out,NB.out⟩
     case measure=>omega
    ·have ap: ¬(j:Int)<(m.st.length:Int):=by omega
     obtain rfl:j=m.st.length:=by omega
     have an:Hid (∀s∈m.st,0≤s.expr∧s.expr<(m.ex.length:Int)):=by have:=AS.out;rw[List.take_length] at this;exact this
     go_wp2
     go_loopg [8] m.ex.length (fun k i wr=>∃j:Nat,i= .int .i64 j∧j+k=m.ex.length∧(∀k,k<j→cS m m.st.length k=1)∧wr.ownsRow (w.heap.size+1) 3 1 (.slice (some ⟨w.heap.size+1,0,none⟩) m.ex.length m.ex.length) m.ex.length (zai m.ex.length (cS m m.st.length))∧Below w.heap.size w wr)
     case atStart=>exact⟨0,rfl,by omega,fun k hk=>absurd hk (Nat.not_lt_zero k),ac.out,ag.out⟩
     case round=>
      obtain⟨j,rfl,bq,ah,o,H⟩:=hrel
      have AC:=zc ah
      have aA:=zc o
      have au:=zc H
      clear ah o H c0 c1 c2 c3 c4 cf
      by_cases ai:j<m.ex.length
      ·have aq:(j:Int)<(m.ex.length:Int):=by omega
       obtain⟨v,hv⟩: ∃v,cS m m.st.length j=v:=⟨_,rfl⟩
       have ea:=zdQ aA.out ai
       rw[hv] at ea
       have HV:=zc hv
       clear hv
       obtain⟨J,D⟩: ∃J,J=j+1:=⟨_,rfl⟩
       have ej:(j:Int)+1=(J:Int):=by omega
       have M:=zc D
       clear D
       by_cases aH:v=1
       ·subst aH
        go_wp2
        go_roundg (gk-1)
        case rel=>exact⟨J,rfl,by have:=M.out;omega,(fun k hk=>(Nat.lt_or_eq_of_le (show k≤j by have:=M.out;omega)).elim (AC.out k) (fun e=>by rw[e];exact HV.out)),aA.out,au.out⟩
        case measure=>omega
       ·have dv:((v:Int) !=1)=true:=by rw[bne_iff_ne];omega
        go_wp2
        go_ret
        exact⟨zcq (fun (t:Tree m)=>absurd (by have:=t.once j ai;have h2:=HV.out;unfold cS at h2;rw[List.take_length] at h2;omega) aH),au.out⟩
      ·have aq: ¬(j:Int)<(m.ex.length:Int):=by omega
       go_wp2
       go_ret
       exact⟨zhT ⟨HA.out,an.out,fun k hk=>by have:=AC.out k (by omega);unfold cS at this;rw[List.take_length] at this;exact this⟩,au.out⟩
theorem ze0 (k:Int) (w:World):Calls Tryz.prog 158 #[.int .i64 k] w fun e h=>e= .returned (.bool (k==6||k==7))∧h=w:=by
 cases n:(k==6) with
 |true=>
  go_enter Tryz.func158,Tryz.ntmps158
  go_wp2
  go_ret
  exact⟨rfl,rfl⟩
 |false=>
  cases j:(k==7) with
  |true=>
   go_enter Tryz.func158,Tryz.ntmps158
   go_wp2
   go_ret
   exact⟨rfl,rfl⟩
  |false=>
   go_enter Tryz.func158,Tryz.ntmps158
   go_wp2
   go_ret
   exact⟨rfl,rfl⟩
theorem zhU (k:Int) (w:World):Calls Tryz.prog 113 #[.int .i64 k] w fun e q=>e= .returned (.bool (zT k))∧q=w:=by
 cases h:(k==6||k==7) with
 |true=>
  have j:Hid (zT k=true):=by show _=_;rw[zT,h];rfl
  go_enter Tryz.func113,Tryz.ntmps113
  go_wp2_with fail
  refine (ze0 k _).mono ?_
  rintro e n ⟨rfl,rfl⟩
  rw[h]
  go_wp2
  go_ret
  exact⟨zl j.out.symm,rfl⟩
 |false=>
  cases o:(k==8) with
  |true=>
   have j:Hid (zT k=true):=by show _=_;rw[zT,h,o];rfl
   go_enter Tryz.func113,Tryz.ntmps113
   go_wp2_with fail
   refine (ze0 k _).mono ?_
   rintro e n ⟨rfl,rfl⟩
   rw[h]
   go_wp2
   go_ret
   exact⟨zl j.out.symm,rfl⟩
  |false=>
   have j:Hid (zT k=false):=by show _=_;rw[zT,h,o];rfl
   go_enter Tryz.func113,Tryz.ntmps113
   go_wp2_with fail
   refine (ze0 k _).mono ?_
   rintro e n ⟨rfl,rfl⟩
   rw[h]
   go_wp2
   go_ret
   exact⟨zl j.out.symm,rfl⟩
theorem zmf (k:Int) (w:World):Calls Tryz.prog 115 #[.int .i64 k] w fun e h=>e= .returned (.bool (k !=1))∧h=w:=by
 go_enter Tryz.func115,Tryz.ntmps115
 go_wp2
 go_ret
 exact⟨rfl,rfl⟩
theorem zhV {w:World} {b:Nat} {t:TypeId} {j:Value} (h:w.heap[b]? =some (.cells #[j] t (0,0))):w.cell? ⟨b,0,none⟩=some j∧∀i,w.frozen? ⟨b,i,none⟩=false:=by
 refine⟨?_,fun i=>?_⟩<;>simp[World.cell?,World.frozen?,h]
theorem zgd (i n:Int) (u:Value) (w:World) (h: ¬(0≤i∧i<n)):
  Calls Tryz.prog 112 #[.int .i64 i,.int .i64 n,u] w fun e j=>e= .returned (.bool false)∧j=w:=by
 by_cases q:i<0
 ·go_enter Tryz.func112,Tryz.ntmps112
  go_wp2
  go_ret
  exact⟨rfl,rfl⟩
 ·have o:n≤i:=by omega
  clear h
  go_enter Tryz.func112,Tryz.ntmps112
  go_wp2
  go_ret
  exact⟨rfl,rfl⟩
theorem zmg (i j z g D:Nat) (n:Int) (f:Nat→Nat) (w:World) (I:w.heap[D]? =some (.cells #[.slice (some ⟨g,0,none⟩) j j] 151 (0,0))) (h:w.ownsRow z 3 1 (.slice (some ⟨g,0,none⟩) j j) j (zai j f)) (K:f i≤17179869184) (O:i<j) (X:(i:Int)<n):
  Calls Tryz.prog 112 #[.int .i64 (i:Int),.int .i64 n,.pointer (some ⟨D,0,none⟩)] w fun e N=>e= .returned (.bool true)∧N=w.setCell ⟨g,i,none⟩ (.int .i64 (f i+1:Nat)):=by
 have Z: ¬(i:Int)<0:=by omega
 have Y: ¬n≤(i:Int):=by omega
 have L:(i:Int)<(j:Int):=by omega
 obtain⟨s0,V⟩:=zhV I
 obtain⟨E,o⟩: ∃v,f i=v:=⟨_,rfl⟩
 have J:=zdQ h (k:=i) (by omega)
 have U:=h.frozenAt
 rw[o] at J K
 rw[o]
 obtain⟨A,q⟩: ∃u,u=E+1:=⟨_,rfl⟩
 have M:(E:Int)+1=(A:Int):=by omega
 have H:IntKind.i64.wrap (A:Int)=(A:Int):=IntWalk.i64_in _ ⟨by omega,by omega⟩
 rw[←q]
 clear I h o q
 go_enter Tryz.func112,Tryz.ntmps112
 go_wp2
 go_ret
 exact⟨rfl,rfl⟩
def odd (n:Nat) (f:Nat→Nat) (j:Nat):Bool:=(List.range n).any fun k=>decide (j≤k)&&((f k:Int) !=1)
theorem zmh {n:Nat} {f:Nat→Nat} {j:Nat} (w:j<n):odd n f j=(((f j:Int) !=1)||odd n f (j+1)):=by
 rw[Bool.eq_iff_iff,Bool.or_eq_true]
 simp only[odd,List.any_eq_true,List.mem_range,Bool.and_eq_true,decide_eq_true_eq]
 constructor
 ·rintro⟨k,q,o,h⟩
  by_cases e:k=j
  ·exact .inl (e▸h)
  ·exact .inr ⟨k,q,by omega,h⟩
 ·rintro (h|⟨k,q,o,h⟩)
  ·exact⟨j,w,Nat.le_refl _,h⟩
  ·exact⟨k,q,by omega,h⟩
theorem zmi {n:Nat} (f:Nat→Nat) {j:Nat} (w:n≤j):odd n f j=false:=by
 rw[Bool.eq_false_iff]
 intro h
 simp only[odd,List.any_eq_true,List.mem_range,Bool.and_eq_true,decide_eq_true_eq] at h
 obtain⟨k,q,o,_⟩:=h
 omega
theorem zmj (z g n:Nat) (f:Nat→Nat) (w:World) (h:w.ownsRow z 3 1 (.slice (some ⟨g,0,none⟩) n n) n (zai n f)) (hl:n≤4294967296):
  Calls Tryz.prog 159 #[.slice (some ⟨g,0,none⟩) n n,.func (.func 115) #[] #[]] w fun e Z=>(∃v:Int,e= .returned (.int .i64 v)∧decide (0≤v)=odd n f 0)∧Below w.heap.size w Z:=by
 have X:=zc h
 clear h
 go_enter Tryz.func159,Tryz.ntmps159
 go_wp2
 go_loopg [8] (n+1) (fun k i wr=>∃j:Nat,i= .int .i64 j∧j+k=n+1∧odd n f j=odd n f 0∧Below w.heap.size w wr)
 case atStart=>exact⟨0,rfl,by omega,rfl,Below.refl _ _⟩
 case round=>
  obtain⟨j,rfl,hj,N,O⟩:=hrel
  have I:=zc N
  have E:=zc O
  clear N O
  by_cases A:j<n
  ·have q:(j:Int)<(n:Int):=by omega
   have V:=zdQ (zez X.out E.out) A
   have J:=zc (zmh (f:=f) A)
   obtain⟨v,H⟩: ∃v,f j=v:=⟨_,rfl⟩
   rw[H] at V
   have L:=zc H
   clear H
   obtain⟨D,o⟩: ∃D,D=j+1:=⟨_,rfl⟩
   have ej:(j:Int)+1=(D:Int):=by omega
   have U:=zc o
   clear o
   go_wp2_with fail
   refine (zmf (v:Int) _).mono ?_
   rintro e Y ⟨rfl,K⟩
   rw[K]
   clear K Y
   cases M:((v:Int) !=1) with
   |true=>
    go_wp2
    go_ret
    refine⟨⟨_,rfl,?_⟩,E.out⟩
    rw[←I.out,J.out,L.out,M]
    simp
   |false=>
    go_wp2
    go_roundg (gk-1)
    case rel=>
     refine⟨D,rfl,by have:=U.out;omega,?_,E.out⟩
     rw[←I.out,J.out,L.out,M,U.out]
     simp
    case measure=>omega
  ·have q: ¬(j:Int)<(n:Int):=by omega
   go_wp2
   go_ret
   refine⟨⟨_,rfl,?_⟩,E.out⟩
   rw[←I.out,zmi f (by omega)]
   rfl
theorem zmk (n g j:Nat) (f:Nat→Nat) (w:World) (h:w.ownsRow n 3 1 (.slice (some ⟨g,0,none⟩) j j) j (zai j f)) (E:j≤4294967296):
  Calls Tryz.prog 114 #[.slice (some ⟨g,0,none⟩) j j,.func (.func 115) #[] #[]] w fun e z=>e= .returned (.bool (odd j f 0))∧Below w.heap.size w z:=by
 have D:=zc h
 clear h
 go_enter Tryz.func114,Tryz.ntmps114
 go_wp2_with fail
 refine (zmj n g j f _ D.out E).mono ?_
 rintro e I ⟨⟨v,rfl,q⟩,o⟩
 have A:=zc q
 have H:=zc o
 clear q o
 go_wp2
 go_ret
 exact⟨zl A.out,H.out⟩
end Go.Proofs.YticdggnnpjachaaGreat
