/-
  What impl.walk answers: the walk.
  What impl.reachIn and impl.isInside answer: the walks.
-/
import Derived.Test.YtgcbmogmniahjaaGreatCAcSpecAcyclicToWalkMem
namespace Go.Proofs.YtgcbmogmniahjaaGreat
set_option maxRecDepth 1000000
set_option maxHeartbeats 6400000
open Go.RowKit Go.PlainAid Go.Sort
def zwT:Value→Nat| .slice _ n _=>n|_=>0
def zwU:Value→Nat| .slice (some a) _ _=>a.block|_=>0
theorem Tryz.infoNt:(Tryz.prog.info? 3).map (fun i=>(i.zero,i.size,i.bytes))=some (some (.int .i64 0),1,8):=by kernel_rfl
theorem zwV (base:Nat) (G:GS) (g:Gr) (N:Nat) (hm:N<g.ms.length) (w:World) (ho:GrOwn w base G g) (b5:g.ms.length≤8) (hl:g.ls.length≤1048576) (hr: ∀l∈g.ls,0≤l.frm∧l.frm<(g.ms.length:Int)∧0≤l.to∧l.to<(g.ms.length:Int)):
  Calls Tryz.prog 71 #[grD G g,.int .i64 (N:Int)] w fun e w'=>ziS w g.ms.length (zai g.ls g.ms.length (zay g.ms.length N)) e w':=by
 have HR:=zc (RowAt.of (f:=lkL) (m:=3) (fun _=>rfl) ho.ls)
 have HC:=zc hr
 have bb:Hid (zhj g.ls g.ms.length):=zc (fun l hl=>by have:=hr l hl;exact⟨by omega,by omega⟩)
 have HZ:Hid (∀l∈g.ls,0≤l.frm):=zc (fun l hl=>(hr l hl).1)
 clear ho hr
 obtain⟨i0,hi,bC,bK,bH⟩:=info_parts Tryz.infoBl
 obtain⟨j0,ji,bF,bM,bx⟩:=info_parts Tryz.infoNt
 unfold grD
 go_enter Tryz.func71,Tryz.ntmps71
 go_wp2
 obtain⟨U,ak⟩: ∃U,U=w.heap.size:=⟨_,rfl⟩
 rw[←ak]
 refine zx (R:=fun W=>Bk W U (grC G g) 32∧Below w.heap.size w W) (by rw[ak];exact⟨heap_alloc_new w _,zaB w _⟩) ?_
 rintro W0 ⟨hx,hb⟩
 have bX:w.heap.size≤U:=by omega
 clear ak
 have X0:=zc hx
 have ae:=zc hb
 have ai:U<W0.heap.size:=(Array.getElem?_eq_some_iff.1 hx).1
 clear hx hb
 refine zmV 0 (fun a' w'=>∃(I a gs af:Nat) (b:List Bool) (st:List Nat) (u3 u8 u9 aI bm aG aY bi a2 az a8 aA aE aJ bp aD aB a1 av bj bk br aw bq a0 bt aT aK ba bo aU a4 aX bf a5 aO bh a6 be a3 ax aF aH aR aM aq aS bv aZ aW bs aL bu aQ bn:Value),a'={tmps:=#[grD G g,.int .i64 (N:Int),.pointer (some ⟨U,0,none⟩),u3,.slice none 0 0,.slice (some ⟨I,0,none⟩) g.ms.length g.ms.length,.int .i64 (a:Int),.slice (some ⟨gs,0,none⟩) st.length af,u8,u9,aI,bm,aG,aY,bi,a2,az,a8,aA,aE,aJ,bp,aD,aB,a1,av,bj,bk,br,aw,bq,a0,bt,aT,aK,ba,bo,aU,a4,aX,bf,a5,aO,bh,a6,be,a3,ax,aF,aH,aR,aM,aq,aS,bv,aZ,aW,bs,aL,bu,aQ,bn],defers:=[]}∧Hid (WkP g.ls g.ms.length N a (b,st))∧Hid (WkW w w' G g U I gs af g.ms.length b st)) (fun a' w'=>(g.ms.length-zd0 w' (zwU (a'.tmps.getD 5 undef)) g.ms.length)+zwT (a'.tmps.getD 7 undef)) rfl ?_ ?_
 ·rintro a' wr ⟨I,a,gs,af,b,st,u3,u8,u9,aI,bm,aG,aY,bi,a2,az,a8,aA,aE,aJ,bp,aD,aB,a1,av,bj,bk,br,aw,bq,a0,bt,aT,aK,ba,bo,aU,a4,aX,bf,a5,aO,bh,a6,be,a3,ax,aF,aH,aR,aM,aq,aS,bv,aZ,aW,bs,aL,bu,aQ,bn,rfl,HP,J⟩
  clear X0 ae ai
  have ag:=HC.out
  obtain⟨c0,c1,c2,cf⟩:=zo J.out.r.x
  have bw:Hid (zd0 wr I g.ms.length=zE b):=zc (ziZ J.out.r.r)
  have KK:Hid (WkK g.ls g.ms.length N a (b,st) 0 (b,st)):=zc (WkK.first HP.out)
  clear HP
  go_wp2
  go_loopw [23,7] (fun i s wq=>∃(k L z:Nat) (A:List Bool) (q:List Nat),k≤g.ls.length∧i= .int .i64 k∧s= .slice (some ⟨L,0,none⟩) q.length z∧Hid (WkK g.ls g.ms.length N a (b,st) k (A,q))∧Hid (WkW w wq G g U I L z g.ms.length A q)) (fun i _ _=>(g.ls.length-intOf i).toNat)
  case atStart=>exact⟨0,gs,af,b,st,Nat.zero_le _,rfl,rfl,KK,J⟩
  case round=>
   clear KK J c0 c1 c2 cf
   obtain⟨k,L,z,A,q,hk,rfl,rfl,X,J⟩:=hrel
   by_cases ad:k<g.ls.length
   ·have bP:(k:Int)<(g.ls.length:Int):=by omega
    obtain⟨l,Z⟩: ∃l,g.ls[k]? =some l:=⟨_,List.getElem?_eq_getElem ad⟩
    obtain⟨y0,y1,y2,y3⟩:=HC.out l (List.mem_of_getElem? Z)
    obtain⟨bl,bU,bg,hc⟩:=(HR.out.later J.out.r.b).get Z
    have k0:=hc 0 _ rfl
    have k1:=hc 1 _ rfl
    have k2:=hc 2 _ rfl
    simp only[Nat.add_zero] at k0
    have HN:=zc (X.out.next bb.out HZ.out Z)
    obtain⟨V,al⟩: ∃V:Nat,l.frm=V:=⟨l.frm.toNat,by omega⟩
    obtain⟨H,aC⟩: ∃H:Nat,l.to=H:=⟨l.to.toNat,by omega⟩
    have bW:=J.out.r.r.len
    have bZ:H<g.ms.length:=by omega
    obtain⟨v,hv⟩: ∃v,A[H]? =some v:=⟨_,List.getElem?_eq_getElem (by omega)⟩
    have HS:Hid (zdz a (A,q) l=if V=a∧v=false then (A.set H true,q++[H]) else (A,q)):=by
     show zdz a (A,q) l=_
     unfold zdz
     rw[al,aC,Int.toNat_natCast]
     have e1:A.getD H true=v:=by rw[List.getD,hv];rfl
     show (if (V:Int)=(a:Int)∧A.getD H true=false then _ else _)=_
     rw[e1]
     congr 1
     simp only[Int.natCast_inj]
    have bI:=X.out.wk.cnt
    have ar:=zdN A
    rw[al] at k0
    rw[aC] at k2
    rw[bg]
    have ac:q.length≤8:=by have:=X.out.wk.cnt;have:=X.out.wk.len;simp only at*;omega
    clear X al bg hc y0 y1 y2 y3 Z bI ar ag
    obtain⟨W2,ab⟩: ∃W2,W2=wr.alloc (.cells #[.int .i64 (V:Int),.string l.spec,.int .i64 (H:Int)] 57):=⟨_,rfl⟩
    have aV:Below wr.heap.size wr W2:=by rw[ab];exact (Below.refl _ _).alloc (Nat.le_refl _) _
    have aj:=zc (J.out.later aV)
    have X2:Hid (W2.heap[wr.heap.size]? =some (.cells #[.int .i64 (V:Int),.string l.spec,.int .i64 (H:Int)] 57)):=by rw[ab];exact heap_alloc_new wr _
    clear aV
    have b1:=J.out.r.r.cell hv
    have bT:I<wr.heap.size:=J.out.r.r.at.2
    have f1:=J.out.r.r.free H
    have bN:wr.heap.size<W2.heap.size:=(Array.getElem?_eq_some_iff.1 X2.out).1
    have bS:(H:Int)<(g.ms.length:Int):=by omega
    by_cases ao:V=a
    ·subst ao
     cases v with
     |true=>
      have aa:Hid (zdz V (A,q) l=(A,q)):=by show _=_;rw[HS.out,if_neg (by simp)]
      clear HS
      go_wp2
      rw[←ab]
      go_roundw
      case rel=>exact⟨k+1,L,z,A,q,ad,by go_num,rfl,by rw[←aa.out];exact HN,aj⟩
      case measure=>simp[intOf];omega
     |false=>
      have aa:Hid (zdz V (A,q) l=(A.set H true,q++[H])):=by show _=_;rw[HS.out,if_pos ⟨rfl,rfl⟩]
      have bc:=zc (J.out.set H)
      have e3:((wr.setCell ⟨I,H,none⟩ (.bool true)).alloc (.cells #[.int .i64 (V:Int),.string l.spec,.int .i64 (H:Int)] 57)).heap.size=wr.heap.size+1:=by rw[zg,World.size_setCell]
      clear HS X2 aj ab J bN
      go_wp2_with (at_builtin;refine zwS ntE _ rfl _ _ 36 rfl w.heap.size 3 j0 _ 8 Tryz.underlying36 ji bF bM bx rfl (by decide) L q.length z q (by rfl) (by exact ((bc.out.later ((Below.refl _ _).alloc (Nat.le_refl _) _)).later ((Below.refl _ _).alloc (Nat.le_refl _) _)).s) (wr.heap.size+1) H (by rfl) (by have h:=heap_alloc_new ((wr.setCell ⟨I,H,none⟩ (.bool true)).alloc (.cells #[.int .i64 (V:Int),.string l.spec,.int .i64 (H:Int)] 57)) (.cells #[.int .i64 (H:Int)] 3);rw[e3] at h;exact h) (by omega) ?_;intro g4 a9 w4 bL bJ bO)
      have bA:=zc (((bc.out.later ((Below.refl _ _).alloc (Nat.le_refl _) _)).later ((Below.refl _ _).alloc (Nat.le_refl _) _)).grow bJ (st':=q++[H]) (by rw[List.length_append];exact bL))
      go_roundw
      case rel=>exact⟨k+1,g4,a9,A.set H true,q++[H],ad,by go_num,by rw[List.length_append];rfl,by rw[←aa.out];exact HN,bA⟩
      case measure=>simp[intOf];omega
    ·have b6:((V:Int)==(a:Int))=false:=beq_eq_false_iff_ne.2 (by omega)
     have aa:Hid (zdz a (A,q) l=(A,q)):=by show _=_;rw[HS.out,if_neg (fun k=>ao k.1)]
     clear HS
     go_wp2
     rw[←ab]
     go_roundw
     case rel=>exact⟨k+1,L,z,A,q,ad,by go_num,rfl,by rw[←aa.out];exact HN,aj⟩
     case measure=>simp[intOf];omega
   ·obtain rfl:k=g.ls.length:=by omega
    have a7:=X.out.wk.cnt
    have bE:=X.out.wk.len
    have ar:=zdN A
    have bR:=zdN b
    have ac:q.length≤8:=by simp only at*;omega
    rcases List.eq_nil_or_concat q with rfl|⟨M,x,rfl⟩
    ·have HE:=zc (X.out.over hm bb.out rfl)
     go_wp2
     simp only[Exit.jump]
     go_ret
     refine⟨I,rfl,?_,J.out.r.b⟩
     rw[←show A=_ from HE.out]
     exact J.out.r.r
    ·rw[List.concat_eq_append] at X J ac a7 ⊢
     have bB:=zc (X.out.pop rfl)
     have HM:=zc X.out.meas
     obtain⟨ln,Y⟩: ∃ln,ln=M.length:=⟨_,rfl⟩
     have bz:(M++[x]).length=ln+1:=by rw[List.length_append,Y];rfl
     have bD:Hid (OwnE ntE wr w.heap.size 3 L ln z M):=zc (by
      have h:=J.out.s.cut (k:=ln) (by omega)
      rw[Y,List.take_left] at h
      rw[Y]
      exact h)
     have hx:wr.cell? ⟨L,ln,none⟩=some (.int .i64 (x:Int)):=by
      obtain⟨b4,bQ,he,hc⟩:=J.out.s.row.get (j:=ln) (x:=x) (by rw[Y,List.getElem?_append_right (Nat.le_refl _),Nat.sub_self];rfl)
      cases he
      have h:=hc 0 _ rfl
      simpa [ntE] using h
     have ay:=J.out.s.cap
     have aP:=zc J.out.r
     have bY:Hid (zd0 wr I g.ms.length=zE A):=zc (ziZ J.out.r.r)
     rw[bz] at ay ac ⊢
     clear J X a7 bE
     subst Y
     have bV:(M.length:Int)≤(z:Int):=by omega
     have Z:M.length<M.length+1:=by omega
     have aN:Below wr.heap.size wr wr.drew:=(Below.refl _ _).drew
     have W9:Hid (WkW w wr.drew G g U I L z g.ms.length A M):=zc (WkW.later ⟨aP.out,bD.out⟩ aN)
     have M9:Hid (zd0 wr.drew I g.ms.length=zE A):=zc (ziZ W9.out.r.r)
     clear aN
     go_wp2
     go_region
     all_goals
      go_wp2
      go_step3
      refine⟨rfl,⟨I,x,L,z,A,M,_,_,_,_,_,_,_,_,_,_,_,_,_,_,_,_,_,_,_,_,_,_,_,_,_,_,_,_,_,_,_,_,_,_,_,_,_,_,_,_,_,_,_,_,_,_,_,_,_,_,_,_,_,_,_,rfl,bB,W9⟩,?_⟩
      have q1:=HM.out
      have q2:=M9.out
      have q3:=bw.out
      simp only[List.length_append,List.length_singleton] at q1
      have q4:=aP.out.r.len
      show (g.ms.length-zd0 wr.drew I g.ms.length)+M.length<(g.ms.length-zd0 _ I g.ms.length)+st.length
      rw[q2,q3]
      omega
 ·intro ap
  obtain⟨c0,c1,c2,cf⟩:=zo X0.out
  go_wp2_with (first|(at_make;refine wpList_make_full W0 rfl _ _ 58 rfl w.heap.size 4 i0 _ 1 Tryz.underlying58 hi bC bK .i64 .i64 _ _ g.ms.length (by rfl) (by rfl) rfl rfl (by rw[bH];omega) (by unfold maxLen;omega) ae.out.size ?_))
  intro w1 O ah
  have an:Below W0.heap.size W0 w1:=(Below.refl _ _).grown ah (Nat.le_refl _) (fun k h=>by cases h)
  obtain⟨I,am⟩: ∃I,I=W0.heap.size:=⟨_,rfl⟩
  have RR:Hid (RchW w w1 G g U I g.ms.length (List.replicate g.ms.length false)):=by
   refine⟨X0.out.later an,?_,by omega,zaf ae.out an⟩
   unfold OwnBl OwnR
   rw[toList_madeCells_one] at O
   rw[am,List.map_replicate]
   exact O
  rw[←am]
  clear O ah an am X0 ae ai c0 c1 c2 cf
  obtain⟨c0,c1,c2,cf⟩:=zo RR.out.x
  have f0:=RR.out.r.free N
  have b0:=RR.out.r.cell (j:=N) (v:=false) (by rw[List.getElem?_replicate,if_pos (by omega)])
  have bG:(N:Int)<(g.ms.length:Int):=by omega
  have R1:=zc (RR.out.set N)
  go_upto_region 3 with fail
  obtain⟨w2,au⟩: ∃w2,w2=w1.setCell ⟨I,N,none⟩ (.bool true):=⟨_,rfl⟩
  rw[←au] at R1 ⊢
  clear au RR f0 b0 c0 c1 c2 cf bG
  change Hid (RchW w w2 G g U I g.ms.length (zay g.ms.length N)) at R1
  have HP:Hid (WkP g.ls g.ms.length N N (zay g.ms.length N,[])):=zc (WkP.start hm)
  have W1:Hid (WkW w (w2.alloc (.cells #[] 3)) G g U I w2.heap.size 0 g.ms.length (zay g.ms.length N) []):=zc (by
   have hb:Below w2.heap.size w2 (w2.alloc (.cells #[] 3)):=(Below.refl _ _).alloc (Nat.le_refl _) _
   exact⟨⟨R1.out.x.later hb,R1.out.r.later hb,R1.out.ne,R1.out.b.trans (hb.mono R1.out.b.size)⟩,(OwnE.nil ntE w2 3).low R1.out.b.size⟩)
  go_wp2
  go_step3
  rename_i K hK
  refine hK _ _ (ap _ _ ⟨I,N,w2.heap.size,0,zay g.ms.length N,[],_,_,_,_,_,_,_,_,_,_,_,_,_,_,_,_,_,_,_,_,_,_,_,_,_,_,_,_,_,_,_,_,_,_,_,_,_,_,_,_,_,_,_,_,_,_,_,_,_,_,_,_,_,_,_,rfl,HP,W1⟩)
theorem Tryz.infoBls:(Tryz.prog.info? 58).map (fun i=>(i.zero,i.size,i.bytes))=some (some (.slice none 0 0),1,24):=by kernel_rfl
def reV (n:Nat) (gs:Nat→Nat) (k j:Nat):Value:=if j<k then .slice (some ⟨gs j,0,none⟩) n n else .slice none 0 0
def reL (n:Nat) (gs:Nat→Nat) (k:Nat):List Value:=(List.range n).map (reV n gs k)
theorem zwW {n k:Nat} (w:Nat→Nat) (z:k<n) (q:Nat):(reL n w k).set k (.slice (some ⟨q,0,none⟩) n n)=reL n (fun j=>if j=k then q else w j) (k+1):=by
 apply List.ext_getElem?
 intro i
 rw[List.getElem?_set]
 simp only[reL,List.getElem?_map,List.length_map,List.length_range]
 by_cases H:i<n
 ·rw[List.getElem?_range H]
  by_cases e:k=i
  ·subst e
   simp[reV,z]
  ·simp only[e,if_false,Option.map_some,reV]
   have A:(i<k+1)=(i<k):=by apply propext;omega
   simp only[A,show ¬i=k from fun h=>e h.symm,if_false]
 ·rw[List.getElem?_eq_none (by simp;omega)]
  by_cases e:k=i
  ·omega
  ·simp[e]
theorem zwX {W H:World} {base g n q:Nat} {e:TypeId} {size:Nat} {k:Nat} {xs:List Value} (h:W.ownsRow base e size (.slice (some ⟨g,0,none⟩) n q) k xs) (J:H.heap[g]? =W.heap[g]?):H.ownsRow base e size (.slice (some ⟨g,0,none⟩) n q) k xs:=by
 refine⟨h.1,?_⟩
 rcases h.2 with ⟨w,_⟩|⟨L,A,z,w,I,K,rest⟩
 ·simp at w
 ·simp only[Value.slice.injEq,Option.some.injEq,Addr.mk.injEq,and_true] at w
  obtain⟨rfl,rfl,rfl⟩:=w
  exact .inr ⟨g,q,z,rfl,I,J.trans K,rest⟩
structure ReW (w W:World) (G:GS) (g:Gr) (gx b:Nat) (gs:Nat→Nat) (k:Nat):Prop where
 x:Bk W gx (grC G g) 32
 row:W.ownsRow w.heap.size 58 1 (.slice (some ⟨b,0,none⟩) g.ms.length g.ms.length) g.ms.length (reL g.ms.length gs k)
 bl: ∀j,j<k→OwnBl W w.heap.size (gs j) g.ms.length (zai g.ls g.ms.length (zay g.ms.length j))
 bel:Below w.heap.size w W
theorem ReW.blk {w W:World} {G:GS} {g:Gr} {H b k:Nat} {I:Nat→Nat} (h:ReW w W G g H b I k):w.heap.size≤b∧∃q,W.heap[b]? =some (.cells q 58 (0,0)):=by
 rcases h.row.2 with ⟨z,_⟩|⟨L,A,q,z,J,K,_⟩
 ·simp at z
 ·simp only[Value.slice.injEq,Option.some.injEq,Addr.mk.injEq,and_true,true_and] at z
  obtain⟨rfl,_⟩:=z
  exact⟨J,q,K⟩
theorem ReW.later {w W H:World} {G:GS} {g:Gr} {A b k:Nat} {z:Nat→Nat} (h:ReW w W G g A b z k) (q:Below W.heap.size W H):ReW w H G g A b z k:=by
 obtain⟨_,I,K⟩:=h.blk
 exact⟨h.x.later q,zwX h.row (q.block b (Array.getElem?_eq_some_iff.1 K).1),fun j J=>(h.bl j J).later q,h.bel.trans (q.mono h.bel.size)⟩
theorem ReW.put {w W:World} {G:GS} {g:Gr} {H b k z:Nat} {J:Nat→Nat} (h:ReW w W G g H b J k) (Y:k<g.ms.length) (Z:OwnBl W w.heap.size z g.ms.length (zai g.ls g.ms.length (zay g.ms.length k))):
  ReW w (W.setCell ⟨b,k,none⟩ (.slice (some ⟨z,0,none⟩) g.ms.length g.ms.length)) G g H b (fun j=>if j=k then z else J j) (k+1):=by
 obtain⟨hb,X,U⟩:=h.blk
 have V:W.heap[H]? =_:=h.x
 have I:H≠b:=fun e=>by
  rw[e,U] at V
  exact absurd (Option.some.inj V) (by simp)
 have L: ∀{q:Nat} {l:List Bool},OwnBl W w.heap.size q g.ms.length l→OwnBl (W.setCell ⟨b,k,none⟩ (.slice (some ⟨z,0,none⟩) g.ms.length g.ms.length)) w.heap.size q g.ms.length l:=fun {q l} hq=>by
  refine OwnR.keep hq fun j N=>?_
  have e:j=q:=by simpa [Rw.blk,Value.ownBlock] using N.symm
  rw[e]
  refine heap_setCell_other W ⟨b,k,none⟩ q _ fun K=>?_
  obtain⟨M,A⟩:=hq.block
  have K:q=b:=K
  rw[K,U] at A
  exact absurd (Option.some.inj A) (by simp)
 have O:=(h.row.stored k (.slice (some ⟨z,0,none⟩) g.ms.length g.ms.length)).1
 rw[zwW J Y] at O
 refine⟨(heap_setCell_other W ⟨b,k,none⟩ H _ I).trans h.x,O,fun j N=>?_,h.bel.setCell (p:=⟨b,k,none⟩) hb _⟩
 by_cases e:j=k
 ·subst e
  simp only[if_true]
  exact L Z
 ·simp only[e,if_false]
  exact L (h.bl j (by omega))
theorem ReW.cell {w W:World} {G:GS} {g:Gr} {A b k j:Nat} {q:Nat→Nat} (h:ReW w W G g A b q k) (z:j<g.ms.length):W.cell? ⟨b,j,none⟩=some (reV g.ms.length q k j):=by
 rw[h.row.cellAt j (by omega)]
 simp[reL,List.getElem?_range z]
theorem ReW.free {w W:World} {G:GS} {g:Gr} {z b k j:Nat} {q:Nat→Nat} (h:ReW w W G g z b q k):W.frozen? ⟨b,j,none⟩=false:=h.row.frozenAt j
def ReAt (W:World) (g:Gr) (b:Nat) (gs:Nat→Nat):Prop:=b<W.heap.size∧∀j,j<g.ms.length→W.cell? ⟨b,j,none⟩=some (.slice (some ⟨gs j,0,none⟩) g.ms.length g.ms.length)∧gs j<W.heap.size∧∀i,i<g.ms.length→W.cell? ⟨gs j,i,none⟩=some (.bool (zbB g j i))
theorem ReAt.later {W A:World} {g:Gr} {b:Nat} {w:Nat→Nat} (h:ReAt W g b w) (q:Below W.heap.size W A):ReAt A g b w:=
 ⟨Nat.lt_of_lt_of_le h.1 q.size,fun j H=>by
  obtain⟨I,z,J⟩:=h.2 j H
  exact⟨(q.cell (p:=⟨b,j,none⟩) h.1).trans I,Nat.lt_of_lt_of_le z q.size,fun i K=>(q.cell (p:=⟨w j,i,none⟩) z).trans (J i K)⟩⟩
theorem zwY (base:Nat) (G:GS) (g:Gr) (w:World) (ho:GrOwn w base G g) (ad:g.ms.length≤8) (hl:g.ls.length≤1048576) (hr: ∀l∈g.ls,0≤l.frm∧l.frm<(g.ms.length:Int)∧0≤l.to∧l.to<(g.ms.length:Int)):
  Calls Tryz.prog 42 #[grD G g] w fun e w'=>∃b U,e= .returned (.slice (some ⟨b,0,none⟩) g.ms.length g.ms.length)∧ReAt w' g b U∧Below w.heap.size w w':=by
 have HO:=zc ho
 have HC:=zc hr
 clear ho hr
 obtain⟨i0,J,aa,ab,ac⟩:=info_parts Tryz.infoBls
 unfold grD
 go_enter Tryz.func42,Tryz.ntmps42
 go_upto_region 1 with fail
 obtain⟨V,M⟩: ∃V,V=w.heap.size:=⟨_,rfl⟩
 rw[←M]
 refine zx (R:=fun W=>Bk W V (grC G g) 32∧Below w.heap.size w W) (by rw[M];exact⟨heap_alloc_new w _,zaB w _⟩) ?_
 rintro Z ⟨hx,hb⟩
 clear M
 have X0:=zc hx
 have I:=zc hb
 clear hx hb
 obtain⟨c0,c1,c2,cf⟩:=zo X0.out
 go_wp2_with (first|(at_make;refine wpList_make_full Z rfl _ _ 71 rfl w.heap.size 58 i0 _ 1 Tryz.underlying71 J aa ab .i64 .i64 _ _ g.ms.length (by rfl) (by rfl) rfl rfl (by rw[ac];omega) (by unfold maxLen;omega) I.out.size ?_))
 intro w1 q H
 have L:Below Z.heap.size Z w1:=(Below.refl _ _).grown H (Nat.le_refl _) (fun k h=>by cases h)
 obtain⟨b,K⟩: ∃b,b=Z.heap.size:=⟨_,rfl⟩
 have R1:Hid (ReW w w1 G g V b (fun _=>0) 0):=by
  refine zc ⟨X0.out.later L,?_,fun j N=>absurd N (Nat.not_lt_zero j),zaf I.out L⟩
  rw[toList_madeCells_one] at q
  rw[K]
  have e:reL g.ms.length (fun _=>0) 0=List.replicate g.ms.length (.slice none 0 0):=by
   apply List.ext_getElem?
   intro i
   rw[reL,List.getElem?_map,List.getElem?_replicate]
   by_cases J:i<g.ms.length
   ·rw[List.getElem?_range J,if_pos J];rfl
   ·rw[List.getElem?_eq_none (by simp;omega),if_neg J];rfl
  rw[e]
  exact q
 rw[←K]
 clear q H L K X0 I c0 c1 c2 cf
 go_wp2
 go_loopw [11,4] (fun i _ wr=>∃(k:Nat) (U:Nat→Nat),k≤g.ms.length∧i= .int .i64 k∧Hid (ReW w wr G g V b U k)) (fun i _ _=>(g.ms.length-intOf i).toNat)
 case atStart=>exact⟨0,_,Nat.zero_le _,rfl,R1⟩
 case round=>
  clear R1
  obtain⟨k,U,hk,rfl,z⟩:=hrel
  by_cases A:k<g.ms.length
  ·have Y:(k:Int)<(g.ms.length:Int):=by omega
   obtain⟨c0,c1,c2,cf⟩:=zo z.out.x
   go_wp2_with fail
   refine (zwV base G g k A wr (HO.out.later z.out.bel) ad hl HC.out).mono ?_
   rintro e w2 ⟨g2,rfl,O,X⟩
   have R2:=zc (z.out.later X)
   have O2:Hid (OwnBl w2 w.heap.size g2 g.ms.length (zai g.ls g.ms.length (zay g.ms.length k))):=zc (OwnR.low O z.out.bel.size)
   have q0:=R2.out.cell A
   have qf:=R2.out.free (j:=k)
   have R3:=zc (R2.out.put A O2.out)
   clear O X z c0 c1 c2 cf
   go_wp2
   go_roundw
   case rel=>exact⟨k+1,_,A,by go_num,R3⟩
   case measure=>simp[intOf];omega
  ·have Y: ¬(k:Int)<(g.ms.length:Int):=by omega
   obtain rfl:k=g.ms.length:=by omega
   go_wp2
   go_ret
   obtain⟨_,ae,hc⟩:=z.out.blk
   refine⟨b,rfl,⟨U,(Array.getElem?_eq_some_iff.1 hc).1,fun j N=>⟨?_,(z.out.bl j N).at.2,fun i J=>(z.out.bl j N).cell (zmL J)⟩⟩,z.out.bel⟩
   have:=z.out.cell N
   rw[reV,if_pos N] at this
   exact this
theorem zwZ (g:Gr) (b z q:Nat) (N:Nat→Nat) (A:ByteArray) (w:World) (h:ReAt w g b N) (I:z<g.ms.length) (O:q<g.ms.length):
  Calls Tryz.prog 43 #[.slice (some ⟨b,0,none⟩) g.ms.length g.ms.length,.agg #[.int .i64 (z:Int),.string A,.int .i64 (q:Int)]] w fun e w'=>e= .returned (.bool (zbB g q z))∧Below w.heap.size w w':=by
 have K:Hid (Below w.heap.size w (w.alloc (.cells #[.int .i64 (z:Int),.string A,.int .i64 (q:Int)] 57))):=(Below.refl _ _).alloc (Nat.le_refl _) _
 obtain⟨X,V,H⟩:=h.2 q O
 have L:=H z I
 have J:=h.1
 generalize zbB g q z=v at L ⊢
 have U:(z:Int)<(g.ms.length:Int):=by omega
 have M:(q:Int)<(g.ms.length:Int):=by omega
 clear h H
 go_enter Tryz.func43,Tryz.ntmps43
 go_wp2
 go_region
 all_goals
  go_wp2
  go_ret
  exact⟨rfl,K.out.drew⟩
end Go.Proofs.YtgcbmogmniahjaaGreat
