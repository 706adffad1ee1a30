/-
  What impl.runOrder answers,and the closure that calls itself: the walks.
  What impl.GraphOk answers: the walk.
-/
import Derived.Laws.EntriesVeiled
import Derived.Test.YtgcbmogmniahjaaGreatCAsImplGraphAToImplGraphB
import Derived.Test.YtgcbmogmniahjaaGreatCAsGrPreToSpecGraph
namespace Go.Proofs.YtgcbmogmniahjaaGreat
set_option maxRecDepth 100000
set_option maxHeartbeats 12800000
open Go.RowKit Go.PlainAid Go.Sort
abbrev zjf (gb gx gr go:Nat):Value:=.func (.func 68) #[] #[.pointer (some ⟨gb,0,none⟩),.pointer (some ⟨gx,0,none⟩),.pointer (some ⟨gr,0,none⟩),.pointer (some ⟨go,0,none⟩)]
def zfv (l:List Nat):List Value:=l.map fun k:Nat=>Value.int .i64 (k:Int)
structure RunW (w:World) (G:GS) (g:Gr) (gx gb gr go gq:Nat) (b:List Bool) (out:List Nat) (W:World):Prop where
 x:Bk W gx (grC G g) 32
 bc:Bk W gb #[.slice (some ⟨gq,0,none⟩) g.ms.length g.ms.length] 58
 bl:OwnBl W w.heap.size gq g.ms.length b
 rc:Bk W gr #[zjf gb gx gr go] 106
 oc: ∃r:Rw,Bk W go #[.slice r.a out.length r.cap] 36∧OwnR W w.heap.size 3 1 r out.length (zfv out)
 ge:w.heap.size≤go
 b:Below w.heap.size w W
theorem Bk.ne {w:World} {a b:Nat} {A z:Array Value} {s t:TypeId} (h:Bk w a A s) (k:w.heap[b]? =some (.cells z t (0,0))) (D:s≠t):a≠b:=by
 rintro rfl
 have q:some (Obj.cells A s (0,0))=some (.cells z t (0,0)):=h.symm.trans k
 simp only[Option.some.injEq,Obj.cells.injEq] at q
 exact D q.2.1
theorem Bk.set {w:World} {a c i:Nat} {q z:Array Value} {s t:TypeId} {u:Value} (h:Bk w a q s) (k:w.heap[c]? =some (.cells z t (0,0))) (A:s≠t):Bk (w.setCell ⟨c,i,none⟩ u) a q s:=(heap_setCell_other w ⟨c,i,none⟩ a u (h.ne k A)).trans h
theorem RunW.later {w W J:World} {G:GS} {g:Gr} {I H A E D:Nat} {b:List Bool} {z:List Nat} (h:RunW w G g I H A E D b z W) (q:Below W.heap.size W J):RunW w G g I H A E D b z J:=by
 obtain⟨r,L,K⟩:=h.oc
 exact⟨h.x.later q,h.bc.later q,h.bl.later q,h.rc.later q,⟨r,L.later q,K.later q⟩,h.ge,zZ h.b q⟩
theorem RunW.mark {w W:World} {G:GS} {g:Gr} {I H D E A:Nat} {b:List Bool} {z:List Nat} (h:RunW w G g I H D E A b z W) (m:Nat):RunW w G g I H D E A (b.set m true) z (W.setCell ⟨A,m,none⟩ (.bool true)):=by
 obtain⟨J,q⟩:=h.bl.block
 obtain⟨r,L,K⟩:=h.oc
 exact⟨h.x.set q (by decide),h.bc.set q (by decide),h.bl.set m true,h.rc.set q (by decide),⟨r,L.set q (by decide),K.aside q (by decide)⟩,h.ge,h.b.setCell h.bl.at.1 _⟩
theorem OwnBl.aside {w:World} {base g n c i:Nat} {b:List Bool} {t:TypeId} {u:Value} {A:Array Value} (h:OwnBl w base g n b) (z:w.heap[c]? =some (.cells A t (0,0))) (q:4≠t):OwnBl (w.setCell ⟨c,i,none⟩ u) base g n b:=OwnR.aside h z q
theorem znq {W D E:World} {base n a:Nat} {r:Rw} {xs:List Value} {z:Array Value} {t:TypeId} (I:OwnR W base 3 1 r n xs) (A:Below W.heap.size W D) (K:D.grownBy E r.blk) (q:W.heap[a]? =some (.cells z t (0,0))) (J:3≠t):E.heap[a]? =some (.cells z t (0,0)):=by
 have h:=(Array.getElem?_eq_some_iff.1 q).1
 rw[K.block a (Nat.lt_of_lt_of_le h A.size) (fun e=>by
  obtain⟨_,_,H,w⟩:=I.typed e.symm
  rw[q] at w
  simp only[Option.some.injEq,Obj.cells.injEq] at w
  exact J w.2.1.symm),A.block a h]
 exact q
theorem RunW.push {w W X E:World} {G:GS} {g:Gr} {Y N Z H L m:Nat} {b:List Bool} {q:List Nat} {r A:Rw} (h:RunW w G g Y N Z H L b q W) (h1:Bk W H #[.slice r.a q.length r.cap] 36) (M:OwnR W w.heap.size 3 1 r q.length (zfv q)) (K:Below W.heap.size W X) (O:X.grownBy E r.blk) (ho:OwnR E w.heap.size 3 1 A (q.length+1) (zfv (q++[m]))):
  RunW w G g Y N Z H L b (q++[m]) (E.setCell ⟨H,0,none⟩ (.slice A.a (q.length+1) A.cap)):=by
 have D: ∀{a:Nat} {V:Array Value} {t:TypeId},W.heap[a]? =some (.cells V t (0,0))→3≠t→E.heap[a]? =some (.cells V t (0,0)):=fun ha ht=>znq M K O ha ht
 have z:=D h1 (by decide)
 obtain⟨aa,U⟩:=h.bl.block
 have J:OwnBl E w.heap.size L g.ms.length b:=OwnR.keep h.bl fun k e=>by
  cases e
  rw[D U (by decide),U]
 have I: ∀k,r.blk=some k→w.heap.size≤k:=fun k e=>(M.typed e).1
 refine⟨Bk.set (D h.x (by decide)) z (by decide),Bk.set (D h.bc (by decide)) z (by decide),J.aside z (by decide),Bk.set (D h.rc (by decide)) z (by decide),⟨A,?_,?_⟩,h.ge,?_⟩
 ·rw[List.length_append]
  exact zae (i:=0) (u:=.slice A.a (q.length+1) A.cap) z
 ·rw[List.length_append]
  exact ho.aside z (by decide)
 ·exact ((zZ h.b K).grown O (Nat.le_trans h.b.size K.size) I).setCell h.ge _
theorem Tryz.infoIntO:(Tryz.prog.info? 3).map (fun i=>(i.zero,i.size,i.bytes))=some (some (.int .i64 0),1,8):=by kernel_rfl
theorem zwO {α β:Type} {f:β→α→β} {l:List α} {j:Nat} {x:α} (h:l[j]? =some x) (s:β):(l.take (j+1)).foldl f s=f ((l.take j).foldl f s) x:=by
 obtain⟨q,rfl⟩:=List.getElem?_eq_some_iff.1 h
 rw[List.take_succ_eq_append_getElem q,List.foldl_append]
 rfl
def zwP (w:World) (base:Nat) (G:GS) (g:Gr) (gx gb gr go gq f:Nat):Prop:=∀(m:Nat) (b:List Bool) (out:List Nat) (W:World),RunW w G g gx gb gr go gq b out W→m<g.ms.length→g.ms.length≤f+zG b→out.length≤zG b→GrOwn w base G g→Calls Tryz.prog 68 #[.int .i64 (m:Int),.pointer (some ⟨gb,0,none⟩),.pointer (some ⟨gx,0,none⟩),.pointer (some ⟨gr,0,none⟩),.pointer (some ⟨go,0,none⟩)] W fun e W'=>e= .returned (.tuple #[])∧RunW w G g gx gb gr go gq (dfs (zbW (zE g) g.ls) f m (b,out)).1 (dfs (zbW (zE g) g.ls) f m (b,out)).2 W'
theorem zdM {w:World} {b:Nat} {t:TypeId} {v:Value} (h:Bk w b #[v] t):w.cell? ⟨b,0,none⟩=some v∧∀i,w.frozen? ⟨b,i,none⟩=false:=by
 refine⟨?_,fun i=>?_⟩<;>simp[World.cell?,World.frozen?,h]
theorem zwQ {b:List Bool} {m:Nat} (h:m<b.length):b[m]? =some (b.getD m true):=by rw[List.getD,List.getElem?_eq_getElem h];rfl
theorem zwR (w:World) (base:Nat) (G:GS) (g:Gr) (gx gb gr go gq:Nat) (hl:zbV (zE g) g.ls) (hn:g.ms.length≤8) (aD:g.ls.length≤1048576) (f:Nat):zwP w base G g gx gb gr go gq f:=by
 have HL:=zc hl
 clear hl
 induction f with
 |zero=>
  intro m b h W z hm hf _ _
  have O:=z.bl.len
  have aa:zG b=b.length:=by have:=zdW b;omega
  have K:=zgC.1 aa m (by omega)
  have HW:=zc z
  obtain⟨c0,f0⟩:=zdM z.bc
  have c1:=z.bl.cell K
  have az:(m:Int)<(g.ms.length:Int):=by omega
  clear z K
  go_enter Tryz.func68,Tryz.ntmps68
  go_wp2
  (try simp only[Exit.inBlock,Exit.then]);refine bodyPost_ret (results_none rfl _ _ _) rfl ?_
  exact⟨rfl,HW.out⟩
 |succ f ih=>
  intro m b h W z hm hf aN ho
  have IH:=zc ih
  have HW:=zc z
  have HO:=zc ho
  have O:=z.bl.len
  have az:(m:Int)<(g.ms.length:Int):=by omega
  have K:=zwQ (b:=b) (m:=m) (by omega)
  obtain⟨c0,f0⟩:=zdM z.bc
  have c1:=z.bl.cell K
  clear ih z ho
  cases hb:b.getD m true with
  |true=>
   have HD:Hid (dfs (zbW (zE g) g.ls) (f+1) m (b,h)=(b,h)):=by show _=_;rw[dfs,if_pos hb]
   rw[hb] at c1
   clear K hb
   go_enter Tryz.func68,Tryz.ntmps68
   go_wp2
   (try simp only[Exit.inBlock,Exit.then]);refine bodyPost_ret (results_none rfl _ _ _) rfl ?_
   exact⟨rfl,by rw[HD.out];exact HW.out⟩
  |false=>
   rw[hb] at c1 K
   have hc:=zgF K
   have f1:=HW.out.bl.free m
   have HD:Hid (dfs (zbW (zE g) g.ls) (f+1) m (b,h)=(((zbW (zE g) g.ls m).foldl (fun s k=>dfs (zbW (zE g) g.ls) f k s) (b.set m true,h)).1,((zbW (zE g) g.ls m).foldl (fun s k=>dfs (zbW (zE g) g.ls) f k s) (b.set m true,h)).2++[m])):=by show _=_;rw[dfs,if_neg (by rw[hb];decide)]
   have H:=zc (HW.out.mark m)
   clear hb K
   go_enter Tryz.func68,Tryz.ntmps68
   go_upto_region 2 with fail
   obtain⟨W1,ai⟩: ∃W1,W1=W.setCell ⟨gq,m,none⟩ (.bool true):=⟨_,rfl⟩
   rw[←ai] at H ⊢
   clear ai HW c0 f0 c1 f1
   obtain⟨A,M⟩: ∃A,g.ms[m]? =some A:=⟨_,List.getElem?_eq_getElem hm⟩
   obtain⟨S,hS⟩:=zec HO.out.len M
   have L:=zc (HO.out.later H.out.b)
   obtain⟨b1,o1,e1,k1⟩:=(RowAt.of (f:=mdL) (m:=5) (fun _=>rfl) (zfa L.out.len L.out.ms)).get hS
   have z0:=k1 0 _ rfl
   simp only[Nat.add_zero] at z0
   have RS:=zc (RowS.of (HO.out.md _ (List.mem_of_getElem? hS)).rq)
   have X:Hid ((zE g)[m]? =some A.rq):=by show _=_;rw[zE,List.getElem?_map,M];rfl
   have U:Hid (zbW (zE g) g.ls m=A.rq.map fun s=>(zbn g.ls ((m:Int),s.toList)).toNat):=by show _=_;rw[zbW,List.getD,X.out];rfl
   obtain⟨y0,y1,y2,yf⟩:=zn H.out.x
   rw[e1] at y1
   clear M hS k1 e1 L
   obtain⟨⟨ra,rc⟩,aQ,aP,aO,aK,aM⟩:=S
   simp only at z0 RS
   have aL:A.rq.length≤1048576:=by
    have h1:=HL.out.1
    have h2:=zij X.out
    have h3:=zik (zE g) (m+1)
    omega
   have aI:g.ms.length≤f+zG (b.set m true):=by omega
   have av:h.length≤zG (b.set m true):=by omega
   go_wp2
   clear z0 y0 y1 y2 yf
   obtain⟨D,E⟩: ∃D,D=zbW (zE g) g.ls:=⟨_,rfl⟩
   have aB:Hid (∀a,a<g.ms.length→∀k∈D a,k<g.ms.length):=fun a _ k hk=>by rw[E] at hk;have:=zhY HL.out a k hk;rw[zco] at this;exact this
   have HQ:=zc E
   rw[←E] at HD U
   have aC:Hid (∀(m:Nat) (b:List Bool) (h:List Nat) (W:World),RunW w G g gx gb gr go gq b h W→m<g.ms.length→g.ms.length≤f+zG b→h.length≤zG b→Calls Tryz.prog 68 #[.int .i64 (m:Int),.pointer (some ⟨gb,0,none⟩),.pointer (some ⟨gx,0,none⟩),.pointer (some ⟨gr,0,none⟩),.pointer (some ⟨go,0,none⟩)] W fun e W'=>e= .returned (.tuple #[])∧RunW w G g gx gb gr go gq (dfs D f m (b,h)).1 (dfs D f m (b,h)).2 W'):=by rw[E];exact fun m b h W h1 h2 h3 h4=>IH.out m b h W h1 h2 h3 h4 HO.out
   clear E IH
   go_loopg [22] A.rq.length (fun k aJ wr=>∃j:Nat,aJ= .int .i64 j∧j+k=A.rq.length∧∃q:List Bool×List Nat,q=((D m).take j).foldl (fun s k=>dfs D f k s) (b.set m true,h)∧RunW w G g gx gb gr go gq q.1 q.2 wr∧g.ms.length≤f+zG q.1∧q.2.length≤zG q.1)
   case atStart=>exact⟨0,rfl,by omega,(b.set m true,h),rfl,H.out,aI,av⟩
   case round=>
    obtain⟨j,rfl,hj,q,ae,z,am,aw⟩:=hrel
    have I:=zc z
    have an:=zc ae
    clear z ae H
    have aR:=zdW q.1
    have O:=I.out.bl.len
    by_cases aq:j<A.rq.length
    ·have ah:(j:Int)<(A.rq.length:Int):=by omega
     obtain⟨s,hs⟩: ∃s,A.rq[j]? =some s:=⟨_,List.getElem?_eq_getElem aq⟩
     obtain⟨b2,o2,e2,k2⟩:=(RS.out.later I.out.b).get hs
     subst e2
     have z0:=k2 0 _ rfl
     simp only[Nat.add_zero,Nat.mul_one] at z0
     have hk:=HL.out.2 m A.rq X.out s (List.mem_of_getElem? hs)
     rw[zco] at hk
     obtain⟨k,Y⟩: ∃k:Nat,zbn g.ls ((m:Int),s.toList)=(k:Int):=⟨_,(Int.toNat_of_nonneg hk.1).symm⟩
     have ab:k<g.ms.length:=by omega
     have ao:Hid ((D m)[j]? =some k):=by show _=_;rw[U.out,List.getElem?_map,hs];simp[Y]
     have aA:=zc Y
     obtain⟨j1,ad⟩: ∃j1,j1=j+1:=⟨_,rfl⟩
     have ej:(j:Int)+1=(j1:Int):=by omega
     have al:=zc ad
     have aG:=zc (zwO (f:=fun s k=>dfs D f k s) ao.out (b.set m true,h))
     clear hs k2 hk Y ad
     have DP:=zc (zk2 (S:=fun _=>True) aB.out (fun _ _ _ _=>trivial) f k q O ab am trivial)
     obtain⟨x0,x1,x2,xf⟩:=zn I.out.x
     obtain⟨r0,rf⟩:=zdM I.out.rc
     go_upto_region 5 with fail
     go_region_with (first|(go_at_call 67;refine (znn base G g m s _ (HO.out.later I.out.b.drew) aD).mono ?_;rintro e w2 ⟨rfl,ag⟩;rw[aA.out];have J:=zc (I.out.later (((Below.refl _ _).drew).trans ag));clear ag;obtain⟨t0,t1,t2,tf⟩:=zn J.out.x;obtain⟨u0,uf⟩:=zdM J.out.rc)|(go_at_call 68;refine (aC.out k q.1 q.2 _ J.out ab am aw).mono ?_;rintro e w3 ⟨rfl,aj⟩))
     all_goals (
      have ax:=zc aj
      clear aj J I t0 t1 t2 tf u0 uf x0 x1 x2 xf r0 rf z0
      go_wp2
      go_roundg (gk-1)
      case rel=>
       refine⟨j1,rfl,by have:=al.out;omega,dfs D f k q,?_,ax.out,by have:=DP.out.le.cnt.1;omega,by have:=DP.out.cnt;omega⟩
       rw[al.out,aG.out,←an.out]
      case measure=>omega)
    ·have ah: ¬(j:Int)<(A.rq.length:Int):=by omega
     obtain rfl:j=A.rq.length:=by omega
     have aH:Hid (q=(D m).foldl (fun s k=>dfs D f k s) (b.set m true,h)):=by
      have:=an.out
      rw[List.take_of_length_le (by rw[U.out,List.length_map];exact Nat.le_refl _)] at this
      exact this
     obtain⟨r,V,N⟩:=I.out.oc
     obtain⟨d0,df⟩:=zdM V
     obtain⟨i0,hi,ar,aF,ay⟩:=info_parts Tryz.infoIntO
     have ac:=zc V
     have af:=zc N
     have ak:=fun o1=>N.alloc (o:=o1)
     have ap: ∀o1,w.heap.size≤(wr.alloc o1).heap.size:=fun o1=>by rw[zg];have:=I.out.b.size;omega
     clear V N
     go_wp2_with (at_builtin;refine zbd _ rfl _ _ 36 rfl w.heap.size 3 i0 _ 1 8 Tryz.underlying36 hi ar aF ay rfl (by decide) (by decide) r q.2.length (zfv q.2) (by rfl) (ak _) wr.heap.size [.int .i64 (m:Int)] (by rfl) (by exact heap_alloc_new wr _) rfl (by simp[Value.oneCell']) (by omega) (ap _) ?_;intro r' wz hr Z aE;obtain⟨e0,ef⟩:=zdM (znq af.out (zak wr _) Z ac.out (by decide));have HR:=zc hr;have au:=zc Z;clear hr Z aE d0 df)
     go_end0
     have hp:=I.out.push ac.out af.out (zak wr _) au.out (m:=m) (by have:=HR.out;unfold zfv at this ⊢;rw[List.map_append];exact this)
     refine⟨rfl,?_⟩
     rw[←HQ.out,HD.out,←aH.out]
     exact hp
def zjg (g:Gr):List Nat:=(dfs (zbW (zE g) g.ls) g.ms.length 0 (List.replicate g.ms.length false,[])).2
def zwS (w:World) (out:List Nat) (e:Ending) (w':World):Prop:=∃r:Rw,e= .returned (.slice r.a out.length r.cap)∧OwnR w' w.heap.size 3 1 r out.length (zfv out)∧Below w.heap.size w w'
theorem zwT (base:Nat) (G:GS) (g:Gr) (w:World) (ho:GrOwn w base G g) (hl:zbV (zE g) g.ls) (af:1≤g.ms.length) (hn:g.ms.length≤8) (aa:g.ls.length≤1048576):
  Calls Tryz.prog 37 #[grD G g] w fun e w'=>zwS w (zjg g) e w':=by
 have HO:=zc ho
 have HL:=zc hl
 clear ho hl
 obtain⟨i0,hi,ab,ac,ad⟩:=info_parts Tryz.infoBl
 unfold grD
 go_enter Tryz.func37,Tryz.ntmps37
 go_upto_region 2 with fail
 obtain⟨q,J⟩: ∃q,q=w.heap.size:=⟨_,rfl⟩
 rw[←J]
 refine zu (R:=fun W=>(Bk W q (grC G g) 32∧Bk W (q+1) #[] 3∧Bk W (q+1+1) #[.slice (some ⟨q+1,0,none⟩) 0 0] 36)∧Below w.heap.size w W) ?_ ?_
 ·have O:=zak w (.cells (grC G g) 32)
  have K:=zak (w.alloc (.cells (grC G g) 32)) (.cells #[] 3)
  have a3:=zak ((w.alloc (.cells (grC G g) 32)).alloc (.cells #[] 3)) (.cells #[.slice (some ⟨q+1,0,none⟩) 0 0] 36)
  have h0:Bk (w.alloc (.cells (grC G g) 32)) q (grC G g) 32:=by rw[J];exact heap_alloc_new w _
  have h1:Bk ((w.alloc (.cells (grC G g) 32)).alloc (.cells #[] 3)) (q+1) #[] 3:=by
   have:=heap_alloc_new (w.alloc (.cells (grC G g) 32)) (.cells #[] 3)
   rw[zg,←J] at this
   exact this
  refine⟨⟨(h0.later K).later a3,h1.later a3,?_⟩,zZ (zZ O K) a3⟩
  have:=heap_alloc_new ((w.alloc (.cells (grC G g) 32)).alloc (.cells #[] 3)) (.cells #[.slice (some ⟨q+1,0,none⟩) 0 0] 36)
  rw[zg,zg,←J] at this
  exact this
 have ae:w.heap.size≤q:=by omega
 clear J
 rintro W0 ⟨⟨hx,hy,hz⟩,hb⟩
 have X:=zc hx
 have Y:=zc hy
 have Z:=zc hz
 have HB:=zc hb
 clear hx hy hz hb
 obtain⟨c0,c1,c2,cf⟩:=zn X.out
 go_upto_region 4 with (first|(at_make;refine wpList_make_full W0 rfl _ _ 58 rfl w.heap.size 4 i0 _ 1 Tryz.underlying58 hi ab ac .i64 .i64 _ _ g.ms.length (by rfl) (by rfl) rfl rfl (by rw[ad];omega) (by unfold maxLen;omega) HB.out.size ?_;intro L A M))
 have E:Below W0.heap.size W0 L:=(Below.refl _ _).grown M (Nat.le_refl _) (fun k h=>by cases h)
 obtain⟨H,U⟩: ∃H,H=W0.heap.size:=⟨_,rfl⟩
 obtain⟨z,D⟩: ∃z,z=L.heap.size:=⟨_,rfl⟩
 rw[←U,←D]
 have I:OwnBl L w.heap.size H g.ms.length (List.replicate g.ms.length false):=by
  rw[show madeCells (Value.bool false).cells (g.ms.length*1)=madeCells #[.bool false] g.ms.length by rw[Nat.mul_one];rfl,toList_madeCells_one] at A
  unfold OwnBl OwnR
  rw[U,List.map_replicate]
  exact A
 have O:=zak L (.cells #[.slice (some ⟨H,0,none⟩) g.ms.length g.ms.length] 58)
 have K:=zak (L.alloc (.cells #[.slice (some ⟨H,0,none⟩) g.ms.length g.ms.length] 58)) (.cells #[.nilFunc] 106)
 refine zu (R:=fun W=>(Bk W q (grC G g) 32∧Bk W (q+1) #[] 3∧Bk W (q+1+1) #[.slice (some ⟨q+1,0,none⟩) 0 0] 36∧Bk W z #[.slice (some ⟨H,0,none⟩) g.ms.length g.ms.length] 58∧Bk W (z+1) #[.nilFunc] 106)∧OwnBl W w.heap.size H g.ms.length (List.replicate g.ms.length false)∧w.heap.size≤z∧Below w.heap.size w W) ?_ ?_
 ·have h4:Bk (L.alloc (.cells #[.slice (some ⟨H,0,none⟩) g.ms.length g.ms.length] 58)) z #[.slice (some ⟨H,0,none⟩) g.ms.length g.ms.length] 58:=by rw[D];exact heap_alloc_new L _
  refine⟨⟨((X.out.later E).later O).later K,((Y.out.later E).later O).later K,((Z.out.later E).later O).later K,h4.later K,?_⟩,(I.later O).later K,by have h1:=HB.out.size;have h2:=E.size;omega,zZ (zZ (zZ HB.out E) O) K⟩
  have:=heap_alloc_new (L.alloc (.cells #[.slice (some ⟨H,0,none⟩) g.ms.length g.ms.length] 58)) (.cells #[.nilFunc] 106)
  rw[zg,←D] at this
  exact this
 clear U D I O K E A M X Y Z HB c0 c1 c2 cf
 rintro W1 ⟨⟨hx,hy,hz,hv,N⟩,I,D,hb⟩
 have RW:Hid (RunW w G g q z (z+1) (q+1+1) H (List.replicate g.ms.length false) [] (W1.setCell ⟨z+1,0,none⟩ (zjf z q (z+1) (q+1+1)))):=by
  refine⟨hx.set N (by decide),hv.set N (by decide),I.aside N (by decide),zae (i:=0) N,⟨⟨some ⟨q+1,0,none⟩,0⟩,hz.set N (by decide),?_⟩,by omega,hb.setCell (by show _≤z+1;omega) _⟩
  exact⟨rfl,.inr ⟨q+1,0,#[],rfl,by omega,hy.set N (by decide),Nat.le_refl _,Nat.zero_le _,rfl,rfl⟩⟩
 obtain⟨u0,uf⟩:=zdM N
 clear hx hy hz hv N I D hb
 go_upto_region 5 with fail
 obtain⟨W2,V⟩: ∃W2,W2=W1.setCell ⟨z+1,0,none⟩ (zjf z q (z+1) (q+1+1)):=⟨_,rfl⟩
 rw[←V] at RW ⊢
 clear V u0 uf
 obtain⟨r0,rf⟩:=zdM RW.out.rc
 have ag:zG (List.replicate g.ms.length false)=0:=by unfold zG;rw[List.count_replicate];rfl
 go_wp2_with fail
 refine (zwR w base G g q z (z+1) (q+1+1) H HL.out hn aa g.ms.length 0 _ [] _ RW.out (by omega) (by omega) (Nat.zero_le _) HO.out).mono ?_
 rintro e W3 ⟨rfl,hw⟩
 have R3:=zc hw
 clear hw RW r0 rf
 obtain⟨r,h1,h2⟩:=R3.out.oc
 obtain⟨z0,zf⟩:=zdM h1
 have H2:=zc h2
 clear h1 h2
 go_wp2
 go_ret
 exact⟨r,rfl,H2.out,R3.out.b⟩
theorem zwU (M:zfR 65) (L:zfS 66) (base:Nat) (G:GS) (g:Gr) (w:World) (ho:GrOwn w base G g) (hg:GdG g):
  Calls Tryz.prog 10 #[grD G g] w fun e w'=>SameOut (GrI g) e∧Below w.heap.size w w':=by
 have H:=zc ho
 have Z:=zc hg
 have CM:=zc M
 have CE:=zc L
 have al:=hg.pl
 have ak:=hg.ml
 have ai:=hg.ll
 clear ho hg M L
 unfold grD
 go_enter Tryz.func10,Tryz.ntmps10
 go_upto_region 1 with fail
 obtain⟨gx,U⟩: ∃gx,gx=w.heap.size:=⟨_,rfl⟩
 rw[←U]
 refine zu (R:=fun W=>Bk W gx (grC G g) 32∧Below w.heap.size w W) ⟨by rw[U];exact heap_alloc_new w _,zak w _⟩ ?_
 clear U
 rintro E ⟨hx,z⟩
 have X:=zc hx
 have A:=zc z
 obtain⟨c0,c1,c2,cf⟩:=zn hx
 clear hx z
 by_cases h1:(g.ms.length:Int)<1
 ·have V:Hid (¬GrI g):=fun k=>by have:=k.1;omega
  go_wp2
  go_ret
  exact⟨zbz V.out rfl,A.out⟩
 by_cases h2:(g.ms.length:Int)≤8
 case neg=>
  have V:Hid (¬GrI g):=fun k=>by have:=k.1;omega
  go_wp2
  go_ret
  exact⟨zbz V.out rfl,A.out⟩
 by_cases h3:(g.ps.length:Int)=(g.ms.length:Int)
 case neg=>
  have V:Hid (¬GrI g):=fun k=>by have:=k.2.1;omega
  have h4:((g.ps.length:Int) !=(g.ms.length:Int))=true:=bne_iff_ne.2 h3
  go_wp2
  go_ret
  exact⟨zbz V.out rfl,A.out⟩
 go_upto_region 3 with fail
 have hp:g.ps.length=g.ms.length:=by omega
 have HP:=zc hp
 have aa:1≤g.ms.length:=by omega
 have ac:g.ms.length≤8:=by omega
 clear h1 h2 h3 c0 c1 c2 cf
 obtain⟨Y0,Y1,Y2,_⟩:=zn X.out
 have Z0:=zc Y0
 have Z1:=zc Y1
 have Z2:=zc Y2
 clear Y0 Y1 Y2 hp
 have cA: ∀(b:Bool),(b=true↔∀i,i<g.ps.length→zch g.ps i)→∀d D,Calls Tryz.prog 34 #[.slice G.pr.a g.ps.length G.pr.cap] (grow (redrawn E d) D) fun e I=>e= .returned (.bool b)∧∃q:Regrown,I=grow (redrawn E q.d) q.os:=fun b z d D=>Calls.regrown_of ((znl base G.pr.a G.pr.cap g.ps _ ((H.out.later A.out).later (below_regrown E d D)).ps (by have:=HP.out;omega) Z.out.ps).mono fun e w' h=>⟨h.1.of z,h.2⟩)
 have cB: ∀(b:Bool),(b=true↔zda g.ms)→∀d D,Calls Tryz.prog 35 #[.slice G.mr.a g.ms.length G.mr.cap] (grow (redrawn E d) D) fun e I=>e= .returned (.bool b)∧∃q:Regrown,I=grow (redrawn E q.d) q.os:=fun b z d D=>Calls.regrown_of ((znm CM.out CE.out base G.mr.a G.mr.cap G.sv g.ms _ H.out.len ((H.out.later A.out).later (below_regrown E d D)).ms ((H.out.later A.out).later (below_regrown E d D)).md Z.out.ms (by omega)).mono fun e w' h=>⟨h.1.of z,h.2⟩)
 have cC: ∀(b:Bool),(b=true↔zbV (zE g) g.ls)→∀d D,Calls Tryz.prog 36 #[grD G g] (grow (redrawn E d) D) fun e I=>e= .returned (.bool b)∧∃q:Regrown,I=grow (redrawn E q.d) q.os:=fun b z d D=>Calls.regrown_of ((znp base G g _ ((H.out.later A.out).later (below_regrown E d D)) Z.out).mono fun e w' h=>⟨h.1.of z,h.2⟩)
 unfold grD at cC
 have af:(¬(∀i,i<g.ps.length→zch g.ps i))∨((∀i,i<g.ps.length→zch g.ps i)∧(¬zda g.ms∨(zda g.ms∧(¬zbV (zE g) g.ls∨zbV (zE g) g.ls)))):=by
  by_cases J: ∀i,i<g.ps.length→zch g.ps i
  ·by_cases K:zda g.ms
   ·exact .inr ⟨J,.inr ⟨K,(Classical.em _).symm⟩⟩
   ·exact .inr ⟨J,.inl K⟩
  ·exact .inl J
 rcases af with J|⟨J,K|⟨K,k3|k3⟩⟩
 case inr.inr.inr=>
  clear cA cB cC
  have ab:=zc J
  have ad:=zc K
  have Y:=zc k3
  clear J K k3
  obtain⟨z0,z1,z2,zf⟩:=zn X.out
  go_region_with (first|(go_at_call 34;refine (znl base G.pr.a G.pr.cap g.ps _ (H.out.later A.out.drew).ps (by have:=HP.out;omega) Z.out.ps).mono ?_;rintro e w1 ⟨O,z⟩;obtain rfl:=O.of (b:=true) (iff_of_true rfl ab.out);have B1:Hid (Below E.heap.size E w1):=(((Below.refl _ _).drew).trans z);clear O z;obtain⟨p0,p1,p2,pf⟩:=zn (X.out.later B1.out))|(go_at_call 35;refine (znm CM.out CE.out base G.mr.a G.mr.cap G.sv g.ms _ H.out.len ((H.out.later A.out).later B1.out).ms ((H.out.later A.out).later B1.out).md Z.out.ms (by omega)).mono ?_;rintro e w2 ⟨O,z⟩;obtain rfl:=O.of (b:=true) (iff_of_true rfl ad.out);have B2:=zc (zZ B1.out z);clear O z;obtain⟨q0,q1,q2,qf⟩:=zn (X.out.later B2.out))|(go_at_call 36;refine (znp base G g _ ((H.out.later A.out).later B2.out) Z.out).mono ?_;rintro e w3 ⟨O,z⟩;obtain rfl:=O.of (b:=true) (iff_of_true rfl Y.out);have B3:=zc (zZ B2.out z);clear O z;obtain⟨r0,r1,r2,rf⟩:=zn (X.out.later B3.out))|(go_at_call 37;refine (zwT base G g _ ((H.out.later A.out).later B3.out) Y.out aa ac ai).mono ?_;rintro e w4 ⟨r,rfl,aj,z⟩;have B4:=zc (zZ B3.out z);clear aj z;obtain⟨s0,s1,s2,sf⟩:=zn (X.out.later B4.out)))
  all_goals (
   have ah:=zc (zZ A.out B4.out)
   clear B1 B2 B3 B4 p0 p1 p2 pf q0 q1 q2 qf r0 r1 r2 rf s0 s1 s2 sf
   go_wp2
   go_ret
   refine⟨⟨_,rfl,?_⟩,ah.out⟩
   rw[beq_iff_eq]
   refine⟨fun h=>⟨⟨aa,ac⟩,HP.out,ab.out,ad.out,Y.out,(Int.ofNat.inj h:(zjg g).length=g.ms.length)⟩,fun k=>?_⟩
   rw[show (zjg g).length=g.ms.length from k.2.2.2.2.2])
 all_goals (
  have V:Hid (¬GrI g):=fun k=>by first|exact J k.2.2.1|exact K k.2.2.2.1|exact k3 k.2.2.2.2.1
  have z0:=cell_regrown Z0.out
  have z1:=cell_regrown Z1.out
  have z2:=cell_regrown Z2.out
  refine wp_region_quiet_below (by kernel_rfl) (by kernel_rfl) ?_
  repeat (go_big_quiet_step (first|with_reducible exact cA true (iff_of_true rfl J) _ _|with_reducible exact cA false (by simp only[Bool.false_eq_true,false_iff];exact J) _ _|with_reducible exact cB true (iff_of_true rfl K) _ _|with_reducible exact cB false (by simp only[Bool.false_eq_true,false_iff];exact K) _ _|with_reducible exact cC false (by simp only[Bool.false_eq_true,false_iff];exact k3) _ _))
  refine wpQuiet_nil ?_
  intro w2 ae
  obtain⟨q,N⟩:=ae
  have ag:=zc (zZ A.out (zed N))
  clear N z0 z1 z2
  go_wp2
  go_ret
  exact⟨zbz V.out rfl,ag.out⟩)
end Go.Proofs.YtgcbmogmniahjaaGreat
