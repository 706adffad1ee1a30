/-
  What impl.runOrder answers,and the closure that calls itself: the walks.
  What impl.GraphOk answers: the walk.
  What the laws' eqMod answers of a program made twice: the walk.
  The laws' comparers of graphs,where both show the same: the walks.
  What is known of a graph that came in.
-/
import Derived.Laws.EntriesVeiled
import Derived.Test.YtgcbmogmniahjaaGreatCGrImplGraphAToImplGraphB
import Derived.Test.YtgcbmogmniahjaaGreatCGrGrPreToSpecGraph
namespace Go.Proofs.YtgcbmogmniahjaaGreat
set_option maxRecDepth 100000
set_option maxHeartbeats 12800000
open Go.RowKit Go.PlainAid Go.Sort
abbrev ziE (gb gx gr go:Nat):Value:=.func (.func 68) #[] #[.pointer (some ⟨gb,0,none⟩),.pointer (some ⟨gx,0,none⟩),.pointer (some ⟨gr,0,none⟩),.pointer (some ⟨go,0,none⟩)]
def zfd (l:List Nat):List Value:=l.map fun k:Nat=>Value.int .i64 (k:Int)
structure RunW (w:World) (G:GS) (g:Gr) (gx gb gr go gq:Nat) (b:List Bool) (out:List Nat) (W:World):Prop where
 x:Bk W gx (grC G g) 32
 bc:Bk W gb #[.slice (some ⟨gq,0,none⟩) g.ms.length g.ms.length] 58
 bl:OwnBl W w.heap.size gq g.ms.length b
 rc:Bk W gr #[ziE gb gx gr go] 106
 oc: ∃r:Rw,Bk W go #[.slice r.a out.length r.cap] 36∧OwnR W w.heap.size 3 1 r out.length (zfd out)
 ge:w.heap.size≤go
 b:Below w.heap.size w W
theorem Bk.ne {w:World} {a b:Nat} {A z:Array Value} {s t:TypeId} (h:Bk w a A s) (k:w.heap[b]? =some (.cells z t (0,0))) (D:s≠t):a≠b:=by
 rintro rfl
 have q:some (Obj.cells A s (0,0))=some (.cells z t (0,0)):=h.symm.trans k
 simp only[Option.some.injEq,Obj.cells.injEq] at q
 exact D q.2.1
theorem Bk.set {w:World} {a c i:Nat} {q z:Array Value} {s t:TypeId} {u:Value} (h:Bk w a q s) (k:w.heap[c]? =some (.cells z t (0,0))) (A:s≠t):Bk (w.setCell ⟨c,i,none⟩ u) a q s:=(heap_setCell_other w ⟨c,i,none⟩ a u (h.ne k A)).trans h
theorem RunW.later {w W J:World} {G:GS} {g:Gr} {I H A E D:Nat} {b:List Bool} {z:List Nat} (h:RunW w G g I H A E D b z W) (q:Below W.heap.size W J):RunW w G g I H A E D b z J:=by
 obtain⟨r,L,K⟩:=h.oc
 exact⟨h.x.later q,h.bc.later q,h.bl.later q,h.rc.later q,⟨r,L.later q,K.later q⟩,h.ge,zaq h.b q⟩
theorem RunW.mark {w W:World} {G:GS} {g:Gr} {I H D E A:Nat} {b:List Bool} {z:List Nat} (h:RunW w G g I H D E A b z W) (m:Nat):RunW w G g I H D E A (b.set m true) z (W.setCell ⟨A,m,none⟩ (.bool true)):=by
 obtain⟨J,q⟩:=h.bl.block
 obtain⟨r,L,K⟩:=h.oc
 exact⟨h.x.set q (by decide),h.bc.set q (by decide),h.bl.set m true,h.rc.set q (by decide),⟨r,L.set q (by decide),K.aside q (by decide)⟩,h.ge,h.b.setCell h.bl.at.1 _⟩
theorem OwnBl.aside {w:World} {base g n c i:Nat} {b:List Bool} {t:TypeId} {u:Value} {A:Array Value} (h:OwnBl w base g n b) (z:w.heap[c]? =some (.cells A t (0,0))) (q:4≠t):OwnBl (w.setCell ⟨c,i,none⟩ u) base g n b:=OwnR.aside h z q
theorem zmH {W D E:World} {base n a:Nat} {r:Rw} {xs:List Value} {z:Array Value} {t:TypeId} (I:OwnR W base 3 1 r n xs) (A:Below W.heap.size W D) (K:D.grownBy E r.blk) (q:W.heap[a]? =some (.cells z t (0,0))) (J:3≠t):E.heap[a]? =some (.cells z t (0,0)):=by
 have h:=(Array.getElem?_eq_some_iff.1 q).1
 rw[K.block a (Nat.lt_of_lt_of_le h A.size) (fun e=>by
  obtain⟨_,_,H,w⟩:=I.typed e.symm
  rw[q] at w
  simp only[Option.some.injEq,Obj.cells.injEq] at w
  exact J w.2.1.symm),A.block a h]
 exact q
theorem RunW.push {w W X E:World} {G:GS} {g:Gr} {Y N Z H L m:Nat} {b:List Bool} {q:List Nat} {r A:Rw} (h:RunW w G g Y N Z H L b q W) (h1:Bk W H #[.slice r.a q.length r.cap] 36) (M:OwnR W w.heap.size 3 1 r q.length (zfd q)) (K:Below W.heap.size W X) (O:X.grownBy E r.blk) (ho:OwnR E w.heap.size 3 1 A (q.length+1) (zfd (q++[m]))):
  RunW w G g Y N Z H L b (q++[m]) (E.setCell ⟨H,0,none⟩ (.slice A.a (q.length+1) A.cap)):=by
 have D: ∀{a:Nat} {V:Array Value} {t:TypeId},W.heap[a]? =some (.cells V t (0,0))→3≠t→E.heap[a]? =some (.cells V t (0,0)):=fun ha ht=>zmH M K O ha ht
 have z:=D h1 (by decide)
 obtain⟨aa,U⟩:=h.bl.block
 have J:OwnBl E w.heap.size L g.ms.length b:=OwnR.keep h.bl fun k e=>by
  cases e
  rw[D U (by decide),U]
 have I: ∀k,r.blk=some k→w.heap.size≤k:=fun k e=>(M.typed e).1
 refine⟨Bk.set (D h.x (by decide)) z (by decide),Bk.set (D h.bc (by decide)) z (by decide),J.aside z (by decide),Bk.set (D h.rc (by decide)) z (by decide),⟨A,?_,?_⟩,h.ge,?_⟩
 ·rw[List.length_append]
  exact zab (i:=0) (u:=.slice A.a (q.length+1) A.cap) z
 ·rw[List.length_append]
  exact ho.aside z (by decide)
 ·exact ((zaq h.b K).grown O (Nat.le_trans h.b.size K.size) I).setCell h.ge _
theorem Tryz.infoIntO:(Tryz.prog.info? 3).map (fun i=>(i.zero,i.size,i.bytes))=some (some (.int .i64 0),1,8):=by kernel_rfl
theorem zwd {α β:Type} {f:β→α→β} {l:List α} {j:Nat} {x:α} (h:l[j]? =some x) (s:β):(l.take (j+1)).foldl f s=f ((l.take j).foldl f s) x:=by
 obtain⟨q,rfl⟩:=List.getElem?_eq_some_iff.1 h
 rw[List.take_succ_eq_append_getElem q,List.foldl_append]
 rfl
def zwe (w:World) (base:Nat) (G:GS) (g:Gr) (gx gb gr go gq f:Nat):Prop:=∀(m:Nat) (b:List Bool) (out:List Nat) (W:World),RunW w G g gx gb gr go gq b out W→m<g.ms.length→g.ms.length≤f+zae b→out.length≤zae b→GrOwn w base G g→Calls Tryz.prog 68 #[.int .i64 (m:Int),.pointer (some ⟨gb,0,none⟩),.pointer (some ⟨gx,0,none⟩),.pointer (some ⟨gr,0,none⟩),.pointer (some ⟨go,0,none⟩)] W fun e W'=>e= .returned (.tuple #[])∧RunW w G g gx gb gr go gq (dfs (zbO (zC g) g.ls) f m (b,out)).1 (dfs (zbO (zC g) g.ls) f m (b,out)).2 W'
theorem zd7 {w:World} {b:Nat} {t:TypeId} {v:Value} (h:Bk w b #[v] t):w.cell? ⟨b,0,none⟩=some v∧∀i,w.frozen? ⟨b,i,none⟩=false:=by
 refine⟨?_,fun i=>?_⟩<;>simp[World.cell?,World.frozen?,h]
theorem zwf {b:List Bool} {m:Nat} (h:m<b.length):b[m]? =some (b.getD m true):=by rw[List.getD,List.getElem?_eq_getElem h];rfl
theorem zwg (w:World) (base:Nat) (G:GS) (g:Gr) (gx gb gr go gq:Nat) (hl:zbN (zC g) g.ls) (hn:g.ms.length≤8) (aD:g.ls.length≤1048576) (f:Nat):zwe w base G g gx gb gr go gq f:=by
 have HL:=zc hl
 clear hl
 induction f with
 |zero=>
  intro m b h W z hm hf _ _
  have O:=z.bl.len
  have aa:zae b=b.length:=by have:=zgu b;omega
  have K:=zgv.1 aa m (by omega)
  have HW:=zc z
  obtain⟨c0,f0⟩:=zd7 z.bc
  have c1:=z.bl.cell K
  have az:(m:Int)<(g.ms.length:Int):=by omega
  clear z K
  go_enter Tryz.func68,Tryz.ntmps68
  go_wp2
  (try simp only[Exit.inBlock,Exit.then]);refine bodyPost_ret (results_none rfl _ _ _) rfl ?_
  exact⟨rfl,HW.out⟩
 |succ f ih=>
  intro m b h W z hm hf aN ho
  have IH:=zc ih
  have HW:=zc z
  have HO:=zc ho
  have O:=z.bl.len
  have az:(m:Int)<(g.ms.length:Int):=by omega
  have K:=zwf (b:=b) (m:=m) (by omega)
  obtain⟨c0,f0⟩:=zd7 z.bc
  have c1:=z.bl.cell K
  clear ih z ho
  cases hb:b.getD m true with
  |true=>
   have HD:Hid (dfs (zbO (zC g) g.ls) (f+1) m (b,h)=(b,h)):=by show _=_;rw[dfs,if_pos hb]
   rw[hb] at c1
   clear K hb
   go_enter Tryz.func68,Tryz.ntmps68
   go_wp2
   (try simp only[Exit.inBlock,Exit.then]);refine bodyPost_ret (results_none rfl _ _ _) rfl ?_
   exact⟨rfl,by rw[HD.out];exact HW.out⟩
  |false=>
   rw[hb] at c1 K
   have hc:=zjW K
   have f1:=HW.out.bl.free m
   have HD:Hid (dfs (zbO (zC g) g.ls) (f+1) m (b,h)=(((zbO (zC g) g.ls m).foldl (fun s k=>dfs (zbO (zC g) g.ls) f k s) (b.set m true,h)).1,((zbO (zC g) g.ls m).foldl (fun s k=>dfs (zbO (zC g) g.ls) f k s) (b.set m true,h)).2++[m])):=by show _=_;rw[dfs,if_neg (by rw[hb];decide)]
   have H:=zc (HW.out.mark m)
   clear hb K
   go_enter Tryz.func68,Tryz.ntmps68
   go_upto_region 2 with fail
   obtain⟨W1,ai⟩: ∃W1,W1=W.setCell ⟨gq,m,none⟩ (.bool true):=⟨_,rfl⟩
   rw[←ai] at H ⊢
   clear ai HW c0 f0 c1 f1
   obtain⟨A,M⟩: ∃A,g.ms[m]? =some A:=⟨_,List.getElem?_eq_getElem hm⟩
   obtain⟨S,hS⟩:=zdJ HO.out.len M
   have L:=zc (HO.out.later H.out.b)
   obtain⟨b1,o1,e1,k1⟩:=(RowAt.of (f:=mdL) (m:=5) (fun _=>rfl) (zeI L.out.len L.out.ms)).get hS
   have z0:=k1 0 _ rfl
   simp only[Nat.add_zero] at z0
   have RS:=zc (RowS.of (HO.out.md _ (List.mem_of_getElem? hS)).rq)
   have X:Hid ((zC g)[m]? =some A.rq):=by show _=_;rw[zC,List.getElem?_map,M];rfl
   have U:Hid (zbO (zC g) g.ls m=A.rq.map fun s=>(zbi g.ls ((m:Int),s.toList)).toNat):=by show _=_;rw[zbO,List.getD,X.out];rfl
   obtain⟨y0,y1,y2,yf⟩:=zq H.out.x
   rw[e1] at y1
   clear M hS k1 e1 L
   obtain⟨⟨ra,rc⟩,aQ,aP,aO,aK,aM⟩:=S
   simp only at z0 RS
   have aL:A.rq.length≤1048576:=by
    have h1:=HL.out.1
    have h2:=zhK X.out
    have h3:=zhL (zC g) (m+1)
    omega
   have aI:g.ms.length≤f+zae (b.set m true):=by omega
   have av:h.length≤zae (b.set m true):=by omega
   go_wp2
   clear z0 y0 y1 y2 yf
   obtain⟨D,E⟩: ∃D,D=zbO (zC g) g.ls:=⟨_,rfl⟩
   have aB:Hid (∀a,a<g.ms.length→∀k∈D a,k<g.ms.length):=fun a _ k hk=>by rw[E] at hk;have:=zh8 HL.out a k hk;rw[zcq] at this;exact this
   have HQ:=zc E
   rw[←E] at HD U
   have aC:Hid (∀(m:Nat) (b:List Bool) (h:List Nat) (W:World),RunW w G g gx gb gr go gq b h W→m<g.ms.length→g.ms.length≤f+zae b→h.length≤zae b→Calls Tryz.prog 68 #[.int .i64 (m:Int),.pointer (some ⟨gb,0,none⟩),.pointer (some ⟨gx,0,none⟩),.pointer (some ⟨gr,0,none⟩),.pointer (some ⟨go,0,none⟩)] W fun e W'=>e= .returned (.tuple #[])∧RunW w G g gx gb gr go gq (dfs D f m (b,h)).1 (dfs D f m (b,h)).2 W'):=by rw[E];exact fun m b h W h1 h2 h3 h4=>IH.out m b h W h1 h2 h3 h4 HO.out
   clear E IH
   go_loopg [22] A.rq.length (fun k aJ wr=>∃j:Nat,aJ= .int .i64 j∧j+k=A.rq.length∧∃q:List Bool×List Nat,q=((D m).take j).foldl (fun s k=>dfs D f k s) (b.set m true,h)∧RunW w G g gx gb gr go gq q.1 q.2 wr∧g.ms.length≤f+zae q.1∧q.2.length≤zae q.1)
   case atStart=>exact⟨0,rfl,by omega,(b.set m true,h),rfl,H.out,aI,av⟩
   case round=>
    obtain⟨j,rfl,hj,q,ae,z,am,aw⟩:=hrel
    have I:=zc z
    have an:=zc ae
    clear z ae H
    have aR:=zgu q.1
    have O:=I.out.bl.len
    by_cases aq:j<A.rq.length
    ·have ah:(j:Int)<(A.rq.length:Int):=by omega
     obtain⟨s,hs⟩: ∃s,A.rq[j]? =some s:=⟨_,List.getElem?_eq_getElem aq⟩
     obtain⟨b2,o2,e2,k2⟩:=(RS.out.later I.out.b).get hs
     subst e2
     have z0:=k2 0 _ rfl
     simp only[Nat.add_zero,Nat.mul_one] at z0
     have hk:=HL.out.2 m A.rq X.out s (List.mem_of_getElem? hs)
     rw[zcq] at hk
     obtain⟨k,Y⟩: ∃k:Nat,zbi g.ls ((m:Int),s.toList)=(k:Int):=⟨_,(Int.toNat_of_nonneg hk.1).symm⟩
     have ab:k<g.ms.length:=by omega
     have ao:Hid ((D m)[j]? =some k):=by show _=_;rw[U.out,List.getElem?_map,hs];simp[Y]
     have aA:=zc Y
     obtain⟨j1,ad⟩: ∃j1,j1=j+1:=⟨_,rfl⟩
     have ej:(j:Int)+1=(j1:Int):=by omega
     have al:=zc ad
     have aG:=zc (zwd (f:=fun s k=>dfs D f k s) ao.out (b.set m true,h))
     clear hs k2 hk Y ad
     have DP:=zc (zjX (S:=fun _=>True) aB.out (fun _ _ _ _=>trivial) f k q O ab am trivial)
     obtain⟨x0,x1,x2,xf⟩:=zq I.out.x
     obtain⟨r0,rf⟩:=zd7 I.out.rc
     go_upto_region 5 with fail
     go_region_with (first|(go_at_call 67;refine (zmE base G g m s _ (HO.out.later I.out.b.drew) aD).mono ?_;rintro e w2 ⟨rfl,ag⟩;rw[aA.out];have J:=zc (I.out.later (((Below.refl _ _).drew).trans ag));clear ag;obtain⟨t0,t1,t2,tf⟩:=zq J.out.x;obtain⟨u0,uf⟩:=zd7 J.out.rc)|(go_at_call 68;refine (aC.out k q.1 q.2 _ J.out ab am aw).mono ?_;rintro e w3 ⟨rfl,aj⟩))
     all_goals (
      have ax:=zc aj
      clear aj J I t0 t1 t2 tf u0 uf x0 x1 x2 xf r0 rf z0
      go_wp2
      go_roundg (gk-1)
      case rel=>
       refine⟨j1,rfl,by have:=al.out;omega,dfs D f k q,?_,ax.out,by have:=DP.out.le.cnt.1;omega,by have:=DP.out.cnt;omega⟩
       rw[al.out,aG.out,←an.out]
      case measure=>omega)
    ·have ah: ¬(j:Int)<(A.rq.length:Int):=by omega
     obtain rfl:j=A.rq.length:=by omega
     have aH:Hid (q=(D m).foldl (fun s k=>dfs D f k s) (b.set m true,h)):=by
      have:=an.out
      rw[List.take_of_length_le (by rw[U.out,List.length_map];exact Nat.le_refl _)] at this
      exact this
     obtain⟨r,V,N⟩:=I.out.oc
     obtain⟨d0,df⟩:=zd7 V
     obtain⟨i0,hi,ar,aF,ay⟩:=info_parts Tryz.infoIntO
     have ac:=zc V
     have af:=zc N
     have ak:=fun o1=>N.alloc (o:=o1)
     have ap: ∀o1,w.heap.size≤(wr.alloc o1).heap.size:=fun o1=>by rw[zg];have:=I.out.b.size;omega
     clear V N
     go_wp2_with (at_builtin;refine zba _ rfl _ _ 36 rfl w.heap.size 3 i0 _ 1 8 Tryz.underlying36 hi ar aF ay rfl (by decide) (by decide) r q.2.length (zfd q.2) (by rfl) (ak _) wr.heap.size [.int .i64 (m:Int)] (by rfl) (by exact heap_alloc_new wr _) rfl (by simp[Value.oneCell']) (by omega) (ap _) ?_;intro r' wz hr Z aE;obtain⟨e0,ef⟩:=zd7 (zmH af.out (zaN wr _) Z ac.out (by decide));have HR:=zc hr;have au:=zc Z;clear hr Z aE d0 df)
     go_end0
     have hp:=I.out.push ac.out af.out (zaN wr _) au.out (m:=m) (by have:=HR.out;unfold zfd at this ⊢;rw[List.map_append];exact this)
     refine⟨rfl,?_⟩
     rw[←HQ.out,HD.out,←aH.out]
     exact hp
def ziF (g:Gr):List Nat:=(dfs (zbO (zC g) g.ls) g.ms.length 0 (List.replicate g.ms.length false,[])).2
def zwh (w:World) (out:List Nat) (e:Ending) (w':World):Prop:=∃r:Rw,e= .returned (.slice r.a out.length r.cap)∧OwnR w' w.heap.size 3 1 r out.length (zfd out)∧Below w.heap.size w w'
theorem zwi (base:Nat) (G:GS) (g:Gr) (w:World) (ho:GrOwn w base G g) (hl:zbN (zC g) g.ls) (af:1≤g.ms.length) (hn:g.ms.length≤8) (aa:g.ls.length≤1048576):
  Calls Tryz.prog 37 #[grD G g] w fun e w'=>zwh w (ziF g) e w':=by
 have HO:=zc ho
 have HL:=zc hl
 clear ho hl
 obtain⟨i0,hi,ab,ac,ad⟩:=info_parts Tryz.infoBl
 unfold grD
 go_enter Tryz.func37,Tryz.ntmps37
 go_upto_region 2 with fail
 obtain⟨q,J⟩: ∃q,q=w.heap.size:=⟨_,rfl⟩
 rw[←J]
 refine zy (R:=fun W=>(Bk W q (grC G g) 32∧Bk W (q+1) #[] 3∧Bk W (q+1+1) #[.slice (some ⟨q+1,0,none⟩) 0 0] 36)∧Below w.heap.size w W) ?_ ?_
 ·have O:=zaN w (.cells (grC G g) 32)
  have K:=zaN (w.alloc (.cells (grC G g) 32)) (.cells #[] 3)
  have a3:=zaN ((w.alloc (.cells (grC G g) 32)).alloc (.cells #[] 3)) (.cells #[.slice (some ⟨q+1,0,none⟩) 0 0] 36)
  have h0:Bk (w.alloc (.cells (grC G g) 32)) q (grC G g) 32:=by rw[J];exact heap_alloc_new w _
  have h1:Bk ((w.alloc (.cells (grC G g) 32)).alloc (.cells #[] 3)) (q+1) #[] 3:=by
   have:=heap_alloc_new (w.alloc (.cells (grC G g) 32)) (.cells #[] 3)
   rw[zg,←J] at this
   exact this
  refine⟨⟨(h0.later K).later a3,h1.later a3,?_⟩,zaq (zaq O K) a3⟩
  have:=heap_alloc_new ((w.alloc (.cells (grC G g) 32)).alloc (.cells #[] 3)) (.cells #[.slice (some ⟨q+1,0,none⟩) 0 0] 36)
  rw[zg,zg,←J] at this
  exact this
 have ae:w.heap.size≤q:=by omega
 clear J
 rintro W0 ⟨⟨hx,hy,hz⟩,hb⟩
 have X:=zc hx
 have Y:=zc hy
 have Z:=zc hz
 have HB:=zc hb
 clear hx hy hz hb
 obtain⟨c0,c1,c2,cf⟩:=zq X.out
 go_upto_region 4 with (first|(at_make;refine wpList_make_full W0 rfl _ _ 58 rfl w.heap.size 4 i0 _ 1 Tryz.underlying58 hi ab ac .i64 .i64 _ _ g.ms.length (by rfl) (by rfl) rfl rfl (by rw[ad];omega) (by unfold maxLen;omega) HB.out.size ?_;intro L A M))
 have E:Below W0.heap.size W0 L:=(Below.refl _ _).grown M (Nat.le_refl _) (fun k h=>by cases h)
 obtain⟨H,U⟩: ∃H,H=W0.heap.size:=⟨_,rfl⟩
 obtain⟨z,D⟩: ∃z,z=L.heap.size:=⟨_,rfl⟩
 rw[←U,←D]
 have I:OwnBl L w.heap.size H g.ms.length (List.replicate g.ms.length false):=by
  rw[show madeCells (Value.bool false).cells (g.ms.length*1)=madeCells #[.bool false] g.ms.length by rw[Nat.mul_one];rfl,toList_madeCells_one] at A
  unfold OwnBl OwnR
  rw[U,List.map_replicate]
  exact A
 have O:=zaN L (.cells #[.slice (some ⟨H,0,none⟩) g.ms.length g.ms.length] 58)
 have K:=zaN (L.alloc (.cells #[.slice (some ⟨H,0,none⟩) g.ms.length g.ms.length] 58)) (.cells #[.nilFunc] 106)
 refine zy (R:=fun W=>(Bk W q (grC G g) 32∧Bk W (q+1) #[] 3∧Bk W (q+1+1) #[.slice (some ⟨q+1,0,none⟩) 0 0] 36∧Bk W z #[.slice (some ⟨H,0,none⟩) g.ms.length g.ms.length] 58∧Bk W (z+1) #[.nilFunc] 106)∧OwnBl W w.heap.size H g.ms.length (List.replicate g.ms.length false)∧w.heap.size≤z∧Below w.heap.size w W) ?_ ?_
 ·have h4:Bk (L.alloc (.cells #[.slice (some ⟨H,0,none⟩) g.ms.length g.ms.length] 58)) z #[.slice (some ⟨H,0,none⟩) g.ms.length g.ms.length] 58:=by rw[D];exact heap_alloc_new L _
  refine⟨⟨((X.out.later E).later O).later K,((Y.out.later E).later O).later K,((Z.out.later E).later O).later K,h4.later K,?_⟩,(I.later O).later K,by have h1:=HB.out.size;have h2:=E.size;omega,zaq (zaq (zaq HB.out E) O) K⟩
  have:=heap_alloc_new (L.alloc (.cells #[.slice (some ⟨H,0,none⟩) g.ms.length g.ms.length] 58)) (.cells #[.nilFunc] 106)
  rw[zg,←D] at this
  exact this
 clear U D I O K E A M X Y Z HB c0 c1 c2 cf
 rintro W1 ⟨⟨hx,hy,hz,hv,N⟩,I,D,hb⟩
 have RW:Hid (RunW w G g q z (z+1) (q+1+1) H (List.replicate g.ms.length false) [] (W1.setCell ⟨z+1,0,none⟩ (ziE z q (z+1) (q+1+1)))):=by
  refine⟨hx.set N (by decide),hv.set N (by decide),I.aside N (by decide),zab (i:=0) N,⟨⟨some ⟨q+1,0,none⟩,0⟩,hz.set N (by decide),?_⟩,by omega,hb.setCell (by show _≤z+1;omega) _⟩
  exact⟨rfl,.inr ⟨q+1,0,#[],rfl,by omega,hy.set N (by decide),Nat.le_refl _,Nat.zero_le _,rfl,rfl⟩⟩
 obtain⟨u0,uf⟩:=zd7 N
 clear hx hy hz hv N I D hb
 go_upto_region 5 with fail
 obtain⟨W2,V⟩: ∃W2,W2=W1.setCell ⟨z+1,0,none⟩ (ziE z q (z+1) (q+1+1)):=⟨_,rfl⟩
 rw[←V] at RW ⊢
 clear V u0 uf
 obtain⟨r0,rf⟩:=zd7 RW.out.rc
 have ag:zae (List.replicate g.ms.length false)=0:=by unfold zae;rw[List.count_replicate];rfl
 go_wp2_with fail
 refine (zwg w base G g q z (z+1) (q+1+1) H HL.out hn aa g.ms.length 0 _ [] _ RW.out (by omega) (by omega) (Nat.zero_le _) HO.out).mono ?_
 rintro e W3 ⟨rfl,hw⟩
 have R3:=zc hw
 clear hw RW r0 rf
 obtain⟨r,h1,h2⟩:=R3.out.oc
 obtain⟨z0,zf⟩:=zd7 h1
 have H2:=zc h2
 clear h1 h2
 go_wp2
 go_ret
 exact⟨r,rfl,H2.out,R3.out.b⟩
theorem zwj (M:zf9 65) (L:zfA 66) (base:Nat) (G:GS) (g:Gr) (w:World) (ho:GrOwn w base G g) (hg:GdG g):
  Calls Tryz.prog 10 #[grD G g] w fun e w'=>SameOut (GrI g) e∧Below w.heap.size w w':=by
 have H:=zc ho
 have Z:=zc hg
 have CM:=zc M
 have CE:=zc L
 have al:=hg.pl
 have ak:=hg.ml
 have ai:=hg.ll
 clear ho hg M L
 unfold grD
 go_enter Tryz.func10,Tryz.ntmps10
 go_upto_region 1 with fail
 obtain⟨gx,U⟩: ∃gx,gx=w.heap.size:=⟨_,rfl⟩
 rw[←U]
 refine zy (R:=fun W=>Bk W gx (grC G g) 32∧Below w.heap.size w W) ⟨by rw[U];exact heap_alloc_new w _,zaN w _⟩ ?_
 clear U
 rintro E ⟨hx,z⟩
 have X:=zc hx
 have A:=zc z
 obtain⟨c0,c1,c2,cf⟩:=zq hx
 clear hx z
 by_cases h1:(g.ms.length:Int)<1
 ·have V:Hid (¬GrI g):=fun k=>by have:=k.1;omega
  go_wp2
  go_ret
  exact⟨zbw V.out rfl,A.out⟩
 by_cases h2:(g.ms.length:Int)≤8
 case neg=>
  have V:Hid (¬GrI g):=fun k=>by have:=k.1;omega
  go_wp2
  go_ret
  exact⟨zbw V.out rfl,A.out⟩
 by_cases h3:(g.ps.length:Int)=(g.ms.length:Int)
 case neg=>
  have V:Hid (¬GrI g):=fun k=>by have:=k.2.1;omega
  have h4:((g.ps.length:Int) !=(g.ms.length:Int))=true:=bne_iff_ne.2 h3
  go_wp2
  go_ret
  exact⟨zbw V.out rfl,A.out⟩
 go_upto_region 3 with fail
 have hp:g.ps.length=g.ms.length:=by omega
 have HP:=zc hp
 have aa:1≤g.ms.length:=by omega
 have ac:g.ms.length≤8:=by omega
 clear h1 h2 h3 c0 c1 c2 cf
 obtain⟨Y0,Y1,Y2,_⟩:=zq X.out
 have Z0:=zc Y0
 have Z1:=zc Y1
 have Z2:=zc Y2
 clear Y0 Y1 Y2 hp
 have cA: ∀(b:Bool),(b=true↔∀i,i<g.ps.length→zbZ g.ps i)→∀d D,Calls Tryz.prog 34 #[.slice G.pr.a g.ps.length G.pr.cap] (grow (redrawn E d) D) fun e I=>e= .returned (.bool b)∧∃q:Regrown,I=grow (redrawn E q.d) q.os:=fun b z d D=>Calls.regrown_of ((zmC base G.pr.a G.pr.cap g.ps _ ((H.out.later A.out).later (below_regrown E d D)).ps (by have:=HP.out;omega) Z.out.ps).mono fun e w' h=>⟨h.1.of z,h.2⟩)
 have cB: ∀(b:Bool),(b=true↔zcQ g.ms)→∀d D,Calls Tryz.prog 35 #[.slice G.mr.a g.ms.length G.mr.cap] (grow (redrawn E d) D) fun e I=>e= .returned (.bool b)∧∃q:Regrown,I=grow (redrawn E q.d) q.os:=fun b z d D=>Calls.regrown_of ((zmD CM.out CE.out base G.mr.a G.mr.cap G.sv g.ms _ H.out.len ((H.out.later A.out).later (below_regrown E d D)).ms ((H.out.later A.out).later (below_regrown E d D)).md Z.out.ms (by omega)).mono fun e w' h=>⟨h.1.of z,h.2⟩)
 have cC: ∀(b:Bool),(b=true↔zbN (zC g) g.ls)→∀d D,Calls Tryz.prog 36 #[grD G g] (grow (redrawn E d) D) fun e I=>e= .returned (.bool b)∧∃q:Regrown,I=grow (redrawn E q.d) q.os:=fun b z d D=>Calls.regrown_of ((zmG base G g _ ((H.out.later A.out).later (below_regrown E d D)) Z.out).mono fun e w' h=>⟨h.1.of z,h.2⟩)
 unfold grD at cC
 have af:(¬(∀i,i<g.ps.length→zbZ g.ps i))∨((∀i,i<g.ps.length→zbZ g.ps i)∧(¬zcQ g.ms∨(zcQ g.ms∧(¬zbN (zC g) g.ls∨zbN (zC g) g.ls)))):=by
  by_cases J: ∀i,i<g.ps.length→zbZ g.ps i
  ·by_cases K:zcQ g.ms
   ·exact .inr ⟨J,.inr ⟨K,(Classical.em _).symm⟩⟩
   ·exact .inr ⟨J,.inl K⟩
  ·exact .inl J
 rcases af with J|⟨J,K|⟨K,k3|k3⟩⟩
 case inr.inr.inr=>
  clear cA cB cC
  have ab:=zc J
  have ad:=zc K
  have Y:=zc k3
  clear J K k3
  obtain⟨z0,z1,z2,zf⟩:=zq X.out
  go_region_with (first|(go_at_call 34;refine (zmC base G.pr.a G.pr.cap g.ps _ (H.out.later A.out.drew).ps (by have:=HP.out;omega) Z.out.ps).mono ?_;rintro e w1 ⟨O,z⟩;obtain rfl:=O.of (b:=true) (iff_of_true rfl ab.out);have B1:Hid (Below E.heap.size E w1):=(((Below.refl _ _).drew).trans z);clear O z;obtain⟨p0,p1,p2,pf⟩:=zq (X.out.later B1.out))|(go_at_call 35;refine (zmD CM.out CE.out base G.mr.a G.mr.cap G.sv g.ms _ H.out.len ((H.out.later A.out).later B1.out).ms ((H.out.later A.out).later B1.out).md Z.out.ms (by omega)).mono ?_;rintro e w2 ⟨O,z⟩;obtain rfl:=O.of (b:=true) (iff_of_true rfl ad.out);have B2:=zc (zaq B1.out z);clear O z;obtain⟨q0,q1,q2,qf⟩:=zq (X.out.later B2.out))|(go_at_call 36;refine (zmG base G g _ ((H.out.later A.out).later B2.out) Z.out).mono ?_;rintro e w3 ⟨O,z⟩;obtain rfl:=O.of (b:=true) (iff_of_true rfl Y.out);have B3:=zc (zaq B2.out z);clear O z;obtain⟨r0,r1,r2,rf⟩:=zq (X.out.later B3.out))|(go_at_call 37;refine (zwi base G g _ ((H.out.later A.out).later B3.out) Y.out aa ac ai).mono ?_;rintro e w4 ⟨r,rfl,aj,z⟩;have B4:=zc (zaq B3.out z);clear aj z;obtain⟨s0,s1,s2,sf⟩:=zq (X.out.later B4.out)))
  all_goals (
   have ah:=zc (zaq A.out B4.out)
   clear B1 B2 B3 B4 p0 p1 p2 pf q0 q1 q2 qf r0 r1 r2 rf s0 s1 s2 sf
   go_wp2
   go_ret
   refine⟨⟨_,rfl,?_⟩,ah.out⟩
   rw[beq_iff_eq]
   refine⟨fun h=>⟨⟨aa,ac⟩,HP.out,ab.out,ad.out,Y.out,(Int.ofNat.inj h:(ziF g).length=g.ms.length)⟩,fun k=>?_⟩
   rw[show (ziF g).length=g.ms.length from k.2.2.2.2.2])
 all_goals (
  have V:Hid (¬GrI g):=fun k=>by first|exact J k.2.2.1|exact K k.2.2.2.1|exact k3 k.2.2.2.2.1
  have z0:=cell_regrown Z0.out
  have z1:=cell_regrown Z1.out
  have z2:=cell_regrown Z2.out
  refine wp_region_quiet_below (by kernel_rfl) (by kernel_rfl) ?_
  repeat (go_big_quiet_step (first|with_reducible exact cA true (iff_of_true rfl J) _ _|with_reducible exact cA false (by simp only[Bool.false_eq_true,false_iff];exact J) _ _|with_reducible exact cB true (iff_of_true rfl K) _ _|with_reducible exact cB false (by simp only[Bool.false_eq_true,false_iff];exact K) _ _|with_reducible exact cC false (by simp only[Bool.false_eq_true,false_iff];exact k3) _ _))
  refine wpQuiet_nil ?_
  intro w2 ae
  obtain⟨q,N⟩:=ae
  have ag:=zc (zaq A.out (zdK N))
  clear N z0 z1 z2
  go_wp2
  go_ret
  exact⟨zbw V.out rfl,ag.out⟩)
theorem zwk (X b2:Nat) (V U:Sv) (m:Md) (w:World) (h1:OwnMd w X V m) (h2:OwnMd w b2 U m) (hf:zdC m):
  Calls Tryz.prog 69 #[zl V m,zl U m] w fun e w'=>e= .returned (.bool true)∧Below w.heap.size w w':=by
 have H1:=zc h1
 have H2:=zc h2
 have Z:=zc hf
 clear h1 h2 hf
 unfold zl
 go_enter Tryz.func69,Tryz.ntmps69
 go_upto_region 1 with fail
 refine zy (R:=TwoM w X b2 V U m m) (zh2 w X b2 V U m m H1.out H2.out) ?_
 clear H1 H2
 intro w0 h
 have T0:=zc h
 clear h
 obtain⟨O,H,J,M,I,L⟩:=zj T0.out.1
 obtain⟨K,E,z,D,N,A⟩:=zj T0.out.2.1
 go_wp2_with fail
 refine (zkk X b2 V.rq U.rq m.rq w0 (by rw[←zeF];exact T0.out.2.2.1.rq) (by rw[←zeF];exact T0.out.2.2.2.1.rq) Z.out.1).mono ?_
 rintro e w1 ⟨rfl,q⟩
 have Y:=zc (T0.out.later q)
 clear q O H J M I L K E z D N A
 obtain⟨O,H,J,M,I,L⟩:=zj Y.out.1
 obtain⟨K,E,z,D,N,A⟩:=zj Y.out.2.1
 go_wp2_with fail
 refine (zpI X b2 V.im U.im m.im w1 Y.out.2.2.1.im Y.out.2.2.2.1.im Z.out.2.1).mono ?_
 rintro e w2 ⟨rfl,q⟩
 have T2:=zc (Y.out.later q)
 clear q O H J M I L K E z D N A
 obtain⟨O,H,J,M,I,L⟩:=zj T2.out.1
 obtain⟨K,E,z,D,N,A⟩:=zj T2.out.2.1
 go_wp2_with fail
 refine (zpM X b2 V.ep U.ep m.ep w2 T2.out.2.2.1.ep T2.out.2.2.2.1.ep Z.out.2.2.1).mono ?_
 rintro e w3 ⟨rfl,q⟩
 have T3:=zc (T2.out.later q)
 clear q O H J M I L K E z D N A
 obtain⟨O,H,J,M,I,L⟩:=zj T3.out.1
 obtain⟨K,E,z,D,N,A⟩:=zj T3.out.2.1
 go_wp2_with fail
 refine (zpQ X b2 V.st U.st m.st w3 T3.out.2.2.1.st T3.out.2.2.2.1.st Z.out.2.2.2.1).mono ?_
 rintro e w4 ⟨rfl,q⟩
 have T4:=zc (T3.out.later q)
 clear q O H J M I L K E z D N A
 obtain⟨O,H,J,M,I,L⟩:=zj T4.out.1
 obtain⟨K,E,z,D,N,A⟩:=zj T4.out.2.1
 go_wp2_with fail
 refine (zpU X b2 V.ex U.ex m.ex w4 T4.out.2.2.1.ex T4.out.2.2.2.1.ex Z.out.2.2.2.2).mono ?_
 rintro e w5 ⟨rfl,q⟩
 have T5:=zc (T4.out.later q)
 clear q O H J M I L K E z D N A
 obtain⟨O,H,J,M,I,L⟩:=zj T5.out.1
 obtain⟨K,E,z,D,N,A⟩:=zj T5.out.2.1
 go_wp2
 go_ret
 exact⟨rfl,T5.out.2.2.2.2⟩
theorem zwl (z A:Option Addr) (D h:Nat) (w:World):Calls Tryz.prog 39 #[.slice z 0 D,.slice A 0 h] w fun e q=>e= .returned (.bool true)∧Below w.heap.size w q:=by
 go_enter Tryz.func39,Tryz.ntmps39
 go_wp2
 go_loopg [5] 1 (fun k i wr=>k=1∧i= .int .i64 0∧wr=w)
 case atStart=>exact⟨rfl,rfl,rfl⟩
 case round=>
  obtain⟨rfl,rfl,rfl⟩:=hrel
  go_wp2
  go_ret
  exact⟨rfl,Below.refl _ _⟩
theorem zwm (M b2 g1 Y:Nat) (N r2:Rw) (U V:List Sv) (l:List Md) (w:World) (hu:U.length=l.length) (hv:V.length=l.length) (q:OwnR w M 54 5 N l.length ((U.zip l).flatMap mdL)) (h:OwnR w b2 54 5 r2 l.length ((V.zip l).flatMap mdL)) (m1: ∀x∈U.zip l,OwnMd w M x.1 x.2) (m2: ∀x∈V.zip l,OwnMd w b2 x.1 x.2) (e1:N.a=some ⟨g1,0,none⟩) (e2:r2.a=some ⟨Y,0,none⟩) (hl:l.length≤4294967296) (hf: ∀m∈l,zdC m):
  Calls Tryz.prog 39 #[.slice (some ⟨g1,0,none⟩) l.length N.cap,.slice (some ⟨Y,0,none⟩) l.length r2.cap] w fun e w'=>e= .returned (.bool true)∧Below w.heap.size w w':=by
 have H1:=zc (zeI hu q)
 have H2:=zc (zeI hv h)
 have M1:=zc m1
 have M2:=zc m2
 have E1:=zc e1
 have E2:=zc e2
 have HU:=zc hu
 have HV:=zc hv
 have HF:=zc hf
 clear q h e1 e2 m1 m2 hu hv hf
 go_enter Tryz.func39,Tryz.ntmps39
 go_wp2
 go_loopg [5] l.length (fun k i wr=>∃j:Nat,i= .int .i64 j∧j+k=l.length∧Below w.heap.size w wr)
 case atStart=>exact⟨0,rfl,by omega,Below.refl _ _⟩
 case round=>
  obtain⟨j,rfl,hj,hb⟩:=hrel
  have A:=zc hb
  clear hb
  by_cases L:j<l.length
  ·have E:(j:Int)<(l.length:Int):=by omega
   obtain⟨x,J⟩:=zel L
   obtain⟨s,hs⟩:=zdJ HU.out J
   obtain⟨t,O⟩:=zdJ HV.out J
   obtain⟨Z,ga,q⟩:=OwnR.elem (f:=mdL) (m:=5) (fun _=>rfl) (H1.out.later A.out) hs
   obtain rfl:Z=g1:=by have:=ga.symm.trans E1.out;simpa using this
   obtain⟨Z,gb,h⟩:=OwnR.elem (f:=mdL) (m:=5) (fun _=>rfl) (H2.out.later A.out) O
   obtain rfl:Z=Y:=by have:=gb.symm.trans E2.out;simpa using this
   have cQ: ∀d I,Calls Tryz.prog 69 #[zl s x,zl t x] (grow (redrawn wr d) I) fun e ab=>e= .returned (.bool true)∧∃p:Regrown,ab=grow (redrawn wr p.d) p.os:=fun d I=>Calls.regrown_of (zwk M b2 s t x _ (((M1.out _ (List.mem_of_getElem? hs)).later A.out).later (below_regrown wr d I)) (((M2.out _ (List.mem_of_getElem? O)).later A.out).later (below_regrown wr d I)) (HF.out x (List.mem_of_getElem? J)))
   unfold zl at cQ
   have C0:=zc (q 0 (by omega))
   have D0:=zc (h 0 (by omega))
   have C1:=zc (q 1 (by omega))
   have D1:=zc (h 1 (by omega))
   have C2:=zc (q 2 (by omega))
   have D2:=zc (h 2 (by omega))
   have C3:=zc (q 3 (by omega))
   have D3:=zc (h 3 (by omega))
   have C4:=zc (q 4 (by omega))
   have D4:=zc (h 4 (by omega))
   clear q h ga gb J hs O
   obtain⟨H,D⟩: ∃H,H=j+1:=⟨_,rfl⟩
   have ej:(j:Int)+1=(H:Int):=by omega
   have HJ:=zc D
   clear D
   go_wp2
   have k0:=cell_regrown C0.out
   have l0:=cell_regrown D0.out
   have k1:=cell_regrown C1.out
   have l1:=cell_regrown D1.out
   have k2:=cell_regrown C2.out
   have l2:=cell_regrown D2.out
   have k3:=cell_regrown C3.out
   have l3:=cell_regrown D3.out
   have k4:=cell_regrown C4.out
   have l4:=cell_regrown D4.out
   simp only[Nat.add_zero] at k0 l0
   refine wp_region_quiet_below (by kernel_rfl) (by kernel_rfl) ?_
   repeat (go_big_quiet_step (exact cQ _ _))
   refine wpQuiet_nil ?_
   intro w2 K
   obtain⟨⟨dq,X⟩,z⟩:=K
   have aa:Hid (Below w.heap.size w w2):=by show Below _ _ _;rw[z];exact A.out.trans ((below_regrown wr dq X).mono A.out.size)
   clear z k0 l0 C0 D0 k1 l1 C1 D1 k2 l2 C2 D2 k3 l3 C3 D3 k4 l4 C4 D4 cQ
   go_wp2
   go_roundg (gk-1)
   case rel=>exact⟨H,rfl,by have:=HJ.out;omega,aa.out⟩
   case measure=>omega
  ·have E: ¬(j:Int)<(l.length:Int):=by omega
   go_wp2
   go_ret
   exact⟨rfl,A.out⟩
def ziG (g:Gr):Prop:=g.ps.length≤4294967296∧g.ms.length≤4294967296∧g.ls.length≤4294967296∧∀m∈g.ms,zdC m
theorem zwn (H b2:Nat) (h q:GS) (g:Gr) (w:World) (A:GrOwn w H h g) (z:GrOwn w b2 q g) (E:ziG g):
  Calls Tryz.prog 39 #[.slice h.mr.a g.ms.length h.mr.cap,.slice q.mr.a g.ms.length q.mr.cap] w fun e M=>e= .returned (.bool true)∧Below w.heap.size w M:=by
 by_cases D:g.ms.length=0
 ·rw[D]
  exact zwl _ _ _ _ w
 ·rcases A.ms.nil_or with ⟨_,_,e⟩|⟨L,I⟩
  ·exact absurd e D
  ·rcases z.ms.nil_or with ⟨_,_,e⟩|⟨K,J⟩
   ·exact absurd e D
   ·rw[I,J]
    exact zwm H b2 L K h.mr q.mr h.sv q.sv g.ms w A.len z.len A.ms z.ms A.md z.md I J E.2.1 E.2.2.2
structure TwoG (w0:World) (b1 b2:Nat) (G1 G2:GS) (g:Gr) (w:World):Prop where
 x:Bk w w0.heap.size (grC G1 g) 32
 y:Bk w (w0.heap.size+1) (grC G2 g) 32
 o1:GrOwn w b1 G1 g
 o2:GrOwn w b2 G2 g
 b:Below w0.heap.size w0 w
theorem TwoG.later {w0 w A:World} {z b2:Nat} {D E:GS} {g:Gr} (h:TwoG w0 z b2 D E g w) (q:Below w.heap.size w A):TwoG w0 z b2 D E g A:=⟨h.x.later q,h.y.later q,h.o1.later q,h.o2.later q,zaq h.b q⟩
theorem zwo (w:World) (D b2:Nat) (h q:GS) (g:Gr) (H:GrOwn w D h g) (E:GrOwn w b2 q g):TwoG w D b2 h q g ((w.alloc (.cells (grC h g) 32)).alloc (.cells (grC q g) 32)):=by
 have A:=zaN w (.cells (grC h g) 32)
 have z:=zaN (w.alloc (.cells (grC h g) 32)) (.cells (grC q g) 32)
 refine⟨Bk.later (heap_alloc_new w _) z,?_,(H.later A).later z,(E.later A).later z,zaq A z⟩
 have:=heap_alloc_new (w.alloc (.cells (grC h g) 32)) (.cells (grC q g) 32)
 rw[zg] at this
 exact this
theorem zwp (D b2:Nat) (A z:GS) (g:Gr) (w:World) (Z:GrOwn w D A g) (Y:GrOwn w b2 z g) (hf:ziG g):
  Calls Tryz.prog 11 #[grD A g,grD z g] w fun e w'=>e= .returned (.bool true)∧Below w.heap.size w w':=by
 have H1:=zc Z
 have H2:=zc Y
 have X:=zc hf
 clear Z Y hf
 unfold grD
 go_enter Tryz.func11,Tryz.ntmps11
 go_upto_region 1 with fail
 refine zy (R:=TwoG w D b2 A z g) (zwo w D b2 A z g H1.out H2.out) ?_
 clear H1 H2
 intro w0 h
 have H:=zc h
 clear h
 obtain⟨V,M,N,U⟩:=zq H.out.x
 obtain⟨O,L,K,J⟩:=zq H.out.y
 go_wp2_with fail
 refine (zkk D b2 A.pr z.pr g.ps w0 H.out.o1.ps H.out.o2.ps X.out.1).mono ?_
 rintro e w1 ⟨rfl,q⟩
 have E:=zc (H.out.later q)
 clear q V M N U O L K J H
 obtain⟨V,M,N,U⟩:=zq E.out.x
 obtain⟨O,L,K,J⟩:=zq E.out.y
 go_wp2_with fail
 refine (zwn D b2 A z g w1 E.out.o1 E.out.o2 X.out).mono ?_
 rintro e w2 ⟨rfl,q⟩
 have I:=zc (E.out.later q)
 clear q V M N U O L K J E
 obtain⟨V,M,N,U⟩:=zq I.out.x
 obtain⟨O,L,K,J⟩:=zq I.out.y
 go_wp2_with fail
 refine (zqi D b2 A.lr z.lr g.ls w2 I.out.o1.ls I.out.o2.ls X.out.2.2.1).mono ?_
 rintro e w3 ⟨rfl,q⟩
 have T3:=zc (I.out.later q)
 clear q V M N U O L K J I
 go_wp2
 go_ret
 exact⟨rfl,T3.out.b⟩
open Go.Deep
theorem zwq {H:Type} {enc:TypeId×Value→H} {w:World} {base:Nat} {q:Nat→Bool} {D:Bool} {K:Nat} {I:List Value} {z:DataW H×List MemPlace} (h:DataW.trod enc Tryz.prog w base q D K 26 I=some z):
  ∃(A:GA) (g:Gr),I=(grA A g).cells.toList∧GrIn w A g∧BigG A g∧∀x∈A.ms,zaU x.2.ex:=by
 obtain⟨xs,k,_,_,E,O,V⟩:=DataW.trod_struct Tryz.underlying26 h
 have cM:Tryz.prog.cellsOf 26=3:=by kernel_rfl
 rw[cM] at E
 have k0:Tryz.prog.cellsOf 22=1:=by kernel_rfl
 have k1:Tryz.prog.cellsOf 23=1:=by kernel_rfl
 have k2:Tryz.prog.cellsOf 24=1:=by kernel_rfl
 obtain⟨N,L,M,rfl⟩:=list3 E
 obtain⟨y0,Y,y2,rfl⟩:=list3 (O.trans rfl)
 have g0:DataW.trod enc Tryz.prog w base q D k 22 (List.take (Tryz.prog.cellsOf 22) (List.drop 0 [N,L,M]))=some y0:=V 0 _ rfl
 rw[k0] at g0
 have g1:DataW.trod enc Tryz.prog w base q D k 23 (List.take (Tryz.prog.cellsOf 23) (List.drop 1 [N,L,M]))=some Y:=V 1 _ rfl
 rw[k1] at g1
 have Z:DataW.trod enc Tryz.prog w base q D k 24 (List.take (Tryz.prog.cellsOf 24) (List.drop 2 [N,L,M]))=some y2:=V 2 _ rfl
 rw[k2] at Z
 obtain⟨a0,c0,l0,e0,b0,r0,q0⟩:=zdG sNone (α:=ByteArray) (f:=(fun x=>[Value.string x])) (m:=1) (Q:=zdI) (by omega) (fun _=>rfl) Tryz.underlying22 (by kernel_rfl) (fun n I y h E=>zko h E) (show DataW.trod enc Tryz.prog w base q D k 22 [N]=some y0 from g0)
 subst e0
 obtain⟨a1,c1,X,e1,b1,r1,U⟩:=zdG (⟨none,none,none,none,none,0,0,0,0,0⟩,⟨[],[],[],[],[]⟩) (α:=MA×Md) (f:=maL) (m:=5) (Q:=fun x=>ModIn w x.1 x.2∧zf4 x.2∧zaU x.2.ex) (by omega) (fun _=>rfl) Tryz.underlying23 (by kernel_rfl) (fun n I y h _=>by
  obtain⟨A,m,e,hm⟩:=zqa h
  exact⟨(A,m),e,hm⟩) (show DataW.trod enc Tryz.prog w base q D k 23 [L]=some Y from g1)
 subst e1
 obtain⟨a2,c2,l2,e2,b2,r2,q2⟩:=zdG ⟨0,sNone,0⟩ (α:=Lk) (f:=lkL) (m:=3) (Q:=zen) (by omega) (fun _=>rfl) Tryz.underlying24 (by kernel_rfl) (fun n I y h E=>zqj h E) (show DataW.trod enc Tryz.prog w base q D k 24 [M]=some y2 from Z)
 subst e2
 unfold maxLen at b0 b1 b2
 exact⟨⟨a0,c0,a1,c1,a2,c2,X⟩,⟨l0,X.map (·.2),l2⟩,rfl,⟨r0,r1,fun x J=>(U x J).1,r2,rfl⟩,⟨by show l0.length≤_;omega,q0,by show X.length≤_;omega,fun x J=>(U x J).2.1,by show l2.length≤_;omega,q2⟩,fun x J=>(U x J).2.2⟩
end Go.Proofs.YtgcbmogmniahjaaGreat
