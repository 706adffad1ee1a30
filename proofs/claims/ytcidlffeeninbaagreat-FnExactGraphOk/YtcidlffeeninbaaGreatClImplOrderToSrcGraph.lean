/-
  What impl.runOrder answers,and the closure that calls itself: the walks.
  What impl.GraphOk answers: the walk.
  What the laws' eqMod answers of a program made twice: the walk.
  The laws' comparers of graphs,where both show the same: the walks.
  What is known of a graph that came in.
-/
import Derived.Laws.EntriesVeiled
import Derived.Test.YtcidlffeeninbaaGreatClImplGraphAToImplGraphB
namespace Go.Proofs.YtcidlffeeninbaaGreat
set_option maxRecDepth 100000
set_option maxHeartbeats 12800000
open Go.RowKit Go.PlainAid Go.Sort
abbrev zi0 (gb gx gr go:Nat):Value:=.func (.func 45) #[] #[.pointer (some ⟨gb,0,none⟩),.pointer (some ⟨gx,0,none⟩),.pointer (some ⟨gr,0,none⟩),.pointer (some ⟨go,0,none⟩)]
def zfa (l:List Nat):List Value:=l.map fun k:Nat=>Value.int .i64 (k:Int)
structure RunW (w:World) (G:GS) (g:Gr) (gx gb gr go gq:Nat) (b:List Bool) (out:List Nat) (W:World):Prop where
 x:Bk W gx (grC G g) 32
 bc:Bk W gb #[.slice (some ⟨gq,0,none⟩) g.ms.length g.ms.length] 52
 bl:OwnBl W w.heap.size gq g.ms.length b
 rc:Bk W gr #[zi0 gb gx gr go] 91
 oc: ∃r:Rw,Bk W go #[.slice r.a out.length r.cap] 59∧OwnR W w.heap.size 3 1 r out.length (zfa out)
 ge:w.heap.size≤go
 b:Below w.heap.size w W
theorem Bk.ne {w:World} {a b:Nat} {z A:Array Value} {s t:TypeId} (h:Bk w a z s) (k:w.heap[b]? =some (.cells A t (0,0))) (D:s≠t):a≠b:=by
 rintro rfl
 have q:some (Obj.cells z s (0,0))=some (.cells A t (0,0)):=h.symm.trans k
 simp only[Option.some.injEq,Obj.cells.injEq] at q
 exact D q.2.1
theorem Bk.set {w:World} {a c i:Nat} {q A:Array Value} {s t:TypeId} {u:Value} (h:Bk w a q s) (k:w.heap[c]? =some (.cells A t (0,0))) (z:s≠t):Bk (w.setCell ⟨c,i,none⟩ u) a q s:=(heap_setCell_other w ⟨c,i,none⟩ a u (h.ne k z)).trans h
theorem RunW.later {w W J:World} {G:GS} {g:Gr} {E A I D H:Nat} {b:List Bool} {z:List Nat} (h:RunW w G g E A I D H b z W) (q:Below W.heap.size W J):RunW w G g E A I D H b z J:=by
 obtain⟨r,K,L⟩:=h.oc
 exact⟨h.x.later q,h.bc.later q,h.bl.later q,h.rc.later q,⟨r,K.later q,L.later q⟩,h.ge,zar h.b q⟩
theorem RunW.mark {w W:World} {G:GS} {g:Gr} {H D I E A:Nat} {b:List Bool} {q:List Nat} (h:RunW w G g H D I E A b q W) (m:Nat):RunW w G g H D I E A (b.set m true) q (W.setCell ⟨A,m,none⟩ (.bool true)):=by
 obtain⟨L,z⟩:=h.bl.block
 obtain⟨r,J,K⟩:=h.oc
 exact⟨h.x.set z (by decide),h.bc.set z (by decide),h.bl.set m true,h.rc.set z (by decide),⟨r,J.set z (by decide),K.aside z (by decide)⟩,h.ge,h.b.setCell h.bl.at.1 _⟩
theorem OwnBl.aside {w:World} {q g n c i:Nat} {b:List Bool} {t:TypeId} {u:Value} {A:Array Value} (h:OwnBl w q g n b) (D:w.heap[c]? =some (.cells A t (0,0))) (z:4≠t):OwnBl (w.setCell ⟨c,i,none⟩ u) q g n b:=OwnR.aside h D z
theorem zmw {W E H:World} {h n a:Nat} {r:Rw} {xs:List Value} {D:Array Value} {t:TypeId} (K:OwnR W h 3 1 r n xs) (A:Below W.heap.size W E) (J:E.grownBy H r.blk) (z:W.heap[a]? =some (.cells D t (0,0))) (I:3≠t):H.heap[a]? =some (.cells D t (0,0)):=by
 have q:=(Array.getElem?_eq_some_iff.1 z).1
 rw[J.block a (Nat.lt_of_lt_of_le q A.size) (fun e=>by
  obtain⟨_,_,L,w⟩:=K.typed e.symm
  rw[z] at w
  simp only[Option.some.injEq,Obj.cells.injEq] at w
  exact I w.2.1.symm),A.block a q]
 exact z
theorem RunW.push {w W V E:World} {G:GS} {g:Gr} {X Z U H K m:Nat} {b:List Bool} {q:List Nat} {r A:Rw} (h:RunW w G g X Z U H K b q W) (h1:Bk W H #[.slice r.a q.length r.cap] 59) (O:OwnR W w.heap.size 3 1 r q.length (zfa q)) (J:Below W.heap.size W V) (N:V.grownBy E r.blk) (ho:OwnR E w.heap.size 3 1 A (q.length+1) (zfa (q++[m]))):
  RunW w G g X Z U H K b (q++[m]) (E.setCell ⟨H,0,none⟩ (.slice A.a (q.length+1) A.cap)):=by
 have D: ∀{a:Nat} {Y:Array Value} {t:TypeId},W.heap[a]? =some (.cells Y t (0,0))→3≠t→E.heap[a]? =some (.cells Y t (0,0)):=fun ha ht=>zmw O J N ha ht
 have z:=D h1 (by decide)
 obtain⟨aa,M⟩:=h.bl.block
 have L:OwnBl E w.heap.size K g.ms.length b:=OwnR.keep h.bl fun k e=>by
  cases e
  rw[D M (by decide),M]
 have I: ∀k,r.blk=some k→w.heap.size≤k:=fun k e=>(O.typed e).1
 refine⟨Bk.set (D h.x (by decide)) z (by decide),Bk.set (D h.bc (by decide)) z (by decide),L.aside z (by decide),Bk.set (D h.rc (by decide)) z (by decide),⟨A,?_,?_⟩,h.ge,?_⟩
 ·rw[List.length_append]
  exact zag (i:=0) (u:=.slice A.a (q.length+1) A.cap) z
 ·rw[List.length_append]
  exact ho.aside z (by decide)
 ·exact ((zar h.b J).grown N (Nat.le_trans h.b.size J.size) I).setCell h.ge _
theorem Tryz.infoIntO:(Tryz.prog.info? 3).map (fun i=>(i.zero,i.size,i.bytes))=some (some (.int .i64 0),1,8):=by kernel_rfl
theorem zvx {α β:Type} {f:β→α→β} {l:List α} {j:Nat} {x:α} (h:l[j]? =some x) (s:β):(l.take (j+1)).foldl f s=f ((l.take j).foldl f s) x:=by
 obtain⟨q,rfl⟩:=List.getElem?_eq_some_iff.1 h
 rw[List.take_succ_eq_append_getElem q,List.foldl_append]
 rfl
def zvy (w:World) (base:Nat) (G:GS) (g:Gr) (gx gb gr go gq f:Nat):Prop:=∀(m:Nat) (b:List Bool) (out:List Nat) (W:World),RunW w G g gx gb gr go gq b out W→m<g.ms.length→g.ms.length≤f+zae b→out.length≤zae b→GrOwn w base G g→Calls Tryz.prog 45 #[.int .i64 (m:Int),.pointer (some ⟨gb,0,none⟩),.pointer (some ⟨gx,0,none⟩),.pointer (some ⟨gr,0,none⟩),.pointer (some ⟨go,0,none⟩)] W fun e W'=>e= .returned (.tuple #[])∧RunW w G g gx gb gr go gq (dfs (zbJ (zC g) g.ls) f m (b,out)).1 (dfs (zbJ (zC g) g.ls) f m (b,out)).2 W'
theorem zd6 {w:World} {b:Nat} {t:TypeId} {v:Value} (h:Bk w b #[v] t):w.cell? ⟨b,0,none⟩=some v∧∀i,w.frozen? ⟨b,i,none⟩=false:=by
 refine⟨?_,fun i=>?_⟩<;>simp[World.cell?,World.frozen?,h]
theorem zvz {b:List Bool} {m:Nat} (h:m<b.length):b[m]? =some (b.getD m true):=by rw[List.getD,List.getElem?_eq_getElem h];rfl
theorem zv0 (w:World) (L:Nat) (G:GS) (g:Gr) (gx gb gr go gq:Nat) (hl:zbI (zC g) g.ls) (hn:g.ms.length≤8) (aB:g.ls.length≤1048576) (f:Nat):zvy w L G g gx gb gr go gq f:=by
 have HL:=zc hl
 clear hl
 induction f with
 |zero=>
  intro m b h W z hm hf _ _
  have V:=z.bl.len
  have N:zae b=b.length:=by have:=zgq b;omega
  have K:=zgr.1 N m (by omega)
  have HW:=zc z
  obtain⟨c0,f0⟩:=zd6 z.bc
  have c1:=z.bl.cell K
  have au:(m:Int)<(g.ms.length:Int):=by omega
  clear z K
  go_enter Tryz.func45,Tryz.ntmps45
  go_wp2
  (try simp only[Exit.inBlock,Exit.then]);refine bodyPost_ret (results_none rfl _ _ _) rfl ?_
  exact⟨rfl,HW.out⟩
 |succ f ih=>
  intro m b h W z hm hf aS ho
  have IH:=zc ih
  have HW:=zc z
  have HO:=zc ho
  have V:=z.bl.len
  have au:(m:Int)<(g.ms.length:Int):=by omega
  have K:=zvz (b:=b) (m:=m) (by omega)
  obtain⟨c0,f0⟩:=zd6 z.bc
  have c1:=z.bl.cell K
  clear ih z ho
  cases hb:b.getD m true with
  |true=>
   have HD:Hid (dfs (zbJ (zC g) g.ls) (f+1) m (b,h)=(b,h)):=by show _=_;rw[dfs,if_pos hb]
   rw[hb] at c1
   clear K hb
   go_enter Tryz.func45,Tryz.ntmps45
   go_wp2
   (try simp only[Exit.inBlock,Exit.then]);refine bodyPost_ret (results_none rfl _ _ _) rfl ?_
   exact⟨rfl,by rw[HD.out];exact HW.out⟩
  |false=>
   rw[hb] at c1 K
   have hc:=zjH K
   have f1:=HW.out.bl.free m
   have HD:Hid (dfs (zbJ (zC g) g.ls) (f+1) m (b,h)=(((zbJ (zC g) g.ls m).foldl (fun s k=>dfs (zbJ (zC g) g.ls) f k s) (b.set m true,h)).1,((zbJ (zC g) g.ls m).foldl (fun s k=>dfs (zbJ (zC g) g.ls) f k s) (b.set m true,h)).2++[m])):=by show _=_;rw[dfs,if_neg (by rw[hb];decide)]
   have E:=zc (HW.out.mark m)
   clear hb K
   go_enter Tryz.func45,Tryz.ntmps45
   go_upto_region 2 with fail
   obtain⟨W1,am⟩: ∃W1,W1=W.setCell ⟨gq,m,none⟩ (.bool true):=⟨_,rfl⟩
   rw[←am] at E ⊢
   clear am HW c0 f0 c1 f1
   obtain⟨A,M⟩: ∃A,g.ms[m]? =some A:=⟨_,List.getElem?_eq_getElem hm⟩
   obtain⟨S,hS⟩:=zdH HO.out.len M
   have Y:=zc (HO.out.later E.out.b)
   obtain⟨b1,o1,e1,k1⟩:=(RowAt.of (f:=mdL) (m:=5) (fun _=>rfl) (zeK Y.out.len Y.out.ms)).get hS
   have z0:=k1 0 _ rfl
   simp only[Nat.add_zero] at z0
   have RS:=zc (RowS.of (HO.out.md _ (List.mem_of_getElem? hS)).rq)
   have Z:Hid ((zC g)[m]? =some A.rq):=by show _=_;rw[zC,List.getElem?_map,M];rfl
   have U:Hid (zbJ (zC g) g.ls m=A.rq.map fun s=>(zbh g.ls ((m:Int),s.toList)).toNat):=by show _=_;rw[zbJ,List.getD,Z.out];rfl
   obtain⟨y0,y1,y2,yf⟩:=zq E.out.x
   rw[e1] at y1
   clear M hS k1 e1 Y
   obtain⟨⟨ra,rc⟩,aR,aO,aN,aL,aQ⟩:=S
   simp only at z0 RS
   have aM:A.rq.length≤1048576:=by
    have h1:=HL.out.1
    have h2:=zhD Z.out
    have h3:=zhE (zC g) (m+1)
    omega
   have ar:g.ms.length≤f+zae (b.set m true):=by omega
   have ap:h.length≤zae (b.set m true):=by omega
   go_wp2
   clear z0 y0 y1 y2 yf
   obtain⟨D,H⟩: ∃D,D=zbJ (zC g) g.ls:=⟨_,rfl⟩
   have aK:Hid (∀a,a<g.ms.length→∀k∈D a,k<g.ms.length):=fun a _ k hk=>by rw[H] at hk;have:=zh1 HL.out a k hk;rw[zcp] at this;exact this
   have HQ:=zc H
   rw[←H] at HD U
   have aC:Hid (∀(m:Nat) (b:List Bool) (h:List Nat) (W:World),RunW w G g gx gb gr go gq b h W→m<g.ms.length→g.ms.length≤f+zae b→h.length≤zae b→Calls Tryz.prog 45 #[.int .i64 (m:Int),.pointer (some ⟨gb,0,none⟩),.pointer (some ⟨gx,0,none⟩),.pointer (some ⟨gr,0,none⟩),.pointer (some ⟨go,0,none⟩)] W fun e W'=>e= .returned (.tuple #[])∧RunW w G g gx gb gr go gq (dfs D f m (b,h)).1 (dfs D f m (b,h)).2 W'):=by rw[H];exact fun m b h W h1 h2 h3 h4=>IH.out m b h W h1 h2 h3 h4 HO.out
   clear H IH
   go_loopg [22] A.rq.length (fun k aA wr=>∃j:Nat,aA= .int .i64 j∧j+k=A.rq.length∧∃q:List Bool×List Nat,q=((D m).take j).foldl (fun s k=>dfs D f k s) (b.set m true,h)∧RunW w G g gx gb gr go gq q.1 q.2 wr∧g.ms.length≤f+zae q.1∧q.2.length≤zae q.1)
   case atStart=>exact⟨0,rfl,by omega,(b.set m true,h),rfl,E.out,ar,ap⟩
   case round=>
    obtain⟨j,rfl,hj,q,ai,z,ao,av⟩:=hrel
    have I:=zc z
    have ac:=zc ai
    clear z ai E
    have aP:=zgq q.1
    have V:=I.out.bl.len
    by_cases aD:j<A.rq.length
    ·have al:(j:Int)<(A.rq.length:Int):=by omega
     obtain⟨s,hs⟩: ∃s,A.rq[j]? =some s:=⟨_,List.getElem?_eq_getElem aD⟩
     obtain⟨b2,o2,e2,k2⟩:=(RS.out.later I.out.b).get hs
     subst e2
     have z0:=k2 0 _ rfl
     simp only[Nat.add_zero,Nat.mul_one] at z0
     have hk:=HL.out.2 m A.rq Z.out s (List.mem_of_getElem? hs)
     rw[zcp] at hk
     obtain⟨k,X⟩: ∃k:Nat,zbh g.ls ((m:Int),s.toList)=(k:Int):=⟨_,(Int.toNat_of_nonneg hk.1).symm⟩
     have an:k<g.ms.length:=by omega
     have aJ:Hid ((D m)[j]? =some k):=by show _=_;rw[U.out,List.getElem?_map,hs];simp[X]
     have aq:=zc X
     obtain⟨j1,af⟩: ∃j1,j1=j+1:=⟨_,rfl⟩
     have ej:(j:Int)+1=(j1:Int):=by omega
     have ag:=zc af
     have ay:=zc (zvx (f:=fun s k=>dfs D f k s) aJ.out (b.set m true,h))
     clear hs k2 hk X af
     have DP:=zc (zjI (S:=fun _=>True) aK.out (fun _ _ _ _=>trivial) f k q V an ao trivial)
     obtain⟨x0,x1,x2,xf⟩:=zq I.out.x
     obtain⟨r0,rf⟩:=zd6 I.out.rc
     go_upto_region 5 with fail
     go_region_with (first|(go_at_call 44;refine (zmt L G g m s _ (HO.out.later I.out.b.drew) aB).mono ?_;rintro e w2 ⟨rfl,ae⟩;rw[aq.out];have J:=zc (I.out.later (((Below.refl _ _).drew).trans ae));clear ae;obtain⟨t0,t1,t2,tf⟩:=zq J.out.x;obtain⟨u0,uf⟩:=zd6 J.out.rc)|(go_at_call 45;refine (aC.out k q.1 q.2 _ J.out an ao av).mono ?_;rintro e w3 ⟨rfl,ad⟩))
     all_goals (
      have aI:=zc ad
      clear ad J I t0 t1 t2 tf u0 uf x0 x1 x2 xf r0 rf z0
      go_wp2
      go_roundg (gk-1)
      case rel=>
       refine⟨j1,rfl,by have:=ag.out;omega,dfs D f k q,?_,aI.out,by have:=DP.out.le.cnt.1;omega,by have:=DP.out.cnt;omega⟩
       rw[ag.out,ay.out,←ac.out]
      case measure=>omega)
    ·have al: ¬(j:Int)<(A.rq.length:Int):=by omega
     obtain rfl:j=A.rq.length:=by omega
     have az:Hid (q=(D m).foldl (fun s k=>dfs D f k s) (b.set m true,h)):=by
      have:=ac.out
      rw[List.take_of_length_le (by rw[U.out,List.length_map];exact Nat.le_refl _)] at this
      exact this
     obtain⟨r,O,aa⟩:=I.out.oc
     obtain⟨d0,df⟩:=zd6 O
     obtain⟨i0,hi,aH,aG,aF⟩:=info_parts Tryz.infoIntO
     have aj:=zc O
     have ah:=zc aa
     have ak:=fun o1=>aa.alloc (o:=o1)
     have aw: ∀o1,w.heap.size≤(wr.alloc o1).heap.size:=fun o1=>by rw[zg];have:=I.out.b.size;omega
     clear O aa
     go_wp2_with (at_builtin;refine zaZ _ rfl _ _ 59 rfl w.heap.size 3 i0 _ 1 8 Tryz.underlying59 hi aH aG aF rfl (by decide) (by decide) r q.2.length (zfa q.2) (by rfl) (ak _) wr.heap.size [.int .i64 (m:Int)] (by rfl) (by exact heap_alloc_new wr _) rfl (by simp[Value.oneCell']) (by omega) (aw _) ?_;intro r' wz hr ab aE;obtain⟨e0,ef⟩:=zd6 (zmw ah.out (zaN wr _) ab aj.out (by decide));have HR:=zc hr;have ax:=zc ab;clear hr ab aE d0 df)
     go_end0
     have hp:=I.out.push aj.out ah.out (zaN wr _) ax.out (m:=m) (by have:=HR.out;unfold zfa at this ⊢;rw[List.map_append];exact this)
     refine⟨rfl,?_⟩
     rw[←HQ.out,HD.out,←az.out]
     exact hp
def zi1 (g:Gr):List Nat:=(dfs (zbJ (zC g) g.ls) g.ms.length 0 (List.replicate g.ms.length false,[])).2
def zv1 (w:World) (out:List Nat) (e:Ending) (w':World):Prop:=∃r:Rw,e= .returned (.slice r.a out.length r.cap)∧OwnR w' w.heap.size 3 1 r out.length (zfa out)∧Below w.heap.size w w'
theorem zv2 (N:Nat) (G:GS) (g:Gr) (w:World) (ho:GrOwn w N G g) (hl:zbI (zC g) g.ls) (ag:1≤g.ms.length) (hn:g.ms.length≤8) (ae:g.ls.length≤1048576):
  Calls Tryz.prog 24 #[grD G g] w fun e w'=>zv1 w (zi1 g) e w':=by
 have HO:=zc ho
 have HL:=zc hl
 clear ho hl
 obtain⟨i0,hi,ad,ac,ab⟩:=info_parts Tryz.infoBl
 unfold grD
 go_enter Tryz.func24,Tryz.ntmps24
 go_upto_region 2 with fail
 obtain⟨q,J⟩: ∃q,q=w.heap.size:=⟨_,rfl⟩
 rw[←J]
 refine zx (R:=fun W=>(Bk W q (grC G g) 32∧Bk W (q+1) #[] 3∧Bk W (q+1+1) #[.slice (some ⟨q+1,0,none⟩) 0 0] 59)∧Below w.heap.size w W) ?_ ?_
 ·have L:=zaN w (.cells (grC G g) 32)
  have K:=zaN (w.alloc (.cells (grC G g) 32)) (.cells #[] 3)
  have a3:=zaN ((w.alloc (.cells (grC G g) 32)).alloc (.cells #[] 3)) (.cells #[.slice (some ⟨q+1,0,none⟩) 0 0] 59)
  have h0:Bk (w.alloc (.cells (grC G g) 32)) q (grC G g) 32:=by rw[J];exact heap_alloc_new w _
  have h1:Bk ((w.alloc (.cells (grC G g) 32)).alloc (.cells #[] 3)) (q+1) #[] 3:=by
   have:=heap_alloc_new (w.alloc (.cells (grC G g) 32)) (.cells #[] 3)
   rw[zg,←J] at this
   exact this
  refine⟨⟨(h0.later K).later a3,h1.later a3,?_⟩,zar (zar L K) a3⟩
  have:=heap_alloc_new ((w.alloc (.cells (grC G g) 32)).alloc (.cells #[] 3)) (.cells #[.slice (some ⟨q+1,0,none⟩) 0 0] 59)
  rw[zg,zg,←J] at this
  exact this
 have af:w.heap.size≤q:=by omega
 clear J
 rintro W0 ⟨⟨hx,hy,hz⟩,hb⟩
 have X:=zc hx
 have Y:=zc hy
 have Z:=zc hz
 have HB:=zc hb
 clear hx hy hz hb
 obtain⟨c0,c1,c2,cf⟩:=zq X.out
 go_upto_region 4 with (first|(at_make;refine wpList_make_full W0 rfl _ _ 52 rfl w.heap.size 4 i0 _ 1 Tryz.underlying52 hi ad ac .i64 .i64 _ _ g.ms.length (by rfl) (by rfl) rfl rfl (by rw[ab];omega) (by unfold maxLen;omega) HB.out.size ?_;intro M A U))
 have E:Below W0.heap.size W0 M:=(Below.refl _ _).grown U (Nat.le_refl _) (fun k h=>by cases h)
 obtain⟨H,V⟩: ∃H,H=W0.heap.size:=⟨_,rfl⟩
 obtain⟨z,D⟩: ∃z,z=M.heap.size:=⟨_,rfl⟩
 rw[←V,←D]
 have I:OwnBl M w.heap.size H g.ms.length (List.replicate g.ms.length false):=by
  rw[show madeCells (Value.bool false).cells (g.ms.length*1)=madeCells #[.bool false] g.ms.length by rw[Nat.mul_one];rfl,toList_madeCells_one] at A
  unfold OwnBl OwnR
  rw[V,List.map_replicate]
  exact A
 have L:=zaN M (.cells #[.slice (some ⟨H,0,none⟩) g.ms.length g.ms.length] 52)
 have K:=zaN (M.alloc (.cells #[.slice (some ⟨H,0,none⟩) g.ms.length g.ms.length] 52)) (.cells #[.nilFunc] 91)
 refine zx (R:=fun W=>(Bk W q (grC G g) 32∧Bk W (q+1) #[] 3∧Bk W (q+1+1) #[.slice (some ⟨q+1,0,none⟩) 0 0] 59∧Bk W z #[.slice (some ⟨H,0,none⟩) g.ms.length g.ms.length] 52∧Bk W (z+1) #[.nilFunc] 91)∧OwnBl W w.heap.size H g.ms.length (List.replicate g.ms.length false)∧w.heap.size≤z∧Below w.heap.size w W) ?_ ?_
 ·have h4:Bk (M.alloc (.cells #[.slice (some ⟨H,0,none⟩) g.ms.length g.ms.length] 52)) z #[.slice (some ⟨H,0,none⟩) g.ms.length g.ms.length] 52:=by rw[D];exact heap_alloc_new M _
  refine⟨⟨((X.out.later E).later L).later K,((Y.out.later E).later L).later K,((Z.out.later E).later L).later K,h4.later K,?_⟩,(I.later L).later K,by have h1:=HB.out.size;have h2:=E.size;omega,zar (zar (zar HB.out E) L) K⟩
  have:=heap_alloc_new (M.alloc (.cells #[.slice (some ⟨H,0,none⟩) g.ms.length g.ms.length] 52)) (.cells #[.nilFunc] 91)
  rw[zg,←D] at this
  exact this
 clear V D I L K E A U X Y Z HB c0 c1 c2 cf
 rintro W1 ⟨⟨hx,hy,hz,hv,O⟩,I,D,hb⟩
 have RW:Hid (RunW w G g q z (z+1) (q+1+1) H (List.replicate g.ms.length false) [] (W1.setCell ⟨z+1,0,none⟩ (zi0 z q (z+1) (q+1+1)))):=by
  refine⟨hx.set O (by decide),hv.set O (by decide),I.aside O (by decide),zag (i:=0) O,⟨⟨some ⟨q+1,0,none⟩,0⟩,hz.set O (by decide),?_⟩,by omega,hb.setCell (by show _≤z+1;omega) _⟩
  exact⟨rfl,.inr ⟨q+1,0,#[],rfl,by omega,hy.set O (by decide),Nat.le_refl _,Nat.zero_le _,rfl,rfl⟩⟩
 obtain⟨u0,uf⟩:=zd6 O
 clear hx hy hz hv O I D hb
 go_upto_region 5 with fail
 obtain⟨W2,aa⟩: ∃W2,W2=W1.setCell ⟨z+1,0,none⟩ (zi0 z q (z+1) (q+1+1)):=⟨_,rfl⟩
 rw[←aa] at RW ⊢
 clear aa u0 uf
 obtain⟨r0,rf⟩:=zd6 RW.out.rc
 have ah:zae (List.replicate g.ms.length false)=0:=by unfold zae;rw[List.count_replicate];rfl
 go_wp2_with fail
 refine (zv0 w N G g q z (z+1) (q+1+1) H HL.out hn ae g.ms.length 0 _ [] _ RW.out (by omega) (by omega) (Nat.zero_le _) HO.out).mono ?_
 rintro e W3 ⟨rfl,hw⟩
 have R3:=zc hw
 clear hw RW r0 rf
 obtain⟨r,h1,h2⟩:=R3.out.oc
 obtain⟨z0,zf⟩:=zd6 h1
 have H2:=zc h2
 clear h1 h2
 go_wp2
 go_ret
 exact⟨r,rfl,H2.out,R3.out.b⟩
theorem zv3 (N:zf5 42) (M:zf6 43) (z:Nat) (G:GS) (g:Gr) (w:World) (ho:GrOwn w z G g) (hg:GdG g):
  Calls Tryz.prog 7 #[grD G g] w fun e w'=>SameOut (GrI g) e∧Below w.heap.size w w':=by
 have J:=zc ho
 have HG:=zc hg
 have CM:=zc N
 have CE:=zc M
 have ak:=hg.pl
 have al:=hg.ml
 have ah:=hg.ll
 clear ho hg N M
 unfold grD
 go_enter Tryz.func7,Tryz.ntmps7
 go_upto_region 1 with fail
 obtain⟨gx,Z⟩: ∃gx,gx=w.heap.size:=⟨_,rfl⟩
 rw[←Z]
 refine zx (R:=fun W=>Bk W gx (grC G g) 32∧Below w.heap.size w W) ⟨by rw[Z];exact heap_alloc_new w _,zaN w _⟩ ?_
 clear Z
 rintro H ⟨hx,A⟩
 have X:=zc hx
 have D:=zc A
 obtain⟨c0,c1,c2,cf⟩:=zq hx
 clear hx A
 by_cases h1:(g.ms.length:Int)<1
 ·have Y:Hid (¬GrI g):=fun k=>by have:=k.1;omega
  go_wp2
  go_ret
  exact⟨zbt Y.out rfl,D.out⟩
 by_cases h2:(g.ms.length:Int)≤8
 case neg=>
  have Y:Hid (¬GrI g):=fun k=>by have:=k.1;omega
  go_wp2
  go_ret
  exact⟨zbt Y.out rfl,D.out⟩
 by_cases h3:(g.ps.length:Int)=(g.ms.length:Int)
 case neg=>
  have Y:Hid (¬GrI g):=fun k=>by have:=k.2.1;omega
  have h4:((g.ps.length:Int) !=(g.ms.length:Int))=true:=bne_iff_ne.2 h3
  go_wp2
  go_ret
  exact⟨zbt Y.out rfl,D.out⟩
 go_upto_region 3 with fail
 have hp:g.ps.length=g.ms.length:=by omega
 have HP:=zc hp
 have ab:1≤g.ms.length:=by omega
 have ad:g.ms.length≤8:=by omega
 clear h1 h2 h3 c0 c1 c2 cf
 obtain⟨Y0,Y1,Y2,_⟩:=zq X.out
 have Z0:=zc Y0
 have Z1:=zc Y1
 have Z2:=zc Y2
 clear Y0 Y1 Y2 hp
 have cA: ∀(b:Bool),(b=true↔∀i,i<g.ps.length→zbX g.ps i)→∀d E,Calls Tryz.prog 21 #[.slice G.pr.a g.ps.length G.pr.cap] (grow (redrawn H d) E) fun e I=>e= .returned (.bool b)∧∃q:Regrown,I=grow (redrawn H q.d) q.os:=fun b A d E=>Calls.regrown_of ((zmr z G.pr.a G.pr.cap g.ps _ ((J.out.later D.out).later (below_regrown H d E)).ps (by have:=HP.out;omega) HG.out.ps).mono fun e w' h=>⟨h.1.of A,h.2⟩)
 have cB: ∀(b:Bool),(b=true↔zcQ g.ms)→∀d E,Calls Tryz.prog 22 #[.slice G.mr.a g.ms.length G.mr.cap] (grow (redrawn H d) E) fun e I=>e= .returned (.bool b)∧∃q:Regrown,I=grow (redrawn H q.d) q.os:=fun b A d E=>Calls.regrown_of ((zms CM.out CE.out z G.mr.a G.mr.cap G.sv g.ms _ J.out.len ((J.out.later D.out).later (below_regrown H d E)).ms ((J.out.later D.out).later (below_regrown H d E)).md HG.out.ms (by omega)).mono fun e w' h=>⟨h.1.of A,h.2⟩)
 have cC: ∀(b:Bool),(b=true↔zbI (zC g) g.ls)→∀d E,Calls Tryz.prog 23 #[grD G g] (grow (redrawn H d) E) fun e I=>e= .returned (.bool b)∧∃q:Regrown,I=grow (redrawn H q.d) q.os:=fun b A d E=>Calls.regrown_of ((zmv z G g _ ((J.out.later D.out).later (below_regrown H d E)) HG.out).mono fun e w' h=>⟨h.1.of A,h.2⟩)
 unfold grD at cC
 have aj:(¬(∀i,i<g.ps.length→zbX g.ps i))∨((∀i,i<g.ps.length→zbX g.ps i)∧(¬zcQ g.ms∨(zcQ g.ms∧(¬zbI (zC g) g.ls∨zbI (zC g) g.ls)))):=by
  by_cases K: ∀i,i<g.ps.length→zbX g.ps i
  ·by_cases L:zcQ g.ms
   ·exact .inr ⟨K,.inr ⟨L,(Classical.em _).symm⟩⟩
   ·exact .inr ⟨K,.inl L⟩
  ·exact .inl K
 rcases aj with K|⟨K,L|⟨L,k3|k3⟩⟩
 case inr.inr.inr=>
  clear cA cB cC
  have aa:=zc K
  have ac:=zc L
  have V:=zc k3
  clear K L k3
  obtain⟨z0,z1,z2,zf⟩:=zq X.out
  go_region_with (first|(go_at_call 21;refine (zmr z G.pr.a G.pr.cap g.ps _ (J.out.later D.out.drew).ps (by have:=HP.out;omega) HG.out.ps).mono ?_;rintro e w1 ⟨O,A⟩;obtain rfl:=O.of (b:=true) (iff_of_true rfl aa.out);have B1:Hid (Below H.heap.size H w1):=(((Below.refl _ _).drew).trans A);clear O A;obtain⟨p0,p1,p2,pf⟩:=zq (X.out.later B1.out))|(go_at_call 22;refine (zms CM.out CE.out z G.mr.a G.mr.cap G.sv g.ms _ J.out.len ((J.out.later D.out).later B1.out).ms ((J.out.later D.out).later B1.out).md HG.out.ms (by omega)).mono ?_;rintro e w2 ⟨O,A⟩;obtain rfl:=O.of (b:=true) (iff_of_true rfl ac.out);have B2:=zc (zar B1.out A);clear O A;obtain⟨q0,q1,q2,qf⟩:=zq (X.out.later B2.out))|(go_at_call 23;refine (zmv z G g _ ((J.out.later D.out).later B2.out) HG.out).mono ?_;rintro e w3 ⟨O,A⟩;obtain rfl:=O.of (b:=true) (iff_of_true rfl V.out);have B3:=zc (zar B2.out A);clear O A;obtain⟨r0,r1,r2,rf⟩:=zq (X.out.later B3.out))|(go_at_call 24;refine (zv2 z G g _ ((J.out.later D.out).later B3.out) V.out ab ad ah).mono ?_;rintro e w4 ⟨r,rfl,ai,A⟩;have B4:=zc (zar B3.out A);clear ai A;obtain⟨s0,s1,s2,sf⟩:=zq (X.out.later B4.out)))
  all_goals (
   have ag:=zc (zar D.out B4.out)
   clear B1 B2 B3 B4 p0 p1 p2 pf q0 q1 q2 qf r0 r1 r2 rf s0 s1 s2 sf
   go_wp2
   go_ret
   refine⟨⟨_,rfl,?_⟩,ag.out⟩
   rw[beq_iff_eq]
   refine⟨fun h=>⟨⟨ab,ad⟩,HP.out,aa.out,ac.out,V.out,(Int.ofNat.inj h:(zi1 g).length=g.ms.length)⟩,fun k=>?_⟩
   rw[show (zi1 g).length=g.ms.length from k.2.2.2.2.2])
 all_goals (
  have Y:Hid (¬GrI g):=fun k=>by first|exact K k.2.2.1|exact L k.2.2.2.1|exact k3 k.2.2.2.2.1
  have z0:=cell_regrown Z0.out
  have z1:=cell_regrown Z1.out
  have z2:=cell_regrown Z2.out
  refine wp_region_quiet_below (by kernel_rfl) (by kernel_rfl) ?_
  repeat (go_big_quiet_step (first|with_reducible exact cA true (iff_of_true rfl K) _ _|with_reducible exact cA false (by simp only[Bool.false_eq_true,false_iff];exact K) _ _|with_reducible exact cB true (iff_of_true rfl L) _ _|with_reducible exact cB false (by simp only[Bool.false_eq_true,false_iff];exact L) _ _|with_reducible exact cC false (by simp only[Bool.false_eq_true,false_iff];exact k3) _ _))
  refine wpQuiet_nil ?_
  intro w2 ae
  obtain⟨q,U⟩:=ae
  have af:=zc (zar D.out (zdI U))
  clear U z0 z1 z2
  go_wp2
  go_ret
  exact⟨zbt Y.out rfl,af.out⟩)
theorem zv4 (X b2:Nat) (U V:Sv) (m:Md) (w:World) (h1:OwnMd w X U m) (h2:OwnMd w b2 V m) (hf:zdB m):
  Calls Tryz.prog 46 #[zn U m,zn V m] w fun e w'=>e= .returned (.bool true)∧Below w.heap.size w w':=by
 have H1:=zc h1
 have H2:=zc h2
 have HF:=zc hf
 clear h1 h2 hf
 unfold zn
 go_enter Tryz.func46,Tryz.ntmps46
 go_upto_region 1 with fail
 refine zx (R:=TwoM w X b2 U V m m) (zhu w X b2 U V m m H1.out H2.out) ?_
 clear H1 H2
 intro w0 h
 have T0:=zc h
 clear h
 obtain⟨O,N,A,I,D,z⟩:=zk T0.out.1
 obtain⟨J,M,H,E,K,L⟩:=zk T0.out.2.1
 go_wp2_with fail
 refine (zjV X b2 U.rq V.rq m.rq w0 (by rw[←zeH];exact T0.out.2.2.1.rq) (by rw[←zeH];exact T0.out.2.2.2.1.rq) HF.out.1).mono ?_
 rintro e w1 ⟨rfl,q⟩
 have T1:=zc (T0.out.later q)
 clear q O N A I D z J M H E K L
 obtain⟨O,N,A,I,D,z⟩:=zk T1.out.1
 obtain⟨J,M,H,E,K,L⟩:=zk T1.out.2.1
 go_wp2_with fail
 refine (zpt X b2 U.im V.im m.im w1 T1.out.2.2.1.im T1.out.2.2.2.1.im HF.out.2.1).mono ?_
 rintro e w2 ⟨rfl,q⟩
 have Z:=zc (T1.out.later q)
 clear q O N A I D z J M H E K L
 obtain⟨O,N,A,I,D,z⟩:=zk Z.out.1
 obtain⟨J,M,H,E,K,L⟩:=zk Z.out.2.1
 go_wp2_with fail
 refine (zpx X b2 U.ep V.ep m.ep w2 Z.out.2.2.1.ep Z.out.2.2.2.1.ep HF.out.2.2.1).mono ?_
 rintro e w3 ⟨rfl,q⟩
 have Y:=zc (Z.out.later q)
 clear q O N A I D z J M H E K L
 obtain⟨O,N,A,I,D,z⟩:=zk Y.out.1
 obtain⟨J,M,H,E,K,L⟩:=zk Y.out.2.1
 go_wp2_with fail
 refine (zp1 X b2 U.st V.st m.st w3 Y.out.2.2.1.st Y.out.2.2.2.1.st HF.out.2.2.2.1).mono ?_
 rintro e w4 ⟨rfl,q⟩
 have T4:=zc (Y.out.later q)
 clear q O N A I D z J M H E K L
 obtain⟨O,N,A,I,D,z⟩:=zk T4.out.1
 obtain⟨J,M,H,E,K,L⟩:=zk T4.out.2.1
 go_wp2_with fail
 refine (zp5 X b2 U.ex V.ex m.ex w4 T4.out.2.2.1.ex T4.out.2.2.2.1.ex HF.out.2.2.2.2).mono ?_
 rintro e w5 ⟨rfl,q⟩
 have T5:=zc (T4.out.later q)
 clear q O N A I D z J M H E K L
 obtain⟨O,N,A,I,D,z⟩:=zk T5.out.1
 obtain⟨J,M,H,E,K,L⟩:=zk T5.out.2.1
 go_wp2
 go_ret
 exact⟨rfl,T5.out.2.2.2.2⟩
theorem zv5 (D A:Option Addr) (z h:Nat) (w:World):Calls Tryz.prog 26 #[.slice D 0 z,.slice A 0 h] w fun e q=>e= .returned (.bool true)∧Below w.heap.size w q:=by
 go_enter Tryz.func26,Tryz.ntmps26
 go_wp2
 go_loopg [5] 1 (fun k i wr=>k=1∧i= .int .i64 0∧wr=w)
 case atStart=>exact⟨rfl,rfl,rfl⟩
 case round=>
  obtain⟨rfl,rfl,rfl⟩:=hrel
  go_wp2
  go_ret
  exact⟨rfl,Below.refl _ _⟩
theorem zv6 (b1 b2 g1 L:Nat) (r1 Z:Rw) (U V:List Sv) (l:List Md) (w:World) (hu:U.length=l.length) (hv:V.length=l.length) (q:OwnR w b1 48 5 r1 l.length ((U.zip l).flatMap mdL)) (h:OwnR w b2 48 5 Z l.length ((V.zip l).flatMap mdL)) (m1: ∀x∈U.zip l,OwnMd w b1 x.1 x.2) (m2: ∀x∈V.zip l,OwnMd w b2 x.1 x.2) (e1:r1.a=some ⟨g1,0,none⟩) (e2:Z.a=some ⟨L,0,none⟩) (hl:l.length≤4294967296) (hf: ∀m∈l,zdB m):
  Calls Tryz.prog 26 #[.slice (some ⟨g1,0,none⟩) l.length r1.cap,.slice (some ⟨L,0,none⟩) l.length Z.cap] w fun e w'=>e= .returned (.bool true)∧Below w.heap.size w w':=by
 have H1:=zc (zeK hu q)
 have H2:=zc (zeK hv h)
 have M1:=zc m1
 have M2:=zc m2
 have E1:=zc e1
 have E2:=zc e2
 have HU:=zc hu
 have HV:=zc hv
 have HF:=zc hf
 clear q h e1 e2 m1 m2 hu hv hf
 go_enter Tryz.func26,Tryz.ntmps26
 go_wp2
 go_loopg [5] l.length (fun k i wr=>∃j:Nat,i= .int .i64 j∧j+k=l.length∧Below w.heap.size w wr)
 case atStart=>exact⟨0,rfl,by omega,Below.refl _ _⟩
 case round=>
  obtain⟨j,rfl,hj,hb⟩:=hrel
  have A:=zc hb
  clear hb
  by_cases M:j<l.length
  ·have D:(j:Int)<(l.length:Int):=by omega
   obtain⟨x,I⟩:=zel M
   obtain⟨s,hs⟩:=zdH HU.out I
   obtain⟨t,ht⟩:=zdH HV.out I
   obtain⟨K,ga,q⟩:=OwnR.elem (f:=mdL) (m:=5) (fun _=>rfl) (H1.out.later A.out) hs
   obtain rfl:K=g1:=by have:=ga.symm.trans E1.out;simpa using this
   obtain⟨K,gb,h⟩:=OwnR.elem (f:=mdL) (m:=5) (fun _=>rfl) (H2.out.later A.out) ht
   obtain rfl:K=L:=by have:=gb.symm.trans E2.out;simpa using this
   have Y: ∀d H,Calls Tryz.prog 46 #[zn s x,zn t x] (grow (redrawn wr d) H) fun e X=>e= .returned (.bool true)∧∃p:Regrown,X=grow (redrawn wr p.d) p.os:=fun d H=>Calls.regrown_of (zv4 b1 b2 s t x _ (((M1.out _ (List.mem_of_getElem? hs)).later A.out).later (below_regrown wr d H)) (((M2.out _ (List.mem_of_getElem? ht)).later A.out).later (below_regrown wr d H)) (HF.out x (List.mem_of_getElem? I)))
   unfold zn at Y
   have C0:=zc (q 0 (by omega))
   have D0:=zc (h 0 (by omega))
   have C1:=zc (q 1 (by omega))
   have D1:=zc (h 1 (by omega))
   have C2:=zc (q 2 (by omega))
   have D2:=zc (h 2 (by omega))
   have C3:=zc (q 3 (by omega))
   have D3:=zc (h 3 (by omega))
   have C4:=zc (q 4 (by omega))
   have D4:=zc (h 4 (by omega))
   clear q h ga gb I hs ht
   obtain⟨J,E⟩: ∃J,J=j+1:=⟨_,rfl⟩
   have ej:(j:Int)+1=(J:Int):=by omega
   have HJ:=zc E
   clear E
   go_wp2
   have k0:=cell_regrown C0.out
   have l0:=cell_regrown D0.out
   have k1:=cell_regrown C1.out
   have l1:=cell_regrown D1.out
   have k2:=cell_regrown C2.out
   have l2:=cell_regrown D2.out
   have k3:=cell_regrown C3.out
   have l3:=cell_regrown D3.out
   have k4:=cell_regrown C4.out
   have l4:=cell_regrown D4.out
   simp only[Nat.add_zero] at k0 l0
   refine wp_region_quiet_below (by kernel_rfl) (by kernel_rfl) ?_
   repeat (go_big_quiet_step (exact Y _ _))
   refine wpQuiet_nil ?_
   intro w2 N
   obtain⟨⟨dq,aa⟩,z⟩:=N
   have O:Hid (Below w.heap.size w w2):=by show Below _ _ _;rw[z];exact A.out.trans ((below_regrown wr dq aa).mono A.out.size)
   clear z k0 l0 C0 D0 k1 l1 C1 D1 k2 l2 C2 D2 k3 l3 C3 D3 k4 l4 C4 D4 Y
   go_wp2
   go_roundg (gk-1)
   case rel=>exact⟨J,rfl,by have:=HJ.out;omega,O.out⟩
   case measure=>omega
  ·have D: ¬(j:Int)<(l.length:Int):=by omega
   go_wp2
   go_ret
   exact⟨rfl,A.out⟩
def zi2 (g:Gr):Prop:=g.ps.length≤4294967296∧g.ms.length≤4294967296∧g.ls.length≤4294967296∧∀m∈g.ms,zdB m
theorem zv7 (H b2:Nat) (q h:GS) (g:Gr) (w:World) (z:GrOwn w H q g) (A:GrOwn w b2 h g) (J:zi2 g):
  Calls Tryz.prog 26 #[.slice q.mr.a g.ms.length q.mr.cap,.slice h.mr.a g.ms.length h.mr.cap] w fun e K=>e= .returned (.bool true)∧Below w.heap.size w K:=by
 by_cases D:g.ms.length=0
 ·rw[D]
  exact zv5 _ _ _ _ w
 ·rcases z.ms.nil_or with ⟨_,_,e⟩|⟨M,I⟩
  ·exact absurd e D
  ·rcases A.ms.nil_or with ⟨_,_,e⟩|⟨L,E⟩
   ·exact absurd e D
   ·rw[I,E]
    exact zv6 H b2 M L q.mr h.mr q.sv h.sv g.ms w z.len A.len z.ms A.ms z.md A.md I E J.2.1 J.2.2.2
structure TwoG (w0:World) (b1 b2:Nat) (G1 G2:GS) (g:Gr) (w:World):Prop where
 x:Bk w w0.heap.size (grC G1 g) 32
 y:Bk w (w0.heap.size+1) (grC G2 g) 32
 o1:GrOwn w b1 G1 g
 o2:GrOwn w b2 G2 g
 b:Below w0.heap.size w0 w
theorem TwoG.later {w0 w A:World} {E b2:Nat} {D z:GS} {g:Gr} (h:TwoG w0 E b2 D z g w) (q:Below w.heap.size w A):TwoG w0 E b2 D z g A:=⟨h.x.later q,h.y.later q,h.o1.later q,h.o2.later q,zar h.b q⟩
theorem zv8 (w:World) (D b2:Nat) (h q:GS) (g:Gr) (E:GrOwn w D h g) (H:GrOwn w b2 q g):TwoG w D b2 h q g ((w.alloc (.cells (grC h g) 32)).alloc (.cells (grC q g) 32)):=by
 have A:=zaN w (.cells (grC h g) 32)
 have z:=zaN (w.alloc (.cells (grC h g) 32)) (.cells (grC q g) 32)
 refine⟨Bk.later (heap_alloc_new w _) z,?_,(E.later A).later z,(H.later A).later z,zar A z⟩
 have:=heap_alloc_new (w.alloc (.cells (grC h g) 32)) (.cells (grC q g) 32)
 rw[zg] at this
 exact this
theorem zv9 (I b2:Nat) (A z:GS) (g:Gr) (w:World) (h1:GrOwn w I A g) (Y:GrOwn w b2 z g) (hf:zi2 g):
  Calls Tryz.prog 8 #[grD A g,grD z g] w fun e w'=>e= .returned (.bool true)∧Below w.heap.size w w':=by
 have H1:=zc h1
 have Z:=zc Y
 have X:=zc hf
 clear h1 Y hf
 unfold grD
 go_enter Tryz.func8,Tryz.ntmps8
 go_upto_region 1 with fail
 refine zx (R:=TwoG w I b2 A z g) (zv8 w I b2 A z g H1.out Z.out) ?_
 clear H1 Z
 intro w0 h
 have H:=zc h
 clear h
 obtain⟨V,U,K,J⟩:=zq H.out.x
 obtain⟨M,O,L,N⟩:=zq H.out.y
 go_wp2_with fail
 refine (zjV I b2 A.pr z.pr g.ps w0 H.out.o1.ps H.out.o2.ps X.out.1).mono ?_
 rintro e w1 ⟨rfl,q⟩
 have E:=zc (H.out.later q)
 clear q V U K J M O L N H
 obtain⟨V,U,K,J⟩:=zq E.out.x
 obtain⟨M,O,L,N⟩:=zq E.out.y
 go_wp2_with fail
 refine (zv7 I b2 A z g w1 E.out.o1 E.out.o2 X.out).mono ?_
 rintro e w2 ⟨rfl,q⟩
 have D:=zc (E.out.later q)
 clear q V U K J M O L N E
 obtain⟨V,U,K,J⟩:=zq D.out.x
 obtain⟨M,O,L,N⟩:=zq D.out.y
 go_wp2_with fail
 refine (zpJ I b2 A.lr z.lr g.ls w2 D.out.o1.ls D.out.o2.ls X.out.2.2.1).mono ?_
 rintro e w3 ⟨rfl,q⟩
 have T3:=zc (D.out.later q)
 clear q V U K J M O L N D
 go_wp2
 go_ret
 exact⟨rfl,T3.out.b⟩
open Go.Deep
theorem zvA {H:Type} {enc:TypeId×Value→H} {w:World} {D:Nat} {q:Nat→Bool} {E:Bool} {K:Nat} {L:List Value} {z:DataW H×List MemPlace} (h:DataW.trod enc Tryz.prog w D q E K 26 L=some z):
  ∃(A:GA) (g:Gr),L=(grA A g).cells.toList∧GrIn w A g∧BigG A g∧∀x∈A.ms,zaY x.2.ex:=by
 obtain⟨xs,k,_,_,I,X,Y⟩:=DataW.trod_struct Tryz.underlying26 h
 have cM:Tryz.prog.cellsOf 26=3:=by kernel_rfl
 rw[cM] at I
 have k0:Tryz.prog.cellsOf 22=1:=by kernel_rfl
 have k1:Tryz.prog.cellsOf 23=1:=by kernel_rfl
 have k2:Tryz.prog.cellsOf 24=1:=by kernel_rfl
 obtain⟨M,N,O,rfl⟩:=list3 I
 obtain⟨y0,y1,y2,rfl⟩:=list3 (X.trans rfl)
 have g0:DataW.trod enc Tryz.prog w D q E k 22 (List.take (Tryz.prog.cellsOf 22) (List.drop 0 [M,N,O]))=some y0:=Y 0 _ rfl
 rw[k0] at g0
 have g1:DataW.trod enc Tryz.prog w D q E k 23 (List.take (Tryz.prog.cellsOf 23) (List.drop 1 [M,N,O]))=some y1:=Y 1 _ rfl
 rw[k1] at g1
 have g2:DataW.trod enc Tryz.prog w D q E k 24 (List.take (Tryz.prog.cellsOf 24) (List.drop 2 [M,N,O]))=some y2:=Y 2 _ rfl
 rw[k2] at g2
 obtain⟨a0,c0,Z,e0,b0,r0,q0⟩:=zdE sNone (α:=ByteArray) (f:=(fun x=>[Value.string x])) (m:=1) (Q:=zdG) (by omega) (fun _=>rfl) Tryz.underlying22 (by kernel_rfl) (fun n L y h I=>zjZ h I) (show DataW.trod enc Tryz.prog w D q E k 22 [M]=some y0 from g0)
 subst e0
 obtain⟨a1,c1,U,e1,b1,r1,V⟩:=zdE (⟨none,none,none,none,none,0,0,0,0,0⟩,⟨[],[],[],[],[]⟩) (α:=MA×Md) (f:=maL) (m:=5) (Q:=fun x=>ModIn w x.1 x.2∧zf0 x.2∧zaY x.2.ex) (by omega) (fun _=>rfl) Tryz.underlying23 (by kernel_rfl) (fun n L y h _=>by
  obtain⟨A,m,e,hm⟩:=zpB h
  exact⟨(A,m),e,hm⟩) (show DataW.trod enc Tryz.prog w D q E k 23 [N]=some y1 from g1)
 subst e1
 obtain⟨a2,c2,l2,e2,b2,r2,q2⟩:=zdE ⟨0,sNone,0⟩ (α:=Lk) (f:=lkL) (m:=3) (Q:=zen) (by omega) (fun _=>rfl) Tryz.underlying24 (by kernel_rfl) (fun n L y h I=>zpK h I) (show DataW.trod enc Tryz.prog w D q E k 24 [O]=some y2 from g2)
 subst e2
 unfold maxLen at b0 b1 b2
 exact⟨⟨a0,c0,a1,c1,a2,c2,U⟩,⟨Z,U.map (·.2),l2⟩,rfl,⟨r0,r1,fun x J=>(V x J).1,r2,rfl⟩,⟨by show Z.length≤_;omega,q0,by show U.length≤_;omega,fun x J=>(V x J).2.1,by show l2.length≤_;omega,q2⟩,fun x J=>(V x J).2.2⟩
end Go.Proofs.YtcidlffeeninbaaGreat
