/-
  What impl.runOrder answers,and the closure that calls itself: the walks.
  What impl.GraphOk answers: the walk.
-/
import Derived.Laws.EntriesVeiled
import Derived.Test.YtgcbmogmniahjaaGreatCAcImplGraphAToImplGraphB
import Derived.Test.YtgcbmogmniahjaaGreatCAcGrPreToSpecGraph
namespace Go.Proofs.YtgcbmogmniahjaaGreat
set_option maxRecDepth 100000
set_option maxHeartbeats 12800000
open Go.RowKit Go.PlainAid Go.Sort
abbrev ziW (gb gx gr go:Nat):Value:=.func (.func 68) #[] #[.pointer (some ⟨gb,0,none⟩),.pointer (some ⟨gx,0,none⟩),.pointer (some ⟨gr,0,none⟩),.pointer (some ⟨go,0,none⟩)]
def zfl (l:List Nat):List Value:=l.map fun k:Nat=>Value.int .i64 (k:Int)
structure RunW (w:World) (G:GS) (g:Gr) (gx gb gr go gq:Nat) (b:List Bool) (out:List Nat) (W:World):Prop where
 x:Bk W gx (grC G g) 32
 bc:Bk W gb #[.slice (some ⟨gq,0,none⟩) g.ms.length g.ms.length] 58
 bl:OwnBl W w.heap.size gq g.ms.length b
 rc:Bk W gr #[ziW gb gx gr go] 106
 oc: ∃r:Rw,Bk W go #[.slice r.a out.length r.cap] 36∧OwnR W w.heap.size 3 1 r out.length (zfl out)
 ge:w.heap.size≤go
 b:Below w.heap.size w W
theorem Bk.ne {w:World} {a b:Nat} {A z:Array Value} {s t:TypeId} (h:Bk w a A s) (k:w.heap[b]? =some (.cells z t (0,0))) (H:s≠t):a≠b:=by
 rintro rfl
 have q:some (Obj.cells A s (0,0))=some (.cells z t (0,0)):=h.symm.trans k
 simp only[Option.some.injEq,Obj.cells.injEq] at q
 exact H q.2.1
theorem Bk.set {w:World} {a c i:Nat} {q z:Array Value} {s t:TypeId} {u:Value} (h:Bk w a q s) (k:w.heap[c]? =some (.cells z t (0,0))) (A:s≠t):Bk (w.setCell ⟨c,i,none⟩ u) a q s:=(heap_setCell_other w ⟨c,i,none⟩ a u (h.ne k A)).trans h
theorem RunW.later {w W L:World} {G:GS} {g:Gr} {K J A I H:Nat} {b:List Bool} {z:List Nat} (h:RunW w G g K J A I H b z W) (q:Below W.heap.size W L):RunW w G g K J A I H b z L:=by
 obtain⟨r,N,M⟩:=h.oc
 exact⟨h.x.later q,h.bc.later q,h.bl.later q,h.rc.later q,⟨r,N.later q,M.later q⟩,h.ge,zaf h.b q⟩
theorem RunW.mark {w W:World} {G:GS} {g:Gr} {K J H I A:Nat} {b:List Bool} {z:List Nat} (h:RunW w G g K J H I A b z W) (m:Nat):RunW w G g K J H I A (b.set m true) z (W.setCell ⟨A,m,none⟩ (.bool true)):=by
 obtain⟨L,q⟩:=h.bl.block
 obtain⟨r,N,M⟩:=h.oc
 exact⟨h.x.set q (by decide),h.bc.set q (by decide),h.bl.set m true,h.rc.set q (by decide),⟨r,N.set q (by decide),M.aside q (by decide)⟩,h.ge,h.b.setCell h.bl.at.1 _⟩
theorem OwnBl.aside {w:World} {base g n c i:Nat} {b:List Bool} {t:TypeId} {u:Value} {A:Array Value} (h:OwnBl w base g n b) (z:w.heap[c]? =some (.cells A t (0,0))) (q:4≠t):OwnBl (w.setCell ⟨c,i,none⟩ u) base g n b:=OwnR.aside h z q
theorem znc {W H I:World} {base n a:Nat} {r:Rw} {xs:List Value} {z:Array Value} {t:TypeId} (K:OwnR W base 3 1 r n xs) (A:Below W.heap.size W H) (M:H.grownBy I r.blk) (q:W.heap[a]? =some (.cells z t (0,0))) (L:3≠t):I.heap[a]? =some (.cells z t (0,0)):=by
 have h:=(Array.getElem?_eq_some_iff.1 q).1
 rw[M.block a (Nat.lt_of_lt_of_le h A.size) (fun e=>by
  obtain⟨_,_,J,w⟩:=K.typed e.symm
  rw[q] at w
  simp only[Option.some.injEq,Obj.cells.injEq] at w
  exact L w.2.1.symm),A.block a h]
 exact q
theorem RunW.push {w W Z I:World} {G:GS} {g:Gr} {gx U gr J N m:Nat} {b:List Bool} {q:List Nat} {r A:Rw} (h:RunW w G g gx U gr J N b q W) (h1:Bk W J #[.slice r.a q.length r.cap] 36) (O:OwnR W w.heap.size 3 1 r q.length (zfl q)) (M:Below W.heap.size W Z) (V:Z.grownBy I r.blk) (ho:OwnR I w.heap.size 3 1 A (q.length+1) (zfl (q++[m]))):
  RunW w G g gx U gr J N b (q++[m]) (I.setCell ⟨J,0,none⟩ (.slice A.a (q.length+1) A.cap)):=by
 have H: ∀{a:Nat} {Y:Array Value} {t:TypeId},W.heap[a]? =some (.cells Y t (0,0))→3≠t→I.heap[a]? =some (.cells Y t (0,0)):=fun ha ht=>znc O M V ha ht
 have z:=H h1 (by decide)
 obtain⟨aa,X⟩:=h.bl.block
 have L:OwnBl I w.heap.size N g.ms.length b:=OwnR.keep h.bl fun k e=>by
  cases e
  rw[H X (by decide),X]
 have K: ∀k,r.blk=some k→w.heap.size≤k:=fun k e=>(O.typed e).1
 refine⟨Bk.set (H h.x (by decide)) z (by decide),Bk.set (H h.bc (by decide)) z (by decide),L.aside z (by decide),Bk.set (H h.rc (by decide)) z (by decide),⟨A,?_,?_⟩,h.ge,?_⟩
 ·rw[List.length_append]
  exact zac (i:=0) (u:=.slice A.a (q.length+1) A.cap) z
 ·rw[List.length_append]
  exact ho.aside z (by decide)
 ·exact ((zaf h.b M).grown V (Nat.le_trans h.b.size M.size) K).setCell h.ge _
theorem Tryz.infoIntO:(Tryz.prog.info? 3).map (fun i=>(i.zero,i.size,i.bytes))=some (some (.int .i64 0),1,8):=by kernel_rfl
theorem zw2 {α β:Type} {f:β→α→β} {l:List α} {j:Nat} {x:α} (h:l[j]? =some x) (s:β):(l.take (j+1)).foldl f s=f ((l.take j).foldl f s) x:=by
 obtain⟨q,rfl⟩:=List.getElem?_eq_some_iff.1 h
 rw[List.take_succ_eq_append_getElem q,List.foldl_append]
 rfl
def zw3 (w:World) (base:Nat) (G:GS) (g:Gr) (gx gb gr go gq f:Nat):Prop:=∀(m:Nat) (b:List Bool) (out:List Nat) (W:World),RunW w G g gx gb gr go gq b out W→m<g.ms.length→g.ms.length≤f+zE b→out.length≤zE b→GrOwn w base G g→Calls Tryz.prog 68 #[.int .i64 (m:Int),.pointer (some ⟨gb,0,none⟩),.pointer (some ⟨gx,0,none⟩),.pointer (some ⟨gr,0,none⟩),.pointer (some ⟨go,0,none⟩)] W fun e W'=>e= .returned (.tuple #[])∧RunW w G g gx gb gr go gq (dfs (zbR (zC g) g.ls) f m (b,out)).1 (dfs (zbR (zC g) g.ls) f m (b,out)).2 W'
theorem zdE {w:World} {b:Nat} {t:TypeId} {v:Value} (h:Bk w b #[v] t):w.cell? ⟨b,0,none⟩=some v∧∀i,w.frozen? ⟨b,i,none⟩=false:=by
 refine⟨?_,fun i=>?_⟩<;>simp[World.cell?,World.frozen?,h]
theorem zw4 {b:List Bool} {m:Nat} (h:m<b.length):b[m]? =some (b.getD m true):=by rw[List.getD,List.getElem?_eq_getElem h];rfl
theorem zw5 (w:World) (base:Nat) (G:GS) (g:Gr) (gx gb gr go gq:Nat) (hl:zbQ (zC g) g.ls) (hn:g.ms.length≤8) (aF:g.ls.length≤1048576) (f:Nat):zw3 w base G g gx gb gr go gq f:=by
 have HL:=zc hl
 clear hl
 induction f with
 |zero=>
  intro m b h W z hm hf _ _
  have V:=z.bl.len
  have ac:zE b=b.length:=by have:=zdN b;omega
  have M:=zg3.1 ac m (by omega)
  have HW:=zc z
  obtain⟨c0,f0⟩:=zdE z.bc
  have c1:=z.bl.cell M
  have aB:(m:Int)<(g.ms.length:Int):=by omega
  clear z M
  go_enter Tryz.func68,Tryz.ntmps68
  go_wp2
  (try simp only[Exit.inBlock,Exit.then]);refine bodyPost_ret (results_none rfl _ _ _) rfl ?_
  exact⟨rfl,HW.out⟩
 |succ f ih=>
  intro m b h W z hm hf aP ho
  have IH:=zc ih
  have HW:=zc z
  have HO:=zc ho
  have V:=z.bl.len
  have aB:(m:Int)<(g.ms.length:Int):=by omega
  have M:=zw4 (b:=b) (m:=m) (by omega)
  obtain⟨c0,f0⟩:=zdE z.bc
  have c1:=z.bl.cell M
  clear ih z ho
  cases hb:b.getD m true with
  |true=>
   have HD:Hid (dfs (zbR (zC g) g.ls) (f+1) m (b,h)=(b,h)):=by show _=_;rw[dfs,if_pos hb]
   rw[hb] at c1
   clear M hb
   go_enter Tryz.func68,Tryz.ntmps68
   go_wp2
   (try simp only[Exit.inBlock,Exit.then]);refine bodyPost_ret (results_none rfl _ _ _) rfl ?_
   exact⟨rfl,by rw[HD.out];exact HW.out⟩
  |false=>
   rw[hb] at c1 M
   have hc:=zg6 M
   have f1:=HW.out.bl.free m
   have HD:Hid (dfs (zbR (zC g) g.ls) (f+1) m (b,h)=(((zbR (zC g) g.ls m).foldl (fun s k=>dfs (zbR (zC g) g.ls) f k s) (b.set m true,h)).1,((zbR (zC g) g.ls m).foldl (fun s k=>dfs (zbR (zC g) g.ls) f k s) (b.set m true,h)).2++[m])):=by show _=_;rw[dfs,if_neg (by rw[hb];decide)]
   have J:=zc (HW.out.mark m)
   clear hb M
   go_enter Tryz.func68,Tryz.ntmps68
   go_upto_region 2 with fail
   obtain⟨W1,ak⟩: ∃W1,W1=W.setCell ⟨gq,m,none⟩ (.bool true):=⟨_,rfl⟩
   rw[←ak] at J ⊢
   clear ak HW c0 f0 c1 f1
   obtain⟨A,O⟩: ∃A,g.ms[m]? =some A:=⟨_,List.getElem?_eq_getElem hm⟩
   obtain⟨S,hS⟩:=zdS HO.out.len O
   have N:=zc (HO.out.later J.out.b)
   obtain⟨b1,o1,e1,k1⟩:=(RowAt.of (f:=mdL) (m:=5) (fun _=>rfl) (zeQ N.out.len N.out.ms)).get hS
   have z0:=k1 0 _ rfl
   simp only[Nat.add_zero] at z0
   have RS:=zc (RowS.of (HO.out.md _ (List.mem_of_getElem? hS)).rq)
   have Z:Hid ((zC g)[m]? =some A.rq):=by show _=_;rw[zC,List.getElem?_map,O];rfl
   have X:Hid (zbR (zC g) g.ls m=A.rq.map fun s=>(zbk g.ls ((m:Int),s.toList)).toNat):=by show _=_;rw[zbR,List.getD,Z.out];rfl
   obtain⟨y0,y1,y2,yf⟩:=zo J.out.x
   rw[e1] at y1
   clear O hS k1 e1 N
   obtain⟨⟨ra,rc⟩,aS,aR,aQ,aM,aO⟩:=S
   simp only at z0 RS
   have aN:A.rq.length≤1048576:=by
    have h1:=HL.out.1
    have h2:=zia Z.out
    have h3:=zib (zC g) (m+1)
    omega
   have aK:g.ms.length≤f+zE (b.set m true):=by omega
   have ax:h.length≤zE (b.set m true):=by omega
   go_wp2
   clear z0 y0 y1 y2 yf
   obtain⟨H,I⟩: ∃H,H=zbR (zC g) g.ls:=⟨_,rfl⟩
   have aD:Hid (∀a,a<g.ms.length→∀k∈H a,k<g.ms.length):=fun a _ k hk=>by rw[I] at hk;have:=zhO HL.out a k hk;rw[zck] at this;exact this
   have HQ:=zc I
   rw[←I] at HD X
   have aE:Hid (∀(m:Nat) (b:List Bool) (h:List Nat) (W:World),RunW w G g gx gb gr go gq b h W→m<g.ms.length→g.ms.length≤f+zE b→h.length≤zE b→Calls Tryz.prog 68 #[.int .i64 (m:Int),.pointer (some ⟨gb,0,none⟩),.pointer (some ⟨gx,0,none⟩),.pointer (some ⟨gr,0,none⟩),.pointer (some ⟨go,0,none⟩)] W fun e W'=>e= .returned (.tuple #[])∧RunW w G g gx gb gr go gq (dfs H f m (b,h)).1 (dfs H f m (b,h)).2 W'):=by rw[I];exact fun m b h W h1 h2 h3 h4=>IH.out m b h W h1 h2 h3 h4 HO.out
   clear I IH
   go_loopg [22] A.rq.length (fun k aL wr=>∃j:Nat,aL= .int .i64 j∧j+k=A.rq.length∧∃q:List Bool×List Nat,q=((H m).take j).foldl (fun s k=>dfs H f k s) (b.set m true,h)∧RunW w G g gx gb gr go gq q.1 q.2 wr∧g.ms.length≤f+zE q.1∧q.2.length≤zE q.1)
   case atStart=>exact⟨0,rfl,by omega,(b.set m true,h),rfl,J.out,aK,ax⟩
   case round=>
    obtain⟨j,rfl,hj,q,ag,z,ao,ay⟩:=hrel
    have K:=zc z
    have ap:=zc ag
    clear z ag J
    have aT:=zdN q.1
    have V:=K.out.bl.len
    by_cases au:j<A.rq.length
    ·have aj:(j:Int)<(A.rq.length:Int):=by omega
     obtain⟨s,hs⟩: ∃s,A.rq[j]? =some s:=⟨_,List.getElem?_eq_getElem au⟩
     obtain⟨b2,o2,e2,k2⟩:=(RS.out.later K.out.b).get hs
     subst e2
     have z0:=k2 0 _ rfl
     simp only[Nat.add_zero,Nat.mul_one] at z0
     have hk:=HL.out.2 m A.rq Z.out s (List.mem_of_getElem? hs)
     rw[zck] at hk
     obtain⟨k,aa⟩: ∃k:Nat,zbk g.ls ((m:Int),s.toList)=(k:Int):=⟨_,(Int.toNat_of_nonneg hk.1).symm⟩
     have ad:k<g.ms.length:=by omega
     have aq:Hid ((H m)[j]? =some k):=by show _=_;rw[X.out,List.getElem?_map,hs];simp[aa]
     have aC:=zc aa
     obtain⟨j1,af⟩: ∃j1,j1=j+1:=⟨_,rfl⟩
     have ej:(j:Int)+1=(j1:Int):=by omega
     have an:=zc af
     have aI:=zc (zw2 (f:=fun s k=>dfs H f k s) aq.out (b.set m true,h))
     clear hs k2 hk aa af
     have DP:=zc (zkn (S:=fun _=>True) aD.out (fun _ _ _ _=>trivial) f k q V ad ao trivial)
     obtain⟨x0,x1,x2,xf⟩:=zo K.out.x
     obtain⟨r0,rf⟩:=zdE K.out.rc
     go_upto_region 5 with fail
     go_region_with (first|(go_at_call 67;refine (zmZ base G g m s _ (HO.out.later K.out.b.drew) aF).mono ?_;rintro e w2 ⟨rfl,ai⟩;rw[aC.out];have L:=zc (K.out.later (((Below.refl _ _).drew).trans ai));clear ai;obtain⟨t0,t1,t2,tf⟩:=zo L.out.x;obtain⟨u0,uf⟩:=zdE L.out.rc)|(go_at_call 68;refine (aE.out k q.1 q.2 _ L.out ad ao ay).mono ?_;rintro e w3 ⟨rfl,al⟩))
     all_goals (
      have az:=zc al
      clear al L K t0 t1 t2 tf u0 uf x0 x1 x2 xf r0 rf z0
      go_wp2
      go_roundg (gk-1)
      case rel=>
       refine⟨j1,rfl,by have:=an.out;omega,dfs H f k q,?_,az.out,by have:=DP.out.le.cnt.1;omega,by have:=DP.out.cnt;omega⟩
       rw[an.out,aI.out,←ap.out]
      case measure=>omega)
    ·have aj: ¬(j:Int)<(A.rq.length:Int):=by omega
     obtain rfl:j=A.rq.length:=by omega
     have aJ:Hid (q=(H m).foldl (fun s k=>dfs H f k s) (b.set m true,h)):=by
      have:=ap.out
      rw[List.take_of_length_le (by rw[X.out,List.length_map];exact Nat.le_refl _)] at this
      exact this
     obtain⟨r,Y,U⟩:=K.out.oc
     obtain⟨d0,df⟩:=zdE Y
     obtain⟨i0,hi,av,aH,aA⟩:=info_parts Tryz.infoIntO
     have ae:=zc Y
     have ah:=zc U
     have am:=fun o1=>U.alloc (o:=o1)
     have ar: ∀o1,w.heap.size≤(wr.alloc o1).heap.size:=fun o1=>by rw[zg];have:=K.out.b.size;omega
     clear Y U
     go_wp2_with (at_builtin;refine zbb _ rfl _ _ 36 rfl w.heap.size 3 i0 _ 1 8 Tryz.underlying36 hi av aH aA rfl (by decide) (by decide) r q.2.length (zfl q.2) (by rfl) (am _) wr.heap.size [.int .i64 (m:Int)] (by rfl) (by exact heap_alloc_new wr _) rfl (by simp[Value.oneCell']) (by omega) (ar _) ?_;intro r' wz hr ab aG;obtain⟨e0,ef⟩:=zdE (znc ah.out (zaB wr _) ab ae.out (by decide));have HR:=zc hr;have aw:=zc ab;clear hr ab aG d0 df)
     go_end0
     have hp:=K.out.push ae.out ah.out (zaB wr _) aw.out (m:=m) (by have:=HR.out;unfold zfl at this ⊢;rw[List.map_append];exact this)
     refine⟨rfl,?_⟩
     rw[←HQ.out,HD.out,←aJ.out]
     exact hp
def ziX (g:Gr):List Nat:=(dfs (zbR (zC g) g.ls) g.ms.length 0 (List.replicate g.ms.length false,[])).2
def zw6 (w:World) (out:List Nat) (e:Ending) (w':World):Prop:=∃r:Rw,e= .returned (.slice r.a out.length r.cap)∧OwnR w' w.heap.size 3 1 r out.length (zfl out)∧Below w.heap.size w w'
theorem zw7 (base:Nat) (G:GS) (g:Gr) (w:World) (ho:GrOwn w base G g) (hl:zbQ (zC g) g.ls) (ah:1≤g.ms.length) (hn:g.ms.length≤8) (ac:g.ls.length≤1048576):
  Calls Tryz.prog 37 #[grD G g] w fun e w'=>zw6 w (ziX g) e w':=by
 have HO:=zc ho
 have HL:=zc hl
 clear ho hl
 obtain⟨i0,hi,ad,ae,af⟩:=info_parts Tryz.infoBl
 unfold grD
 go_enter Tryz.func37,Tryz.ntmps37
 go_upto_region 2 with fail
 obtain⟨q,L⟩: ∃q,q=w.heap.size:=⟨_,rfl⟩
 rw[←L]
 refine zx (R:=fun W=>(Bk W q (grC G g) 32∧Bk W (q+1) #[] 3∧Bk W (q+1+1) #[.slice (some ⟨q+1,0,none⟩) 0 0] 36)∧Below w.heap.size w W) ?_ ?_
 ·have V:=zaB w (.cells (grC G g) 32)
  have M:=zaB (w.alloc (.cells (grC G g) 32)) (.cells #[] 3)
  have a3:=zaB ((w.alloc (.cells (grC G g) 32)).alloc (.cells #[] 3)) (.cells #[.slice (some ⟨q+1,0,none⟩) 0 0] 36)
  have h0:Bk (w.alloc (.cells (grC G g) 32)) q (grC G g) 32:=by rw[L];exact heap_alloc_new w _
  have h1:Bk ((w.alloc (.cells (grC G g) 32)).alloc (.cells #[] 3)) (q+1) #[] 3:=by
   have:=heap_alloc_new (w.alloc (.cells (grC G g) 32)) (.cells #[] 3)
   rw[zg,←L] at this
   exact this
  refine⟨⟨(h0.later M).later a3,h1.later a3,?_⟩,zaf (zaf V M) a3⟩
  have:=heap_alloc_new ((w.alloc (.cells (grC G g) 32)).alloc (.cells #[] 3)) (.cells #[.slice (some ⟨q+1,0,none⟩) 0 0] 36)
  rw[zg,zg,←L] at this
  exact this
 have ag:w.heap.size≤q:=by omega
 clear L
 rintro W0 ⟨⟨hx,hy,hz⟩,hb⟩
 have X:=zc hx
 have Y:=zc hy
 have Z:=zc hz
 have HB:=zc hb
 clear hx hy hz hb
 obtain⟨c0,c1,c2,cf⟩:=zo X.out
 go_upto_region 4 with (first|(at_make;refine wpList_make_full W0 rfl _ _ 58 rfl w.heap.size 4 i0 _ 1 Tryz.underlying58 hi ad ae .i64 .i64 _ _ g.ms.length (by rfl) (by rfl) rfl rfl (by rw[af];omega) (by unfold maxLen;omega) HB.out.size ?_;intro N A O))
 have I:Below W0.heap.size W0 N:=(Below.refl _ _).grown O (Nat.le_refl _) (fun k h=>by cases h)
 obtain⟨J,aa⟩: ∃J,J=W0.heap.size:=⟨_,rfl⟩
 obtain⟨z,H⟩: ∃z,z=N.heap.size:=⟨_,rfl⟩
 rw[←aa,←H]
 have K:OwnBl N w.heap.size J g.ms.length (List.replicate g.ms.length false):=by
  rw[show madeCells (Value.bool false).cells (g.ms.length*1)=madeCells #[.bool false] g.ms.length by rw[Nat.mul_one];rfl,toList_madeCells_one] at A
  unfold OwnBl OwnR
  rw[aa,List.map_replicate]
  exact A
 have V:=zaB N (.cells #[.slice (some ⟨J,0,none⟩) g.ms.length g.ms.length] 58)
 have M:=zaB (N.alloc (.cells #[.slice (some ⟨J,0,none⟩) g.ms.length g.ms.length] 58)) (.cells #[.nilFunc] 106)
 refine zx (R:=fun W=>(Bk W q (grC G g) 32∧Bk W (q+1) #[] 3∧Bk W (q+1+1) #[.slice (some ⟨q+1,0,none⟩) 0 0] 36∧Bk W z #[.slice (some ⟨J,0,none⟩) g.ms.length g.ms.length] 58∧Bk W (z+1) #[.nilFunc] 106)∧OwnBl W w.heap.size J g.ms.length (List.replicate g.ms.length false)∧w.heap.size≤z∧Below w.heap.size w W) ?_ ?_
 ·have h4:Bk (N.alloc (.cells #[.slice (some ⟨J,0,none⟩) g.ms.length g.ms.length] 58)) z #[.slice (some ⟨J,0,none⟩) g.ms.length g.ms.length] 58:=by rw[H];exact heap_alloc_new N _
  refine⟨⟨((X.out.later I).later V).later M,((Y.out.later I).later V).later M,((Z.out.later I).later V).later M,h4.later M,?_⟩,(K.later V).later M,by have h1:=HB.out.size;have h2:=I.size;omega,zaf (zaf (zaf HB.out I) V) M⟩
  have:=heap_alloc_new (N.alloc (.cells #[.slice (some ⟨J,0,none⟩) g.ms.length g.ms.length] 58)) (.cells #[.nilFunc] 106)
  rw[zg,←H] at this
  exact this
 clear aa H K V M I A O X Y Z HB c0 c1 c2 cf
 rintro W1 ⟨⟨hx,hy,hz,hv,U⟩,K,H,hb⟩
 have RW:Hid (RunW w G g q z (z+1) (q+1+1) J (List.replicate g.ms.length false) [] (W1.setCell ⟨z+1,0,none⟩ (ziW z q (z+1) (q+1+1)))):=by
  refine⟨hx.set U (by decide),hv.set U (by decide),K.aside U (by decide),zac (i:=0) U,⟨⟨some ⟨q+1,0,none⟩,0⟩,hz.set U (by decide),?_⟩,by omega,hb.setCell (by show _≤z+1;omega) _⟩
  exact⟨rfl,.inr ⟨q+1,0,#[],rfl,by omega,hy.set U (by decide),Nat.le_refl _,Nat.zero_le _,rfl,rfl⟩⟩
 obtain⟨u0,uf⟩:=zdE U
 clear hx hy hz hv U K H hb
 go_upto_region 5 with fail
 obtain⟨W2,ab⟩: ∃W2,W2=W1.setCell ⟨z+1,0,none⟩ (ziW z q (z+1) (q+1+1)):=⟨_,rfl⟩
 rw[←ab] at RW ⊢
 clear ab u0 uf
 obtain⟨r0,rf⟩:=zdE RW.out.rc
 have ai:zE (List.replicate g.ms.length false)=0:=by unfold zE;rw[List.count_replicate];rfl
 go_wp2_with fail
 refine (zw5 w base G g q z (z+1) (q+1+1) J HL.out hn ac g.ms.length 0 _ [] _ RW.out (by omega) (by omega) (Nat.zero_le _) HO.out).mono ?_
 rintro e W3 ⟨rfl,hw⟩
 have R3:=zc hw
 clear hw RW r0 rf
 obtain⟨r,h1,h2⟩:=R3.out.oc
 obtain⟨z0,zf⟩:=zdE h1
 have H2:=zc h2
 clear h1 h2
 go_wp2
 go_ret
 exact⟨r,rfl,H2.out,R3.out.b⟩
theorem zw8 (O:zfI 65) (N:zfJ 66) (base:Nat) (G:GS) (g:Gr) (w:World) (ho:GrOwn w base G g) (hg:GdG g):
  Calls Tryz.prog 10 #[grD G g] w fun e w'=>SameOut (GrI g) e∧Below w.heap.size w w':=by
 have J:=zc ho
 have HG:=zc hg
 have CM:=zc O
 have CE:=zc N
 have am:=hg.pl
 have al:=hg.ml
 have aj:=hg.ll
 clear ho hg O N
 unfold grD
 go_enter Tryz.func10,Tryz.ntmps10
 go_upto_region 1 with fail
 obtain⟨gx,Y⟩: ∃gx,gx=w.heap.size:=⟨_,rfl⟩
 rw[←Y]
 refine zx (R:=fun W=>Bk W gx (grC G g) 32∧Below w.heap.size w W) ⟨by rw[Y];exact heap_alloc_new w _,zaB w _⟩ ?_
 clear Y
 rintro I ⟨hx,z⟩
 have X:=zc hx
 have A:=zc z
 obtain⟨c0,c1,c2,cf⟩:=zo hx
 clear hx z
 by_cases h1:(g.ms.length:Int)<1
 ·have Z:Hid (¬GrI g):=fun k=>by have:=k.1;omega
  go_wp2
  go_ret
  exact⟨zbx Z.out rfl,A.out⟩
 by_cases h2:(g.ms.length:Int)≤8
 case neg=>
  have Z:Hid (¬GrI g):=fun k=>by have:=k.1;omega
  go_wp2
  go_ret
  exact⟨zbx Z.out rfl,A.out⟩
 by_cases h3:(g.ps.length:Int)=(g.ms.length:Int)
 case neg=>
  have Z:Hid (¬GrI g):=fun k=>by have:=k.2.1;omega
  have h4:((g.ps.length:Int) !=(g.ms.length:Int))=true:=bne_iff_ne.2 h3
  go_wp2
  go_ret
  exact⟨zbx Z.out rfl,A.out⟩
 go_upto_region 3 with fail
 have hp:g.ps.length=g.ms.length:=by omega
 have HP:=zc hp
 have ab:1≤g.ms.length:=by omega
 have ad:g.ms.length≤8:=by omega
 clear h1 h2 h3 c0 c1 c2 cf
 obtain⟨Y0,Y1,Y2,_⟩:=zo X.out
 have Z0:=zc Y0
 have Z1:=zc Y1
 have Z2:=zc Y2
 clear Y0 Y1 Y2 hp
 have cA: ∀(b:Bool),(b=true↔∀i,i<g.ps.length→zcc g.ps i)→∀d H,Calls Tryz.prog 34 #[.slice G.pr.a g.ps.length G.pr.cap] (grow (redrawn I d) H) fun e K=>e= .returned (.bool b)∧∃q:Regrown,K=grow (redrawn I q.d) q.os:=fun b z d H=>Calls.regrown_of ((zmX base G.pr.a G.pr.cap g.ps _ ((J.out.later A.out).later (below_regrown I d H)).ps (by have:=HP.out;omega) HG.out.ps).mono fun e w' h=>⟨h.1.of z,h.2⟩)
 have cB: ∀(b:Bool),(b=true↔zcV g.ms)→∀d H,Calls Tryz.prog 35 #[.slice G.mr.a g.ms.length G.mr.cap] (grow (redrawn I d) H) fun e K=>e= .returned (.bool b)∧∃q:Regrown,K=grow (redrawn I q.d) q.os:=fun b z d H=>Calls.regrown_of ((zmY CM.out CE.out base G.mr.a G.mr.cap G.sv g.ms _ J.out.len ((J.out.later A.out).later (below_regrown I d H)).ms ((J.out.later A.out).later (below_regrown I d H)).md HG.out.ms (by omega)).mono fun e w' h=>⟨h.1.of z,h.2⟩)
 have cC: ∀(b:Bool),(b=true↔zbQ (zC g) g.ls)→∀d H,Calls Tryz.prog 36 #[grD G g] (grow (redrawn I d) H) fun e K=>e= .returned (.bool b)∧∃q:Regrown,K=grow (redrawn I q.d) q.os:=fun b z d H=>Calls.regrown_of ((znb base G g _ ((J.out.later A.out).later (below_regrown I d H)) HG.out).mono fun e w' h=>⟨h.1.of z,h.2⟩)
 unfold grD at cC
 have ag:(¬(∀i,i<g.ps.length→zcc g.ps i))∨((∀i,i<g.ps.length→zcc g.ps i)∧(¬zcV g.ms∨(zcV g.ms∧(¬zbQ (zC g) g.ls∨zbQ (zC g) g.ls)))):=by
  by_cases L: ∀i,i<g.ps.length→zcc g.ps i
  ·by_cases M:zcV g.ms
   ·exact .inr ⟨L,.inr ⟨M,(Classical.em _).symm⟩⟩
   ·exact .inr ⟨L,.inl M⟩
  ·exact .inl L
 rcases ag with L|⟨L,M|⟨M,k3|k3⟩⟩
 case inr.inr.inr=>
  clear cA cB cC
  have ac:=zc L
  have ae:=zc M
  have aa:=zc k3
  clear L M k3
  obtain⟨z0,z1,z2,zf⟩:=zo X.out
  go_region_with (first|(go_at_call 34;refine (zmX base G.pr.a G.pr.cap g.ps _ (J.out.later A.out.drew).ps (by have:=HP.out;omega) HG.out.ps).mono ?_;rintro e w1 ⟨V,z⟩;obtain rfl:=V.of (b:=true) (iff_of_true rfl ac.out);have B1:Hid (Below I.heap.size I w1):=(((Below.refl _ _).drew).trans z);clear V z;obtain⟨p0,p1,p2,pf⟩:=zo (X.out.later B1.out))|(go_at_call 35;refine (zmY CM.out CE.out base G.mr.a G.mr.cap G.sv g.ms _ J.out.len ((J.out.later A.out).later B1.out).ms ((J.out.later A.out).later B1.out).md HG.out.ms (by omega)).mono ?_;rintro e w2 ⟨V,z⟩;obtain rfl:=V.of (b:=true) (iff_of_true rfl ae.out);have B2:=zc (zaf B1.out z);clear V z;obtain⟨q0,q1,q2,qf⟩:=zo (X.out.later B2.out))|(go_at_call 36;refine (znb base G g _ ((J.out.later A.out).later B2.out) HG.out).mono ?_;rintro e w3 ⟨V,z⟩;obtain rfl:=V.of (b:=true) (iff_of_true rfl aa.out);have B3:=zc (zaf B2.out z);clear V z;obtain⟨r0,r1,r2,rf⟩:=zo (X.out.later B3.out))|(go_at_call 37;refine (zw7 base G g _ ((J.out.later A.out).later B3.out) aa.out ab ad aj).mono ?_;rintro e w4 ⟨r,rfl,ak,z⟩;have B4:=zc (zaf B3.out z);clear ak z;obtain⟨s0,s1,s2,sf⟩:=zo (X.out.later B4.out)))
  all_goals (
   have ai:=zc (zaf A.out B4.out)
   clear B1 B2 B3 B4 p0 p1 p2 pf q0 q1 q2 qf r0 r1 r2 rf s0 s1 s2 sf
   go_wp2
   go_ret
   refine⟨⟨_,rfl,?_⟩,ai.out⟩
   rw[beq_iff_eq]
   refine⟨fun h=>⟨⟨ab,ad⟩,HP.out,ac.out,ae.out,aa.out,(Int.ofNat.inj h:(ziX g).length=g.ms.length)⟩,fun k=>?_⟩
   rw[show (ziX g).length=g.ms.length from k.2.2.2.2.2])
 all_goals (
  have Z:Hid (¬GrI g):=fun k=>by first|exact L k.2.2.1|exact M k.2.2.2.1|exact k3 k.2.2.2.2.1
  have z0:=cell_regrown Z0.out
  have z1:=cell_regrown Z1.out
  have z2:=cell_regrown Z2.out
  refine wp_region_quiet_below (by kernel_rfl) (by kernel_rfl) ?_
  repeat (go_big_quiet_step (first|with_reducible exact cA true (iff_of_true rfl L) _ _|with_reducible exact cA false (by simp only[Bool.false_eq_true,false_iff];exact L) _ _|with_reducible exact cB true (iff_of_true rfl M) _ _|with_reducible exact cB false (by simp only[Bool.false_eq_true,false_iff];exact M) _ _|with_reducible exact cC false (by simp only[Bool.false_eq_true,false_iff];exact k3) _ _))
  refine wpQuiet_nil ?_
  intro w2 af
  obtain⟨q,U⟩:=af
  have ah:=zc (zaf A.out (zdT U))
  clear U z0 z1 z2
  go_wp2
  go_ret
  exact⟨zbx Z.out rfl,ah.out⟩)
end Go.Proofs.YtgcbmogmniahjaaGreat
