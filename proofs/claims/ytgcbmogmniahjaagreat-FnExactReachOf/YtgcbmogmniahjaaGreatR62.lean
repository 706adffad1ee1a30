/- Facts and walks. -/
import Derived.Laws.EntriesVeiled
import Derived.Test.YtgcbmogmniahjaaGreatR60
import Derived.Test.YtgcbmogmniahjaaGreatR56
namespace Go.Proofs.YtgcbmogmniahjaaGreat
open Go.Proofs.Tryz
set_option maxRecDepth 100000
set_option maxHeartbeats 12800000
open Go.RowKit Go.PlainAid Go.Sort
abbrev zjf (gb gx gr go:Nat):Value:=.func (.func 68) #[] #[.pointer (some ⟨gb,0,none⟩),.pointer (some ⟨gx,0,none⟩),.pointer (some ⟨gr,0,none⟩),.pointer (some ⟨go,0,none⟩)]
def zfv (l:List Nat):List Value:=l.map fun k:Nat=>Value.int .i64 (k:Int)
structure RunW (w:World) (G:GS) (g:Gr) (gx gb gr go gq:Nat) (b:List Bool) (out:List Nat) (W:World):Prop where
 x:Bk W gx (grC G g) 32
 bc:Bk W gb #[.slice (some ⟨gq,0,none⟩) g.ms.length g.ms.length] 58
 bl:OwnBl W w.heap.size gq g.ms.length b
 rc:Bk W gr #[zjf gb gx gr go] 106
 oc: ∃r:Rw,Bk W go #[.slice r.a out.length r.cap] 36/\OwnR W w.heap.size 3 1 r out.length (zfv out)
 ge:w.heap.size<=go
 b:Bw w W
variable {w:World} {g b c:Nat} {W:Array Value} {C:TypeId} {S:Value} {q:GS} {z:Gr} {n:Rw}
theorem Bk.ne {z:Array Value} {t:TypeId} (h:Bk w g W C) (k:w.heap[b]? =some (.cells z t (0,0))) (D:C≠t):g≠b:=by
 rintro rfl;have q:some (Obj.cells W C (0,0))=some (.cells z t (0,0)):=h.symm.trans k;simp only[Option.some.injEq,Obj.cells.injEq] at q;exact D q.2.1
theorem Bk.set {i:Nat} {z:Array Value} {t:TypeId} (h:Bk w g W C) (k:w.heap[b]? =some (.cells z t (0,0))) (A:C≠t):Bk (w.setCell ⟨b,i,none⟩ S) g W C:=(heap_setCell_other w ⟨b,i,none⟩ g S (h.ne k A)).trans h
theorem RunW.later {W J:World} {I H E D:Nat} {b:List Bool} {m:List Nat} (h:RunW w q z I H c E D b m W) (k:Bw W J):RunW w q z I H c E D b m J:=by
 obtain⟨r,L,K⟩:=h.oc;exact⟨h.x.later k,h.bc.later k,h.bl.later k,h.rc.later k,⟨r,L.later k,K.later k⟩,h.ge,zZ h.b k⟩
theorem RunW.mark {W:World} {I E A:Nat} {t:List Bool} {p:List Nat} (h:RunW w q z I b c E A t p W) (m:Nat):RunW w q z I b c E A (t.set m true) p (W.setCell ⟨A,m,none⟩ (.bool true)):=by
 obtain⟨J,k⟩:=h.bl.block;obtain⟨r,L,K⟩:=h.oc;exact⟨h.x.set k (by decide),h.bc.set k (by decide),h.bl.set m true,h.rc.set k (by decide),⟨r,L.set k (by decide),K.aside k (by decide)⟩,h.ge,h.b.setCell h.bl.at.1 _⟩
theorem OwnBl.aside {k i:Nat} {m:List Bool} (h:OwnBl w g k b m) (z:w.heap[c]? =some (.cells W C (0,0))) (q:4≠C):OwnBl (w.setCell ⟨c,i,none⟩ S) g k b m:=OwnR.aside h z q
theorem znq {D E:World} {r:Rw} {xs:List Value} {z:Array Value} (I:OwnR w g 3 1 r b xs) (A:Bw w D) (K:D.grownBy E r.blk) (q:w.heap[c]? =some (.cells z C (0,0))) (J:3≠C):E.heap[c]? =some (.cells z C (0,0)):=by
 have h:=(aLt q)
 rw[K.block c (Nat.lt_of_lt_of_le h A.size) (fun e=>by
  obtain⟨_,_,H,k⟩:=I.typed e.symm;rw[q] at k;simp only[Option.some.injEq,Obj.cells.injEq] at k
  exact J k.2.1.symm),A.block c h]
 exact q
theorem RunW.push {W X E:World} {Y H L m:Nat} {F:List Bool} {p:List Nat} {A:Rw} (h:RunW w q z Y b c H L F p W) (h1:Bk W H #[.slice n.a p.length n.cap] 36) (M:OwnR W w.heap.size 3 1 n p.length (zfv p)) (K:Bw W X) (O:X.grownBy E n.blk) (ho:OwnR E w.heap.size 3 1 A (p.length+1) (zfv (p++[m]))):
  RunW w q z Y b c H L F (p++[m]) (E.setCell ⟨H,0,none⟩ (.slice A.a (p.length+1) A.cap)):=by
 have D: ∀{a:Nat} {V:Array Value} {t:TypeId},W.heap[a]? =some (.cells V t (0,0))->3≠t->E.heap[a]? =some (.cells V t (0,0)):=fun ha ht=>znq M K O ha ht;have B:=D h1 (by decide);obtain⟨aa,U⟩:=h.bl.block;have J:OwnBl E w.heap.size L z.ms.length F:=OwnR.keep h.bl fun k e=>by
  cases e;rw[D U (by decide),U]
 have I: ∀k,n.blk=some k->w.heap.size<=k:=fun k e=>(M.typed e).1;refine⟨Bk.set (D h.x (by decide)) B (by decide),Bk.set (D h.bc (by decide)) B (by decide),J.aside B (by decide),Bk.set (D h.rc (by decide)) B (by decide),⟨A,?_,?_⟩,h.ge,?_⟩
 ·rw[List.length_append];exact zae (i:=0) (u:=.slice A.a (p.length+1) A.cap) B
 ·rw[List.length_append];exact ho.aside B (by decide)
 ·exact ((zZ h.b K).grown O (Nat.le_trans h.b.size K.size) I).setCell h.ge _
theorem Tryz.infoIntO:(prog.info? 3).map (fun i=>(i.zero,i.size,i.bytes))=some (some (.int .i64 0),1,8):=by kernel_rfl
theorem zwO {α β:Type} {f:β->α->β} {l:List α} {x:α} (h:l[g]? =some x) (s:β):(l.take (g+1)).foldl f s=f ((l.take g).foldl f s) x:=by
 obtain⟨q,rfl⟩:=List.getElem?_eq_some_iff.1 h;rw[List.take_succ_eq_append_getElem q,List.foldl_append];rfl
def zwP (w:World) (base:Nat) (G:GS) (g:Gr) (gx gb gr go gq f:Nat):Prop:=∀(m:Nat) (b:List Bool) (out:List Nat) (W:World),RunW w G g gx gb gr go gq b out W->m<g.ms.length->g.ms.length<=f+zG b->out.length<=zG b->GrOwn w base G g->Calls prog 68 #[.int .i64 (m:Int),.pointer (some ⟨gb,0,none⟩),.pointer (some ⟨gx,0,none⟩),.pointer (some ⟨gr,0,none⟩),.pointer (some ⟨go,0,none⟩)] W fun e W'=>e= .returned (.tuple #[])/\RunW w G g gx gb gr go gq (dfs (zbW (zE g) g.ls) f m (b,out)).1 (dfs (zbW (zE g) g.ls) f m (b,out)).2 W'
theorem zdM (h:Bk w g #[S] C):w.cell? ⟨g,0,none⟩=some S/\∀i,w.frozen? ⟨g,i,none⟩=false:=by
 refine⟨?_,fun i=>?_⟩<;>simp[World.cell?,World.frozen?,h]
theorem zwQ {b:List Bool} {m:Nat} (h:m<b.length):b[m]? =some (b.getD m true):=by rw[List.getD,List.getElem?_eq_getElem h];rfl
theorem zwR (w:World) (base:Nat) (G:GS) (g:Gr) (gx gb gr go gq:Nat) (hl:zbV (zE g) g.ls) (hn:g.ms.length<=8) (aD:g.ls.length<=1048576) (f:Nat):zwP w base G g gx gb gr go gq f:=by
 have HL:=zc hl;clear hl
 induction f with
 |zero=>
  intro m b h W z hm hf _ _;have O:=z.bl.len;have aa:zG b=b.length:=by have:=zdW b;omega
  have K:=zgC.1 aa m (by omega);have HW:=zc z;obtain⟨c0,f0⟩:=zdM z.bc;have c1:=z.bl.cell K;have az:(m:Int)<(g.ms.length:Int):=by omega
  clear z K;go_enter func68,ntmps68;go_wp2
  (try simp only[Exit.inBlock,Exit.then]);refine bodyPost_ret (results_none rfl _ _ _) rfl ?_
  exact⟨rfl,HW.o⟩
 |succ f ih=>
  intro m b h W z hm hf aN ho;have IH:=zc ih;have HW:=zc z;have HO:=zc ho;have O:=z.bl.len;have az:(m:Int)<(g.ms.length:Int):=by omega
  have K:=zwQ (b:=b) (m:=m) (by omega);obtain⟨c0,f0⟩:=zdM z.bc;have c1:=z.bl.cell K;clear ih z ho;cases hb:b.getD m true with
  |true=>
   have HD:Hid (dfs (zbW (zE g) g.ls) (f+1) m (b,h)=(b,h)):=by show _=_;rw[dfs,if_pos hb]
   rw[hb] at c1;clear K hb;go_enter func68,ntmps68;go_wp2
   (try simp only[Exit.inBlock,Exit.then]);refine bodyPost_ret (results_none rfl _ _ _) rfl ?_
   exact⟨rfl,by rw[HD.o];exact HW.o⟩
  |false=>
   rw[hb] at c1 K;have hc:=zgF K;have f1:=HW.o.bl.free m;have HD:Hid (dfs (zbW (zE g) g.ls) (f+1) m (b,h)=(((zbW (zE g) g.ls m).foldl (fun s k=>dfs (zbW (zE g) g.ls) f k s) (b.set m true,h)).1,((zbW (zE g) g.ls m).foldl (fun s k=>dfs (zbW (zE g) g.ls) f k s) (b.set m true,h)).2++[m])):=by show _=_;rw[dfs,if_neg (by rw[hb];decide)]
   have H:=zc (HW.o.mark m);clear hb K;go_enter func68,ntmps68;go_upto_region 2 with fail;obtain⟨W1,ai⟩: ∃W1,W1=W.setCell ⟨gq,m,none⟩ (.bool true):=⟨_,rfl⟩;rw[<-ai] at H ⊢;clear ai HW c0 f0 c1 f1;obtain⟨A,M⟩: ∃A,g.ms[m]? =some A:=⟨_,List.getElem?_eq_getElem hm⟩;obtain⟨S,hS⟩:=zec HO.o.len M;have L:=zc (HO.o.later H.o.b);obtain⟨b1,o1,e1,k1⟩:=(RowAt.of (f:=mdL) (m:=5) (fun _=>rfl) (zfa L.o.len L.o.ms)).get hS;have z0:=k1 0 _ rfl;simp only[Nat.add_zero] at z0;have RS:=zc (RowS.of (HO.o.md _ (List.mem_of_getElem? hS)).rq);have X:Hid ((zE g)[m]? =some A.rq):=by show _=_;rw[zE,List.getElem?_map,M];rfl
   have U:Hid (zbW (zE g) g.ls m=A.rq.map fun s=>(zbn g.ls ((m:Int),s.toList)).toNat):=by show _=_;rw[zbW,List.getD,X.o];rfl
   obtain⟨y0,y1,y2,yf⟩:=zo H.o.x;rw[e1] at y1;clear M hS k1 e1 L;obtain⟨⟨ra,rc⟩,aQ,aP,aO,aK,aM⟩:=S;simp only at z0 RS;have aL:A.rq.length<=1048576:=by
    have h1:=HL.o.1;have h2:=zij X.o;have h3:=zik (zE g) (m+1);omega
   have aI:g.ms.length<=f+zG (b.set m true):=by omega
   have av:h.length<=zG (b.set m true):=by omega
   go_wp2;clear z0 y0 y1 y2 yf;obtain⟨D,E⟩: ∃D,D=zbW (zE g) g.ls:=⟨_,rfl⟩;have aB:Hid (∀a,a<g.ms.length->∀k∈D a,k<g.ms.length):=fun a _ k hk=>by rw[E] at hk;have:=zhY HL.o a k hk;rw[zco] at this;exact this
   have HQ:=zc E;rw[<-E] at HD U;have aC:Hid (∀(m:Nat) (b:List Bool) (h:List Nat) (W:World),RunW w G g gx gb gr go gq b h W->m<g.ms.length->g.ms.length<=f+zG b->h.length<=zG b->Calls prog 68 #[.int .i64 (m:Int),.pointer (some ⟨gb,0,none⟩),.pointer (some ⟨gx,0,none⟩),.pointer (some ⟨gr,0,none⟩),.pointer (some ⟨go,0,none⟩)] W fun e W'=>e= .returned (.tuple #[])/\RunW w G g gx gb gr go gq (dfs D f m (b,h)).1 (dfs D f m (b,h)).2 W'):=by rw[E];exact fun m b h W h1 h2 h3 h4=>IH.o m b h W h1 h2 h3 h4 HO.o
   clear E IH;go_loopg [22] A.rq.length (fun k aJ wr=>∃j:Nat,aJ= .int .i64 j/\j+k=A.rq.length/\∃q:List Bool×List Nat,q=((D m).take j).foldl (fun s k=>dfs D f k s) (b.set m true,h)/\RunW w G g gx gb gr go gq q.1 q.2 wr/\g.ms.length<=f+zG q.1/\q.2.length<=zG q.1)
   case atStart=>exact⟨0,rfl,by omega,(b.set m true,h),rfl,H.o,aI,av⟩
   case round=>
    obtain⟨j,rfl,hj,q,ae,z,am,aw⟩:=hrel;have I:=zc z;have an:=zc ae;clear z ae H;have aR:=zdW q.1;have O:=I.o.bl.len;by_cases aq:j<A.rq.length
    ·have ah:(j:Int)<(A.rq.length:Int):=by omega
     obtain⟨s,hs⟩: ∃s,A.rq[j]? =some s:=⟨_,List.getElem?_eq_getElem aq⟩;obtain⟨b2,o2,e2,k2⟩:=(RS.o.later I.o.b).get hs;subst e2;have z0:=k2 0 _ rfl;simp only[Nat.add_zero,Nat.mul_one] at z0;have hk:=HL.o.2 m A.rq X.o s (List.mem_of_getElem? hs);rw[zco] at hk;obtain⟨k,Y⟩: ∃k:Nat,zbn g.ls ((m:Int),s.toList)=(k:Int):=⟨_,(Int.toNat_of_nonneg hk.1).symm⟩;have ab:k<g.ms.length:=by omega
     have ao:Hid ((D m)[j]? =some k):=by show _=_;rw[U.o,List.getElem?_map,hs];simp[Y]
     have aA:=zc Y;obtain⟨j1,ad⟩: ∃j1,j1=j+1:=⟨_,rfl⟩;have ej:(j:Int)+1=(j1:Int):=by omega
     have al:=zc ad;have aG:=zc (zwO (f:=fun s k=>dfs D f k s) ao.o (b.set m true,h));clear hs k2 hk Y ad;have DP:=zc (zk2 (S:=fun _=>True) aB.o (fun _ _ _ _=>trivial) f k q O ab am trivial);obtain⟨x0,x1,x2,xf⟩:=zo I.o.x;obtain⟨r0,rf⟩:=zdM I.o.rc;go_upto_region 5 with fail;go_region_with (first|(go_at_call 67;refine (znn base G g m s _ (HO.o.later I.o.b.drew) aD).mono ?_;rintro e w2 ⟨rfl,ag⟩;rw[aA.o];have J:=zc (I.o.later (((Below.refl _ _).drew).trans ag));clear ag;obtain⟨t0,t1,t2,tf⟩:=zo J.o.x;obtain⟨u0,uf⟩:=zdM J.o.rc)|(go_at_call 68;refine (aC.o k q.1 q.2 _ J.o ab am aw).mono ?_;rintro e w3 ⟨rfl,aj⟩))
     all_goals (
      have ax:=zc aj;clear aj J I t0 t1 t2 tf u0 uf x0 x1 x2 xf r0 rf z0;go_wp2;go_roundg (gk-1)
      case rel=>
       refine⟨j1,rfl,by have:=al.o;omega,dfs D f k q,?_,ax.o,by have:=DP.o.le.cnt.1;omega,by have:=DP.o.cnt;omega⟩;rw[al.o,aG.o,<-an.o]
      case measure=>omega)
    ·have ah: ¬(j:Int)<(A.rq.length:Int):=by omega
     obtain rfl:j=A.rq.length:=by omega
     have aH:Hid (q=(D m).foldl (fun s k=>dfs D f k s) (b.set m true,h)):=by
      have:=an.o;rw[List.take_of_length_le (by rw[U.o,List.length_map];exact Nat.le_refl _)] at this;exact this
     obtain⟨r,V,N⟩:=I.o.oc;obtain⟨d0,df⟩:=zdM V;obtain⟨i0,hi,ar,aF,ay⟩:=info_parts Tryz.infoIntO;have ac:=zc V;have af:=zc N;have ak:=fun o1=>N.alloc (o:=o1);have ap: ∀o1,w.heap.size<=(wr.alloc o1).heap.size:=fun o1=>by rw[zg];have:=I.o.b.size;omega
     clear V N;go_wp2_with (at_builtin;refine zbd _ rfl _ _ 36 rfl w.heap.size 3 i0 _ 1 8 underlying36 hi ar aF ay rfl (by decide) (by decide) r q.2.length (zfv q.2) (by rfl) (ak _) wr.heap.size [.int .i64 (m:Int)] (by rfl) (by exact heap_alloc_new wr _) rfl (by simp[Value.oneCell']) (by omega) (ap _) ?_;intro r' wz hr Z aE;obtain⟨e0,ef⟩:=zdM (znq af.o (zan wr _) Z ac.o (by decide));have HR:=zc hr;have au:=zc Z;clear hr Z aE d0 df);go_end0;have hp:=I.o.push ac.o af.o (zan wr _) au.o (m:=m) (by have:=HR.o;unfold zfv at this ⊢;rw[List.map_append];exact this);refine⟨rfl,?_⟩;rw[<-HQ.o,HD.o,<-aH.o];exact hp
def zjg (g:Gr):List Nat:=(dfs (zbW (zE g) g.ls) g.ms.length 0 (List.replicate g.ms.length false,[])).2
def zwS (w:World) (out:List Nat) (e:Ending) (w':World):Prop:=∃r:Rw,e= .returned (.slice r.a out.length r.cap)/\OwnR w' w.heap.size 3 1 r out.length (zfv out)/\Bw w w'
theorem zwT (base:Nat) (G:GS) (g:Gr) (w:World) (ho:GrOwn w base G g) (hl:zbV (zE g) g.ls) (af:1<=g.ms.length) (hn:g.ms.length<=8) (aa:g.ls.length<=1048576):
  Calls prog 37 #[grD G g] w fun e w'=>zwS w (zjg g) e w':=by
 have HO:=zc ho;have HL:=zc hl;clear ho hl;obtain⟨i0,hi,ab,ac,ad⟩:=info_parts Tryz.infoBl;unfold grD;go_enter func37,ntmps37;go_upto_region 2 with fail;obtain⟨q,J⟩: ∃q,q=w.heap.size:=⟨_,rfl⟩;rw[<-J];refine zu (R:=fun W=>(Bk W q (grC G g) 32/\Bk W (q+1) #[] 3/\Bk W (q+1+1) #[.slice (some ⟨q+1,0,none⟩) 0 0] 36)/\Below w.heap.size w W) ?_ ?_
 ·have O:=zan w (.cells (grC G g) 32);have K:=zan (w.alloc (.cells (grC G g) 32)) (.cells #[] 3);have a3:=zan ((w.alloc (.cells (grC G g) 32)).alloc (.cells #[] 3)) (.cells #[.slice (some ⟨q+1,0,none⟩) 0 0] 36);have h0:Bk (w.alloc (.cells (grC G g) 32)) q (grC G g) 32:=by rw[J];exact heap_alloc_new w _
  have h1:Bk ((w.alloc (.cells (grC G g) 32)).alloc (.cells #[] 3)) (q+1) #[] 3:=by
   have:=heap_alloc_new (w.alloc (.cells (grC G g) 32)) (.cells #[] 3);rw[zg,<-J] at this;exact this
  refine⟨⟨(h0.later K).later a3,h1.later a3,?_⟩,zZ (zZ O K) a3⟩;have:=heap_alloc_new ((w.alloc (.cells (grC G g) 32)).alloc (.cells #[] 3)) (.cells #[.slice (some ⟨q+1,0,none⟩) 0 0] 36);rw[zg,zg,<-J] at this;exact this
 have ae:w.heap.size<=q:=by omega
 clear J;rintro W0 ⟨⟨hx,hy,hz⟩,hb⟩;have X:=zc hx;have Y:=zc hy;have Z:=zc hz;have HB:=zc hb;clear hx hy hz hb;obtain⟨c0,c1,c2,cf⟩:=zo X.o;go_upto_region 4 with (first|(at_make;refine wpList_make_full W0 rfl _ _ 58 rfl w.heap.size 4 i0 _ 1 underlying58 hi ab ac .i64 .i64 _ _ g.ms.length (by rfl) (by rfl) rfl rfl (by rw[ad];omega) (by unfold maxLen;omega) HB.o.size ?_;intro L A M))
 have E:Bw W0 L:=(Below.refl _ _).grown M (Nat.le_refl _) (fun k h=>by cases h);obtain⟨H,U⟩: ∃H,H=W0.heap.size:=⟨_,rfl⟩;obtain⟨z,D⟩: ∃z,z=L.heap.size:=⟨_,rfl⟩;rw[<-U,<-D];have I:OwnBl L w.heap.size H g.ms.length (List.replicate g.ms.length false):=by
  rw[show madeCells (Value.bool false).cells (g.ms.length*1)=madeCells #[.bool false] g.ms.length by rw[Nat.mul_one];rfl,toList_madeCells_one] at A;unfold OwnBl OwnR;rw[U,List.map_replicate];exact A
 have O:=zan L (.cells #[.slice (some ⟨H,0,none⟩) g.ms.length g.ms.length] 58);have K:=zan (L.alloc (.cells #[.slice (some ⟨H,0,none⟩) g.ms.length g.ms.length] 58)) (.cells #[.nilFunc] 106);refine zu (R:=fun W=>(Bk W q (grC G g) 32/\Bk W (q+1) #[] 3/\Bk W (q+1+1) #[.slice (some ⟨q+1,0,none⟩) 0 0] 36/\Bk W z #[.slice (some ⟨H,0,none⟩) g.ms.length g.ms.length] 58/\Bk W (z+1) #[.nilFunc] 106)/\OwnBl W w.heap.size H g.ms.length (List.replicate g.ms.length false)/\w.heap.size<=z/\Below w.heap.size w W) ?_ ?_
 ·have h4:Bk (L.alloc (.cells #[.slice (some ⟨H,0,none⟩) g.ms.length g.ms.length] 58)) z #[.slice (some ⟨H,0,none⟩) g.ms.length g.ms.length] 58:=by rw[D];exact heap_alloc_new L _
  refine⟨⟨((X.o.later E).later O).later K,((Y.o.later E).later O).later K,((Z.o.later E).later O).later K,h4.later K,?_⟩,(I.later O).later K,by have h1:=HB.o.size;have h2:=E.size;omega,zZ (zZ (zZ HB.o E) O) K⟩;have:=heap_alloc_new (L.alloc (.cells #[.slice (some ⟨H,0,none⟩) g.ms.length g.ms.length] 58)) (.cells #[.nilFunc] 106);rw[zg,<-D] at this;exact this
 clear U D I O K E A M X Y Z HB c0 c1 c2 cf;rintro W1 ⟨⟨hx,hy,hz,hv,N⟩,I,D,hb⟩;have RW:Hid (RunW w G g q z (z+1) (q+1+1) H (List.replicate g.ms.length false) [] (W1.setCell ⟨z+1,0,none⟩ (zjf z q (z+1) (q+1+1)))):=by
  refine⟨hx.set N (by decide),hv.set N (by decide),I.aside N (by decide),zae (i:=0) N,⟨⟨some ⟨q+1,0,none⟩,0⟩,hz.set N (by decide),?_⟩,by omega,hb.setCell (by show _<=z+1;omega) _⟩;exact⟨rfl,.inr ⟨q+1,0,#[],rfl,by omega,hy.set N (by decide),Nat.le_refl _,Nat.zero_le _,rfl,rfl⟩⟩
 obtain⟨u0,uf⟩:=zdM N;clear hx hy hz hv N I D hb;go_upto_region 5 with fail;obtain⟨W2,V⟩: ∃W2,W2=W1.setCell ⟨z+1,0,none⟩ (zjf z q (z+1) (q+1+1)):=⟨_,rfl⟩;rw[<-V] at RW ⊢;clear V u0 uf;obtain⟨r0,rf⟩:=zdM RW.o.rc;have ag:zG (List.replicate g.ms.length false)=0:=by unfold zG;rw[List.count_replicate];rfl
 go_wp2_with fail;refine (zwR w base G g q z (z+1) (q+1+1) H HL.o hn aa g.ms.length 0 _ [] _ RW.o (by omega) (by omega) (Nat.zero_le _) HO.o).mono ?_;rintro e W3 ⟨rfl,hw⟩;have R3:=zc hw;clear hw RW r0 rf;obtain⟨r,h1,h2⟩:=R3.o.oc;obtain⟨z0,zf⟩:=zdM h1;have H2:=zc h2;clear h1 h2;go_wp2;go_ret;exact⟨r,rfl,H2.o,R3.o.b⟩
theorem zwU (M:zfR 65) (L:zfS 66) (base:Nat) (G:GS) (g:Gr) (w:World) (ho:GrOwn w base G g) (hg:GdG g):
  Calls prog 10 #[grD G g] w fun e w'=>SameOut (GrI g) e/\Bw w w':=by
 have H:=zc ho;have Z:=zc hg;have CM:=zc M;have CE:=zc L;have al:=hg.pl;have ak:=hg.ml;have ai:=hg.ll;clear ho hg M L;unfold grD;go_enter func10,ntmps10;go_upto_region 1 with fail;obtain⟨gx,U⟩: ∃gx,gx=w.heap.size:=⟨_,rfl⟩;rw[<-U];refine zu (R:=fun W=>Bk W gx (grC G g) 32/\Below w.heap.size w W) ⟨by rw[U];exact heap_alloc_new w _,zan w _⟩ ?_;clear U;rintro E ⟨hx,z⟩;have X:=zc hx;have A:=zc z;obtain⟨c0,c1,c2,cf⟩:=zo hx;clear hx z;by_cases h1:(g.ms.length:Int)<1
 ·have V:Hid (¬GrI g):=fun k=>by have:=k.1;omega
  go_wp2;go_ret;exact⟨zbz V.o rfl,A.o⟩
 by_cases h2:(g.ms.length:Int)<=8
 case neg=>
  have V:Hid (¬GrI g):=fun k=>by have:=k.1;omega
  go_wp2;go_ret;exact⟨zbz V.o rfl,A.o⟩
 by_cases h3:(g.ps.length:Int)=(g.ms.length:Int)
 case neg=>
  have V:Hid (¬GrI g):=fun k=>by have:=k.2.1;omega
  have h4:((g.ps.length:Int) !=(g.ms.length:Int))=true:=bne_iff_ne.2 h3;go_wp2;go_ret;exact⟨zbz V.o rfl,A.o⟩
 go_upto_region 3 with fail;have hp:g.ps.length=g.ms.length:=by omega
 have HP:=zc hp;have aa:1<=g.ms.length:=by omega
 have ac:g.ms.length<=8:=by omega
 clear h1 h2 h3 c0 c1 c2 cf;obtain⟨Y0,Y1,Y2,_⟩:=zo X.o;have Z0:=zc Y0;have Z1:=zc Y1;have Z2:=zc Y2;clear Y0 Y1 Y2 hp;have cA: ∀(b:Bool),(b=true↔∀i,i<g.ps.length->zch g.ps i)->∀d D,Calls prog 34 #[.slice G.pr.a g.ps.length G.pr.cap] (grow (redrawn E d) D) fun e I=>e= .returned (.bool b)/\∃q:Regrown,I=grow (redrawn E q.d) q.os:=fun b z d D=>Calls.regrown_of ((znl base G.pr.a G.pr.cap g.ps _ ((H.o.later A.o).later (below_regrown E d D)).ps (by have:=HP.o;omega) Z.o.ps).mono fun e w' h=>⟨h.1.of z,h.2⟩);have cB: ∀(b:Bool),(b=true↔zda g.ms)->∀d D,Calls prog 35 #[.slice G.mr.a g.ms.length G.mr.cap] (grow (redrawn E d) D) fun e I=>e= .returned (.bool b)/\∃q:Regrown,I=grow (redrawn E q.d) q.os:=fun b z d D=>Calls.regrown_of ((znm CM.o CE.o base G.mr.a G.mr.cap G.sv g.ms _ H.o.len ((H.o.later A.o).later (below_regrown E d D)).ms ((H.o.later A.o).later (below_regrown E d D)).md Z.o.ms (by omega)).mono fun e w' h=>⟨h.1.of z,h.2⟩);have cC: ∀(b:Bool),(b=true↔zbV (zE g) g.ls)->∀d D,Calls prog 36 #[grD G g] (grow (redrawn E d) D) fun e I=>e= .returned (.bool b)/\∃q:Regrown,I=grow (redrawn E q.d) q.os:=fun b z d D=>Calls.regrown_of ((znp base G g _ ((H.o.later A.o).later (below_regrown E d D)) Z.o).mono fun e w' h=>⟨h.1.of z,h.2⟩);unfold grD at cC;have af:(¬(∀i,i<g.ps.length->zch g.ps i))∨((∀i,i<g.ps.length->zch g.ps i)/\(¬zda g.ms∨(zda g.ms/\(¬zbV (zE g) g.ls∨zbV (zE g) g.ls)))):=by
  by_cases J: ∀i,i<g.ps.length->zch g.ps i
  ·by_cases K:zda g.ms
   ·exact .inr ⟨J,.inr ⟨K,(Classical.em _).symm⟩⟩
   ·exact .inr ⟨J,.inl K⟩
  ·exact .inl J
 rcases af with J|⟨J,K|⟨K,k3|k3⟩⟩
 case inr.inr.inr=>
  clear cA cB cC;have ab:=zc J;have ad:=zc K;have Y:=zc k3;clear J K k3;obtain⟨z0,z1,z2,zf⟩:=zo X.o;go_region_with (first|(go_at_call 34;refine (znl base G.pr.a G.pr.cap g.ps _ (H.o.later A.o.drew).ps (by have:=HP.o;omega) Z.o.ps).mono ?_;rintro e w1 ⟨O,z⟩;obtain rfl:=O.of (b:=true) (iff_of_true rfl ab.o);have B1:Hid (Bw E w1):=(((Below.refl _ _).drew).trans z);clear O z;obtain⟨p0,p1,p2,pf⟩:=zo (X.o.later B1.o))|(go_at_call 35;refine (znm CM.o CE.o base G.mr.a G.mr.cap G.sv g.ms _ H.o.len ((H.o.later A.o).later B1.o).ms ((H.o.later A.o).later B1.o).md Z.o.ms (by omega)).mono ?_;rintro e w2 ⟨O,z⟩;obtain rfl:=O.of (b:=true) (iff_of_true rfl ad.o);have B2:=zc (zZ B1.o z);clear O z;obtain⟨q0,q1,q2,qf⟩:=zo (X.o.later B2.o))|(go_at_call 36;refine (znp base G g _ ((H.o.later A.o).later B2.o) Z.o).mono ?_;rintro e w3 ⟨O,z⟩;obtain rfl:=O.of (b:=true) (iff_of_true rfl Y.o);have B3:=zc (zZ B2.o z);clear O z;obtain⟨r0,r1,r2,rf⟩:=zo (X.o.later B3.o))|(go_at_call 37;refine (zwT base G g _ ((H.o.later A.o).later B3.o) Y.o aa ac ai).mono ?_;rintro e w4 ⟨r,rfl,aj,z⟩;have B4:=zc (zZ B3.o z);clear aj z;obtain⟨s0,s1,s2,sf⟩:=zo (X.o.later B4.o)))
  all_goals (
   have ah:=zc (zZ A.o B4.o);clear B1 B2 B3 B4 p0 p1 p2 pf q0 q1 q2 qf r0 r1 r2 rf s0 s1 s2 sf;go_wp2;go_ret;refine⟨⟨_,rfl,?_⟩,ah.o⟩;rw[beq_iff_eq];refine⟨fun h=>⟨⟨aa,ac⟩,HP.o,ab.o,ad.o,Y.o,(Int.ofNat.inj h:(zjg g).length=g.ms.length)⟩,fun k=>?_⟩
   rw[show (zjg g).length=g.ms.length from k.2.2.2.2.2])
 all_goals (
  have V:Hid (¬GrI g):=fun k=>by first|exact J k.2.2.1|exact K k.2.2.2.1|exact k3 k.2.2.2.2.1
  have z0:=cell_regrown Z0.o;have z1:=cell_regrown Z1.o;have z2:=cell_regrown Z2.o;refine wp_region_quiet_below (by kernel_rfl) (by kernel_rfl) ?_
  repeat (go_big_quiet_step (first|with_reducible exact cA true (iff_of_true rfl J) _ _|with_reducible exact cA false (by simp only[Bool.false_eq_true,false_iff];exact J) _ _|with_reducible exact cB true (iff_of_true rfl K) _ _|with_reducible exact cB false (by simp only[Bool.false_eq_true,false_iff];exact K) _ _|with_reducible exact cC false (by simp only[Bool.false_eq_true,false_iff];exact k3) _ _))
  refine wpQuiet_nil ?_;intro w2 ae;obtain⟨q,N⟩:=ae;have ag:=zc (zZ A.o (zed N));clear N z0 z1 z2;go_wp2;go_ret
  exact⟨zbz V.o rfl,ag.o⟩)
end Go.Proofs.YtgcbmogmniahjaaGreat
namespace Go.Proofs.YtgcbmogmniahjaaGreat
open Nat (add_zero le_refl le_trans zero_le)
open List (mem_of_getElem? length_map map_map map_cons sum_cons replicate getElem?_eq_getElem length_append length_take)
open Go.Proofs.Tryz
set_option maxRecDepth 1000000
set_option maxHeartbeats 6400000
open Go.RowKit Go.PlainAid
theorem zwV:GrC 8:=fun h G g w z q=>zw8 zwu zww h G g w z q
theorem znr:GrC 10:=fun q G g w A z=>(zwU zwv zwy q G g w A z).mono fun _ _ h=>⟨by obtain⟨b,e,k⟩:=h.1;exact⟨b,e,k.trans (zrp g).symm⟩,h.2⟩
open Go.Sort
theorem zwW (X b2:Nat) (V U:Sv) (m:Md) (w:World) (h1:OwnMd w X V m) (h2:OwnMd w b2 U m) (hf:zdT m):
  Calls prog 69 #[zl V m,zl U m] w fun e w'=>e= .returned (.bool true)/\Bw w w':=by
 have H1:=zc h1;have H2:=zc h2;have Z:=zc hf;clear h1 h2 hf;unfold zl;go_enter func69,ntmps69;go_upto_region 1 with fail;refine zu (R:=TwoM w X b2 V U m m) (zhQ w X b2 V U m m H1.o H2.o) ?_;clear H1 H2;intro w0 h;have T0:=zc h;clear h;obtain⟨O,H,J,M,I,L⟩:=zj T0.o.1;obtain⟨K,E,z,D,N,A⟩:=zj T0.o.2.1;go_wp2_with fail;refine (zkF X b2 V.rq U.rq m.rq w0 (by rw[<-zeX];exact T0.o.2.2.1.rq) (by rw[<-zeX];exact T0.o.2.2.2.1.rq) Z.o.1).mono ?_;rintro e w1 ⟨rfl,q⟩;have Y:=zc (T0.o.later q);clear q O H J M I L K E z D N A;obtain⟨O,H,J,M,I,L⟩:=zj Y.o.1;obtain⟨K,E,z,D,N,A⟩:=zj Y.o.2.1;go_wp2_with fail;refine (zq3 X b2 V.im U.im m.im w1 Y.o.2.2.1.im Y.o.2.2.2.1.im Z.o.2.1).mono ?_;rintro e w2 ⟨rfl,q⟩;have T2:=zc (Y.o.later q);clear q O H J M I L K E z D N A;obtain⟨O,H,J,M,I,L⟩:=zj T2.o.1;obtain⟨K,E,z,D,N,A⟩:=zj T2.o.2.1;go_wp2_with fail;refine (zq7 X b2 V.ep U.ep m.ep w2 T2.o.2.2.1.ep T2.o.2.2.2.1.ep Z.o.2.2.1).mono ?_;rintro e w3 ⟨rfl,q⟩;have T3:=zc (T2.o.later q);clear q O H J M I L K E z D N A;obtain⟨O,H,J,M,I,L⟩:=zj T3.o.1;obtain⟨K,E,z,D,N,A⟩:=zj T3.o.2.1;go_wp2_with fail;refine (zqB X b2 V.st U.st m.st w3 T3.o.2.2.1.st T3.o.2.2.2.1.st Z.o.2.2.2.1).mono ?_;rintro e w4 ⟨rfl,q⟩;have T4:=zc (T3.o.later q);clear q O H J M I L K E z D N A;obtain⟨O,H,J,M,I,L⟩:=zj T4.o.1;obtain⟨K,E,z,D,N,A⟩:=zj T4.o.2.1;go_wp2_with fail;refine (zqF X b2 V.ex U.ex m.ex w4 T4.o.2.2.1.ex T4.o.2.2.2.1.ex Z.o.2.2.2.2).mono ?_;rintro e w5 ⟨rfl,q⟩;have T5:=zc (T4.o.later q);clear q O H J M I L K E z D N A;obtain⟨O,H,J,M,I,L⟩:=zj T5.o.1;obtain⟨K,E,z,D,N,A⟩:=zj T5.o.2.1;go_wp2;go_ret;exact⟨rfl,T5.o.2.2.2.2⟩
theorem zwX (z A:Option Addr) (D h:Nat) (w:World):Calls prog 39 #[.slice z 0 D,.slice A 0 h] w fun e q=>e= .returned (.bool true)/\Bw w q:=by
 go_enter func39,ntmps39;go_wp2;go_loopg [5] 1 (fun k i wr=>k=1/\i= .int .i64 0/\wr=w)
 case atStart=>exact⟨rfl,rfl,rfl⟩
 case round=>
  obtain⟨rfl,rfl,rfl⟩:=hrel;go_wp2;go_ret;exact⟨rfl,Below.refl _ _⟩
theorem zwY (M b2 g1 Y:Nat) (N r2:Rw) (U V:List Sv) (l:List Md) (w:World) (hu:U.length=l.length) (hv:V.length=l.length) (q:OwnR w M 54 5 N l.length ((U.zip l).flatMap mdL)) (h:OwnR w b2 54 5 r2 l.length ((V.zip l).flatMap mdL)) (m1: ∀x∈U.zip l,OwnMd w M x.1 x.2) (m2: ∀x∈V.zip l,OwnMd w b2 x.1 x.2) (e1:N.a=some ⟨g1,0,none⟩) (e2:r2.a=some ⟨Y,0,none⟩) (hl:l.length<=4294967296) (hf: ∀m∈l,zdT m):
  Calls prog 39 #[.slice (some ⟨g1,0,none⟩) l.length N.cap,.slice (some ⟨Y,0,none⟩) l.length r2.cap] w fun e w'=>e= .returned (.bool true)/\Bw w w':=by
 have H1:=zc (zfa hu q);have H2:=zc (zfa hv h);have M1:=zc m1;have M2:=zc m2;have E1:=zc e1;have E2:=zc e2;have HU:=zc hu;have HV:=zc hv;have HF:=zc hf;clear q h e1 e2 m1 m2 hu hv hf;go_enter func39,ntmps39;go_wp2;go_loopg [5] l.length (fun k i wr=>∃j:Nat,i= .int .i64 j/\j+k=l.length/\Bw w wr)
 case atStart=>exact⟨0,rfl,by omega,Below.refl _ _⟩
 case round=>
  obtain⟨j,rfl,hj,hb⟩:=hrel;have A:=zc hb;clear hb;by_cases L:j<l.length
  ·have E:(j:Int)<(l.length:Int):=by omega
   obtain⟨x,J⟩:=ze3 L;obtain⟨s,hs⟩:=zec HU.o J;obtain⟨t,O⟩:=zec HV.o J;obtain⟨Z,ga,q⟩:=OwnR.elem (f:=mdL) (m:=5) (fun _=>rfl) (H1.o.later A.o) hs;obtain rfl:Z=g1:=by have:=ga.symm.trans E1.o;simpa using this
   obtain⟨Z,gb,h⟩:=OwnR.elem (f:=mdL) (m:=5) (fun _=>rfl) (H2.o.later A.o) O;obtain rfl:Z=Y:=by have:=gb.symm.trans E2.o;simpa using this
   have cQ: ∀d I,Calls prog 69 #[zl s x,zl t x] (grow (redrawn wr d) I) fun e ab=>e= .returned (.bool true)/\∃p:Regrown,ab=grow (redrawn wr p.d) p.os:=fun d I=>Calls.regrown_of (zwW M b2 s t x _ (((M1.o _ (mem_of_getElem? hs)).later A.o).later (below_regrown wr d I)) (((M2.o _ (mem_of_getElem? O)).later A.o).later (below_regrown wr d I)) (HF.o x (mem_of_getElem? J)));unfold zl at cQ;have C0:=zc (q 0 (by omega));have D0:=zc (h 0 (by omega));have C1:=zc (q 1 (by omega));have D1:=zc (h 1 (by omega));have C2:=zc (q 2 (by omega));have D2:=zc (h 2 (by omega));have C3:=zc (q 3 (by omega));have D3:=zc (h 3 (by omega));have C4:=zc (q 4 (by omega));have D4:=zc (h 4 (by omega));clear q h ga gb J hs O;obtain⟨H,D⟩: ∃H,H=j+1:=⟨_,rfl⟩;have ej:(j:Int)+1=(H:Int):=by omega
   have HJ:=zc D;clear D;go_wp2;have k0:=cell_regrown C0.o;have l0:=cell_regrown D0.o;have k1:=cell_regrown C1.o;have l1:=cell_regrown D1.o;have k2:=cell_regrown C2.o;have l2:=cell_regrown D2.o;have k3:=cell_regrown C3.o;have l3:=cell_regrown D3.o;have k4:=cell_regrown C4.o;have l4:=cell_regrown D4.o;simp only[add_zero] at k0 l0;refine wp_region_quiet_below (by kernel_rfl) (by kernel_rfl) ?_
   repeat (go_big_quiet_step (exact cQ _ _))
   refine wpQuiet_nil ?_;intro w2 K;obtain⟨⟨dq,X⟩,z⟩:=K;have aa:Hid (Bw w w2):=by show Below _ _ _;rw[z];exact A.o.trans ((below_regrown wr dq X).mono A.o.size)
   clear z k0 l0 C0 D0 k1 l1 C1 D1 k2 l2 C2 D2 k3 l3 C3 D3 k4 l4 C4 D4 cQ;go_wp2;go_roundg (gk-1)
   case rel=>exact⟨H,rfl,by have:=HJ.o;omega,aa.o⟩
   case measure=>omega
  ·have E: ¬(j:Int)<(l.length:Int):=by omega
   go_wp2;go_ret;exact⟨rfl,A.o⟩
def zjh (g:Gr):Prop:=g.ps.length<=4294967296/\g.ms.length<=4294967296/\g.ls.length<=4294967296/\∀m∈g.ms,zdT m
theorem zwZ (H b2:Nat) (h q:GS) (g:Gr) (w:World) (A:GrOwn w H h g) (z:GrOwn w b2 q g) (E:zjh g):
  Calls prog 39 #[.slice h.mr.a g.ms.length h.mr.cap,.slice q.mr.a g.ms.length q.mr.cap] w fun e M=>e= .returned (.bool true)/\Bw w M:=by
 by_cases D:g.ms.length=0
 ·rw[D];exact zwX _ _ _ _ w
 ·rcases A.ms.nil_or with ⟨_,_,e⟩|⟨L,I⟩
  ·exact absurd e D
  ·rcases z.ms.nil_or with ⟨_,_,e⟩|⟨K,J⟩
   ·exact absurd e D
   ·rw[I,J];exact zwY H b2 L K h.mr q.mr h.sv q.sv g.ms w A.len z.len A.ms z.ms A.md z.md I J E.2.1 E.2.2.2
structure TwoG (w0:World) (b1 b2:Nat) (G1 G2:GS) (g:Gr) (w:World):Prop where
 x:Bk w w0.heap.size (grC G1 g) 32
 y:Bk w (w0.heap.size+1) (grC G2 g) 32
 o1:GrOwn w b1 G1 g
 o2:GrOwn w b2 G2 g
 b:Bw w0 w
theorem TwoG.later {w0 w A:World} {z b2:Nat} {D E:GS} {g:Gr} (h:TwoG w0 z b2 D E g w) (q:Bw w A):TwoG w0 z b2 D E g A:=⟨h.x.later q,h.y.later q,h.o1.later q,h.o2.later q,zZ h.b q⟩
theorem zxa (w:World) (D b2:Nat) (h q:GS) (g:Gr) (H:GrOwn w D h g) (E:GrOwn w b2 q g):TwoG w D b2 h q g ((w.alloc (.cells (grC h g) 32)).alloc (.cells (grC q g) 32)):=by
 have A:=zan w (.cells (grC h g) 32);have z:=zan (w.alloc (.cells (grC h g) 32)) (.cells (grC q g) 32);refine⟨Bk.later (heap_alloc_new w _) z,?_,(H.later A).later z,(E.later A).later z,zZ A z⟩;have:=heap_alloc_new (w.alloc (.cells (grC h g) 32)) (.cells (grC q g) 32);rw[zg] at this;exact this
theorem zxb (D b2:Nat) (A z:GS) (g:Gr) (w:World) (Z:GrOwn w D A g) (Y:GrOwn w b2 z g) (hf:zjh g):
  Calls prog 11 #[grD A g,grD z g] w fun e w'=>e= .returned (.bool true)/\Bw w w':=by
 have H1:=zc Z;have H2:=zc Y;have X:=zc hf;clear Z Y hf;unfold grD;go_enter func11,ntmps11;go_upto_region 1 with fail;refine zu (R:=TwoG w D b2 A z g) (zxa w D b2 A z g H1.o H2.o) ?_;clear H1 H2;intro w0 h;have H:=zc h;clear h;obtain⟨V,M,N,U⟩:=zo H.o.x;obtain⟨O,L,K,J⟩:=zo H.o.y;go_wp2_with fail;refine (zkF D b2 A.pr z.pr g.ps w0 H.o.o1.ps H.o.o2.ps X.o.1).mono ?_;rintro e w1 ⟨rfl,q⟩;have E:=zc (H.o.later q);clear q V M N U O L K J H;obtain⟨V,M,N,U⟩:=zo E.o.x;obtain⟨O,L,K,J⟩:=zo E.o.y;go_wp2_with fail;refine (zwZ D b2 A z g w1 E.o.o1 E.o.o2 X.o).mono ?_;rintro e w2 ⟨rfl,q⟩;have I:=zc (E.o.later q);clear q V M N U O L K J E;obtain⟨V,M,N,U⟩:=zo I.o.x;obtain⟨O,L,K,J⟩:=zo I.o.y;go_wp2_with fail;refine (zqT D b2 A.lr z.lr g.ls w2 I.o.o1.ls I.o.o2.ls X.o.2.2.1).mono ?_;rintro e w3 ⟨rfl,q⟩;have T3:=zc (I.o.later q);clear q V M N U O L K J I;go_wp2;go_ret;exact⟨rfl,T3.o.b⟩
theorem zxc {A:GA} {g:Gr} (D:A.ms.map (·.2)=g.ms) (h:ze5 A g<=1048576) (H: ∀x∈A.ms,zaY x.2.ex):GdG g/\zjh g/\(∀x∈A.ms,zfP x.2)/\A.ms.length<=1048576:=by
 have e:ze5 A g=(g.ps.length+zD zbX g.ps)+(A.ms.length+zD zcN A.ms)+(g.ls.length+zD zeb g.ls):=rfl;have K:A.ms.length=g.ms.length:=by rw[<-D,length_map]
 have w: ∀x∈A.ms,zbi x.2<=1048576:=fun x q=>by have:=zd0 (c:=zcN) q;have M:zcN x=zbi x.2:=rfl;omega
 have L:zas (zE g)<=zD zcN A.ms:=by
  unfold zas zE zD;rw[<-D,map_map,map_map];clear D h H e K w
  induction A.ms with
  |nil=>exact le_refl _
  |cons x l J=>
   rw[map_cons,sum_cons,map_cons,sum_cons];have:x.2.rq.length<=zcN x:=by
    show _<=zbi x.2;unfold zbi;omega
   exact Nat.add_le_add this J
 have E: ∀x∈A.ms,zfP x.2:=fun x q=>by
  have:=w x q;unfold zbi at this;exact⟨by omega,by omega,by omega,by omega,by omega⟩
 refine⟨⟨fun m z=>?_,fun p I=>?_,by omega,by omega,by omega,by omega⟩,⟨by omega,by omega,by omega,fun m z=>?_⟩,E,by omega⟩
 ·rw[<-D] at z;obtain⟨x,q,rfl⟩:=List.mem_map.1 z;exact⟨w x q,H x q⟩
 ·have:=zd0 (c:=zbX) I;have M:zbX p=p.size:=rfl;omega
 ·rw[<-D] at z;obtain⟨x,q,rfl⟩:=List.mem_map.1 z;have:=E x q;unfold zfP at this;exact⟨by omega,by omega,by omega,by omega,by omega⟩
theorem zxd (base:Nat) (G:GS) (g:Gr) (z:Nat) (hm:z<g.ms.length) (w:World) (ho:GrOwn w base G g) (hn:1<=g.ms.length) (aw:g.ms.length<=8) (hl:g.ls.length<=1048576) (hr: ∀l∈g.ls,0<=l.frm/\l.frm<(g.ms.length:Int)/\0<=l.to/\l.to<(g.ms.length:Int)):
  Calls prog 41 #[grD G g,.int .i64 (z:Int)] w fun e w'=>zjb w g.ms.length (zah g.ls g.ms.length (za0 g.ms.length z)) e w':=by
 have HR:=zc (RowAt.of (f:=lkL) (m:=3) (fun _=>rfl) ho.ls);have HC:=zc hr;clear ho hr;obtain⟨i0,hi,ah,al,aj⟩:=info_parts Tryz.infoBl;unfold grD;go_enter func41,ntmps41;go_upto_region 1 with fail;obtain⟨A,M⟩: ∃A,A=w.heap.size:=⟨_,rfl⟩;rw[<-M];refine zu (R:=fun W=>Bk W A (grC G g) 32/\Below w.heap.size w W) (by rw[M];exact⟨heap_alloc_new w _,zan w _⟩) ?_;rintro W0 ⟨hx,hb⟩;have au:w.heap.size<=A:=by omega
 clear M;have X0:=zc hx;have O:=zc hb;have ag:A<W0.heap.size:=(aLt hx);clear hx hb;obtain⟨c0,Z,K,cf⟩:=zo X0.o;go_wp2_with (first|(at_make;refine wpList_make_full W0 rfl _ _ 58 rfl w.heap.size 4 i0 _ 1 underlying58 hi ah al .i64 .i64 _ _ g.ms.length (by rfl) (by rfl) rfl rfl (by rw[aj];omega) (by unfold maxLen;omega) O.o.size ?_));intro w1 q J;have Y:Bw W0 w1:=(Below.refl _ _).grown J (le_refl _) (fun k h=>by cases h);obtain⟨I,X⟩: ∃I,I=W0.heap.size:=⟨_,rfl⟩;have RR:Hid (RchW w w1 G g A I g.ms.length (replicate g.ms.length false)):=by
  refine⟨X0.o.later Y,?_,by omega,zZ O.o Y⟩;unfold OwnBl OwnR;rw[toList_madeCells_one] at q;rw[X,List.map_replicate];exact q
 rw[<-X];clear q J Y X X0 O ag c0 Z K cf;obtain⟨c0,Z,K,cf⟩:=zo RR.o.x;have f0:=RR.o.r.free z;have b0:=RR.o.r.cell (j:=z) (v:=false) (by rw[List.getElem?_replicate,if_pos (by omega)]);have aq:(z:Int)<(g.ms.length:Int):=by omega
 have R1:=zc (RR.o.set z);go_upto_region 3 with fail;obtain⟨w2,aa⟩: ∃w2,w2=w1.setCell ⟨I,z,none⟩ (.bool true):=⟨_,rfl⟩;rw[<-aa] at R1 ⊢;clear aa RR f0 b0 c0 Z K cf;have am:(replicate g.ms.length false).length=g.ms.length:=List.length_replicate ..;change Hid (RchW w w2 G g A I g.ms.length (za0 g.ms.length z)) at R1;go_wp2;go_loopg [6,7] g.ms.length (fun k s4 s5 wr=>∃r:Nat,s4= .int .i64 r/\r+k=g.ms.length/\RchW w wr G g A I g.ms.length (zah g.ls r (za0 g.ms.length z)))
 case atStart=>exact⟨0,rfl,by omega,R1.o⟩
 case round=>
  obtain⟨r,rfl,hr,hw⟩:=hrel;have RW:=zc hw;clear hw R1;obtain⟨c0,Z,K,cf⟩:=zo RW.o.x;by_cases ao:r<g.ms.length
  ·have ad:(r:Int)<(g.ms.length:Int):=by omega
   obtain⟨r1,ab⟩: ∃r1,r1=r+1:=⟨_,rfl⟩;have er:(r:Int)+1=(r1:Int):=by omega
   have N:=zc ab;clear ab;go_wp2;clear c0 Z K cf;go_loopg [7] g.ls.length (fun k s5 wq=>∃i:Nat,s5= .int .i64 i/\i+k=g.ls.length/\RchW w wq G g A I g.ms.length (zbh (g.ls.take i) (zah g.ls r (za0 g.ms.length z))))
   case atStart=>exact⟨0,rfl,by omega,RW.o⟩
   case round=>
    obtain⟨i,rfl,an,hw⟩:=hrel;have D:=zc hw;clear hw;obtain⟨c0,Z,K,cf⟩:=zo D.o.x;by_cases ak:i<g.ls.length
    ·have af:(i:Int)<(g.ls.length:Int):=by omega
     obtain⟨l,H⟩: ∃l,g.ls[i]? =some l:=⟨_,getElem?_eq_getElem ak⟩;obtain⟨y0,y1,y2,y3⟩:=HC.o l (mem_of_getElem? H);obtain⟨bl,ap,ae,hc⟩:=(HR.o.later D.o.b).get H;have k0:=hc 0 _ rfl;have k2:=hc 2 _ rfl;have HN:=zc (znb H (zah g.ls r (za0 g.ms.length z)));simp only[add_zero] at k0;clear hc H;obtain⟨fr,V⟩: ∃fr:Nat,l.frm=fr:=⟨l.frm.toNat,by omega⟩;obtain⟨U,L⟩: ∃U:Nat,l.to=U:=⟨l.to.toNat,by omega⟩;obtain⟨b,hb⟩: ∃b,b=zbh (g.ls.take i) (zah g.ls r (za0 g.ms.length z)):=⟨_,rfl⟩;rw[<-hb] at D HN;clear hb;have ai:=D.o.r.len;obtain⟨v,hv⟩: ∃v,b[fr]? =some v:=⟨_,getElem?_eq_getElem (by omega)⟩;obtain⟨u,hu⟩: ∃u,b[U]? =some u:=⟨_,getElem?_eq_getElem (by omega)⟩;have HS:Hid (zbQ b l=if v=true then b.set U true else b):=by
      show zbQ b l=_;unfold zbQ;rw[V,L,Int.toNat_natCast,Int.toNat_natCast,List.getD,hv];rfl
     have b0:=D.o.r.cell hv;have b1:=D.o.r.cell hu;have f1:=D.o.r.free U;have ar:(fr:Int)<(g.ms.length:Int):=by omega
     have av:(U:Int)<(g.ms.length:Int):=by omega
     have Q1:=zc (D.o.set U);rw[V] at k0;rw[L] at k2;rw[ae] at K;clear V L ae hv hu ai y0 y1 y2 y3;obtain⟨i1,ac⟩: ∃i1,i1=i+1:=⟨_,rfl⟩;have ei:(i:Int)+1=(i1:Int):=by omega
     have E:=zc ac;clear ac;cases v with
     |true=>
      go_wp2;go_roundg (gk-1)
      case rel=>exact⟨i1,rfl,by have:=E.o;omega,by rw[E.o,HN.o,HS.o];exact Q1.o⟩
      case measure=>omega
     |false=>
      go_wp2;go_roundg (gk-1)
      case rel=>exact⟨i1,rfl,by have:=E.o;omega,by rw[E.o,HN.o,HS.o];exact D.o⟩
      case measure=>omega
    ·have af: ¬(i:Int)<(g.ls.length:Int):=by omega
     have QE:Hid (RchW w wr G g A I g.ms.length (zah g.ls r1 (za0 g.ms.length z))):=by
      show RchW ..;rw[N.o,zhV];have:=D.o;rw[List.take_of_length_le (by omega)] at this;exact this
     go_wp2;go_roundg (g.ms.length-r1)
     case rel=>exact⟨r1,rfl,by have:=N.o;omega,QE.o⟩
     case measure=>have:=N.o;omega
  ·have ad: ¬(r:Int)<(g.ms.length:Int):=by omega
   obtain rfl:r=g.ms.length:=by omega
   go_wp2;go_ret;exact⟨I,rfl,RW.o.r,RW.o.b⟩
structure Enc (α:Type) where
 f:α->List Value
 m:Nat
 len: ∀x,(f x).length=m
 pos:0<m
 one: ∀x,∀v∈f x,v.oneCell'=true
def OwnE {α:Type} (E:Enc α) (w:World) (base:Nat) (e:TypeId) (g n cap:Nat) (l:List α):Prop:=w.ownsRow base e E.m (.slice (some ⟨g,0,none⟩) n cap) n (l.flatMap E.f)/\n=l.length
theorem zns {α:Type} (E:Enc α) (l:List α):(l.flatMap E.f).length=l.length*E.m:=by
 induction l with
 |nil=>simp
 |cons x l h=>rw[List.flatMap_cons,length_append,h,E.len,List.length_cons,Nat.succ_mul];omega
theorem zxe {α:Type} (E:Enc α) (l:List α) {j i:Nat} {x:α} {v:Value} (h:l[j]? =some x) (q:(E.f x)[i]? =some v):(l.flatMap E.f)[j*E.m+i]? =some v:=zbp E.len l j x i v h q
theorem OwnE.blk {α:Type} {E:Enc α} {w:World} {base g n z:Nat} {e:TypeId} {l:List α} (h:OwnE E w base e g n z l):base<=g/\g<w.heap.size:=by
 rcases h.1.2 with ⟨q,_⟩|⟨J,A,D,q,H,I,_⟩
 ·simp at q
 ·simp only[Value.slice.injEq,Option.some.injEq,Addr.mk.injEq,and_true,true_and] at q;obtain⟨rfl,rfl⟩:=q;exact⟨H,(aLt I)⟩
theorem OwnE.cap {α:Type} {E:Enc α} {w:World} {base g n q:Nat} {e:TypeId} {l:List α} (h:OwnE E w base e g n q l):n<=q:=by
 rcases h.1.2 with ⟨z,_⟩|⟨I,A,D,z,_,_,H,_⟩
 ·simp at z
 ·simp only[Value.slice.injEq,Option.some.injEq,Addr.mk.injEq,and_true,true_and] at z;obtain⟨_,rfl⟩:=z;exact H
theorem OwnE.keep {α:Type} {E:Enc α} {w W:World} {base g n q:Nat} {e:TypeId} {l:List α} (h:OwnE E w base e g n q l) (I:W.heap[g]? =w.heap[g]?):OwnE E W base e g n q l:=by
 refine⟨⟨h.1.1,?_⟩,h.2⟩;rcases h.1.2 with ⟨z,_⟩|⟨L,H,A,z,D,K,J⟩
 ·simp at z
 ·simp only[Value.slice.injEq,Option.some.injEq,Addr.mk.injEq,and_true,true_and] at z;obtain⟨rfl,rfl⟩:=z;exact .inr ⟨g,q,A,rfl,D,I.trans K,J⟩
theorem OwnE.later {α:Type} {E:Enc α} {w W:World} {base g n q:Nat} {e:TypeId} {l:List α} (h:OwnE E w base e g n q l) (z:Bw w W):OwnE E W base e g n q l:=h.keep (z.block g h.blk.2)
theorem OwnE.low {α:Type} {E:Enc α} {w:World} {base b g n q:Nat} {e:TypeId} {l:List α} (h:OwnE E w base e g n q l) (J:b<=base):OwnE E w b e g n q l:=by
 refine⟨⟨h.1.1,?_⟩,h.2⟩;rcases h.1.2 with ⟨D,_⟩|⟨L,z,A,D,H,K,I⟩
 ·simp at D
 ·exact .inr ⟨L,z,A,D,le_trans J H,K,I⟩
theorem OwnE.aside {α:Type} {E:Enc α} {w W:World} {base g n q:Nat} {e:TypeId} {l:List α} {x:Option Nat} (h:OwnE E w base e g n q l) (z:w.grownBy W x) (A:some g≠x):OwnE E W base e g n q l:=h.keep (z.block g h.blk.2 A)
theorem OwnE.nil {α:Type} (E:Enc α) (w:World) (e:TypeId):OwnE E (w.alloc (.cells #[] e)) w.heap.size e w.heap.size 0 0 []:=⟨World.ownsRow_lit w #[] 0 (le_refl _) (by unfold maxLen;omega) (by simp),rfl⟩
theorem OwnE.row {α:Type} {E:Enc α} {w:World} {base g n A:Nat} {e:TypeId} {l:List α} (h:OwnE E w base e g n A l):RowAt w (some ⟨g,0,none⟩) E.f E.m l:=by
 refine .inr ⟨g,0,rfl,h.blk.2,fun j x D i v H=>?_⟩;have z:j<l.length:=(List.getElem?_eq_some_iff.1 D).1;have J:i<E.m:=by have:=(List.getElem?_eq_some_iff.1 H).1;rw[E.len] at this;exact this
 have q:j*E.m+i<n*E.m:=by
  rw[h.2];have I:(j+1)*E.m<=l.length*E.m:=Nat.mul_le_mul_right _ z;rw[Nat.succ_mul] at I;omega
 rw[Nat.zero_add,h.1.cellAt _ q];exact zxe E l D H
theorem zxf (b o j:Nat):(⟨b,o,none⟩:Addr).add j=⟨b,o+j,none⟩:=by simp[Addr.add]
theorem zji {P:Program} {α:Type} (E:Enc α) (W:World) {L:Array Oper} {rest:List Oper} {o:Oper} {a:Act} {Q:Exit->Act->World->Prop} (M:o.guard=none) (s x:Operand) (t:TypeId)
  (ho:o.op= .call {callee:=.builtin .append,args:=#[s,x],argTypes:=#[t,t]})
  (base:Nat) (e:TypeId) (i:TypeInfo) (z:Value) (I:Nat) (ht:P.underlying t=some (.slice e)) (hi:P.info? e=some i) (hz:i.zero=some z) (D:i.size=E.m) (O:i.bytes=I) (X:z.cells.size=E.m) (N:I<=1024)
  (g n K:Nat) (l:List α) (hs:a.eval s= .slice (some ⟨g,0,none⟩) n K) (q:OwnE E W base e g n K l)
  (V:Nat) (b:α) (hx:a.eval x= .slice (some ⟨V,0,none⟩) 1 1) (hg:W.heap[V]? =some (.cells (E.f b).toArray e (0,0))) (hn:n+1<=100000000)
  (h: ∀A w J,OwnE E J base e A (n+1) w (l++[b])->W.grownBy J (some g)->(A=g∨A=W.heap.size)->wpList P L Q rest (a.put o.dst (.slice (some ⟨A,0,none⟩) (n+1) w)) J):
  wpList P L Q (o::rest) a W:=by
 have H:base<=W.heap.size:=le_trans q.blk.1 (Nat.le_of_lt q.blk.2);refine wpList_append_own_at _ M s x t ho base e i z E.m I ht hi hz D O X E.pos _ n _ hs q.1 ⟨V,0,none⟩ 1 1 (E.f b) hx (by rw[E.len,Nat.one_mul]) ?_ (E.one b) ?_ ?_ H ?_
 ·intro j u hj;rw[zxf,Nat.zero_add];simp[World.cell?,hg,hj]
 ·unfold maxLen;omega
 ·exact le_trans (Nat.mul_le_mul hn N) (by decide)
 ·intro v' J Z k2 k3 k4;rcases Z.2 with ⟨hv,ab⟩|⟨A,w,aa,rfl,Y⟩
  ·omega
  ·refine h A w J ⟨by rw[List.flatMap_append];simpa using Z,by rw[length_append,<-q.2];rfl⟩ k2 ?_;have U:some A=some g∨some A=some W.heap.size:=k4;rcases U with k|k
   ·exact .inl (Option.some.inj k)
   ·exact .inr (Option.some.inj k)
def OutE {α:Type} (E:Enc α) (e:TypeId) (w:World) (base:Nat) (a:Option Addr) (n cap:Nat) (l:List α):Prop:=n=l.length/\(0<n->∃g,a=some ⟨g,0,none⟩/\OwnE E w base e g n cap l)
theorem OutE.own {α:Type} {E:Enc α} {e:TypeId} {w:World} {base g n q:Nat} {l:List α} (h:OwnE E w base e g n q l):OutE E e w base (some ⟨g,0,none⟩) n q l:=⟨h.2,fun _=>⟨g,rfl,h⟩⟩
theorem OutE.nil {α:Type} (E:Enc α) (e:TypeId) (w:World) (base:Nat) (a:Option Addr) (q:Nat):OutE E e w base a 0 q []:=⟨rfl,fun h=>absurd h (Nat.lt_irrefl _)⟩
theorem OutE.later {α:Type} {E:Enc α} {e:TypeId} {w W:World} {base n q:Nat} {a:Option Addr} {l:List α} (h:OutE E e w base a n q l) (D:Bw w W):OutE E e W base a n q l:=
 ⟨h.1,fun k=>by obtain⟨g,A,z⟩:=h.2 k;exact⟨g,A,z.later D⟩⟩
theorem OutE.aside {α:Type} {E:Enc α} {e:TypeId} {w W:World} {base n q x:Nat} {a:Option Addr} {l:List α} (h:OutE E e w base a n q l) (D:w.grownBy W (some x)) (H:x<base):OutE E e W base a n q l:=
 ⟨h.1,fun k=>by
  obtain⟨g,A,z⟩:=h.2 k
  exact⟨g,A,z.aside D (fun e=>by have:=Option.some.inj e;have:=z.blk.1;omega)⟩⟩
theorem OutE.row {α:Type} {E:Enc α} {e:TypeId} {w:World} {base n q:Nat} {a:Option Addr} {l:List α} (h:OutE E e w base a n q l):RowAt w a E.f E.m l:=by
 rcases Nat.eq_zero_or_pos n with z|z
 ·exact .inl (List.length_eq_zero_iff.1 (by rw[<-h.1];exact z))
 ·obtain⟨g,rfl,A⟩:=h.2 z;exact A.row
def OwnX (w:World) (base:Nat) (e:TypeId) (size g n cap:Nat) (mk:Nat->Value) (c:Nat):Prop:=∃xs,w.ownsRow base e size (.slice (some ⟨g,0,none⟩) n cap) n xs/\∀i,i<c->xs[i]? =some (mk i)
theorem OwnX.start {w:World} {base size g n q:Nat} {e:TypeId} {xs:List Value} (h:w.ownsRow base e size (.slice (some ⟨g,0,none⟩) n q) n xs) (z:Nat->Value):OwnX w base e size g n q z 0:=⟨xs,h,fun i A=>absurd A (Nat.not_lt_zero i)⟩
theorem OwnX.blk {w:World} {base size g n z c:Nat} {I:Nat->Value} {e:TypeId} (h:OwnX w base e size g n z I c):base<=g/\g<w.heap.size:=by
 obtain⟨K,E,_⟩:=h;rcases E.2 with ⟨q,_⟩|⟨L,A,D,q,H,J,_⟩
 ·simp at q
 ·simp only[Value.slice.injEq,Option.some.injEq,Addr.mk.injEq,and_true,true_and] at q;obtain⟨rfl,rfl⟩:=q;exact⟨H,(aLt J)⟩
theorem OwnX.keep {w W:World} {base size g n q c:Nat} {I:Nat->Value} {e:TypeId} (h:OwnX w base e size g n q I c) (J:W.heap[g]? =w.heap[g]?):OwnX W base e size g n q I c:=by
 obtain⟨M,E,K⟩:=h;refine⟨M,⟨E.1,?_⟩,K⟩;rcases E.2 with ⟨z,_⟩|⟨O,H,A,z,D,N,L⟩
 ·simp at z
 ·simp only[Value.slice.injEq,Option.some.injEq,Addr.mk.injEq,and_true,true_and] at z;obtain⟨rfl,rfl⟩:=z;exact .inr ⟨g,q,A,rfl,D,J.trans N,L⟩
theorem OwnX.later {w W:World} {base size g n q c:Nat} {z:Nat->Value} {e:TypeId} (h:OwnX w base e size g n q z c) (A:Bw w W):OwnX W base e size g n q z c:=h.keep (A.block g h.blk.2)
theorem OwnX.has {w:World} {base size g n q c:Nat} {D:Nat->Value} {e:TypeId} (h:OwnX w base e size g n q D c) (i:Nat) (A:i<n*size): ∃v,w.cell? ⟨g,i,none⟩=some v:=by
 obtain⟨E,z,_⟩:=h;rw[z.cellAt i A];exact⟨_,getElem?_eq_getElem (by rw[z.1];exact A)⟩
theorem OwnX.cell {w:World} {base size g n q c:Nat} {z:Nat->Value} {e:TypeId} (h:OwnX w base e size g n q z c) (i:Nat) (H:i<n*size) (E:i<c):w.cell? ⟨g,i,none⟩=some (z i):=by
 obtain⟨I,D,A⟩:=h;rw[D.cellAt i H];exact A i E
theorem OwnX.free {w:World} {base size g n q c:Nat} {A:Nat->Value} {e:TypeId} (h:OwnX w base e size g n q A c) (i:Nat):w.frozen? ⟨g,i,none⟩=false:=by
 obtain⟨D,z,_⟩:=h;exact z.frozenAt i
theorem OwnX.put {w:World} {base size g n q c:Nat} {z:Nat->Value} {e:TypeId} (h:OwnX w base e size g n q z c) (I:c<n*size):OwnX (w.setCell ⟨g,c,none⟩ (z c)) base e size g n q z (c+1):=by
 obtain⟨E,A,D⟩:=h;have H:=A.1;refine⟨E.set c (z c),(A.stored c _).1,fun i J=>?_⟩;by_cases e:i=c
 ·subst e;exact List.getElem?_set_self (by omega)
 ·rw[List.getElem?_set_ne (by omega)];exact D i (by omega)
theorem zxg (w:World) (b:Option Nat):w.grownBy w b:=⟨rfl,rfl,rfl,le_refl _,fun _ _ _=>rfl⟩
theorem zxh {w A D:World} {b:Option Nat} (h:w.grownBy A b) (k:A.grownBy D b):w.grownBy D b:=
 ⟨k.os.trans h.os,k.tape.trans h.tape,k.output.trans h.output,le_trans h.size k.size,fun i z q=>(k.block i (Nat.lt_of_lt_of_le z h.size) q).trans (h.block i z q)⟩
theorem zxi {w q:World} {g i:Nat} {u:Value} (h:w.grownBy q (some g)):w.grownBy (q.setCell ⟨g,i,none⟩ u) (some g):=
 zxh h ⟨rfl,rfl,rfl,by show _<=(q.heap.modify _ _).size;simp,fun k _ z=>Below.heap_setCell q ⟨g,i,none⟩ u k (fun e=>z (by rw[e]))⟩
abbrev In2:=Int×Int
def inE:Enc In2:=⟨fun x=>[.int .i64 x.1,.int .i64 x.2],2,fun _=>rfl,by decide,fun x v hv=>by simp at hv;rcases hv with rfl|rfl<;>rfl⟩
def stE:Enc BA:=⟨fun x=>[.string x],1,fun _=>rfl,by decide,fun x v hv=>by simp at hv;rw[hv];rfl⟩
def itE:Enc Int:=⟨fun x=>[.int .i64 x],1,fun _=>rfl,by decide,fun x v hv=>by simp at hv;rw[hv];rfl⟩
structure Cd where
 ins:List In2
 cells:List BA
 ent:List Int
structure CA where
 a0:Option Addr
 c0:Nat
 a1:Option Addr
 c1:Nat
 a2:Option Addr
 c2:Nat
def zyj (A:CA) (c:Cd):Value:=.agg #[.slice A.a0 c.ins.length A.c0,.slice A.a1 c.cells.length A.c1,.slice A.a2 c.ent.length A.c2]
structure CodeAt (w:World) (A:CA) (c:Cd):Prop where
 ins:RowAt w A.a0 inE.f 2 c.ins
 cells:RowAt w A.a1 stE.f 1 c.cells
 ent:RowAt w A.a2 itE.f 1 c.ent
variable (g:Nat) {w W:World} {C:TypeId} {b c d n k:Nat} {q:GS} {z:Gr} {m:Nat->Nat}
theorem CodeAt.later {A:CA} {c:Cd} (h:CodeAt w A c) (q:Bw w W):CodeAt W A c:=⟨h.ins.later q,h.cells.later q,h.ent.later q⟩
def zbF (n:Nat) (p:Nat->Bool):List Int:=((List.range n).filter p).map (fun (j:Nat)=>Int.ofNat j)
theorem znt (p:Nat->Bool) (k:Nat):zbF (k+1) p=if p k=true then zbF k p++[Int.ofNat k] else zbF k p:=by
 rw[zbF,List.range_succ,List.filter_append,List.map_append];cases h:p k<;>simp[h,zbF]
theorem zjj (p:Nat->Bool):(zbF g p).length<=g:=by
 rw[zbF,length_map];exact le_trans (List.length_filter_le _ _) (Nat.le_of_eq List.length_range)
def InG (g:Gr) (mm:Int):Prop:=GrS g/\0<=mm/\mm<(g.ms.length:Int)
def zjk (g:Gr) (mm:Int) (p:Nat->Nat->Bool) (w:World) (e:Ending) (w':World):Prop:=
 ∃a n cap l,e= .returned (.slice a n cap)/\OutE itE 3 w' w.heap.size a n cap l/\Bw w w'/\(InG g mm->l=zbF g.ms.length (p mm.toNat))/\(¬InG g mm->l=[])
theorem zxj {α:Type} {E:Enc α} {x:Nat} {a:Option Addr} {l:List α} (h:OutE E C w b a c d l) (D:x<=b):OutE E C w x a c d l:=
 ⟨h.1,fun k=>by obtain⟨g,A,z⟩:=h.2 k;exact⟨g,A,z.low D⟩⟩
theorem zjl {o:Obj} (h:w.heap[b]? =some o) (q:Bw w W):W.heap[b]? =some o:=(q.block b (aLt h)).trans h
theorem zxk {E:World} {g z:Nat} {p:List Bool} {l:List Int} (h:OwnBl w b c d p) (J:OwnE itE w b 3 g k z l) (N:w.grownBy E (some g)):OwnBl E b c d p:=by
 obtain⟨H,M⟩:=h.block;refine OwnR.keep h fun t I=>?_;have e:t=c:=by simpa [Rw.blk,Value.ownBlock] using I.symm
 rw[e];refine N.block c h.at.2 fun O=>?_;have K:c=g:=Option.some.inj O;rcases J.1.2 with ⟨x,_⟩|⟨U,D,A,x,_,q,_⟩
 ·simp at x
 ·simp only[Value.slice.injEq,Option.some.injEq,Addr.mk.injEq,and_true] at x;rw[<-x.1,<-K,M] at q;exact absurd (Option.some.inj q) (by simp)
theorem Tryz.infoItS:(prog.info? 3).map (fun i=>(i.zero,i.size,i.bytes))=some (some (.int .i64 0),1,8):=by kernel_rfl
theorem zxl (cG:GrC 8) (base:Nat) (G:GS) (g:Gr) (A:Int) (w:World) (ho:GrOwn w base G g) (hg:GdG g):
  Calls prog 14 #[grD G g,.int .i64 A] w (zjk g A (fun h j=>zaT g h j) w):=by
 obtain⟨i0,hi,ac,af,ah⟩:=info_parts Tryz.infoItS;have CG:=zc cG;have HG:=zc hg;have ab:=hg.ll;have al:=hg.ml;have O0:=zc ho;clear ho hg cG;unfold grD;go_enter func14,ntmps14;go_upto_region 1 with fail;refine zu (R:=fun W=>Bk W w.heap.size (grC G g) 32/\Below w.heap.size w W) ⟨heap_alloc_new w _,zan w _⟩ ?_;rintro N ⟨hx,z⟩;have L:=zc hx;have I:=zc z;clear hx z;go_upto_region 2 with fail;refine zu (R:=fun W=>Bk W w.heap.size (grC G g) 32/\OwnE itE W w.heap.size 3 N.heap.size 0 0 []/\Below w.heap.size w W) ⟨L.o.later (zan N _),(OwnE.nil itE N 3).low I.o.size,zZ I.o (zan N _)⟩ ?_;obtain⟨gr,Z⟩: ∃gr,gr=N.heap.size:=⟨_,rfl⟩;rw[<-Z];clear Z L I;rintro W1 ⟨hx,hr,z⟩;have L:=zc hx;have R0:=zc hr;have I:=zc z;clear hx hr z;obtain⟨c0,c1,c2,cf⟩:=zo L.o;go_wp2_with fail;refine (CG.o base G g W1 (O0.o.later I.o) HG.o).mono ?_;rintro e w1 ⟨⟨b,rfl,Y⟩,z⟩;have X1:=zc (L.o.later z);have R1:=zc (R0.o.later z);have B1:=zc (zZ I.o z);have OK:=zc Y;clear Y z c0 c1 c2 cf L I R0;obtain⟨c0,c1,c2,cf⟩:=zo X1.o;have NO:Hid (¬InG g A->zjk g A (fun h j=>zaT g h j) w (.returned (.slice (some ⟨gr,0,none⟩) 0 0)) w1):=zc (fun k=>⟨_,_,_,_,rfl,OutE.own R1.o,B1.o,fun k'=>absurd k' k,fun _=>rfl⟩);cases b with
 |false=>
  have HK:Hid (¬InG g A):=zc (fun k=>absurd (OK.o.2 k.1) (by decide));clear OK;go_wp2;go_ret;exact NO.o HK.o
 |true=>
  have D:Hid (GrS g):=OK.o.1 (by simp);clear OK;by_cases h0:0<=A
  ·by_cases h1:A<(g.ms.length:Int)
   ·have LK:=zc D.o.links;have ad:1<=g.ms.length:=D.o.1.1;have ae:g.ms.length<=8:=D.o.1.2;obtain⟨h,rfl⟩: ∃h:Nat,A=(h:Int):=⟨A.toNat,by omega⟩;have IG:Hid (InG g (h:Int)):=zc ⟨D.o,h0,h1⟩;have ai:h<g.ms.length:=by omega
    clear NO;go_wp2_with fail;refine (zxd base G g h ai w1 (O0.o.later B1.o) ad ae ab LK.o).mono ?_;rintro e w2 ⟨gf,rfl,X,z⟩;have RF:=zc X;have R2:=zc (R1.o.later z);have B2:=zc (zZ B1.o z);clear X z X1 R1 c0 c1 c2 cf;go_wp2;go_loopw [7,5] (fun i o wr=>∃(k V J q:Nat),k<=g.ms.length/\i= .int .i64 k/\o= .slice (some ⟨V,0,none⟩) J q/\Hid (OwnE itE wr w.heap.size 3 V J q (zbF k fun j=>zaT g h j))/\Hid (Bw w wr)/\Hid (OwnBl wr w.heap.size gf g.ms.length (zah g.ls g.ms.length (za0 g.ms.length h)))) (fun i _ _=>(g.ms.length-intOf i).toNat)
    case atStart=>exact⟨0,gr,0,0,zero_le _,rfl,rfl,R2,B2,zc (OwnR.low RF.o B1.o.size)⟩
    case round=>
     clear RF R2 B2 B1;obtain⟨k,V,J,q,hk,rfl,rfl,M,K,HF⟩:=hrel;by_cases H:k<g.ms.length
     ·have aa:(k:Int)<(g.ms.length:Int):=by omega
      have E:=zc (znt (fun j=>zaT g h j) k);have ak:J<=8:=by have:=M.o.2;have:=zjj k fun j=>zaT g h j;omega
      have hc:=HF.o.cell (zna H);cases hp:zaT g h k with
      |true=>
       rw[hp] at hc;have HM:Hid ((zbF (k+1) fun j=>zaT g h j)=(zbF k fun j=>zaT g h j)++[Int.ofNat k]):=by show _=_;rw[E.o,if_pos hp]
       go_wp2_with (at_builtin;refine zji itE _ rfl _ _ 36 rfl w.heap.size 3 i0 _ 8 underlying36 hi ac af ah rfl (by decide) V J q _ (by rfl) (M.o.later (bA0)) wr.heap.size (Int.ofNat k) (by rfl) (by exact heap_alloc_new _ _) (by omega) ?_;intro g4 U w4 ag O aj);have F4:=zc (zxk (HF.o.later (bA0)) (M.o.later (bA0)) O);have B4:=zc ((K.o.alloc K.o.size _).grown O (K.o.alloc K.o.size _).size (fun j hj=>by cases hj;exact M.o.blk.1));go_roundw
       case rel=>exact⟨k+1,g4,J+1,U,H,by go_num,by go_num,by rw[HM.o];exact zc ag,B4,F4⟩
       case measure=>simp[intOf];omega
      |false=>
       rw[hp] at hc;have HM:Hid ((zbF (k+1) fun j=>zaT g h j)=zbF k fun j=>zaT g h j):=by show _=_;rw[E.o,if_neg (by rw[hp];decide)]
       go_wp2;go_roundw
       case rel=>exact⟨k+1,V,J,q,H,by go_num,rfl,by rw[HM.o];exact M,K,HF⟩
       case measure=>simp[intOf];omega
     ·obtain rfl:k=g.ms.length:=by omega
      have aa: ¬((g.ms.length:Nat):Int)<(g.ms.length:Int):=by omega
      go_wp2;go_ret;exact⟨_,_,_,_,rfl,OutE.own M.o,K.o,fun _=>by rw[Int.toNat_natCast],fun k=>absurd IG.o k⟩
   ·have HK:Hid (¬InG g A):=zc (fun k=>h1 k.2.2);go_wp2;go_ret;exact NO.o HK.o
  ·have HK:Hid (¬InG g A):=zc (fun k=>h0 k.2.1);go_wp2;go_ret;exact NO.o HK.o
def ntE:Enc Nat:=⟨fun x=>[.int .i64 (x:Int)],1,fun _=>rfl,by decide,fun x v hv=>by simp at hv;rw[hv];rfl⟩
theorem OwnE.cut {α:Type} {E:Enc α} {A:Nat} {l:List α} (h:OwnE E w b C c d A l) {k:Nat} (L:k<=d):OwnE E w b C c k A (l.take k):=by
 have X:=h.2;refine⟨⟨?_,?_⟩,by rw[length_take];omega⟩
 ·rw[zns,length_take];congr 1;omega
 ·rcases h.1.2 with ⟨D,_⟩|⟨Z,K,q,D,O,U,N,I,J,z⟩
  ·simp at D
  ·simp only[Value.slice.injEq,Option.some.injEq,Addr.mk.injEq,and_true,true_and] at D;obtain⟨rfl,rfl⟩:=D;refine .inr ⟨c,A,q,rfl,O,U,by omega,I,J,?_⟩;have H:k*E.m<=d*E.m:=Nat.mul_le_mul_right _ L;have M:q.toList.take (k*E.m)=(q.toList.take (d*E.m)).take (k*E.m):=by rw[List.take_take,Nat.min_eq_left H]
   rw[M,z];have V:l.flatMap E.f=(l.take k).flatMap E.f++(l.drop k).flatMap E.f:=by rw[<-List.flatMap_append,List.take_append_drop]
   have Y:((l.take k).flatMap E.f).length=k*E.m:=by rw[zns,length_take,<-X];congr 1;omega
   rw[V,List.take_append_of_le_length (by omega),List.take_of_length_le (by omega)]
theorem OwnE.cells {α:Type} {E:Enc α} {g:Nat} {l:List α} (h:OwnE E w b C g c d l): ∃q,w.heap[g]? =some (.cells q C (0,0)):=by
 rcases h.1.2 with ⟨z,_⟩|⟨J,D,q,z,I,H,_⟩
 ·simp at z
 ·simp only[Value.slice.injEq,Option.some.injEq,Addr.mk.injEq,and_true,true_and] at z;obtain⟨rfl,rfl⟩:=z;exact⟨q,H⟩
def zd7 (w:World) (g:Nat):Nat->Nat
 |0=>0
 |n+1=>zd7 w g n+match w.cell? ⟨g,n,none⟩ with|some (.bool true)=>1|_=>0
theorem zjm {x:List Bool} (h:OwnBl w b c d x):zd7 w c d=zG x:=by
 have H: ∀k,k<=d->zd7 w c k=zG (x.take k):=by
  intro k
  induction k with
  |zero=>intro _;rfl
  |succ k D=>
   intro I;have J:=h.len;obtain⟨v,A⟩: ∃v,x[k]? =some v:=⟨_,getElem?_eq_getElem (by omega)⟩;have E:=h.cell A;rw[zd7,D (by omega),E];obtain⟨z,q⟩:=List.getElem?_eq_some_iff.1 A;rw[List.take_succ_eq_append_getElem z,q,zG,zG,List.count_append];cases v<;>rfl
 have:=H d (le_refl _);rw[List.take_of_length_le (by rw[h.len];exact le_refl _)] at this;exact this
structure WkW (w W:World) (G:GS) (g:Gr) (gx gb gs cap:Nat) (n:Nat) (b:List Bool) (st:List Nat):Prop where
 r:RchW w W G g gx gb n b
 s:OwnE ntE W w.heap.size 3 gs st.length cap st
theorem WkW.later {H:World} {E p:Nat} {b:List Bool} {I:List Nat} (h:WkW w W q z E c d p n b I) (t:Bw W H):WkW w H q z E c d p n b I:=
 ⟨⟨h.r.x.later t,h.r.r.later t,h.r.ne,h.r.b.trans (t.mono h.r.b.size)⟩,h.s.later t⟩
theorem WkW.ne {F:Nat} {B:List Bool} {L:List Nat} (h:WkW w W q z b c d n F B L):d≠c/\d≠b:=by
 obtain⟨J,p⟩:=h.s.cells;obtain⟨H,t⟩:=h.r.r.block;constructor
 ·intro e;rw[e,t] at p;exact absurd (Option.some.inj p) (by simp)
 ·intro e;have K:W.heap[b]? =_:=h.r.x;rw[e,K] at p;exact absurd (Option.some.inj p) (by simp)
theorem WkW.set {D p x:Nat} {b:List Bool} {E:List Nat} (h:WkW w W q z D p c x d b E) (j:Nat):WkW w (W.setCell ⟨p,j,none⟩ (.bool true)) q z D p c x d (b.set j true) E:=
 ⟨h.r.set j,h.s.keep (heap_setCell_other W ⟨p,j,none⟩ c _ h.ne.1)⟩
theorem WkW.grow {I:World} {t p F:Nat} {B:List Bool} {N st':List Nat} (h:WkW w W q z b c d n F B N) (H:W.grownBy I (some d)) (M:OwnE ntE I w.heap.size 3 t st'.length p st'):WkW w I q z b c t p F B st':=by
 have K:W.heap[b]? =_:=h.r.x;refine⟨⟨(H.block b (aLt K) fun e=>h.ne.2 (Option.some.inj e).symm).trans K,?_,h.r.ne,h.r.b.grown H h.r.b.size fun j e=>by cases e;exact h.s.blk.1⟩,M⟩;exact OwnR.keep h.r.r fun k L=>by
  have e:k=c:=by simpa [Rw.blk,Value.ownBlock] using L.symm
  rw[e];exact H.block c h.r.r.at.2 fun e=>h.ne.1 (Option.some.inj e).symm
def zxm:Value->Nat| .slice _ n _=>n|_=>0
def zxn:Value->Nat| .slice (some a) _ _=>a.block|_=>0
theorem Tryz.infoNt:(prog.info? 3).map (fun i=>(i.zero,i.size,i.bytes))=some (some (.int .i64 0),1,8):=by kernel_rfl
theorem zxo (G:GS) (p:Gr) (L:Nat) (hm:L<p.ms.length) (w:World) (ho:GrOwn w g G p) (bY:p.ms.length<=8) (hl:p.ls.length<=1048576) (hr: ∀l∈p.ls,0<=l.frm/\l.frm<(p.ms.length:Int)/\0<=l.to/\l.to<(p.ms.length:Int)):
  Calls prog 71 #[grD G p,.int .i64 (L:Int)] w fun e w'=>zjb w p.ms.length (zah p.ls p.ms.length (za0 p.ms.length L)) e w':=by
 have HR:=zc (RowAt.of (f:=lkL) (m:=3) (fun _=>rfl) ho.ls);have HC:=zc hr;have a9:Hid (zht p.ls p.ms.length):=zc (fun l hl=>by have:=hr l hl;exact⟨by omega,by omega⟩);have HZ:Hid (∀l∈p.ls,0<=l.frm):=zc (fun l hl=>(hr l hl).1);clear ho hr;obtain⟨i0,hi,bA,bI,bF⟩:=info_parts Tryz.infoBl;obtain⟨j0,ji,bD,bK,bv⟩:=info_parts Tryz.infoNt;unfold grD;go_enter func71,ntmps71;go_wp2;obtain⟨N,ai⟩: ∃N,N=w.heap.size:=⟨_,rfl⟩;rw[<-ai];refine zu (R:=fun W=>Bk W N (grC G p) 32/\Below w.heap.size w W) (by rw[ai];exact⟨heap_alloc_new w _,zan w _⟩) ?_;rintro W0 ⟨hx,hb⟩;have bV:w.heap.size<=N:=by omega
 clear ai;have X0:=zc hx;have ac:=zc hb;have ag:N<W0.heap.size:=(aLt hx);clear hx hb;refine znj 0 (fun a' w'=>∃(E a gs ad:Nat) (b:List Bool) (st:List Nat) (u3 u8 u9 aG bj aE aW bg a0 ax a6 ay aC aH bn aB az aZ ar bh bi bp au bo aY br aR aI a8 bm aS a2 aV bc a3 aM bf a4 bb a1 av aD aF aP aK ao aQ bt aX aU bq aJ bs aO bk:Value),a'={tmps:=#[grD G p,.int .i64 (L:Int),.pointer (some ⟨N,0,none⟩),u3,.slice none 0 0,.slice (some ⟨E,0,none⟩) p.ms.length p.ms.length,.int .i64 (a:Int),.slice (some ⟨gs,0,none⟩) st.length ad,u8,u9,aG,bj,aE,aW,bg,a0,ax,a6,ay,aC,aH,bn,aB,az,aZ,ar,bh,bi,bp,au,bo,aY,br,aR,aI,a8,bm,aS,a2,aV,bc,a3,aM,bf,a4,bb,a1,av,aD,aF,aP,aK,ao,aQ,bt,aX,aU,bq,aJ,bs,aO,bk],defers:=[]}/\Hid (WkP p.ls p.ms.length L a (b,st))/\Hid (WkW w w' G p N E gs ad p.ms.length b st)) (fun a' w'=>(p.ms.length-zd7 w' (zxn (a'.tmps.getD 5 undef)) p.ms.length)+zxm (a'.tmps.getD 7 undef)) rfl ?_ ?_
 ·rintro a' wr ⟨E,a,gs,ad,b,st,u3,u8,u9,aG,bj,aE,aW,bg,a0,ax,a6,ay,aC,aH,bn,aB,az,aZ,ar,bh,bi,bp,au,bo,aY,br,aR,aI,a8,bm,aS,a2,aV,bc,a3,aM,bf,a4,bb,a1,av,aD,aF,aP,aK,ao,aQ,bt,aX,aU,bq,aJ,bs,aO,bk,rfl,HP,H⟩;clear X0 ac ag;have ae:=HC.o;obtain⟨c0,c1,c2,cf⟩:=zo H.o.r.x;have bu:Hid (zd7 wr E p.ms.length=zG b):=zc (zjm H.o.r.r);have KK:Hid (WkK p.ls p.ms.length L a (b,st) 0 (b,st)):=zc (WkK.first HP.o);clear HP;go_wp2;go_loopw [23,7] (fun i s wq=>∃(k I z:Nat) (A:List Bool) (q:List Nat),k<=p.ls.length/\i= .int .i64 k/\s= .slice (some ⟨I,0,none⟩) q.length z/\Hid (WkK p.ls p.ms.length L a (b,st) k (A,q))/\Hid (WkW w wq G p N E I z p.ms.length A q)) (fun i _ _=>(p.ls.length-intOf i).toNat)
  case atStart=>exact⟨0,gs,ad,b,st,zero_le _,rfl,rfl,KK,H⟩
  case round=>
   clear KK H c0 c1 c2 cf;obtain⟨k,I,z,A,q,hk,rfl,rfl,U,H⟩:=hrel;by_cases ab:k<p.ls.length
   ·have bN:(k:Int)<(p.ls.length:Int):=by omega
    obtain⟨l,X⟩: ∃l,p.ls[k]? =some l:=⟨_,getElem?_eq_getElem ab⟩;obtain⟨y0,y1,y2,y3⟩:=HC.o l (mem_of_getElem? X);obtain⟨bl,bS,be,hc⟩:=(HR.o.later H.o.r.b).get X;have k0:=hc 0 _ rfl;have k1:=hc 1 _ rfl;have k2:=hc 2 _ rfl;simp only[add_zero] at k0;have HN:=zc (U.o.next a9.o HZ.o X);obtain⟨O,aj⟩: ∃O:Nat,l.frm=O:=⟨l.frm.toNat,by omega⟩;obtain⟨D,aA⟩: ∃D:Nat,l.to=D:=⟨l.to.toNat,by omega⟩;have bU:=H.o.r.r.len;have bX:D<p.ms.length:=by omega
    obtain⟨v,hv⟩: ∃v,A[D]? =some v:=⟨_,getElem?_eq_getElem (by omega)⟩;have HS:Hid (zd6 a (A,q) l=if O=a/\v=false then (A.set D true,q++[D]) else (A,q)):=by
     show zd6 a (A,q) l=_;unfold zd6;rw[aj,aA,Int.toNat_natCast];have e1:A.getD D true=v:=by rw[List.getD,hv];rfl
     show (if (O:Int)=(a:Int)/\A.getD D true=false then _ else _)=_;rw[e1];congr 1;simp only[Int.natCast_inj]
    have bG:=U.o.wk.cnt;have ap:=zdW A;rw[aj] at k0;rw[aA] at k2;rw[be];have aa:q.length<=8:=by have:=U.o.wk.cnt;have:=U.o.wk.len;simp only at*;omega
    clear U aj be hc y0 y1 y2 y3 X bG ap ae;obtain⟨W2,Z⟩: ∃W2,W2=wr.alloc (.cells #[.int .i64 (O:Int),.string l.spec,.int .i64 (D:Int)] 57):=⟨_,rfl⟩;have aT:Bw wr W2:=by rw[Z];exact bA0
    have ah:=zc (H.o.later aT);have X2:Hid (W2.heap[wr.heap.size]? =some (.cells #[.int .i64 (O:Int),.string l.spec,.int .i64 (D:Int)] 57)):=by rw[Z];exact heap_alloc_new wr _
    clear aT;have b1:=H.o.r.r.cell hv;have bR:E<wr.heap.size:=H.o.r.r.at.2;have f1:=H.o.r.r.free D;have bL:wr.heap.size<W2.heap.size:=(aLt X2.o);have bQ:(D:Int)<(p.ms.length:Int):=by omega
    by_cases am:O=a
    ·subst am;cases v with
     |true=>
      have Y:Hid (zd6 O (A,q) l=(A,q)):=by show _=_;rw[HS.o,if_neg (by simp)]
      clear HS;go_wp2;rw[<-Z];go_roundw
      case rel=>exact⟨k+1,I,z,A,q,ab,by go_num,rfl,by rw[<-Y.o];exact HN,ah⟩
      case measure=>simp[intOf];omega
     |false=>
      have Y:Hid (zd6 O (A,q) l=(A.set D true,q++[D])):=by show _=_;rw[HS.o,if_pos ⟨rfl,rfl⟩]
      have ba:=zc (H.o.set D);have e3:((wr.setCell ⟨E,D,none⟩ (.bool true)).alloc (.cells #[.int .i64 (O:Int),.string l.spec,.int .i64 (D:Int)] 57)).heap.size=wr.heap.size+1:=by rw[zg,World.size_setCell]
      clear HS X2 ah Z H bL;go_wp2_with (at_builtin;refine zji ntE _ rfl _ _ 36 rfl w.heap.size 3 j0 _ 8 underlying36 ji bD bK bv rfl (by decide) I q.length z q (by rfl) (by exact ((ba.o.later (bA0)).later (bA0)).s) (wr.heap.size+1) D (by rfl) (by have h:=heap_alloc_new ((wr.setCell ⟨E,D,none⟩ (.bool true)).alloc (.cells #[.int .i64 (O:Int),.string l.spec,.int .i64 (D:Int)] 57)) (.cells #[.int .i64 (D:Int)] 3);rw[e3] at h;exact h) (by omega) ?_;intro g4 a7 w4 bJ bH bM);have bx:=zc (((ba.o.later (bA0)).later (bA0)).grow bH (st':=q++[D]) (by rw[length_append];exact bJ));go_roundw
      case rel=>exact⟨k+1,g4,a7,A.set D true,q++[D],ab,by go_num,by rw[length_append];rfl,by rw[<-Y.o];exact HN,bx⟩
      case measure=>simp[intOf];omega
    ·have bZ:((O:Int)==(a:Int))=false:=beq_eq_false_iff_ne.2 (by omega);have Y:Hid (zd6 a (A,q) l=(A,q)):=by show _=_;rw[HS.o,if_neg (fun k=>am k.1)]
     clear HS;go_wp2;rw[<-Z];go_roundw
     case rel=>exact⟨k+1,I,z,A,q,ab,by go_num,rfl,by rw[<-Y.o];exact HN,ah⟩
     case measure=>simp[intOf];omega
   ·obtain rfl:k=p.ls.length:=by omega
    have a5:=U.o.wk.cnt;have bC:=U.o.wk.len;have ap:=zdW A;have bP:=zdW b;have aa:q.length<=8:=by simp only at*;omega
    rcases List.eq_nil_or_concat q with rfl|⟨J,x,rfl⟩
    ·have HE:=zc (U.o.over hm a9.o rfl);go_wp2;simp only[Exit.jump];go_ret;refine⟨E,rfl,?_,H.o.r.b⟩;rw[<-show A=_ from HE.o];exact H.o.r.r
    ·rw[List.concat_eq_append] at U H aa a5 ⊢;have bz:=zc (U.o.pop rfl);have HM:=zc U.o.meas;obtain⟨ln,V⟩: ∃ln,ln=J.length:=⟨_,rfl⟩;have bw:(J++[x]).length=ln+1:=by rw[length_append,V];rfl
     have bB:Hid (OwnE ntE wr w.heap.size 3 I ln z J):=zc (by
      have h:=H.o.s.cut (k:=ln) (by omega);rw[V,List.take_left] at h;rw[V]
      exact h)
     have hx:wr.cell? ⟨I,ln,none⟩=some (.int .i64 (x:Int)):=by
      obtain⟨b4,bO,he,hc⟩:=H.o.s.row.get (j:=ln) (x:=x) (by rw[V,List.getElem?_append_right (le_refl _),Nat.sub_self];rfl);cases he;have h:=hc 0 _ rfl
      simpa [ntE] using h
     have aw:=H.o.s.cap;have aN:=zc H.o.r;have bW:Hid (zd7 wr E p.ms.length=zG A):=zc (zjm H.o.r.r);rw[bw] at aw aa ⊢;clear H U a5 bC;subst V;have bT:(J.length:Int)<=(z:Int):=by omega
     have X:J.length<J.length+1:=by omega
     have aL:Bw wr wr.drew:=(Below.refl _ _).drew;have W9:Hid (WkW w wr.drew G p N E I z p.ms.length A J):=zc (WkW.later ⟨aN.o,bB.o⟩ aL);have M9:Hid (zd7 wr.drew E p.ms.length=zG A):=zc (zjm W9.o.r.r);clear aL;go_wp2;go_region
     all_goals
      go_wp2;go_step3;refine⟨rfl,⟨E,x,I,z,A,J,_,_,_,_,_,_,_,_,_,_,_,_,_,_,_,_,_,_,_,_,_,_,_,_,_,_,_,_,_,_,_,_,_,_,_,_,_,_,_,_,_,_,_,_,_,_,_,_,_,_,_,_,_,_,_,rfl,bz,W9⟩,?_⟩;have q1:=HM.o;have q2:=M9.o;have q3:=bu.o;simp only[length_append,List.length_singleton] at q1;have q4:=aN.o.r.len;show (p.ms.length-zd7 wr.drew E p.ms.length)+J.length<(p.ms.length-zd7 _ E p.ms.length)+st.length;rw[q2,q3];omega
 ·intro an;obtain⟨c0,c1,c2,cf⟩:=zo X0.o;go_wp2_with (first|(at_make;refine wpList_make_full W0 rfl _ _ 58 rfl w.heap.size 4 i0 _ 1 underlying58 hi bA bI .i64 .i64 _ _ p.ms.length (by rfl) (by rfl) rfl rfl (by rw[bF];omega) (by unfold maxLen;omega) ac.o.size ?_));intro w1 M af;have al:Bw W0 w1:=(Below.refl _ _).grown af (le_refl _) (fun k h=>by cases h);obtain⟨E,ak⟩: ∃E,E=W0.heap.size:=⟨_,rfl⟩;have RR:Hid (RchW w w1 G p N E p.ms.length (replicate p.ms.length false)):=by
   refine⟨X0.o.later al,?_,by omega,zZ ac.o al⟩;unfold OwnBl OwnR;rw[toList_madeCells_one] at M;rw[ak,List.map_replicate];exact M
  rw[<-ak];clear M af al ak X0 ac ag c0 c1 c2 cf;obtain⟨c0,c1,c2,cf⟩:=zo RR.o.x;have f0:=RR.o.r.free L;have b0:=RR.o.r.cell (j:=L) (v:=false) (by rw[List.getElem?_replicate,if_pos (by omega)]);have bE:(L:Int)<(p.ms.length:Int):=by omega
  have R1:=zc (RR.o.set L);go_upto_region 3 with fail;obtain⟨w2,aq⟩: ∃w2,w2=w1.setCell ⟨E,L,none⟩ (.bool true):=⟨_,rfl⟩;rw[<-aq] at R1 ⊢;clear aq RR f0 b0 c0 c1 c2 cf bE;change Hid (RchW w w2 G p N E p.ms.length (za0 p.ms.length L)) at R1;have HP:Hid (WkP p.ls p.ms.length L L (za0 p.ms.length L,[])):=zc (WkP.start hm)
  have W1:Hid (WkW w (w2.alloc (.cells #[] 3)) G p N E w2.heap.size 0 p.ms.length (za0 p.ms.length L) []):=zc (by
   have hb:Bw w2 (w2.alloc (.cells #[] 3)):=bA0
   exact⟨⟨R1.o.x.later hb,R1.o.r.later hb,R1.o.ne,R1.o.b.trans (hb.mono R1.o.b.size)⟩,(OwnE.nil ntE w2 3).low R1.o.b.size⟩)
  go_wp2;go_step3
  rename_i K hK
  refine hK _ _ (an _ _ ⟨E,L,w2.heap.size,0,za0 p.ms.length L,[],_,_,_,_,_,_,_,_,_,_,_,_,_,_,_,_,_,_,_,_,_,_,_,_,_,_,_,_,_,_,_,_,_,_,_,_,_,_,_,_,_,_,_,_,_,_,_,_,_,_,_,_,_,_,_,rfl,HP,W1⟩)
theorem Tryz.infoBls:(prog.info? 58).map (fun i=>(i.zero,i.size,i.bytes))=some (some (.slice none 0 0),1,24):=by kernel_rfl
def reV (n:Nat) (gs:Nat->Nat) (k j:Nat):Value:=if j<k then .slice (some ⟨gs j,0,none⟩) n n else .slice none 0 0
def reL (n:Nat) (gs:Nat->Nat) (k:Nat):List Value:=(List.range n).map (reV n gs k)
theorem zxp (w:Nat->Nat) (z:c<b) (q:Nat):(reL b w c).set c (.slice (some ⟨q,0,none⟩) b b)=reL b (fun j=>if j=c then q else w j) (c+1):=by
 apply List.ext_getElem?;intro i;rw[List.getElem?_set];simp only[reL,List.getElem?_map,length_map,List.length_range];by_cases D:i<b
 ·rw[List.getElem?_range D];by_cases e:c=i
  ·subst e;simp[reV,z]
  ·simp only[e,if_false,Option.map_some,reV];have A:(i<c+1)=(i<c):=by apply propext;omega
   simp only[A,show ¬i=c from fun h=>e h.symm,if_false]
 ·rw[List.getElem?_eq_none (by simp;omega)];by_cases e:c=i
  ·omega
  ·simp[e]
theorem zxq {D:World} {q:Nat} {p:Nat} {xs:List Value} (h:w.ownsRow b C k (.slice (some ⟨c,0,none⟩) d q) p xs) (H:D.heap[c]? =w.heap[c]?):D.ownsRow b C k (.slice (some ⟨c,0,none⟩) d q) p xs:=by
 refine⟨h.1,?_⟩;rcases h.2 with ⟨x,_⟩|⟨J,A,z,x,E,I,rest⟩
 ·simp at x
 ·simp only[Value.slice.injEq,Option.some.injEq,Addr.mk.injEq,and_true] at x;obtain⟨rfl,rfl,rfl⟩:=x;exact .inr ⟨c,q,z,rfl,E,H.trans I,rest⟩
structure ReW (w W:World) (G:GS) (g:Gr) (gx b:Nat) (gs:Nat->Nat) (k:Nat):Prop where
 x:Bk W gx (grC G g) 32
 row:W.ownsRow w.heap.size 58 1 (.slice (some ⟨b,0,none⟩) g.ms.length g.ms.length) g.ms.length (reL g.ms.length gs k)
 bl: ∀j,j<k->OwnBl W w.heap.size (gs j) g.ms.length (zah g.ls g.ms.length (za0 g.ms.length j))
 bel:Bw w W
theorem ReW.blk {t:Nat} (h:ReW w W q z b t m c):w.heap.size<=t/\∃x,W.heap[t]? =some (.cells x 58 (0,0)):=by
 rcases h.row.2 with ⟨p,_⟩|⟨J,A,x,p,H,I,_⟩
 ·simp at p
 ·simp only[Value.slice.injEq,Option.some.injEq,Addr.mk.injEq,and_true,true_and] at p;obtain⟨rfl,_⟩:=p;exact⟨H,x,I⟩
theorem ReW.later {D:World} {A b:Nat} {t:Nat->Nat} (h:ReW w W q z A b t c) (p:Bw W D):ReW w D q z A b t c:=by
 obtain⟨_,E,I⟩:=h.blk;exact⟨h.x.later p,zxq h.row (p.block b (aLt I)),fun j H=>(h.bl j H).later p,h.bel.trans (p.mono h.bel.size)⟩
theorem ReW.put {F B:Nat} (h:ReW w W q z b F m c) (V:c<z.ms.length) (X:OwnBl W w.heap.size B z.ms.length (zah z.ls z.ms.length (za0 z.ms.length c))):
  ReW w (W.setCell ⟨F,c,none⟩ (.slice (some ⟨B,0,none⟩) z.ms.length z.ms.length)) q z b F (fun j=>if j=c then B else m j) (c+1):=by
 obtain⟨Y,U,N⟩:=h.blk;have O:W.heap[b]? =_:=h.x;have E:b≠F:=fun e=>by
  rw[e,N] at O;exact absurd (Option.some.inj O) (by simp)
 have J: ∀{t:Nat} {l:List Bool},OwnBl W w.heap.size t z.ms.length l->OwnBl (W.setCell ⟨F,c,none⟩ (.slice (some ⟨B,0,none⟩) z.ms.length z.ms.length)) w.heap.size t z.ms.length l:=fun {t l} hq=>by
  refine OwnR.keep hq fun j L=>?_;have e:j=t:=by simpa [Rw.blk,Value.ownBlock] using L.symm
  rw[e];refine heap_setCell_other W ⟨F,c,none⟩ t _ fun I=>?_;obtain⟨K,A⟩:=hq.block;have I:t=F:=I;rw[I,N] at A;exact absurd (Option.some.inj A) (by simp)
 have M:=(h.row.stored c (.slice (some ⟨B,0,none⟩) z.ms.length z.ms.length)).1;rw[zxp m V] at M;refine⟨(heap_setCell_other W ⟨F,c,none⟩ b _ E).trans h.x,M,fun j L=>?_,h.bel.setCell (p:=⟨F,c,none⟩) Y _⟩;by_cases e:j=c
 ·subst e;simp only[if_true];exact J X
 ·simp only[e,if_false];exact J (h.bl j (by omega))
theorem ReW.cell {t j:Nat} {x:Nat->Nat} (h:ReW w W q z b t x c) (p:j<z.ms.length):W.cell? ⟨t,j,none⟩=some (reV z.ms.length x c j):=by
 rw[h.row.cellAt j (by omega)];simp[reL,List.getElem?_range p]
theorem ReW.free {p j:Nat} {x:Nat->Nat} (h:ReW w W q z p b x c):W.frozen? ⟨b,j,none⟩=false:=h.row.frozenAt j
def ReAt (W:World) (g:Gr) (b:Nat) (gs:Nat->Nat):Prop:=b<W.heap.size/\∀j,j<g.ms.length->W.cell? ⟨b,j,none⟩=some (.slice (some ⟨gs j,0,none⟩) g.ms.length g.ms.length)/\gs j<W.heap.size/\∀i,i<g.ms.length->W.cell? ⟨gs j,i,none⟩=some (.bool (zaT g j i))
theorem ReAt.later {A:World} {b:Nat} {x:Nat->Nat} (h:ReAt w z b x) (q:Bw w A):ReAt A z b x:=
 ⟨Nat.lt_of_lt_of_le h.1 q.size,fun j D=>by
  obtain⟨E,t,H⟩:=h.2 j D
  exact⟨(q.cell (p:=⟨b,j,none⟩) h.1).trans E,Nat.lt_of_lt_of_le t q.size,fun i I=>(q.cell (p:=⟨x j,i,none⟩) t).trans (H i I)⟩⟩
theorem zxr (G:GS) (p:Gr) (w:World) (ho:GrOwn w g G p) (ac:p.ms.length<=8) (hl:p.ls.length<=1048576) (hr: ∀l∈p.ls,0<=l.frm/\l.frm<(p.ms.length:Int)/\0<=l.to/\l.to<(p.ms.length:Int)):
  Calls prog 42 #[grD G p] w fun e w'=>∃b N,e= .returned (.slice (some ⟨b,0,none⟩) p.ms.length p.ms.length)/\ReAt w' p b N/\Bw w w':=by
 have HO:=zc ho;have HC:=zc hr;clear ho hr;obtain⟨i0,H,Y,aa,ab⟩:=info_parts Tryz.infoBls;unfold grD;go_enter func42,ntmps42;go_upto_region 1 with fail;obtain⟨O,K⟩: ∃O,O=w.heap.size:=⟨_,rfl⟩;rw[<-K];refine zu (R:=fun W=>Bk W O (grC G p) 32/\Below w.heap.size w W) (by rw[K];exact⟨heap_alloc_new w _,zan w _⟩) ?_;rintro X ⟨hx,hb⟩;clear K;have X0:=zc hx;have E:=zc hb;clear hx hb;obtain⟨c0,c1,c2,cf⟩:=zo X0.o;go_wp2_with (first|(at_make;refine wpList_make_full X rfl _ _ 71 rfl w.heap.size 58 i0 _ 1 underlying71 H Y aa .i64 .i64 _ _ p.ms.length (by rfl) (by rfl) rfl rfl (by rw[ab];omega) (by unfold maxLen;omega) E.o.size ?_));intro w1 q D;have J:Bw X w1:=(Below.refl _ _).grown D (le_refl _) (fun k h=>by cases h);obtain⟨b,I⟩: ∃b,b=X.heap.size:=⟨_,rfl⟩;have R1:Hid (ReW w w1 G p O b (fun _=>0) 0):=by
  refine zc ⟨X0.o.later J,?_,fun j L=>absurd L (Nat.not_lt_zero j),zZ E.o J⟩;rw[toList_madeCells_one] at q;rw[I];have e:reL p.ms.length (fun _=>0) 0=replicate p.ms.length (.slice none 0 0):=by
   apply List.ext_getElem?;intro i;rw[reL,List.getElem?_map,List.getElem?_replicate];by_cases H:i<p.ms.length
   ·rw[List.getElem?_range H,if_pos H];rfl
   ·rw[List.getElem?_eq_none (by simp;omega),if_neg H];rfl
  rw[e];exact q
 rw[<-I];clear q D J I X0 E c0 c1 c2 cf;go_wp2;go_loopw [11,4] (fun i _ wr=>∃(k:Nat) (N:Nat->Nat),k<=p.ms.length/\i= .int .i64 k/\Hid (ReW w wr G p O b N k)) (fun i _ _=>(p.ms.length-intOf i).toNat)
 case atStart=>exact⟨0,_,zero_le _,rfl,R1⟩
 case round=>
  clear R1;obtain⟨k,N,hk,rfl,z⟩:=hrel;by_cases A:k<p.ms.length
  ·have V:(k:Int)<(p.ms.length:Int):=by omega
   obtain⟨c0,c1,c2,cf⟩:=zo z.o.x;go_wp2_with fail;refine (zxo g G p k A wr (HO.o.later z.o.bel) ac hl HC.o).mono ?_;rintro e w2 ⟨g2,rfl,M,U⟩;have Z:=zc (z.o.later U);have O2:Hid (OwnBl w2 w.heap.size g2 p.ms.length (zah p.ls p.ms.length (za0 p.ms.length k))):=zc (OwnR.low M z.o.bel.size);have q0:=Z.o.cell A;have qf:=Z.o.free (j:=k);have R3:=zc (Z.o.put A O2.o);clear M U z c0 c1 c2 cf;go_wp2;go_roundw
   case rel=>exact⟨k+1,_,A,by go_num,R3⟩
   case measure=>simp[intOf];omega
  ·have V: ¬(k:Int)<(p.ms.length:Int):=by omega
   obtain rfl:k=p.ms.length:=by omega
   go_wp2;go_ret;obtain⟨_,ad,hc⟩:=z.o.blk;refine⟨b,rfl,⟨N,(aLt hc),fun j L=>⟨?_,(z.o.bl j L).at.2,fun i H=>(z.o.bl j L).cell (zna H)⟩⟩,z.o.bel⟩;have:=z.o.cell L;rw[reV,if_pos L] at this;exact this
end Go.Proofs.YtgcbmogmniahjaaGreat
namespace Go.Proofs.YtgcbmogmniahjaaGreat
open Go.Proofs.Tryz
set_option maxRecDepth 100000
set_option maxHeartbeats 1600000
open Go.RowKit Go.PlainAid Go.Sort
theorem OwnX.put1 {w:World} {base size g n q c:Nat} {z:Nat->Value} {e:TypeId} {v:Value} (h:OwnX w base e size g n q z c) (D:c<n*size) (A:z c=v):OwnX (w.setCell ⟨g,c,none⟩ v) base e size g n q z (c+1):=by rw[<-A];exact h.put D
variable (g:Nat) (w W:Option Addr) (d n:Nat)
theorem zxI (l:List Int) (C:World) (L:RowAt C w itE.f 1 l) (K:RowAt C W itE.f 1 l) (hl:l.length<=1048576):
  Calls prog 16 #[.slice w l.length d,.slice W l.length n] C fun e O=>e= .returned (.bool true)/\Bw C O:=by
 have X:=zdJ L;have Y:=zdJ K;clear L K;go_enter func16,ntmps16;go_wp2;go_loopw [5] (fun i wr=>∃k:Nat,k<=l.length/\i= .int .i64 k/\Hid (Bw C wr)) (fun i _=>(l.length-intOf i).toNat)
 case atStart=>exact⟨0,by omega,rfl,zdJ (Below.refl _ _)⟩
 case round=>
  obtain⟨k,hk,rfl,B⟩:=hrel;by_cases h:k<l.length
  ·obtain⟨x,I⟩: ∃x,l[k]? =some x:=⟨_,List.getElem?_eq_getElem h⟩;obtain⟨b1,o1,rfl,A⟩:=(X.o.later B.o).get I;obtain⟨b2,o2,rfl,q⟩:=(Y.o.later B.o).get I;have D:=A 0 _ rfl;have J:=q 0 _ rfl;simp only[Nat.add_zero,Nat.mul_one] at D J;clear A q I;have k0:=cell_regrown D;have k2:=cell_regrown J;clear D J;go_wp2;refine wp_region_quiet_below (by kernel_rfl) (by kernel_rfl) ?_
   repeat (go_big_quiet_step (fail))
   refine wpQuiet_nil ?_;intro _ E;obtain⟨⟨dq,H⟩,z⟩:=E;subst z;have Z:=zdJ (B.o.trans ((below_regrown wr dq H).mono B.o.size));go_wp2;go_roundw
   case rel=>exact⟨k+1,h,by go_num,Z⟩
   case measure=>simp[intOf];omega
  ·go_wp2;go_ret;exact⟨rfl,B.o⟩
def mkI (k0 i:Nat):Value:=.int .i64 ((k0+i:Nat):Int)
theorem zxJ (C:World):Calls prog 18 #[.slice w 0 d,.int .i64 n] C fun e z=>e= .returned (.int .i64 n)/\z=C:=by
 go_enter func18,ntmps18;go_wp2;go_loopg [1,5] 1 (fun k q i wr=>k=1/\q= .int .i64 n/\i= .int .i64 0/\wr=C)
 case atStart=>exact⟨rfl,rfl,rfl,rfl⟩
 case round=>
  obtain⟨rfl,rfl,rfl,rfl⟩:=hrel;go_wp2;go_ret;exact⟨rfl,rfl⟩
theorem zxK (C n A z:Nat) (w:World) (V:OwnX w g 3 1 C n A (mkI z) 0) (hn:n<=1048576) (hk:z<=8388608):
  Calls prog 18 #[.slice (some ⟨C,0,none⟩) n A,.int .i64 z] w fun e O=>e= .returned (.int .i64 ((z+n:Nat):Int))/\OwnX O g 3 1 C n A (mkI z) (n)/\w.grownBy O (some C):=by
 have H1:=zdJ V;clear V;go_enter func18,ntmps18;go_wp2;go_loopw [1,5] (fun q i wr=>∃j:Nat,j<=n/\i= .int .i64 j/\q= .int .i64 ((z+j:Nat):Int)/\Hid (OwnX wr g 3 1 C n A (mkI z) (j))/\Hid (w.grownBy wr (some C))) (fun _ i _=>(n-intOf i).toNat)
 case atStart=>exact⟨0,by omega,rfl,by simp,by have h:=H1;exact h,zdJ (zxg _ _)⟩
 case round=>
  obtain⟨j,hj,rfl,rfl,H,U⟩:=hrel;by_cases J:j<n
  ·obtain⟨K,D⟩: ∃q:Nat,q=z+(j):=⟨_,rfl⟩;obtain⟨E,I⟩: ∃q:Nat,q=z+(j+1):=⟨_,rfl⟩;rw[<-D];have Y:(K:Int)+1=(E:Int):=by omega
   have N:Hid (mkI z (j)= .int .i64 (K:Int)):=by show mkI z (j)=_;rw[D];rfl
   have X:Hid (E=z+((j+1))):=by show E=_;omega
   have Z:E<=20000000:=by omega
   obtain⟨v0,e0⟩:=H.o.has (j) (by omega);have f0:=H.o.free (j);have L:=zdJ (H.o.put1 (by omega) N.o);have M:=zdJ (zxi (i:=j) (u:=.int .i64 (K:Int)) (U.o));clear D I;go_wp2;go_roundw
   case rel=>exact⟨j+1,J,by go_num,by rw[X.o],by have h:=L;exact h,M⟩
   case measure=>simp[intOf];omega
  ·obtain rfl:j=n:=by omega
   go_wp2;go_ret;exact⟨rfl,H.o,U.o⟩
theorem zxL (C:World):Calls prog 19 #[.slice w 0 d,.int .i64 n] C fun e z=>e= .returned (.int .i64 n)/\z=C:=by
 go_enter func19,ntmps19;go_wp2;go_loopg [1,5] 1 (fun k q i wr=>k=1/\q= .int .i64 n/\i= .int .i64 0/\wr=C)
 case atStart=>exact⟨rfl,rfl,rfl,rfl⟩
 case round=>
  obtain⟨rfl,rfl,rfl,rfl⟩:=hrel;go_wp2;go_ret;exact⟨rfl,rfl⟩
theorem zxM (C n A h:Nat) (w:World) (K:OwnX w g 3 1 C n A (mkI h) (n)) (X:n<=1048576) (V:h<=8388608):
  Calls prog 19 #[.slice (some ⟨C,0,none⟩) n A,.int .i64 h] w fun e L=>e= .returned (.int .i64 ((h+n:Nat):Int))/\L=w:=by
 have U:=zdJ K;clear K;go_enter func19,ntmps19;go_wp2;go_loopw [1,5] (fun q i wr=>∃j:Nat,j<=n/\i= .int .i64 j/\q= .int .i64 ((h+j:Nat):Int)/\w=wr) (fun _ i _=>(n-intOf i).toNat)
 case atStart=>exact⟨0,by omega,rfl,by simp,rfl⟩
 case round=>
  obtain⟨j,Y,rfl,rfl,rfl⟩:=hrel;by_cases H:j<n
  ·obtain⟨I,z⟩: ∃q:Nat,q=h+(j):=⟨_,rfl⟩;obtain⟨D,E⟩: ∃q:Nat,q=h+(j+1):=⟨_,rfl⟩;rw[<-z];have N:(I:Int)+1=(D:Int):=by omega
   have J:Hid (mkI h (j)= .int .i64 (I:Int)):=by show mkI h (j)=_;rw[z];rfl
   have M:Hid (D=h+((j+1))):=by show D=_;omega
   have O:D<=20000000:=by omega
   have Z:w.cell? ⟨C,j,none⟩=some (.int .i64 (I:Int)):=by rw[U.o.cell (j) (by omega) (by omega),J.o]
   clear z E;go_wp2;go_roundw
   case rel=>exact⟨j+1,H,by go_num,by rw[M.o],trivial⟩
   case measure=>simp[intOf];omega
  ·obtain rfl:j=n:=by omega
   go_wp2;go_ret;exact⟨rfl,rfl⟩
end Go.Proofs.YtgcbmogmniahjaaGreat
