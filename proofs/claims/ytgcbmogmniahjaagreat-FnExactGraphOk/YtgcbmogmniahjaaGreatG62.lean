/- Facts and walks that the theorem stands on. -/
import Derived.Laws.EntriesVeiled
import Derived.Test.YtgcbmogmniahjaaGreatG60
import Derived.Test.YtgcbmogmniahjaaGreatG56
namespace Go.Proofs.YtgcbmogmniahjaaGreat
open Go.Proofs.Tryz
set_option maxRecDepth 100000
set_option maxHeartbeats 12800000
open Go.RowKit Go.PlainAid Go.Sort
abbrev ziE (gb gx gr go:Nat):Value:=.func (.func 68) #[] #[.pointer (some ⟨gb,0,none⟩),.pointer (some ⟨gx,0,none⟩),.pointer (some ⟨gr,0,none⟩),.pointer (some ⟨go,0,none⟩)]
def zfd (l:List Nat):List Value:=l.map fun k:Nat=>Value.int .i64 (k:Int)
structure RunW (w:World) (G:GS) (g:Gr) (gx gb gr go gq:Nat) (b:List Bool) (out:List Nat) (W:World):Prop where
 x:Bk W gx (grC G g) 32
 bc:Bk W gb #[.slice (some ⟨gq,0,none⟩) g.ms.length g.ms.length] 58
 bl:OwnBl W w.heap.size gq g.ms.length b
 rc:Bk W gr #[ziE gb gx gr go] 106
 oc: ∃r:Rw,Bk W go #[.slice r.a out.length r.cap] 36/\OwnR W w.heap.size 3 1 r out.length (zfd out)
 ge:w.heap.size<=go
 b:Below w.heap.size w W
theorem Bk.ne {w:World} {a b:Nat} {A z:Array Value} {s t:TypeId} (h:Bk w a A s) (k:w.heap[b]? =some (.cells z t (0,0))) (D:s≠t):a≠b:=by
 rintro rfl;have q:some (Obj.cells A s (0,0))=some (.cells z t (0,0)):=h.symm.trans k;simp only[Option.some.injEq,Obj.cells.injEq] at q;exact D q.2.1
theorem Bk.set {w:World} {a c i:Nat} {q z:Array Value} {s t:TypeId} {u:Value} (h:Bk w a q s) (k:w.heap[c]? =some (.cells z t (0,0))) (A:s≠t):Bk (w.setCell ⟨c,i,none⟩ u) a q s:=(heap_setCell_other w ⟨c,i,none⟩ a u (h.ne k A)).trans h
theorem RunW.later {w W J:World} {G:GS} {g:Gr} {I H A E D:Nat} {b:List Bool} {z:List Nat} (h:RunW w G g I H A E D b z W) (q:Below W.heap.size W J):RunW w G g I H A E D b z J:=by
 obtain⟨r,L,K⟩:=h.oc;exact⟨h.x.later q,h.bc.later q,h.bl.later q,h.rc.later q,⟨r,L.later q,K.later q⟩,h.ge,zaq h.b q⟩
theorem RunW.mark {w W:World} {G:GS} {g:Gr} {I H D E A:Nat} {b:List Bool} {z:List Nat} (h:RunW w G g I H D E A b z W) (m:Nat):RunW w G g I H D E A (b.set m true) z (W.setCell ⟨A,m,none⟩ (.bool true)):=by
 obtain⟨J,q⟩:=h.bl.block;obtain⟨r,L,K⟩:=h.oc;exact⟨h.x.set q (by decide),h.bc.set q (by decide),h.bl.set m true,h.rc.set q (by decide),⟨r,L.set q (by decide),K.aside q (by decide)⟩,h.ge,h.b.setCell h.bl.at.1 _⟩
theorem OwnBl.aside {w:World} {base g n c i:Nat} {b:List Bool} {t:TypeId} {u:Value} {A:Array Value} (h:OwnBl w base g n b) (z:w.heap[c]? =some (.cells A t (0,0))) (q:4≠t):OwnBl (w.setCell ⟨c,i,none⟩ u) base g n b:=OwnR.aside h z q
theorem zmH {W D E:World} {base n a:Nat} {r:Rw} {xs:List Value} {z:Array Value} {t:TypeId} (I:OwnR W base 3 1 r n xs) (A:Below W.heap.size W D) (K:D.grownBy E r.blk) (q:W.heap[a]? =some (.cells z t (0,0))) (J:3≠t):E.heap[a]? =some (.cells z t (0,0)):=by
 have h:=(aLt q)
 rw[K.block a (Nat.lt_of_lt_of_le h A.size) (fun e=>by
  obtain⟨_,_,H,w⟩:=I.typed e.symm;rw[q] at w;simp only[Option.some.injEq,Obj.cells.injEq] at w
  exact J w.2.1.symm),A.block a h]
 exact q
theorem RunW.push {w W X E:World} {G:GS} {g:Gr} {Y N Z H L m:Nat} {b:List Bool} {q:List Nat} {r A:Rw} (h:RunW w G g Y N Z H L b q W) (h1:Bk W H #[.slice r.a q.length r.cap] 36) (M:OwnR W w.heap.size 3 1 r q.length (zfd q)) (K:Below W.heap.size W X) (O:X.grownBy E r.blk) (ho:OwnR E w.heap.size 3 1 A (q.length+1) (zfd (q++[m]))):
  RunW w G g Y N Z H L b (q++[m]) (E.setCell ⟨H,0,none⟩ (.slice A.a (q.length+1) A.cap)):=by
 have D: ∀{a:Nat} {V:Array Value} {t:TypeId},W.heap[a]? =some (.cells V t (0,0))->3≠t->E.heap[a]? =some (.cells V t (0,0)):=fun ha ht=>zmH M K O ha ht;have z:=D h1 (by decide);obtain⟨aa,U⟩:=h.bl.block;have J:OwnBl E w.heap.size L g.ms.length b:=OwnR.keep h.bl fun k e=>by
  cases e;rw[D U (by decide),U]
 have I: ∀k,r.blk=some k->w.heap.size<=k:=fun k e=>(M.typed e).1;refine⟨Bk.set (D h.x (by decide)) z (by decide),Bk.set (D h.bc (by decide)) z (by decide),J.aside z (by decide),Bk.set (D h.rc (by decide)) z (by decide),⟨A,?_,?_⟩,h.ge,?_⟩
 ·rw[List.length_append];exact zab (i:=0) (u:=.slice A.a (q.length+1) A.cap) z
 ·rw[List.length_append];exact ho.aside z (by decide)
 ·exact ((zaq h.b K).grown O (Nat.le_trans h.b.size K.size) I).setCell h.ge _
theorem Tryz.infoIntO:(prog.info? 3).map (fun i=>(i.zero,i.size,i.bytes))=some (some (.int .i64 0),1,8):=by kernel_rfl
theorem zwd {α β:Type} {f:β->α->β} {l:List α} {j:Nat} {x:α} (h:l[j]? =some x) (s:β):(l.take (j+1)).foldl f s=f ((l.take j).foldl f s) x:=by
 obtain⟨q,rfl⟩:=List.getElem?_eq_some_iff.1 h;rw[List.take_succ_eq_append_getElem q,List.foldl_append];rfl
def zwe (w:World) (base:Nat) (G:GS) (g:Gr) (gx gb gr go gq f:Nat):Prop:=∀(m:Nat) (b:List Bool) (out:List Nat) (W:World),RunW w G g gx gb gr go gq b out W->m<g.ms.length->g.ms.length<=f+zae b->out.length<=zae b->GrOwn w base G g->Calls prog 68 #[.int .i64 (m:Int),.pointer (some ⟨gb,0,none⟩),.pointer (some ⟨gx,0,none⟩),.pointer (some ⟨gr,0,none⟩),.pointer (some ⟨go,0,none⟩)] W fun e W'=>e= .returned (.tuple #[])/\RunW w G g gx gb gr go gq (dfs (zbO (zC g) g.ls) f m (b,out)).1 (dfs (zbO (zC g) g.ls) f m (b,out)).2 W'
theorem zd7 {w:World} {b:Nat} {t:TypeId} {v:Value} (h:Bk w b #[v] t):w.cell? ⟨b,0,none⟩=some v/\∀i,w.frozen? ⟨b,i,none⟩=false:=by
 refine⟨?_,fun i=>?_⟩<;>simp[World.cell?,World.frozen?,h]
theorem zwf {b:List Bool} {m:Nat} (h:m<b.length):b[m]? =some (b.getD m true):=by rw[List.getD,List.getElem?_eq_getElem h];rfl
theorem zwg (w:World) (base:Nat) (G:GS) (g:Gr) (gx gb gr go gq:Nat) (hl:zbN (zC g) g.ls) (hn:g.ms.length<=8) (aD:g.ls.length<=1048576) (f:Nat):zwe w base G g gx gb gr go gq f:=by
 have HL:=zc hl;clear hl
 induction f with
 |zero=>
  intro m b h W z hm hf _ _;have O:=z.bl.len;have aa:zae b=b.length:=by have:=zgu b;omega
  have K:=zgv.1 aa m (by omega);have HW:=zc z;obtain⟨c0,f0⟩:=zd7 z.bc;have c1:=z.bl.cell K;have az:(m:Int)<(g.ms.length:Int):=by omega
  clear z K;go_enter func68,ntmps68;go_wp2
  (try simp only[Exit.inBlock,Exit.then]);refine bodyPost_ret (results_none rfl _ _ _) rfl ?_
  exact⟨rfl,HW.o⟩
 |succ f ih=>
  intro m b h W z hm hf aN ho;have IH:=zc ih;have HW:=zc z;have HO:=zc ho;have O:=z.bl.len;have az:(m:Int)<(g.ms.length:Int):=by omega
  have K:=zwf (b:=b) (m:=m) (by omega);obtain⟨c0,f0⟩:=zd7 z.bc;have c1:=z.bl.cell K;clear ih z ho;cases hb:b.getD m true with
  |true=>
   have HD:Hid (dfs (zbO (zC g) g.ls) (f+1) m (b,h)=(b,h)):=by show _=_;rw[dfs,if_pos hb]
   rw[hb] at c1;clear K hb;go_enter func68,ntmps68;go_wp2
   (try simp only[Exit.inBlock,Exit.then]);refine bodyPost_ret (results_none rfl _ _ _) rfl ?_
   exact⟨rfl,by rw[HD.o];exact HW.o⟩
  |false=>
   rw[hb] at c1 K;have hc:=zjW K;have f1:=HW.o.bl.free m;have HD:Hid (dfs (zbO (zC g) g.ls) (f+1) m (b,h)=(((zbO (zC g) g.ls m).foldl (fun s k=>dfs (zbO (zC g) g.ls) f k s) (b.set m true,h)).1,((zbO (zC g) g.ls m).foldl (fun s k=>dfs (zbO (zC g) g.ls) f k s) (b.set m true,h)).2++[m])):=by show _=_;rw[dfs,if_neg (by rw[hb];decide)]
   have H:=zc (HW.o.mark m);clear hb K;go_enter func68,ntmps68;go_upto_region 2 with fail;obtain⟨W1,ai⟩: ∃W1,W1=W.setCell ⟨gq,m,none⟩ (.bool true):=⟨_,rfl⟩;rw[<-ai] at H ⊢;clear ai HW c0 f0 c1 f1;obtain⟨A,M⟩: ∃A,g.ms[m]? =some A:=⟨_,List.getElem?_eq_getElem hm⟩;obtain⟨S,hS⟩:=zdJ HO.o.len M;have L:=zc (HO.o.later H.o.b);obtain⟨b1,o1,e1,k1⟩:=(RowAt.of (f:=mdL) (m:=5) (fun _=>rfl) (zeI L.o.len L.o.ms)).get hS;have z0:=k1 0 _ rfl;simp only[Nat.add_zero] at z0;have RS:=zc (RowS.of (HO.o.md _ (List.mem_of_getElem? hS)).rq);have X:Hid ((zC g)[m]? =some A.rq):=by show _=_;rw[zC,List.getElem?_map,M];rfl
   have U:Hid (zbO (zC g) g.ls m=A.rq.map fun s=>(zbi g.ls ((m:Int),s.toList)).toNat):=by show _=_;rw[zbO,List.getD,X.o];rfl
   obtain⟨y0,y1,y2,yf⟩:=zq H.o.x;rw[e1] at y1;clear M hS k1 e1 L;obtain⟨⟨ra,rc⟩,aQ,aP,aO,aK,aM⟩:=S;simp only at z0 RS;have aL:A.rq.length<=1048576:=by
    have h1:=HL.o.1;have h2:=zhK X.o;have h3:=zhL (zC g) (m+1);omega
   have aI:g.ms.length<=f+zae (b.set m true):=by omega
   have av:h.length<=zae (b.set m true):=by omega
   go_wp2;clear z0 y0 y1 y2 yf;obtain⟨D,E⟩: ∃D,D=zbO (zC g) g.ls:=⟨_,rfl⟩;have aB:Hid (∀a,a<g.ms.length->∀k∈D a,k<g.ms.length):=fun a _ k hk=>by rw[E] at hk;have:=zh8 HL.o a k hk;rw[zcq] at this;exact this
   have HQ:=zc E;rw[<-E] at HD U;have aC:Hid (∀(m:Nat) (b:List Bool) (h:List Nat) (W:World),RunW w G g gx gb gr go gq b h W->m<g.ms.length->g.ms.length<=f+zae b->h.length<=zae b->Calls prog 68 #[.int .i64 (m:Int),.pointer (some ⟨gb,0,none⟩),.pointer (some ⟨gx,0,none⟩),.pointer (some ⟨gr,0,none⟩),.pointer (some ⟨go,0,none⟩)] W fun e W'=>e= .returned (.tuple #[])/\RunW w G g gx gb gr go gq (dfs D f m (b,h)).1 (dfs D f m (b,h)).2 W'):=by rw[E];exact fun m b h W h1 h2 h3 h4=>IH.o m b h W h1 h2 h3 h4 HO.o
   clear E IH;go_loopg [22] A.rq.length (fun k aJ wr=>∃j:Nat,aJ= .int .i64 j/\j+k=A.rq.length/\∃q:List Bool×List Nat,q=((D m).take j).foldl (fun s k=>dfs D f k s) (b.set m true,h)/\RunW w G g gx gb gr go gq q.1 q.2 wr/\g.ms.length<=f+zae q.1/\q.2.length<=zae q.1)
   case atStart=>exact⟨0,rfl,by omega,(b.set m true,h),rfl,H.o,aI,av⟩
   case round=>
    obtain⟨j,rfl,hj,q,ae,z,am,aw⟩:=hrel;have I:=zc z;have an:=zc ae;clear z ae H;have aR:=zgu q.1;have O:=I.o.bl.len;by_cases aq:j<A.rq.length
    ·have ah:(j:Int)<(A.rq.length:Int):=by omega
     obtain⟨s,hs⟩: ∃s,A.rq[j]? =some s:=⟨_,List.getElem?_eq_getElem aq⟩;obtain⟨b2,o2,e2,k2⟩:=(RS.o.later I.o.b).get hs;subst e2;have z0:=k2 0 _ rfl;simp only[Nat.add_zero,Nat.mul_one] at z0;have hk:=HL.o.2 m A.rq X.o s (List.mem_of_getElem? hs);rw[zcq] at hk;obtain⟨k,Y⟩: ∃k:Nat,zbi g.ls ((m:Int),s.toList)=(k:Int):=⟨_,(Int.toNat_of_nonneg hk.1).symm⟩;have ab:k<g.ms.length:=by omega
     have ao:Hid ((D m)[j]? =some k):=by show _=_;rw[U.o,List.getElem?_map,hs];simp[Y]
     have aA:=zc Y;obtain⟨j1,ad⟩: ∃j1,j1=j+1:=⟨_,rfl⟩;have ej:(j:Int)+1=(j1:Int):=by omega
     have al:=zc ad;have aG:=zc (zwd (f:=fun s k=>dfs D f k s) ao.o (b.set m true,h));clear hs k2 hk Y ad;have DP:=zc (zjX (S:=fun _=>True) aB.o (fun _ _ _ _=>trivial) f k q O ab am trivial);obtain⟨x0,x1,x2,xf⟩:=zq I.o.x;obtain⟨r0,rf⟩:=zd7 I.o.rc;go_upto_region 5 with fail;go_region_with (first|(go_at_call 67;refine (zmE base G g m s _ (HO.o.later I.o.b.drew) aD).mono ?_;rintro e w2 ⟨rfl,ag⟩;rw[aA.o];have J:=zc (I.o.later (((Below.refl _ _).drew).trans ag));clear ag;obtain⟨t0,t1,t2,tf⟩:=zq J.o.x;obtain⟨u0,uf⟩:=zd7 J.o.rc)|(go_at_call 68;refine (aC.o k q.1 q.2 _ J.o ab am aw).mono ?_;rintro e w3 ⟨rfl,aj⟩))
     all_goals (
      have ax:=zc aj;clear aj J I t0 t1 t2 tf u0 uf x0 x1 x2 xf r0 rf z0;go_wp2;go_roundg (gk-1)
      case rel=>
       refine⟨j1,rfl,by have:=al.o;omega,dfs D f k q,?_,ax.o,by have:=DP.o.le.cnt.1;omega,by have:=DP.o.cnt;omega⟩;rw[al.o,aG.o,<-an.o]
      case measure=>omega)
    ·have ah: ¬(j:Int)<(A.rq.length:Int):=by omega
     obtain rfl:j=A.rq.length:=by omega
     have aH:Hid (q=(D m).foldl (fun s k=>dfs D f k s) (b.set m true,h)):=by
      have:=an.o;rw[List.take_of_length_le (by rw[U.o,List.length_map];exact Nat.le_refl _)] at this;exact this
     obtain⟨r,V,N⟩:=I.o.oc;obtain⟨d0,df⟩:=zd7 V;obtain⟨i0,hi,ar,aF,ay⟩:=info_parts Tryz.infoIntO;have ac:=zc V;have af:=zc N;have ak:=fun o1=>N.alloc (o:=o1);have ap: ∀o1,w.heap.size<=(wr.alloc o1).heap.size:=fun o1=>by rw[zg];have:=I.o.b.size;omega
     clear V N;go_wp2_with (at_builtin;refine zba _ rfl _ _ 36 rfl w.heap.size 3 i0 _ 1 8 underlying36 hi ar aF ay rfl (by decide) (by decide) r q.2.length (zfd q.2) (by rfl) (ak _) wr.heap.size [.int .i64 (m:Int)] (by rfl) (by exact heap_alloc_new wr _) rfl (by simp[Value.oneCell']) (by omega) (ap _) ?_;intro r' wz hr Z aE;obtain⟨e0,ef⟩:=zd7 (zmH af.o (zaN wr _) Z ac.o (by decide));have HR:=zc hr;have au:=zc Z;clear hr Z aE d0 df);go_end0;have hp:=I.o.push ac.o af.o (zaN wr _) au.o (m:=m) (by have:=HR.o;unfold zfd at this ⊢;rw[List.map_append];exact this);refine⟨rfl,?_⟩;rw[<-HQ.o,HD.o,<-aH.o];exact hp
def ziF (g:Gr):List Nat:=(dfs (zbO (zC g) g.ls) g.ms.length 0 (List.replicate g.ms.length false,[])).2
def zwh (w:World) (out:List Nat) (e:Ending) (w':World):Prop:=∃r:Rw,e= .returned (.slice r.a out.length r.cap)/\OwnR w' w.heap.size 3 1 r out.length (zfd out)/\Below w.heap.size w w'
theorem zwi (base:Nat) (G:GS) (g:Gr) (w:World) (ho:GrOwn w base G g) (hl:zbN (zC g) g.ls) (af:1<=g.ms.length) (hn:g.ms.length<=8) (aa:g.ls.length<=1048576):
  Calls prog 37 #[grD G g] w fun e w'=>zwh w (ziF g) e w':=by
 have HO:=zc ho;have HL:=zc hl;clear ho hl;obtain⟨i0,hi,ab,ac,ad⟩:=info_parts Tryz.infoBl;unfold grD;go_enter func37,ntmps37;go_upto_region 2 with fail;obtain⟨q,J⟩: ∃q,q=w.heap.size:=⟨_,rfl⟩;rw[<-J];refine zy (R:=fun W=>(Bk W q (grC G g) 32/\Bk W (q+1) #[] 3/\Bk W (q+1+1) #[.slice (some ⟨q+1,0,none⟩) 0 0] 36)/\Below w.heap.size w W) ?_ ?_
 ·have O:=zaN w (.cells (grC G g) 32);have K:=zaN (w.alloc (.cells (grC G g) 32)) (.cells #[] 3);have a3:=zaN ((w.alloc (.cells (grC G g) 32)).alloc (.cells #[] 3)) (.cells #[.slice (some ⟨q+1,0,none⟩) 0 0] 36);have h0:Bk (w.alloc (.cells (grC G g) 32)) q (grC G g) 32:=by rw[J];exact heap_alloc_new w _
  have h1:Bk ((w.alloc (.cells (grC G g) 32)).alloc (.cells #[] 3)) (q+1) #[] 3:=by
   have:=heap_alloc_new (w.alloc (.cells (grC G g) 32)) (.cells #[] 3);rw[zg,<-J] at this;exact this
  refine⟨⟨(h0.later K).later a3,h1.later a3,?_⟩,zaq (zaq O K) a3⟩;have:=heap_alloc_new ((w.alloc (.cells (grC G g) 32)).alloc (.cells #[] 3)) (.cells #[.slice (some ⟨q+1,0,none⟩) 0 0] 36);rw[zg,zg,<-J] at this;exact this
 have ae:w.heap.size<=q:=by omega
 clear J;rintro W0 ⟨⟨hx,hy,hz⟩,hb⟩;have X:=zc hx;have Y:=zc hy;have Z:=zc hz;have HB:=zc hb;clear hx hy hz hb;obtain⟨c0,c1,c2,cf⟩:=zq X.o;go_upto_region 4 with (first|(at_make;refine wpList_make_full W0 rfl _ _ 58 rfl w.heap.size 4 i0 _ 1 underlying58 hi ab ac .i64 .i64 _ _ g.ms.length (by rfl) (by rfl) rfl rfl (by rw[ad];omega) (by unfold maxLen;omega) HB.o.size ?_;intro L A M))
 have E:Below W0.heap.size W0 L:=(Below.refl _ _).grown M (Nat.le_refl _) (fun k h=>by cases h);obtain⟨H,U⟩: ∃H,H=W0.heap.size:=⟨_,rfl⟩;obtain⟨z,D⟩: ∃z,z=L.heap.size:=⟨_,rfl⟩;rw[<-U,<-D];have I:OwnBl L w.heap.size H g.ms.length (List.replicate g.ms.length false):=by
  rw[show madeCells (Value.bool false).cells (g.ms.length*1)=madeCells #[.bool false] g.ms.length by rw[Nat.mul_one];rfl,toList_madeCells_one] at A;unfold OwnBl OwnR;rw[U,List.map_replicate];exact A
 have O:=zaN L (.cells #[.slice (some ⟨H,0,none⟩) g.ms.length g.ms.length] 58);have K:=zaN (L.alloc (.cells #[.slice (some ⟨H,0,none⟩) g.ms.length g.ms.length] 58)) (.cells #[.nilFunc] 106);refine zy (R:=fun W=>(Bk W q (grC G g) 32/\Bk W (q+1) #[] 3/\Bk W (q+1+1) #[.slice (some ⟨q+1,0,none⟩) 0 0] 36/\Bk W z #[.slice (some ⟨H,0,none⟩) g.ms.length g.ms.length] 58/\Bk W (z+1) #[.nilFunc] 106)/\OwnBl W w.heap.size H g.ms.length (List.replicate g.ms.length false)/\w.heap.size<=z/\Below w.heap.size w W) ?_ ?_
 ·have h4:Bk (L.alloc (.cells #[.slice (some ⟨H,0,none⟩) g.ms.length g.ms.length] 58)) z #[.slice (some ⟨H,0,none⟩) g.ms.length g.ms.length] 58:=by rw[D];exact heap_alloc_new L _
  refine⟨⟨((X.o.later E).later O).later K,((Y.o.later E).later O).later K,((Z.o.later E).later O).later K,h4.later K,?_⟩,(I.later O).later K,by have h1:=HB.o.size;have h2:=E.size;omega,zaq (zaq (zaq HB.o E) O) K⟩;have:=heap_alloc_new (L.alloc (.cells #[.slice (some ⟨H,0,none⟩) g.ms.length g.ms.length] 58)) (.cells #[.nilFunc] 106);rw[zg,<-D] at this;exact this
 clear U D I O K E A M X Y Z HB c0 c1 c2 cf;rintro W1 ⟨⟨hx,hy,hz,hv,N⟩,I,D,hb⟩;have RW:Hid (RunW w G g q z (z+1) (q+1+1) H (List.replicate g.ms.length false) [] (W1.setCell ⟨z+1,0,none⟩ (ziE z q (z+1) (q+1+1)))):=by
  refine⟨hx.set N (by decide),hv.set N (by decide),I.aside N (by decide),zab (i:=0) N,⟨⟨some ⟨q+1,0,none⟩,0⟩,hz.set N (by decide),?_⟩,by omega,hb.setCell (by show _<=z+1;omega) _⟩;exact⟨rfl,.inr ⟨q+1,0,#[],rfl,by omega,hy.set N (by decide),Nat.le_refl _,Nat.zero_le _,rfl,rfl⟩⟩
 obtain⟨u0,uf⟩:=zd7 N;clear hx hy hz hv N I D hb;go_upto_region 5 with fail;obtain⟨W2,V⟩: ∃W2,W2=W1.setCell ⟨z+1,0,none⟩ (ziE z q (z+1) (q+1+1)):=⟨_,rfl⟩;rw[<-V] at RW ⊢;clear V u0 uf;obtain⟨r0,rf⟩:=zd7 RW.o.rc;have ag:zae (List.replicate g.ms.length false)=0:=by unfold zae;rw[List.count_replicate];rfl
 go_wp2_with fail;refine (zwg w base G g q z (z+1) (q+1+1) H HL.o hn aa g.ms.length 0 _ [] _ RW.o (by omega) (by omega) (Nat.zero_le _) HO.o).mono ?_;rintro e W3 ⟨rfl,hw⟩;have R3:=zc hw;clear hw RW r0 rf;obtain⟨r,h1,h2⟩:=R3.o.oc;obtain⟨z0,zf⟩:=zd7 h1;have H2:=zc h2;clear h1 h2;go_wp2;go_ret;exact⟨r,rfl,H2.o,R3.o.b⟩
theorem zwj (M:zf9 65) (L:zfA 66) (base:Nat) (G:GS) (g:Gr) (w:World) (ho:GrOwn w base G g) (hg:GdG g):
  Calls prog 10 #[grD G g] w fun e w'=>SameOut (GrI g) e/\Below w.heap.size w w':=by
 have H:=zc ho;have Z:=zc hg;have CM:=zc M;have CE:=zc L;have al:=hg.pl;have ak:=hg.ml;have ai:=hg.ll;clear ho hg M L;unfold grD;go_enter func10,ntmps10;go_upto_region 1 with fail;obtain⟨gx,U⟩: ∃gx,gx=w.heap.size:=⟨_,rfl⟩;rw[<-U];refine zy (R:=fun W=>Bk W gx (grC G g) 32/\Below w.heap.size w W) ⟨by rw[U];exact heap_alloc_new w _,zaN w _⟩ ?_;clear U;rintro E ⟨hx,z⟩;have X:=zc hx;have A:=zc z;obtain⟨c0,c1,c2,cf⟩:=zq hx;clear hx z;by_cases h1:(g.ms.length:Int)<1
 ·have V:Hid (¬GrI g):=fun k=>by have:=k.1;omega
  go_wp2;go_ret;exact⟨zbw V.o rfl,A.o⟩
 by_cases h2:(g.ms.length:Int)<=8
 case neg=>
  have V:Hid (¬GrI g):=fun k=>by have:=k.1;omega
  go_wp2;go_ret;exact⟨zbw V.o rfl,A.o⟩
 by_cases h3:(g.ps.length:Int)=(g.ms.length:Int)
 case neg=>
  have V:Hid (¬GrI g):=fun k=>by have:=k.2.1;omega
  have h4:((g.ps.length:Int) !=(g.ms.length:Int))=true:=bne_iff_ne.2 h3;go_wp2;go_ret;exact⟨zbw V.o rfl,A.o⟩
 go_upto_region 3 with fail;have hp:g.ps.length=g.ms.length:=by omega
 have HP:=zc hp;have aa:1<=g.ms.length:=by omega
 have ac:g.ms.length<=8:=by omega
 clear h1 h2 h3 c0 c1 c2 cf;obtain⟨Y0,Y1,Y2,_⟩:=zq X.o;have Z0:=zc Y0;have Z1:=zc Y1;have Z2:=zc Y2;clear Y0 Y1 Y2 hp;have cA: ∀(b:Bool),(b=true↔∀i,i<g.ps.length->zbZ g.ps i)->∀d D,Calls prog 34 #[.slice G.pr.a g.ps.length G.pr.cap] (grow (redrawn E d) D) fun e I=>e= .returned (.bool b)/\∃q:Regrown,I=grow (redrawn E q.d) q.os:=fun b z d D=>Calls.regrown_of ((zmC base G.pr.a G.pr.cap g.ps _ ((H.o.later A.o).later (below_regrown E d D)).ps (by have:=HP.o;omega) Z.o.ps).mono fun e w' h=>⟨h.1.of z,h.2⟩);have cB: ∀(b:Bool),(b=true↔zcQ g.ms)->∀d D,Calls prog 35 #[.slice G.mr.a g.ms.length G.mr.cap] (grow (redrawn E d) D) fun e I=>e= .returned (.bool b)/\∃q:Regrown,I=grow (redrawn E q.d) q.os:=fun b z d D=>Calls.regrown_of ((zmD CM.o CE.o base G.mr.a G.mr.cap G.sv g.ms _ H.o.len ((H.o.later A.o).later (below_regrown E d D)).ms ((H.o.later A.o).later (below_regrown E d D)).md Z.o.ms (by omega)).mono fun e w' h=>⟨h.1.of z,h.2⟩);have cC: ∀(b:Bool),(b=true↔zbN (zC g) g.ls)->∀d D,Calls prog 36 #[grD G g] (grow (redrawn E d) D) fun e I=>e= .returned (.bool b)/\∃q:Regrown,I=grow (redrawn E q.d) q.os:=fun b z d D=>Calls.regrown_of ((zmG base G g _ ((H.o.later A.o).later (below_regrown E d D)) Z.o).mono fun e w' h=>⟨h.1.of z,h.2⟩);unfold grD at cC;have af:(¬(∀i,i<g.ps.length->zbZ g.ps i))∨((∀i,i<g.ps.length->zbZ g.ps i)/\(¬zcQ g.ms∨(zcQ g.ms/\(¬zbN (zC g) g.ls∨zbN (zC g) g.ls)))):=by
  by_cases J: ∀i,i<g.ps.length->zbZ g.ps i
  ·by_cases K:zcQ g.ms
   ·exact .inr ⟨J,.inr ⟨K,(Classical.em _).symm⟩⟩
   ·exact .inr ⟨J,.inl K⟩
  ·exact .inl J
 rcases af with J|⟨J,K|⟨K,k3|k3⟩⟩
 case inr.inr.inr=>
  clear cA cB cC;have ab:=zc J;have ad:=zc K;have Y:=zc k3;clear J K k3;obtain⟨z0,z1,z2,zf⟩:=zq X.o;go_region_with (first|(go_at_call 34;refine (zmC base G.pr.a G.pr.cap g.ps _ (H.o.later A.o.drew).ps (by have:=HP.o;omega) Z.o.ps).mono ?_;rintro e w1 ⟨O,z⟩;obtain rfl:=O.of (b:=true) (iff_of_true rfl ab.o);have B1:Hid (Below E.heap.size E w1):=(((Below.refl _ _).drew).trans z);clear O z;obtain⟨p0,p1,p2,pf⟩:=zq (X.o.later B1.o))|(go_at_call 35;refine (zmD CM.o CE.o base G.mr.a G.mr.cap G.sv g.ms _ H.o.len ((H.o.later A.o).later B1.o).ms ((H.o.later A.o).later B1.o).md Z.o.ms (by omega)).mono ?_;rintro e w2 ⟨O,z⟩;obtain rfl:=O.of (b:=true) (iff_of_true rfl ad.o);have B2:=zc (zaq B1.o z);clear O z;obtain⟨q0,q1,q2,qf⟩:=zq (X.o.later B2.o))|(go_at_call 36;refine (zmG base G g _ ((H.o.later A.o).later B2.o) Z.o).mono ?_;rintro e w3 ⟨O,z⟩;obtain rfl:=O.of (b:=true) (iff_of_true rfl Y.o);have B3:=zc (zaq B2.o z);clear O z;obtain⟨r0,r1,r2,rf⟩:=zq (X.o.later B3.o))|(go_at_call 37;refine (zwi base G g _ ((H.o.later A.o).later B3.o) Y.o aa ac ai).mono ?_;rintro e w4 ⟨r,rfl,aj,z⟩;have B4:=zc (zaq B3.o z);clear aj z;obtain⟨s0,s1,s2,sf⟩:=zq (X.o.later B4.o)))
  all_goals (
   have ah:=zc (zaq A.o B4.o);clear B1 B2 B3 B4 p0 p1 p2 pf q0 q1 q2 qf r0 r1 r2 rf s0 s1 s2 sf;go_wp2;go_ret;refine⟨⟨_,rfl,?_⟩,ah.o⟩;rw[beq_iff_eq];refine⟨fun h=>⟨⟨aa,ac⟩,HP.o,ab.o,ad.o,Y.o,(Int.ofNat.inj h:(ziF g).length=g.ms.length)⟩,fun k=>?_⟩
   rw[show (ziF g).length=g.ms.length from k.2.2.2.2.2])
 all_goals (
  have V:Hid (¬GrI g):=fun k=>by first|exact J k.2.2.1|exact K k.2.2.2.1|exact k3 k.2.2.2.2.1
  have z0:=cell_regrown Z0.o;have z1:=cell_regrown Z1.o;have z2:=cell_regrown Z2.o;refine wp_region_quiet_below (by kernel_rfl) (by kernel_rfl) ?_
  repeat (go_big_quiet_step (first|with_reducible exact cA true (iff_of_true rfl J) _ _|with_reducible exact cA false (by simp only[Bool.false_eq_true,false_iff];exact J) _ _|with_reducible exact cB true (iff_of_true rfl K) _ _|with_reducible exact cB false (by simp only[Bool.false_eq_true,false_iff];exact K) _ _|with_reducible exact cC false (by simp only[Bool.false_eq_true,false_iff];exact k3) _ _))
  refine wpQuiet_nil ?_;intro w2 ae;obtain⟨q,N⟩:=ae;have ag:=zc (zaq A.o (zdK N));clear N z0 z1 z2;go_wp2;go_ret
  exact⟨zbw V.o rfl,ag.o⟩)
theorem zwk (X b2:Nat) (V U:Sv) (m:Md) (w:World) (h1:OwnMd w X V m) (h2:OwnMd w b2 U m) (hf:zdC m):
  Calls prog 69 #[zl V m,zl U m] w fun e w'=>e= .returned (.bool true)/\Below w.heap.size w w':=by
 have H1:=zc h1;have H2:=zc h2;have Z:=zc hf;clear h1 h2 hf;unfold zl;go_enter func69,ntmps69;go_upto_region 1 with fail;refine zy (R:=TwoM w X b2 V U m m) (zh2 w X b2 V U m m H1.o H2.o) ?_;clear H1 H2;intro w0 h;have T0:=zc h;clear h;obtain⟨O,H,J,M,I,L⟩:=zj T0.o.1;obtain⟨K,E,z,D,N,A⟩:=zj T0.o.2.1;go_wp2_with fail;refine (zkk X b2 V.rq U.rq m.rq w0 (by rw[<-zeF];exact T0.o.2.2.1.rq) (by rw[<-zeF];exact T0.o.2.2.2.1.rq) Z.o.1).mono ?_;rintro e w1 ⟨rfl,q⟩;have Y:=zc (T0.o.later q);clear q O H J M I L K E z D N A;obtain⟨O,H,J,M,I,L⟩:=zj Y.o.1;obtain⟨K,E,z,D,N,A⟩:=zj Y.o.2.1;go_wp2_with fail;refine (zpI X b2 V.im U.im m.im w1 Y.o.2.2.1.im Y.o.2.2.2.1.im Z.o.2.1).mono ?_;rintro e w2 ⟨rfl,q⟩;have T2:=zc (Y.o.later q);clear q O H J M I L K E z D N A;obtain⟨O,H,J,M,I,L⟩:=zj T2.o.1;obtain⟨K,E,z,D,N,A⟩:=zj T2.o.2.1;go_wp2_with fail;refine (zpM X b2 V.ep U.ep m.ep w2 T2.o.2.2.1.ep T2.o.2.2.2.1.ep Z.o.2.2.1).mono ?_;rintro e w3 ⟨rfl,q⟩;have T3:=zc (T2.o.later q);clear q O H J M I L K E z D N A;obtain⟨O,H,J,M,I,L⟩:=zj T3.o.1;obtain⟨K,E,z,D,N,A⟩:=zj T3.o.2.1;go_wp2_with fail;refine (zpQ X b2 V.st U.st m.st w3 T3.o.2.2.1.st T3.o.2.2.2.1.st Z.o.2.2.2.1).mono ?_;rintro e w4 ⟨rfl,q⟩;have T4:=zc (T3.o.later q);clear q O H J M I L K E z D N A;obtain⟨O,H,J,M,I,L⟩:=zj T4.o.1;obtain⟨K,E,z,D,N,A⟩:=zj T4.o.2.1;go_wp2_with fail;refine (zpU X b2 V.ex U.ex m.ex w4 T4.o.2.2.1.ex T4.o.2.2.2.1.ex Z.o.2.2.2.2).mono ?_;rintro e w5 ⟨rfl,q⟩;have T5:=zc (T4.o.later q);clear q O H J M I L K E z D N A;obtain⟨O,H,J,M,I,L⟩:=zj T5.o.1;obtain⟨K,E,z,D,N,A⟩:=zj T5.o.2.1;go_wp2;go_ret;exact⟨rfl,T5.o.2.2.2.2⟩
theorem zwl (z A:Option Addr) (D h:Nat) (w:World):Calls prog 39 #[.slice z 0 D,.slice A 0 h] w fun e q=>e= .returned (.bool true)/\Below w.heap.size w q:=by
 go_enter func39,ntmps39;go_wp2;go_loopg [5] 1 (fun k i wr=>k=1/\i= .int .i64 0/\wr=w)
 case atStart=>exact⟨rfl,rfl,rfl⟩
 case round=>
  obtain⟨rfl,rfl,rfl⟩:=hrel;go_wp2;go_ret;exact⟨rfl,Below.refl _ _⟩
theorem zwm (M b2 g1 Y:Nat) (N r2:Rw) (U V:List Sv) (l:List Md) (w:World) (hu:U.length=l.length) (hv:V.length=l.length) (q:OwnR w M 54 5 N l.length ((U.zip l).flatMap mdL)) (h:OwnR w b2 54 5 r2 l.length ((V.zip l).flatMap mdL)) (m1: ∀x∈U.zip l,OwnMd w M x.1 x.2) (m2: ∀x∈V.zip l,OwnMd w b2 x.1 x.2) (e1:N.a=some ⟨g1,0,none⟩) (e2:r2.a=some ⟨Y,0,none⟩) (hl:l.length<=4294967296) (hf: ∀m∈l,zdC m):
  Calls prog 39 #[.slice (some ⟨g1,0,none⟩) l.length N.cap,.slice (some ⟨Y,0,none⟩) l.length r2.cap] w fun e w'=>e= .returned (.bool true)/\Below w.heap.size w w':=by
 have H1:=zc (zeI hu q);have H2:=zc (zeI hv h);have M1:=zc m1;have M2:=zc m2;have E1:=zc e1;have E2:=zc e2;have HU:=zc hu;have HV:=zc hv;have HF:=zc hf;clear q h e1 e2 m1 m2 hu hv hf;go_enter func39,ntmps39;go_wp2;go_loopg [5] l.length (fun k i wr=>∃j:Nat,i= .int .i64 j/\j+k=l.length/\Below w.heap.size w wr)
 case atStart=>exact⟨0,rfl,by omega,Below.refl _ _⟩
 case round=>
  obtain⟨j,rfl,hj,hb⟩:=hrel;have A:=zc hb;clear hb;by_cases L:j<l.length
  ·have E:(j:Int)<(l.length:Int):=by omega
   obtain⟨x,J⟩:=zel L;obtain⟨s,hs⟩:=zdJ HU.o J;obtain⟨t,O⟩:=zdJ HV.o J;obtain⟨Z,ga,q⟩:=OwnR.elem (f:=mdL) (m:=5) (fun _=>rfl) (H1.o.later A.o) hs;obtain rfl:Z=g1:=by have:=ga.symm.trans E1.o;simpa using this
   obtain⟨Z,gb,h⟩:=OwnR.elem (f:=mdL) (m:=5) (fun _=>rfl) (H2.o.later A.o) O;obtain rfl:Z=Y:=by have:=gb.symm.trans E2.o;simpa using this
   have cQ: ∀d I,Calls prog 69 #[zl s x,zl t x] (grow (redrawn wr d) I) fun e ab=>e= .returned (.bool true)/\∃p:Regrown,ab=grow (redrawn wr p.d) p.os:=fun d I=>Calls.regrown_of (zwk M b2 s t x _ (((M1.o _ (List.mem_of_getElem? hs)).later A.o).later (below_regrown wr d I)) (((M2.o _ (List.mem_of_getElem? O)).later A.o).later (below_regrown wr d I)) (HF.o x (List.mem_of_getElem? J)));unfold zl at cQ;have C0:=zc (q 0 (by omega));have D0:=zc (h 0 (by omega));have C1:=zc (q 1 (by omega));have D1:=zc (h 1 (by omega));have C2:=zc (q 2 (by omega));have D2:=zc (h 2 (by omega));have C3:=zc (q 3 (by omega));have D3:=zc (h 3 (by omega));have C4:=zc (q 4 (by omega));have D4:=zc (h 4 (by omega));clear q h ga gb J hs O;obtain⟨H,D⟩: ∃H,H=j+1:=⟨_,rfl⟩;have ej:(j:Int)+1=(H:Int):=by omega
   have HJ:=zc D;clear D;go_wp2;have k0:=cell_regrown C0.o;have l0:=cell_regrown D0.o;have k1:=cell_regrown C1.o;have l1:=cell_regrown D1.o;have k2:=cell_regrown C2.o;have l2:=cell_regrown D2.o;have k3:=cell_regrown C3.o;have l3:=cell_regrown D3.o;have k4:=cell_regrown C4.o;have l4:=cell_regrown D4.o;simp only[Nat.add_zero] at k0 l0;refine wp_region_quiet_below (by kernel_rfl) (by kernel_rfl) ?_
   repeat (go_big_quiet_step (exact cQ _ _))
   refine wpQuiet_nil ?_;intro w2 K;obtain⟨⟨dq,X⟩,z⟩:=K;have aa:Hid (Below w.heap.size w w2):=by show Below _ _ _;rw[z];exact A.o.trans ((below_regrown wr dq X).mono A.o.size)
   clear z k0 l0 C0 D0 k1 l1 C1 D1 k2 l2 C2 D2 k3 l3 C3 D3 k4 l4 C4 D4 cQ;go_wp2;go_roundg (gk-1)
   case rel=>exact⟨H,rfl,by have:=HJ.o;omega,aa.o⟩
   case measure=>omega
  ·have E: ¬(j:Int)<(l.length:Int):=by omega
   go_wp2;go_ret;exact⟨rfl,A.o⟩
def ziG (g:Gr):Prop:=g.ps.length<=4294967296/\g.ms.length<=4294967296/\g.ls.length<=4294967296/\∀m∈g.ms,zdC m
theorem zwn (H b2:Nat) (h q:GS) (g:Gr) (w:World) (A:GrOwn w H h g) (z:GrOwn w b2 q g) (E:ziG g):
  Calls prog 39 #[.slice h.mr.a g.ms.length h.mr.cap,.slice q.mr.a g.ms.length q.mr.cap] w fun e M=>e= .returned (.bool true)/\Below w.heap.size w M:=by
 by_cases D:g.ms.length=0
 ·rw[D];exact zwl _ _ _ _ w
 ·rcases A.ms.nil_or with ⟨_,_,e⟩|⟨L,I⟩
  ·exact absurd e D
  ·rcases z.ms.nil_or with ⟨_,_,e⟩|⟨K,J⟩
   ·exact absurd e D
   ·rw[I,J];exact zwm H b2 L K h.mr q.mr h.sv q.sv g.ms w A.len z.len A.ms z.ms A.md z.md I J E.2.1 E.2.2.2
structure TwoG (w0:World) (b1 b2:Nat) (G1 G2:GS) (g:Gr) (w:World):Prop where
 x:Bk w w0.heap.size (grC G1 g) 32
 y:Bk w (w0.heap.size+1) (grC G2 g) 32
 o1:GrOwn w b1 G1 g
 o2:GrOwn w b2 G2 g
 b:Below w0.heap.size w0 w
theorem TwoG.later {w0 w A:World} {z b2:Nat} {D E:GS} {g:Gr} (h:TwoG w0 z b2 D E g w) (q:Below w.heap.size w A):TwoG w0 z b2 D E g A:=⟨h.x.later q,h.y.later q,h.o1.later q,h.o2.later q,zaq h.b q⟩
theorem zwo (w:World) (D b2:Nat) (h q:GS) (g:Gr) (H:GrOwn w D h g) (E:GrOwn w b2 q g):TwoG w D b2 h q g ((w.alloc (.cells (grC h g) 32)).alloc (.cells (grC q g) 32)):=by
 have A:=zaN w (.cells (grC h g) 32);have z:=zaN (w.alloc (.cells (grC h g) 32)) (.cells (grC q g) 32);refine⟨Bk.later (heap_alloc_new w _) z,?_,(H.later A).later z,(E.later A).later z,zaq A z⟩;have:=heap_alloc_new (w.alloc (.cells (grC h g) 32)) (.cells (grC q g) 32);rw[zg] at this;exact this
theorem zwp (D b2:Nat) (A z:GS) (g:Gr) (w:World) (Z:GrOwn w D A g) (Y:GrOwn w b2 z g) (hf:ziG g):
  Calls prog 11 #[grD A g,grD z g] w fun e w'=>e= .returned (.bool true)/\Below w.heap.size w w':=by
 have H1:=zc Z;have H2:=zc Y;have X:=zc hf;clear Z Y hf;unfold grD;go_enter func11,ntmps11;go_upto_region 1 with fail;refine zy (R:=TwoG w D b2 A z g) (zwo w D b2 A z g H1.o H2.o) ?_;clear H1 H2;intro w0 h;have H:=zc h;clear h;obtain⟨V,M,N,U⟩:=zq H.o.x;obtain⟨O,L,K,J⟩:=zq H.o.y;go_wp2_with fail;refine (zkk D b2 A.pr z.pr g.ps w0 H.o.o1.ps H.o.o2.ps X.o.1).mono ?_;rintro e w1 ⟨rfl,q⟩;have E:=zc (H.o.later q);clear q V M N U O L K J H;obtain⟨V,M,N,U⟩:=zq E.o.x;obtain⟨O,L,K,J⟩:=zq E.o.y;go_wp2_with fail;refine (zwn D b2 A z g w1 E.o.o1 E.o.o2 X.o).mono ?_;rintro e w2 ⟨rfl,q⟩;have I:=zc (E.o.later q);clear q V M N U O L K J E;obtain⟨V,M,N,U⟩:=zq I.o.x;obtain⟨O,L,K,J⟩:=zq I.o.y;go_wp2_with fail;refine (zqi D b2 A.lr z.lr g.ls w2 I.o.o1.ls I.o.o2.ls X.o.2.2.1).mono ?_;rintro e w3 ⟨rfl,q⟩;have T3:=zc (I.o.later q);clear q V M N U O L K J I;go_wp2;go_ret;exact⟨rfl,T3.o.b⟩
open Go.Deep
theorem zwq {H:Type} {enc:TypeId×Value->H} {w:World} {base:Nat} {q:Nat->Bool} {D:Bool} {K:Nat} {I:List Value} {z:DataW H×List MemPlace} (h:DataW.trod enc prog w base q D K 26 I=some z):
  ∃(A:GA) (g:Gr),I=(grA A g).cells.toList/\GrIn w A g/\BigG A g/\∀x∈A.ms,zaU x.2.ex:=by
 obtain⟨xs,k,_,_,E,O,V⟩:=DataW.trod_struct underlying26 h;have cM:prog.cellsOf 26=3:=by kernel_rfl
 rw[cM] at E;have k0:prog.cellsOf 22=1:=by kernel_rfl
 have k1:prog.cellsOf 23=1:=by kernel_rfl
 have k2:prog.cellsOf 24=1:=by kernel_rfl
 obtain⟨N,L,M,rfl⟩:=list3 E;obtain⟨y0,Y,y2,rfl⟩:=list3 (O.trans rfl);have g0:DataW.trod enc prog w base q D k 22 (List.take (prog.cellsOf 22) (List.drop 0 [N,L,M]))=some y0:=V 0 _ rfl;rw[k0] at g0;have g1:DataW.trod enc prog w base q D k 23 (List.take (prog.cellsOf 23) (List.drop 1 [N,L,M]))=some Y:=V 1 _ rfl;rw[k1] at g1;have Z:DataW.trod enc prog w base q D k 24 (List.take (prog.cellsOf 24) (List.drop 2 [N,L,M]))=some y2:=V 2 _ rfl;rw[k2] at Z;obtain⟨a0,c0,l0,e0,b0,r0,q0⟩:=zdG sNone (α:=BA) (f:=(fun x=>[Value.string x])) (m:=1) (Q:=zdI) (by omega) (fun _=>rfl) underlying22 (by kernel_rfl) (fun n I y h E=>zko h E) (show DataW.trod enc prog w base q D k 22 [N]=some y0 from g0);subst e0
 obtain⟨a1,c1,X,e1,b1,r1,U⟩:=zdG (⟨none,none,none,none,none,0,0,0,0,0⟩,⟨[],[],[],[],[]⟩) (α:=MA×Md) (f:=maL) (m:=5) (Q:=fun x=>ModIn w x.1 x.2/\zf4 x.2/\zaU x.2.ex) (by omega) (fun _=>rfl) underlying23 (by kernel_rfl) (fun n I y h _=>by
  obtain⟨A,m,e,hm⟩:=zqa h
  exact⟨(A,m),e,hm⟩) (show DataW.trod enc prog w base q D k 23 [L]=some Y from g1)
 subst e1;obtain⟨a2,c2,l2,e2,b2,r2,q2⟩:=zdG ⟨0,sNone,0⟩ (α:=Lk) (f:=lkL) (m:=3) (Q:=zen) (by omega) (fun _=>rfl) underlying24 (by kernel_rfl) (fun n I y h E=>zqj h E) (show DataW.trod enc prog w base q D k 24 [M]=some y2 from Z);subst e2;unfold maxLen at b0 b1 b2;exact⟨⟨a0,c0,a1,c1,a2,c2,X⟩,⟨l0,X.map (·.2),l2⟩,rfl,⟨r0,r1,fun x J=>(U x J).1,r2,rfl⟩,⟨by show l0.length<=_;omega,q0,by show X.length<=_;omega,fun x J=>(U x J).2.1,by show l2.length<=_;omega,q2⟩,fun x J=>(U x J).2.2⟩
end Go.Proofs.YtgcbmogmniahjaaGreat
