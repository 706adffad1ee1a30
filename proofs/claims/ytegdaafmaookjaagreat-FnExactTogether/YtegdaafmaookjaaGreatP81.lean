/- Facts. -/
import Derived.Laws.EntriesVeiled
import Derived.Test.YtegdaafmaookjaaGreatP79
import Derived.Test.YtegdaafmaookjaaGreatP75
namespace Go.Proofs.YtegdaafmaookjaaGreat
open Go.Proofs.Tryz
set_option maxRecDepth 100000
set_option maxHeartbeats 12800000
open Go.RowKit Go.PlainAid Go.Sort
abbrev zjS (gb gx gr go:Nat):Value:=.func (.func 81) #[] #[.pointer (some ⟨gb,0,none⟩),.pointer (some ⟨gx,0,none⟩),.pointer (some ⟨gr,0,none⟩),.pointer (some ⟨go,0,none⟩)]
def zcC (l:List Nat):List Value:=l.map fun k:Nat=>Value.int .i64 (k:Int)
structure RunW (w:World) (G:GS) (g:Gr) (gx gb gr go gq:Nat) (b:List Bool) (out:List Nat) (W:World):Prop where
 x:Bk W gx (grC G g) 32
 bc:Bk W gb #[.slice (some ⟨gq,0,none⟩) g.ms.length g.ms.length] 63
 bl:OwnBl W w.heap.size gq g.ms.length b
 rc:Bk W gr #[zjS gb gx gr go] 112
 oc: ∃r:Rw,Bk W go #[.slice r.a out.length r.cap] 36/\OwnR W w.heap.size 3 1 r out.length (zcC out)
 ge:w.heap.size<=go
 b:Bw w W
variable {w:World} {g b c:Nat} {W:Array Value} {C:TypeId} {S:Value} {q:GS} {z:Gr} {s:List Nat} {n:Rw}
theorem Bk.ne {A:Array Value} {t:TypeId} (h:Bk w g W C) (k:w.heap[b]? =some (.cells A t (0,0))) (I:C≠t):g≠b:=by
 rintro rfl;have q:some (Obj.cells W C (0,0))=some (.cells A t (0,0)):=h.symm.trans k;simp only[sI0,Obj.cells.injEq] at q;exact I q.2.1
theorem Bk.set {i:Nat} {A:Array Value} {t:TypeId} (h:Bk w g W C) (k:w.heap[b]? =some (.cells A t (0,0))) (H:C≠t):Bk (w.setCell ⟨b,i,none⟩ S) g W C:=(heap_setCell_other w ⟨b,i,none⟩ g S (h.ne k H)).trans h
theorem RunW.later {W M:World} {L K J I:Nat} {b:List Bool} (h:RunW w q z L K c J I b s W) (k:Bw W M):RunW w q z L K c J I b s M:=by
 obtain⟨r,O,N⟩:=h.oc;exact⟨h.x.later k,h.bc.later k,h.bl.later k,h.rc.later k,⟨r,O.later k,N.later k⟩,h.ge,zi h.b k⟩
theorem RunW.mark {W:World} {L J H:Nat} {p:List Bool} (h:RunW w q z L b c J H p s W) (m:Nat):RunW w q z L b c J H (p.set m true) s (W.setCell ⟨H,m,none⟩ (.bool true)):=by
 obtain⟨M,k⟩:=h.bl.block;obtain⟨r,O,N⟩:=h.oc;exact⟨h.x.set k (by decide),h.bc.set k (by decide),h.bl.set m true,h.rc.set k (by decide),⟨r,O.set k (by decide),N.aside k (by decide)⟩,h.ge,h.b.setCell h.bl.at.1 _⟩
theorem OwnBl.aside {k i:Nat} {m:List Bool} (h:OwnBl w g k b m) (A:w.heap[c]? =some (.cells W C (0,0))) (q:4≠C):OwnBl (w.setCell ⟨c,i,none⟩ S) g k b m:=OwnR.aside h A q
theorem zjT {I J:World} {r:Rw} {xs:List Value} {A:Array Value} (L:OwnR w g 3 1 r b xs) (H:Bw w I) (N:I.grownBy J r.blk) (q:w.heap[c]? =some (.cells A C (0,0))) (M:3≠C):J.heap[c]? =some (.cells A C (0,0)):=by
 have h:=(aLt q)
 rw[N.block c (Nat.lt_of_lt_of_le h H.size) (fun e=>by
  obtain⟨_,_,K,k⟩:=L.typed e.symm;rw[q] at k;simp only[sI0,Obj.cells.injEq] at k
  exact M k.2.1.symm),H.block c h]
 exact q
theorem RunW.push {W W1 J:World} {gx K O m:Nat} {B:List Bool} {p:List Nat} {H:Rw} (h:RunW w q z gx b c K O B p W) (h1:Bk W K #[.slice n.a p.length n.cap] 36) (U:OwnR W w.heap.size 3 1 n p.length (zcC p)) (N:Bw W W1) (X:W1.grownBy J n.blk) (ho:OwnR J w.heap.size 3 1 H (p.length+1) (zcC (p++[m]))):
  RunW w q z gx b c K O B (p++[m]) (J.setCell ⟨K,0,none⟩ (.slice H.a (p.length+1) H.cap)):=by
 have I: ∀{a:Nat} {Z:Array Value} {t:TypeId},W.heap[a]? =some (.cells Z t (0,0))->3≠t->J.heap[a]? =some (.cells Z t (0,0)):=fun ha ht=>zjT U N X ha ht;have A:=I h1 (by decide);obtain⟨aa,Y⟩:=h.bl.block;have M:OwnBl J w.heap.size O z.ms.length B:=OwnR.keep h.bl fun k e=>by
  cases e;rw[I Y (by decide),Y]
 have L: ∀k,n.blk=some k->w.heap.size<=k:=fun k e=>(U.typed e).1;refine⟨Bk.set (I h.x (by decide)) A (by decide),Bk.set (I h.bc (by decide)) A (by decide),M.aside A (by decide),Bk.set (I h.rc (by decide)) A (by decide),⟨H,?_,?_⟩,h.ge,?_⟩
 ·rw[List.length_append];exact zaj (i:=0) (u:=.slice H.a (p.length+1) H.cap) A
 ·rw[List.length_append];exact ho.aside A (by decide)
 ·exact ((zi h.b N).grown X (Nat.le_trans h.b.size N.size) L).setCell h.ge _
theorem Tryz.infoIntO:(prog.info? 3).map (fun i=>(i.zero,i.size,i.bytes))=some (some (.int .i64 0),1,8):=by kernel_rfl
theorem zor {α β:Type} {f:β->α->β} {l:List α} {x:α} (h:l[g]? =some x) (s:β):(l.take (g+1)).foldl f s=f ((l.take g).foldl f s) x:=by
 obtain⟨q,rfl⟩:=gS h;rw[tG q,List.foldl_append];rfl
def zyy (w:World) (base:Nat) (G:GS) (g:Gr) (gx gb gr go gq f:Nat):Prop:=∀(m:Nat) (b:List Bool) (out:List Nat) (W:World),RunW w G g gx gb gr go gq b out W->m<g.ms.length->g.ms.length<=f+zF b->out.length<=zF b->GrOwn w base G g->Calls prog 81 #[.int .i64 (m:Int),.pointer (some ⟨gb,0,none⟩),.pointer (some ⟨gx,0,none⟩),.pointer (some ⟨gr,0,none⟩),.pointer (some ⟨go,0,none⟩)] W fun e W'=>e= .returned (.tuple #[])/\RunW w G g gx gb gr go gq (dfs (zaQ (zw g) g.ls) f m (b,out)).1 (dfs (zaQ (zw g) g.ls) f m (b,out)).2 W'
theorem zeg (h:Bk w g #[S] C):w.cell? ⟨g,0,none⟩=some S/\∀i,w.frozen? ⟨g,i,none⟩=false:=by
 refine⟨?_,fun i=>?_⟩<;>simp[World.cell?,World.frozen?,h]
theorem zos {b:List Bool} {m:Nat} (h:m<b.length):b[m]? =some (b.getD m true):=by rw[List.getD,gE h];rfl
theorem zyz (w:World) (base:Nat) (G:GS) (g:Gr) (gx gb gr go gq:Nat) (hl:zbM (zw g) g.ls) (hn:g.ms.length<=8) (aG:g.ls.length<=1048576) (f:Nat):zyy w base G g gx gb gr go gq f:=by
 have HL:=zc hl;clear hl
 induction f with
 |zero=>
  intro m b h W A hm hf _ _;have X:=A.bl.len;have ad:zF b=b.length:=by have:=zdG b;omega
  have N:=zgr.1 ad m (by omega);have HW:=zc A;obtain⟨c0,f0⟩:=zeg A.bc;have c1:=A.bl.cell N;have aC:(m:Int)<(g.ms.length:Int):=by omega
  clear A N;go_enter func81,ntmps81;go_wp2
  (try simp only[Exit.inBlock,Exit.then]);refine bodyPost_ret (results_none rfl _ _ _) rfl ?_
  exact⟨rfl,HW.o⟩
 |succ f ih=>
  intro m b h W A hm hf aQ ho;have IH:=zc ih;have HW:=zc A;have HO:=zc ho;have X:=A.bl.len;have aC:(m:Int)<(g.ms.length:Int):=by omega
  have N:=zos (b:=b) (m:=m) (by omega);obtain⟨c0,f0⟩:=zeg A.bc;have c1:=A.bl.cell N;clear ih A ho;cases hb:b.getD m true with
  |true=>
   have HD:Hid (dfs (zaQ (zw g) g.ls) (f+1) m (b,h)=(b,h)):=by show _=_;rw[dfs,if_pos hb]
   rw[hb] at c1;clear N hb;go_enter func81,ntmps81;go_wp2
   (try simp only[Exit.inBlock,Exit.then]);refine bodyPost_ret (results_none rfl _ _ _) rfl ?_
   exact⟨rfl,by rw[HD.o];exact HW.o⟩
  |false=>
   rw[hb] at c1 N;have hc:=zgt N;have f1:=HW.o.bl.free m;have HD:Hid (dfs (zaQ (zw g) g.ls) (f+1) m (b,h)=(((zaQ (zw g) g.ls m).foldl (fun s k=>dfs (zaQ (zw g) g.ls) f k s) (b.set m true,h)).1,((zaQ (zw g) g.ls m).foldl (fun s k=>dfs (zaQ (zw g) g.ls) f k s) (b.set m true,h)).2++[m])):=by show _=_;rw[dfs,if_neg (by rw[hb];decide)]
   have K:=zc (HW.o.mark m);clear hb N;go_enter func81,ntmps81;go_upto_region 2 with fail;obtain⟨W1,al⟩: ∃W1,W1=W.setCell ⟨gq,m,none⟩ (.bool true):=⟨_,rfl⟩;rw[<-al] at K ⊢;clear al HW c0 f0 c1 f1;obtain⟨H,U⟩: ∃H,g.ms[m]? =some H:=⟨_,gE hm⟩;obtain⟨S,hS⟩:=zec HO.o.len U;have O:=zc (HO.o.later K.o.b);obtain⟨b1,o1,e1,k1⟩:=(RowAt.of (f:=mdL) (m:=5) (fun _=>rfl) (zey O.o.len O.o.ms)).get hS;have z0:=k1 0 _ rfl;simp only[Nat.add_zero] at z0;have RS:=zc (RowS.of (HO.o.md _ (mG hS)).rq);have aa:Hid ((zw g)[m]? =some H.rq):=by show _=_;rw[zw,List.getElem?_map,U];rfl
   have Y:Hid (zaQ (zw g) g.ls m=H.rq.map fun s=>(zbd g.ls ((m:Int),s.toList)).toNat):=by show _=_;rw[zaQ,List.getD,aa.o];rfl
   obtain⟨y0,y1,y2,yf⟩:=zg K.o.x;rw[e1] at y1;clear U hS k1 e1 O;obtain⟨⟨ra,rc⟩,aT,aS,aR,aN,aP⟩:=S;simp only at z0 RS;have aO:H.rq.length<=1048576:=by
    have h1:=HL.o.1;have h2:=zh2 aa.o;have h3:=zh3 (zw g) (m+1);omega
   have aL:g.ms.length<=f+zF (b.set m true):=by omega
   have ay:h.length<=zF (b.set m true):=by omega
   go_wp2;clear z0 y0 y1 y2 yf;obtain⟨I,J⟩: ∃I,I=zaQ (zw g) g.ls:=⟨_,rfl⟩;have aE:Hid (∀a,a<g.ms.length->∀k∈I a,k<g.ms.length):=fun a _ k hk=>by rw[J] at hk;have:=zht HL.o a k hk;rw[zcf] at this;exact this
   have HQ:=zc J;rw[<-J] at HD Y;have aF:Hid (∀(m:Nat) (b:List Bool) (h:List Nat) (W:World),RunW w G g gx gb gr go gq b h W->m<g.ms.length->g.ms.length<=f+zF b->h.length<=zF b->Calls prog 81 #[.int .i64 (m:Int),.pointer (some ⟨gb,0,none⟩),.pointer (some ⟨gx,0,none⟩),.pointer (some ⟨gr,0,none⟩),.pointer (some ⟨go,0,none⟩)] W fun e W'=>e= .returned (.tuple #[])/\RunW w G g gx gb gr go gq (dfs I f m (b,h)).1 (dfs I f m (b,h)).2 W'):=by rw[J];exact fun m b h W h1 h2 h3 h4=>IH.o m b h W h1 h2 h3 h4 HO.o
   clear J IH;go_loopg [22] H.rq.length (fun k aM wr=>∃j:Nat,aM= .int .i64 j/\j+k=H.rq.length/\∃q:List Bool×List Nat,q=((I m).take j).foldl (fun s k=>dfs I f k s) (b.set m true,h)/\RunW w G g gx gb gr go gq q.1 q.2 wr/\g.ms.length<=f+zF q.1/\q.2.length<=zF q.1)
   case atStart=>exact⟨0,rfl,by omega,(b.set m true,h),rfl,K.o,aL,ay⟩
   case round=>
    obtain⟨j,rfl,hj,q,ah,A,ap,az⟩:=hrel;have L:=zc A;have aq:=zc ah;clear A ah K;have aU:=zdG q.1;have X:=L.o.bl.len;by_cases av:j<H.rq.length
    ·have ak:(j:Int)<(H.rq.length:Int):=by omega
     obtain⟨s,hs⟩: ∃s,H.rq[j]? =some s:=⟨_,gE av⟩;obtain⟨b2,o2,e2,k2⟩:=(RS.o.later L.o.b).get hs;subst e2;have z0:=k2 0 _ rfl;simp only[Nat.add_zero,Nat.mul_one] at z0;have hk:=HL.o.2 m H.rq aa.o s (mG hs);rw[zcf] at hk;obtain⟨k,ab⟩: ∃k:Nat,zbd g.ls ((m:Int),s.toList)=(k:Int):=⟨_,(Int.toNat_of_nonneg hk.1).symm⟩;have ae:k<g.ms.length:=by omega
     have ar:Hid ((I m)[j]? =some k):=by show _=_;rw[Y.o,List.getElem?_map,hs];simp[ab]
     have aD:=zc ab;obtain⟨j1,ag⟩: ∃j1,j1=j+1:=⟨_,rfl⟩;have ej:(j:Int)+1=(j1:Int):=by omega
     have ao:=zc ag;have aJ:=zc (zor (f:=fun s k=>dfs I f k s) ar.o (b.set m true,h));clear hs k2 hk ab ag;have DP:=zc (ziP (S:=fun _=>True) aE.o (fun _ _ _ _=>trivial) f k q X ae ap trivial);obtain⟨x0,x1,x2,xf⟩:=zg L.o.x;obtain⟨r0,rf⟩:=zeg L.o.rc;go_upto_region 5 with fail;go_region_with (first|(go_at_call 80;refine (zoo base G g m s _ (HO.o.later L.o.b.drew) aG).mono ?_;rintro e w2 ⟨rfl,aj⟩;rw[aD.o];have M:=zc (L.o.later (((Below.refl _ _).drew).trans aj));clear aj;obtain⟨t0,t1,t2,tf⟩:=zg M.o.x;obtain⟨u0,uf⟩:=zeg M.o.rc)|(go_at_call 81;refine (aF.o k q.1 q.2 _ M.o ae ap az).mono ?_;rintro e w3 ⟨rfl,am⟩))
     all_goals (
      have aA:=zc am;clear am M L t0 t1 t2 tf u0 uf x0 x1 x2 xf r0 rf z0;go_wp2;go_roundg (gk-1)
      case rel=>
       refine⟨j1,rfl,by have:=ao.o;omega,dfs I f k q,?_,aA.o,by have:=DP.o.le.cnt.1;omega,by have:=DP.o.cnt;omega⟩;rw[ao.o,aJ.o,<-aq.o]
      case measure=>omega)
    ·have ak: ¬(j:Int)<(H.rq.length:Int):=by omega
     obtain rfl:j=H.rq.length:=by omega
     have aK:Hid (q=(I m).foldl (fun s k=>dfs I f k s) (b.set m true,h)):=by
      have:=aq.o;rw[List.take_of_length_le (by rw[Y.o,List.length_map];exact Nat.le_refl _)] at this;exact this
     obtain⟨r,Z,V⟩:=L.o.oc;obtain⟨d0,df⟩:=zeg Z;obtain⟨i0,hi,aw,aI,aB⟩:=info_parts Tryz.infoIntO;have af:=zc Z;have ai:=zc V;have an:=fun o1=>V.alloc (o:=o1);have au: ∀o1,w.heap.size<=(wr.alloc o1).heap.size:=fun o1=>by rw[zh];have:=L.o.b.size;omega
     clear Z V;go_wp2_with (at_builtin;refine zbm _ rfl _ _ 36 rfl w.heap.size 3 i0 _ 1 8 underlying36 hi aw aI aB rfl (by decide) (by decide) r q.2.length (zcC q.2) (by rfl) (an _) wr.heap.size [.int .i64 (m:Int)] (by rfl) (by exact hN0 wr _) rfl (by simp[Value.oneCell']) (by omega) (au _) ?_;intro r' wz hr ac aH;obtain⟨e0,ef⟩:=zeg (zjT ai.o (zn wr _) ac af.o (by decide));have HR:=zc hr;have ax:=zc ac;clear hr ac aH d0 df);go_end0;have hp:=L.o.push af.o ai.o (zn wr _) ax.o (m:=m) (by have:=HR.o;unfold zcC at this ⊢;rw[List.map_append];exact this);refine⟨rfl,?_⟩;rw[<-HQ.o,HD.o,<-aK.o];exact hp
def zhZ (g:Gr):List Nat:=(dfs (zaQ (zw g) g.ls) g.ms.length 0 (List.replicate g.ms.length false,[])).2
def zy0 (w:World) (out:List Nat) (e:Ending) (w':World):Prop:=∃r:Rw,e= .returned (.slice r.a out.length r.cap)/\OwnR w' w.heap.size 3 1 r out.length (zcC out)/\Bw w w'
theorem zot (base:Nat) (G:GS) (g:Gr) (w:World) (ho:GrOwn w base G g) (hl:zbM (zw g) g.ls) (ah:1<=g.ms.length) (hn:g.ms.length<=8) (ac:g.ls.length<=1048576):
  Calls prog 49 #[grD G g] w fun e w'=>zy0 w (zhZ g) e w':=by
 have HO:=zc ho;have HL:=zc hl;clear ho hl;obtain⟨i0,hi,ad,ae,af⟩:=info_parts Tryz.infoBl;unfold grD;go_enter func49,ntmps49;go_upto_region 2 with fail;obtain⟨q,M⟩: ∃q,q=w.heap.size:=⟨_,rfl⟩;rw[<-M];refine zp (R:=fun W=>(Bk W q (grC G g) 32/\Bk W (q+1) #[] 3/\Bk W (q+1+1) #[.slice (some ⟨q+1,0,none⟩) 0 0] 36)/\Below w.heap.size w W) ?_ ?_
 ·have a1:=zn w (.cells (grC G g) 32);have N:=zn (w.alloc (.cells (grC G g) 32)) (.cells #[] 3);have a3:=zn ((w.alloc (.cells (grC G g) 32)).alloc (.cells #[] 3)) (.cells #[.slice (some ⟨q+1,0,none⟩) 0 0] 36);have h0:Bk (w.alloc (.cells (grC G g) 32)) q (grC G g) 32:=by rw[M];exact hN0 w _
  have h1:Bk ((w.alloc (.cells (grC G g) 32)).alloc (.cells #[] 3)) (q+1) #[] 3:=by
   have:=hN0 (w.alloc (.cells (grC G g) 32)) (.cells #[] 3);rw[zh,<-M] at this;exact this
  refine⟨⟨(h0.later N).later a3,h1.later a3,?_⟩,zi (zi a1 N) a3⟩;have:=hN0 ((w.alloc (.cells (grC G g) 32)).alloc (.cells #[] 3)) (.cells #[.slice (some ⟨q+1,0,none⟩) 0 0] 36);rw[zh,zh,<-M] at this;exact this
 have ag:w.heap.size<=q:=by omega
 clear M;rintro W0 ⟨⟨hx,hy,hz⟩,hb⟩;have X:=zc hx;have Y:=zc hy;have Z:=zc hz;have HB:=zc hb;clear hx hy hz hb;obtain⟨c0,c1,c2,cf⟩:=zg X.o;go_upto_region 4 with (first|(at_make;refine wpList_make_full W0 rfl _ _ 63 rfl w.heap.size 4 i0 _ 1 underlying63 hi ad ae .i64 .i64 _ _ g.ms.length (by rfl) (by rfl) rfl rfl (by rw[af];omega) (by unfold maxLen;omega) HB.o.size ?_;intro O H U))
 have J:Bw W0 O:=(Below.refl _ _).grown U (Nat.le_refl _) (fun k h=>by cases h);obtain⟨K,aa⟩: ∃K,K=W0.heap.size:=⟨_,rfl⟩;obtain⟨A,I⟩: ∃A,A=O.heap.size:=⟨_,rfl⟩;rw[<-aa,<-I];have L:OwnBl O w.heap.size K g.ms.length (List.replicate g.ms.length false):=by
  rw[show madeCells (Value.bool false).cells (g.ms.length*1)=madeCells #[.bool false] g.ms.length by rw[Nat.mul_one];rfl,toList_madeCells_one] at H;unfold OwnBl OwnR;rw[aa,List.map_replicate];exact H
 have a1:=zn O (.cells #[.slice (some ⟨K,0,none⟩) g.ms.length g.ms.length] 63);have N:=zn (O.alloc (.cells #[.slice (some ⟨K,0,none⟩) g.ms.length g.ms.length] 63)) (.cells #[.nilFunc] 112);refine zp (R:=fun W=>(Bk W q (grC G g) 32/\Bk W (q+1) #[] 3/\Bk W (q+1+1) #[.slice (some ⟨q+1,0,none⟩) 0 0] 36/\Bk W A #[.slice (some ⟨K,0,none⟩) g.ms.length g.ms.length] 63/\Bk W (A+1) #[.nilFunc] 112)/\OwnBl W w.heap.size K g.ms.length (List.replicate g.ms.length false)/\w.heap.size<=A/\Below w.heap.size w W) ?_ ?_
 ·have h4:Bk (O.alloc (.cells #[.slice (some ⟨K,0,none⟩) g.ms.length g.ms.length] 63)) A #[.slice (some ⟨K,0,none⟩) g.ms.length g.ms.length] 63:=by rw[I];exact hN0 O _
  refine⟨⟨((X.o.later J).later a1).later N,((Y.o.later J).later a1).later N,((Z.o.later J).later a1).later N,h4.later N,?_⟩,(L.later a1).later N,by have h1:=HB.o.size;have h2:=J.size;omega,zi (zi (zi HB.o J) a1) N⟩;have:=hN0 (O.alloc (.cells #[.slice (some ⟨K,0,none⟩) g.ms.length g.ms.length] 63)) (.cells #[.nilFunc] 112);rw[zh,<-I] at this;exact this
 clear aa I L a1 N J H U X Y Z HB c0 c1 c2 cf;rintro W1 ⟨⟨hx,hy,hz,hv,V⟩,L,I,hb⟩;have RW:Hid (RunW w G g q A (A+1) (q+1+1) K (List.replicate g.ms.length false) [] (W1.setCell ⟨A+1,0,none⟩ (zjS A q (A+1) (q+1+1)))):=by
  refine⟨hx.set V (by decide),hv.set V (by decide),L.aside V (by decide),zaj (i:=0) V,⟨⟨some ⟨q+1,0,none⟩,0⟩,hz.set V (by decide),?_⟩,by omega,hb.setCell (by show _<=A+1;omega) _⟩;exact⟨rfl,.inr ⟨q+1,0,#[],rfl,by omega,hy.set V (by decide),Nat.le_refl _,Nat.zero_le _,rfl,rfl⟩⟩
 obtain⟨u0,uf⟩:=zeg V;clear hx hy hz hv V L I hb;go_upto_region 5 with fail;obtain⟨W2,ab⟩: ∃W2,W2=W1.setCell ⟨A+1,0,none⟩ (zjS A q (A+1) (q+1+1)):=⟨_,rfl⟩;rw[<-ab] at RW ⊢;clear ab u0 uf;obtain⟨r0,rf⟩:=zeg RW.o.rc;have ai:zF (List.replicate g.ms.length false)=0:=by unfold zF;rw[List.count_replicate];rfl
 go_wp2_with fail;refine (zyz w base G g q A (A+1) (q+1+1) K HL.o hn ac g.ms.length 0 _ [] _ RW.o (by omega) (by omega) (Nat.zero_le _) HO.o).mono ?_;rintro e W3 ⟨rfl,hw⟩;have R3:=zc hw;clear hw RW r0 rf;obtain⟨r,h1,h2⟩:=R3.o.oc;obtain⟨z0,zf⟩:=zeg h1;have H2:=zc h2;clear h1 h2;go_wp2;go_ret;exact⟨r,rfl,H2.o,R3.o.b⟩
theorem zou (U:zf3 111) (O:zf4 112) (base:Nat) (G:GS) (g:Gr) (w:World) (ho:GrOwn w base G g) (hg:GdG g):
  Calls prog 13 #[grD G g] w fun e w'=>SameOut (GrI g) e/\Bw w w':=by
 have K:=zc ho;have HG:=zc hg;have CM:=zc U;have CE:=zc O;have am:=hg.pl;have al:=hg.ml;have aj:=hg.ll;clear ho hg U O;unfold grD;go_enter func13,ntmps13;go_upto_region 1 with fail;obtain⟨gx,Z⟩: ∃gx,gx=w.heap.size:=⟨_,rfl⟩;rw[<-Z];refine zp (R:=fun W=>Bk W gx (grC G g) 32/\Below w.heap.size w W) ⟨by rw[Z];exact hN0 w _,zn w _⟩ ?_;clear Z;rintro J ⟨hx,A⟩;have X:=zc hx;have H:=zc A;obtain⟨c0,c1,c2,cf⟩:=zg hx;clear hx A;by_cases h1:(g.ms.length:Int)<1
 ·have HN:Hid (¬GrI g):=fun k=>by have:=k.1;omega
  go_wp2;go_ret;exact⟨zb8 HN.o rfl,H.o⟩
 by_cases h2:(g.ms.length:Int)<=8
 case neg=>
  have HN:Hid (¬GrI g):=fun k=>by have:=k.1;omega
  go_wp2;go_ret;exact⟨zb8 HN.o rfl,H.o⟩
 by_cases h3:(g.ps.length:Int)=(g.ms.length:Int)
 case neg=>
  have HN:Hid (¬GrI g):=fun k=>by have:=k.2.1;omega
  have h4:((g.ps.length:Int) !=(g.ms.length:Int))=true:=bne_iff_ne.2 h3;go_wp2;go_ret;exact⟨zb8 HN.o rfl,H.o⟩
 go_upto_region 3 with fail;have hp:g.ps.length=g.ms.length:=by omega
 have HP:=zc hp;have ab:1<=g.ms.length:=by omega
 have ad:g.ms.length<=8:=by omega
 clear h1 h2 h3 c0 c1 c2 cf;obtain⟨Y0,Y1,Y2,_⟩:=zg X.o;have Z0:=zc Y0;have Z1:=zc Y1;have Z2:=zc Y2;clear Y0 Y1 Y2 hp;have cA: ∀(b:Bool),(b=true↔∀i,i<g.ps.length->zcp g.ps i)->∀d I,Calls prog 46 #[.slice G.pr.a g.ps.length G.pr.cap] (grow (redrawn J d) I) fun e L=>e= .returned (.bool b)/\∃q:Regrown,L=grow (redrawn J q.d) q.os:=fun b A d I=>Calls.regrown_of ((zol base G.pr.a G.pr.cap g.ps _ ((K.o.later H.o).later (below_regrown J d I)).ps (by have:=HP.o;omega) HG.o.ps).mono fun e w' h=>⟨h.1.of A,h.2⟩);have cB: ∀(b:Bool),(b=true↔zdH g.ms)->∀d I,Calls prog 47 #[.slice G.mr.a g.ms.length G.mr.cap] (grow (redrawn J d) I) fun e L=>e= .returned (.bool b)/\∃q:Regrown,L=grow (redrawn J q.d) q.os:=fun b A d I=>Calls.regrown_of ((zom CM.o CE.o base G.mr.a G.mr.cap G.sv g.ms _ K.o.len ((K.o.later H.o).later (below_regrown J d I)).ms ((K.o.later H.o).later (below_regrown J d I)).md HG.o.ms (by omega)).mono fun e w' h=>⟨h.1.of A,h.2⟩);have cC: ∀(b:Bool),(b=true↔zbM (zw g) g.ls)->∀d I,Calls prog 48 #[grD G g] (grow (redrawn J d) I) fun e L=>e= .returned (.bool b)/\∃q:Regrown,L=grow (redrawn J q.d) q.os:=fun b A d I=>Calls.regrown_of ((zoq base G g _ ((K.o.later H.o).later (below_regrown J d I)) HG.o).mono fun e w' h=>⟨h.1.of A,h.2⟩);unfold grD at cC;have ag:(¬(∀i,i<g.ps.length->zcp g.ps i))∨((∀i,i<g.ps.length->zcp g.ps i)/\(¬zdH g.ms∨(zdH g.ms/\(¬zbM (zw g) g.ls∨zbM (zw g) g.ls)))):=by
  by_cases M: ∀i,i<g.ps.length->zcp g.ps i
  ·by_cases N:zdH g.ms
   ·exact .inr ⟨M,.inr ⟨N,(Classical.em _).symm⟩⟩
   ·exact .inr ⟨M,.inl N⟩
  ·exact .inl M
 rcases ag with M|⟨M,N|⟨N,k3|k3⟩⟩
 case inr.inr.inr=>
  clear cA cB cC;have ac:=zc M;have ae:=zc N;have aa:=zc k3;clear M N k3;obtain⟨z0,z1,z2,zf⟩:=zg X.o;go_region_with (first|(go_at_call 46;refine (zol base G.pr.a G.pr.cap g.ps _ (K.o.later H.o.drew).ps (by have:=HP.o;omega) HG.o.ps).mono ?_;rintro e w1 ⟨Y,A⟩;obtain rfl:=Y.of (b:=true) (iff_of_true rfl ac.o);have B1:Hid (Bw J w1):=(((Below.refl _ _).drew).trans A);clear Y A;obtain⟨p0,p1,p2,pf⟩:=zg (X.o.later B1.o))|(go_at_call 47;refine (zom CM.o CE.o base G.mr.a G.mr.cap G.sv g.ms _ K.o.len ((K.o.later H.o).later B1.o).ms ((K.o.later H.o).later B1.o).md HG.o.ms (by omega)).mono ?_;rintro e w2 ⟨Y,A⟩;obtain rfl:=Y.of (b:=true) (iff_of_true rfl ae.o);have B2:=zc (zi B1.o A);clear Y A;obtain⟨q0,q1,q2,qf⟩:=zg (X.o.later B2.o))|(go_at_call 48;refine (zoq base G g _ ((K.o.later H.o).later B2.o) HG.o).mono ?_;rintro e w3 ⟨Y,A⟩;obtain rfl:=Y.of (b:=true) (iff_of_true rfl aa.o);have B3:=zc (zi B2.o A);clear Y A;obtain⟨r0,r1,r2,rf⟩:=zg (X.o.later B3.o))|(go_at_call 49;refine (zot base G g _ ((K.o.later H.o).later B3.o) aa.o ab ad aj).mono ?_;rintro e w4 ⟨r,rfl,ak,A⟩;have B4:=zc (zi B3.o A);clear ak A;obtain⟨s0,s1,s2,sf⟩:=zg (X.o.later B4.o)))
  all_goals (
   have ai:=zc (zi H.o B4.o);clear B1 B2 B3 B4 p0 p1 p2 pf q0 q1 q2 qf r0 r1 r2 rf s0 s1 s2 sf;go_wp2;go_ret;refine⟨⟨_,rfl,?_⟩,ai.o⟩;rw[beq_iff_eq];refine⟨fun h=>⟨⟨ab,ad⟩,HP.o,ac.o,ae.o,aa.o,(Int.ofNat.inj h:(zhZ g).length=g.ms.length)⟩,fun k=>?_⟩
   rw[show (zhZ g).length=g.ms.length from k.2.2.2.2.2])
 all_goals (
  have HN:Hid (¬GrI g):=fun k=>by first|exact M k.2.2.1|exact N k.2.2.2.1|exact k3 k.2.2.2.2.1
  have z0:=cR0 Z0.o;have z1:=cR0 Z1.o;have z2:=cR0 Z2.o;refine wp_region_quiet_below (by kernel_rfl) (by kernel_rfl) ?_
  repeat (go_big_quiet_step (first|with_reducible exact cA true (iff_of_true rfl M) _ _|with_reducible exact cA false (by simp only[fE,false_iff];exact M) _ _|with_reducible exact cB true (iff_of_true rfl N) _ _|with_reducible exact cB false (by simp only[fE,false_iff];exact N) _ _|with_reducible exact cC false (by simp only[fE,false_iff];exact k3) _ _))
  refine wpQuiet_nil ?_;intro w2 af;obtain⟨q,V⟩:=af;have ah:=zc (zi H.o (zez V));clear V z0 z1 z2;go_wp2;go_ret
  exact⟨zb8 HN.o rfl,ah.o⟩)
