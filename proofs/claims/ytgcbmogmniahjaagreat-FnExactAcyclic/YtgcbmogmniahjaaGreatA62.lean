/- Facts and walks that the theorem stands on. -/
import Derived.Laws.EntriesVeiled
import Derived.Test.YtgcbmogmniahjaaGreatA60
import Derived.Test.YtgcbmogmniahjaaGreatA56
namespace Go.Proofs.YtgcbmogmniahjaaGreat
open Go.Proofs.Tryz
set_option maxRecDepth 100000
set_option maxHeartbeats 12800000
open Go.RowKit Go.PlainAid Go.Sort
abbrev ziW (gb gx gr go:Nat):Value:=.func (.func 68) #[] #[.pointer (some ⟨gb,0,none⟩),.pointer (some ⟨gx,0,none⟩),.pointer (some ⟨gr,0,none⟩),.pointer (some ⟨go,0,none⟩)]
def zfl (l:List Nat):List Value:=l.map fun k:Nat=>Value.int .i64 (k:Int)
structure RunW (w:World) (G:GS) (g:Gr) (gx gb gr go gq:Nat) (b:List Bool) (out:List Nat) (W:World):Prop where
 x:Bk W gx (grC G g) 32
 bc:Bk W gb #[.slice (some ⟨gq,0,none⟩) g.ms.length g.ms.length] 58
 bl:OwnBl W w.heap.size gq g.ms.length b
 rc:Bk W gr #[ziW gb gx gr go] 106
 oc: ∃r:Rw,Bk W go #[.slice r.a out.length r.cap] 36/\OwnR W w.heap.size 3 1 r out.length (zfl out)
 ge:w.heap.size<=go
 b:Below w.heap.size w W
theorem Bk.ne {w:World} {a b:Nat} {A z:Array Value} {s t:TypeId} (h:Bk w a A s) (k:w.heap[b]? =some (.cells z t (0,0))) (H:s≠t):a≠b:=by
 rintro rfl;have q:some (Obj.cells A s (0,0))=some (.cells z t (0,0)):=h.symm.trans k;simp only[Option.some.injEq,Obj.cells.injEq] at q;exact H q.2.1
theorem Bk.set {w:World} {a c i:Nat} {q z:Array Value} {s t:TypeId} {u:Value} (h:Bk w a q s) (k:w.heap[c]? =some (.cells z t (0,0))) (A:s≠t):Bk (w.setCell ⟨c,i,none⟩ u) a q s:=(heap_setCell_other w ⟨c,i,none⟩ a u (h.ne k A)).trans h
theorem RunW.later {w W L:World} {G:GS} {g:Gr} {K J A I H:Nat} {b:List Bool} {z:List Nat} (h:RunW w G g K J A I H b z W) (q:Below W.heap.size W L):RunW w G g K J A I H b z L:=by
 obtain⟨r,N,M⟩:=h.oc;exact⟨h.x.later q,h.bc.later q,h.bl.later q,h.rc.later q,⟨r,N.later q,M.later q⟩,h.ge,zaf h.b q⟩
theorem RunW.mark {w W:World} {G:GS} {g:Gr} {K J H I A:Nat} {b:List Bool} {z:List Nat} (h:RunW w G g K J H I A b z W) (m:Nat):RunW w G g K J H I A (b.set m true) z (W.setCell ⟨A,m,none⟩ (.bool true)):=by
 obtain⟨L,q⟩:=h.bl.block;obtain⟨r,N,M⟩:=h.oc;exact⟨h.x.set q (by decide),h.bc.set q (by decide),h.bl.set m true,h.rc.set q (by decide),⟨r,N.set q (by decide),M.aside q (by decide)⟩,h.ge,h.b.setCell h.bl.at.1 _⟩
theorem OwnBl.aside {w:World} {base g n c i:Nat} {b:List Bool} {t:TypeId} {u:Value} {A:Array Value} (h:OwnBl w base g n b) (z:w.heap[c]? =some (.cells A t (0,0))) (q:4≠t):OwnBl (w.setCell ⟨c,i,none⟩ u) base g n b:=OwnR.aside h z q
theorem znc {W H I:World} {base n a:Nat} {r:Rw} {xs:List Value} {z:Array Value} {t:TypeId} (K:OwnR W base 3 1 r n xs) (A:Below W.heap.size W H) (M:H.grownBy I r.blk) (q:W.heap[a]? =some (.cells z t (0,0))) (L:3≠t):I.heap[a]? =some (.cells z t (0,0)):=by
 have h:=(aLt q)
 rw[M.block a (Nat.lt_of_lt_of_le h A.size) (fun e=>by
  obtain⟨_,_,J,w⟩:=K.typed e.symm;rw[q] at w;simp only[Option.some.injEq,Obj.cells.injEq] at w
  exact L w.2.1.symm),A.block a h]
 exact q
theorem RunW.push {w W Z I:World} {G:GS} {g:Gr} {gx U gr J N m:Nat} {b:List Bool} {q:List Nat} {r A:Rw} (h:RunW w G g gx U gr J N b q W) (h1:Bk W J #[.slice r.a q.length r.cap] 36) (O:OwnR W w.heap.size 3 1 r q.length (zfl q)) (M:Below W.heap.size W Z) (V:Z.grownBy I r.blk) (ho:OwnR I w.heap.size 3 1 A (q.length+1) (zfl (q++[m]))):
  RunW w G g gx U gr J N b (q++[m]) (I.setCell ⟨J,0,none⟩ (.slice A.a (q.length+1) A.cap)):=by
 have H: ∀{a:Nat} {Y:Array Value} {t:TypeId},W.heap[a]? =some (.cells Y t (0,0))->3≠t->I.heap[a]? =some (.cells Y t (0,0)):=fun ha ht=>znc O M V ha ht;have z:=H h1 (by decide);obtain⟨aa,X⟩:=h.bl.block;have L:OwnBl I w.heap.size N g.ms.length b:=OwnR.keep h.bl fun k e=>by
  cases e;rw[H X (by decide),X]
 have K: ∀k,r.blk=some k->w.heap.size<=k:=fun k e=>(O.typed e).1;refine⟨Bk.set (H h.x (by decide)) z (by decide),Bk.set (H h.bc (by decide)) z (by decide),L.aside z (by decide),Bk.set (H h.rc (by decide)) z (by decide),⟨A,?_,?_⟩,h.ge,?_⟩
 ·rw[List.length_append];exact zac (i:=0) (u:=.slice A.a (q.length+1) A.cap) z
 ·rw[List.length_append];exact ho.aside z (by decide)
 ·exact ((zaf h.b M).grown V (Nat.le_trans h.b.size M.size) K).setCell h.ge _
theorem Tryz.infoIntO:(prog.info? 3).map (fun i=>(i.zero,i.size,i.bytes))=some (some (.int .i64 0),1,8):=by kernel_rfl
theorem zw2 {α β:Type} {f:β->α->β} {l:List α} {j:Nat} {x:α} (h:l[j]? =some x) (s:β):(l.take (j+1)).foldl f s=f ((l.take j).foldl f s) x:=by
 obtain⟨q,rfl⟩:=List.getElem?_eq_some_iff.1 h;rw[List.take_succ_eq_append_getElem q,List.foldl_append];rfl
def zw3 (w:World) (base:Nat) (G:GS) (g:Gr) (gx gb gr go gq f:Nat):Prop:=∀(m:Nat) (b:List Bool) (out:List Nat) (W:World),RunW w G g gx gb gr go gq b out W->m<g.ms.length->g.ms.length<=f+zE b->out.length<=zE b->GrOwn w base G g->Calls prog 68 #[.int .i64 (m:Int),.pointer (some ⟨gb,0,none⟩),.pointer (some ⟨gx,0,none⟩),.pointer (some ⟨gr,0,none⟩),.pointer (some ⟨go,0,none⟩)] W fun e W'=>e= .returned (.tuple #[])/\RunW w G g gx gb gr go gq (dfs (zbR (zC g) g.ls) f m (b,out)).1 (dfs (zbR (zC g) g.ls) f m (b,out)).2 W'
theorem zdE {w:World} {b:Nat} {t:TypeId} {v:Value} (h:Bk w b #[v] t):w.cell? ⟨b,0,none⟩=some v/\∀i,w.frozen? ⟨b,i,none⟩=false:=by
 refine⟨?_,fun i=>?_⟩<;>simp[World.cell?,World.frozen?,h]
theorem zw4 {b:List Bool} {m:Nat} (h:m<b.length):b[m]? =some (b.getD m true):=by rw[List.getD,List.getElem?_eq_getElem h];rfl
theorem zw5 (w:World) (base:Nat) (G:GS) (g:Gr) (gx gb gr go gq:Nat) (hl:zbQ (zC g) g.ls) (hn:g.ms.length<=8) (aF:g.ls.length<=1048576) (f:Nat):zw3 w base G g gx gb gr go gq f:=by
 have HL:=zc hl;clear hl
 induction f with
 |zero=>
  intro m b h W z hm hf _ _;have V:=z.bl.len;have ac:zE b=b.length:=by have:=zdN b;omega
  have M:=zg3.1 ac m (by omega);have HW:=zc z;obtain⟨c0,f0⟩:=zdE z.bc;have c1:=z.bl.cell M;have aB:(m:Int)<(g.ms.length:Int):=by omega
  clear z M;go_enter func68,ntmps68;go_wp2
  (try simp only[Exit.inBlock,Exit.then]);refine bodyPost_ret (results_none rfl _ _ _) rfl ?_
  exact⟨rfl,HW.o⟩
 |succ f ih=>
  intro m b h W z hm hf aP ho;have IH:=zc ih;have HW:=zc z;have HO:=zc ho;have V:=z.bl.len;have aB:(m:Int)<(g.ms.length:Int):=by omega
  have M:=zw4 (b:=b) (m:=m) (by omega);obtain⟨c0,f0⟩:=zdE z.bc;have c1:=z.bl.cell M;clear ih z ho;cases hb:b.getD m true with
  |true=>
   have HD:Hid (dfs (zbR (zC g) g.ls) (f+1) m (b,h)=(b,h)):=by show _=_;rw[dfs,if_pos hb]
   rw[hb] at c1;clear M hb;go_enter func68,ntmps68;go_wp2
   (try simp only[Exit.inBlock,Exit.then]);refine bodyPost_ret (results_none rfl _ _ _) rfl ?_
   exact⟨rfl,by rw[HD.o];exact HW.o⟩
  |false=>
   rw[hb] at c1 M;have hc:=zg6 M;have f1:=HW.o.bl.free m;have HD:Hid (dfs (zbR (zC g) g.ls) (f+1) m (b,h)=(((zbR (zC g) g.ls m).foldl (fun s k=>dfs (zbR (zC g) g.ls) f k s) (b.set m true,h)).1,((zbR (zC g) g.ls m).foldl (fun s k=>dfs (zbR (zC g) g.ls) f k s) (b.set m true,h)).2++[m])):=by show _=_;rw[dfs,if_neg (by rw[hb];decide)]
   have J:=zc (HW.o.mark m);clear hb M;go_enter func68,ntmps68;go_upto_region 2 with fail;obtain⟨W1,ak⟩: ∃W1,W1=W.setCell ⟨gq,m,none⟩ (.bool true):=⟨_,rfl⟩;rw[<-ak] at J ⊢;clear ak HW c0 f0 c1 f1;obtain⟨A,O⟩: ∃A,g.ms[m]? =some A:=⟨_,List.getElem?_eq_getElem hm⟩;obtain⟨S,hS⟩:=zdS HO.o.len O;have N:=zc (HO.o.later J.o.b);obtain⟨b1,o1,e1,k1⟩:=(RowAt.of (f:=mdL) (m:=5) (fun _=>rfl) (zeQ N.o.len N.o.ms)).get hS;have z0:=k1 0 _ rfl;simp only[Nat.add_zero] at z0;have RS:=zc (RowS.of (HO.o.md _ (List.mem_of_getElem? hS)).rq);have Z:Hid ((zC g)[m]? =some A.rq):=by show _=_;rw[zC,List.getElem?_map,O];rfl
   have X:Hid (zbR (zC g) g.ls m=A.rq.map fun s=>(zbk g.ls ((m:Int),s.toList)).toNat):=by show _=_;rw[zbR,List.getD,Z.o];rfl
   obtain⟨y0,y1,y2,yf⟩:=zo J.o.x;rw[e1] at y1;clear O hS k1 e1 N;obtain⟨⟨ra,rc⟩,aS,aR,aQ,aM,aO⟩:=S;simp only at z0 RS;have aN:A.rq.length<=1048576:=by
    have h1:=HL.o.1;have h2:=zia Z.o;have h3:=zib (zC g) (m+1);omega
   have aK:g.ms.length<=f+zE (b.set m true):=by omega
   have ax:h.length<=zE (b.set m true):=by omega
   go_wp2;clear z0 y0 y1 y2 yf;obtain⟨H,I⟩: ∃H,H=zbR (zC g) g.ls:=⟨_,rfl⟩;have aD:Hid (∀a,a<g.ms.length->∀k∈H a,k<g.ms.length):=fun a _ k hk=>by rw[I] at hk;have:=zhO HL.o a k hk;rw[zck] at this;exact this
   have HQ:=zc I;rw[<-I] at HD X;have aE:Hid (∀(m:Nat) (b:List Bool) (h:List Nat) (W:World),RunW w G g gx gb gr go gq b h W->m<g.ms.length->g.ms.length<=f+zE b->h.length<=zE b->Calls prog 68 #[.int .i64 (m:Int),.pointer (some ⟨gb,0,none⟩),.pointer (some ⟨gx,0,none⟩),.pointer (some ⟨gr,0,none⟩),.pointer (some ⟨go,0,none⟩)] W fun e W'=>e= .returned (.tuple #[])/\RunW w G g gx gb gr go gq (dfs H f m (b,h)).1 (dfs H f m (b,h)).2 W'):=by rw[I];exact fun m b h W h1 h2 h3 h4=>IH.o m b h W h1 h2 h3 h4 HO.o
   clear I IH;go_loopg [22] A.rq.length (fun k aL wr=>∃j:Nat,aL= .int .i64 j/\j+k=A.rq.length/\∃q:List Bool×List Nat,q=((H m).take j).foldl (fun s k=>dfs H f k s) (b.set m true,h)/\RunW w G g gx gb gr go gq q.1 q.2 wr/\g.ms.length<=f+zE q.1/\q.2.length<=zE q.1)
   case atStart=>exact⟨0,rfl,by omega,(b.set m true,h),rfl,J.o,aK,ax⟩
   case round=>
    obtain⟨j,rfl,hj,q,ag,z,ao,ay⟩:=hrel;have K:=zc z;have ap:=zc ag;clear z ag J;have aT:=zdN q.1;have V:=K.o.bl.len;by_cases au:j<A.rq.length
    ·have aj:(j:Int)<(A.rq.length:Int):=by omega
     obtain⟨s,hs⟩: ∃s,A.rq[j]? =some s:=⟨_,List.getElem?_eq_getElem au⟩;obtain⟨b2,o2,e2,k2⟩:=(RS.o.later K.o.b).get hs;subst e2;have z0:=k2 0 _ rfl;simp only[Nat.add_zero,Nat.mul_one] at z0;have hk:=HL.o.2 m A.rq Z.o s (List.mem_of_getElem? hs);rw[zck] at hk;obtain⟨k,aa⟩: ∃k:Nat,zbk g.ls ((m:Int),s.toList)=(k:Int):=⟨_,(Int.toNat_of_nonneg hk.1).symm⟩;have ad:k<g.ms.length:=by omega
     have aq:Hid ((H m)[j]? =some k):=by show _=_;rw[X.o,List.getElem?_map,hs];simp[aa]
     have aC:=zc aa;obtain⟨j1,af⟩: ∃j1,j1=j+1:=⟨_,rfl⟩;have ej:(j:Int)+1=(j1:Int):=by omega
     have an:=zc af;have aI:=zc (zw2 (f:=fun s k=>dfs H f k s) aq.o (b.set m true,h));clear hs k2 hk aa af;have DP:=zc (zkn (S:=fun _=>True) aD.o (fun _ _ _ _=>trivial) f k q V ad ao trivial);obtain⟨x0,x1,x2,xf⟩:=zo K.o.x;obtain⟨r0,rf⟩:=zdE K.o.rc;go_upto_region 5 with fail;go_region_with (first|(go_at_call 67;refine (zmZ base G g m s _ (HO.o.later K.o.b.drew) aF).mono ?_;rintro e w2 ⟨rfl,ai⟩;rw[aC.o];have L:=zc (K.o.later (((Below.refl _ _).drew).trans ai));clear ai;obtain⟨t0,t1,t2,tf⟩:=zo L.o.x;obtain⟨u0,uf⟩:=zdE L.o.rc)|(go_at_call 68;refine (aE.o k q.1 q.2 _ L.o ad ao ay).mono ?_;rintro e w3 ⟨rfl,al⟩))
     all_goals (
      have az:=zc al;clear al L K t0 t1 t2 tf u0 uf x0 x1 x2 xf r0 rf z0;go_wp2;go_roundg (gk-1)
      case rel=>
       refine⟨j1,rfl,by have:=an.o;omega,dfs H f k q,?_,az.o,by have:=DP.o.le.cnt.1;omega,by have:=DP.o.cnt;omega⟩;rw[an.o,aI.o,<-ap.o]
      case measure=>omega)
    ·have aj: ¬(j:Int)<(A.rq.length:Int):=by omega
     obtain rfl:j=A.rq.length:=by omega
     have aJ:Hid (q=(H m).foldl (fun s k=>dfs H f k s) (b.set m true,h)):=by
      have:=ap.o;rw[List.take_of_length_le (by rw[X.o,List.length_map];exact Nat.le_refl _)] at this;exact this
     obtain⟨r,Y,U⟩:=K.o.oc;obtain⟨d0,df⟩:=zdE Y;obtain⟨i0,hi,av,aH,aA⟩:=info_parts Tryz.infoIntO;have ae:=zc Y;have ah:=zc U;have am:=fun o1=>U.alloc (o:=o1);have ar: ∀o1,w.heap.size<=(wr.alloc o1).heap.size:=fun o1=>by rw[zg];have:=K.o.b.size;omega
     clear Y U;go_wp2_with (at_builtin;refine zbb _ rfl _ _ 36 rfl w.heap.size 3 i0 _ 1 8 underlying36 hi av aH aA rfl (by decide) (by decide) r q.2.length (zfl q.2) (by rfl) (am _) wr.heap.size [.int .i64 (m:Int)] (by rfl) (by exact heap_alloc_new wr _) rfl (by simp[Value.oneCell']) (by omega) (ar _) ?_;intro r' wz hr ab aG;obtain⟨e0,ef⟩:=zdE (znc ah.o (zaB wr _) ab ae.o (by decide));have HR:=zc hr;have aw:=zc ab;clear hr ab aG d0 df);go_end0;have hp:=K.o.push ae.o ah.o (zaB wr _) aw.o (m:=m) (by have:=HR.o;unfold zfl at this ⊢;rw[List.map_append];exact this);refine⟨rfl,?_⟩;rw[<-HQ.o,HD.o,<-aJ.o];exact hp
def ziX (g:Gr):List Nat:=(dfs (zbR (zC g) g.ls) g.ms.length 0 (List.replicate g.ms.length false,[])).2
def zw6 (w:World) (out:List Nat) (e:Ending) (w':World):Prop:=∃r:Rw,e= .returned (.slice r.a out.length r.cap)/\OwnR w' w.heap.size 3 1 r out.length (zfl out)/\Below w.heap.size w w'
theorem zw7 (base:Nat) (G:GS) (g:Gr) (w:World) (ho:GrOwn w base G g) (hl:zbQ (zC g) g.ls) (ah:1<=g.ms.length) (hn:g.ms.length<=8) (ac:g.ls.length<=1048576):
  Calls prog 37 #[grD G g] w fun e w'=>zw6 w (ziX g) e w':=by
 have HO:=zc ho;have HL:=zc hl;clear ho hl;obtain⟨i0,hi,ad,ae,af⟩:=info_parts Tryz.infoBl;unfold grD;go_enter func37,ntmps37;go_upto_region 2 with fail;obtain⟨q,L⟩: ∃q,q=w.heap.size:=⟨_,rfl⟩;rw[<-L];refine zx (R:=fun W=>(Bk W q (grC G g) 32/\Bk W (q+1) #[] 3/\Bk W (q+1+1) #[.slice (some ⟨q+1,0,none⟩) 0 0] 36)/\Below w.heap.size w W) ?_ ?_
 ·have V:=zaB w (.cells (grC G g) 32);have M:=zaB (w.alloc (.cells (grC G g) 32)) (.cells #[] 3);have a3:=zaB ((w.alloc (.cells (grC G g) 32)).alloc (.cells #[] 3)) (.cells #[.slice (some ⟨q+1,0,none⟩) 0 0] 36);have h0:Bk (w.alloc (.cells (grC G g) 32)) q (grC G g) 32:=by rw[L];exact heap_alloc_new w _
  have h1:Bk ((w.alloc (.cells (grC G g) 32)).alloc (.cells #[] 3)) (q+1) #[] 3:=by
   have:=heap_alloc_new (w.alloc (.cells (grC G g) 32)) (.cells #[] 3);rw[zg,<-L] at this;exact this
  refine⟨⟨(h0.later M).later a3,h1.later a3,?_⟩,zaf (zaf V M) a3⟩;have:=heap_alloc_new ((w.alloc (.cells (grC G g) 32)).alloc (.cells #[] 3)) (.cells #[.slice (some ⟨q+1,0,none⟩) 0 0] 36);rw[zg,zg,<-L] at this;exact this
 have ag:w.heap.size<=q:=by omega
 clear L;rintro W0 ⟨⟨hx,hy,hz⟩,hb⟩;have X:=zc hx;have Y:=zc hy;have Z:=zc hz;have HB:=zc hb;clear hx hy hz hb;obtain⟨c0,c1,c2,cf⟩:=zo X.o;go_upto_region 4 with (first|(at_make;refine wpList_make_full W0 rfl _ _ 58 rfl w.heap.size 4 i0 _ 1 underlying58 hi ad ae .i64 .i64 _ _ g.ms.length (by rfl) (by rfl) rfl rfl (by rw[af];omega) (by unfold maxLen;omega) HB.o.size ?_;intro N A O))
 have I:Below W0.heap.size W0 N:=(Below.refl _ _).grown O (Nat.le_refl _) (fun k h=>by cases h);obtain⟨J,aa⟩: ∃J,J=W0.heap.size:=⟨_,rfl⟩;obtain⟨z,H⟩: ∃z,z=N.heap.size:=⟨_,rfl⟩;rw[<-aa,<-H];have K:OwnBl N w.heap.size J g.ms.length (List.replicate g.ms.length false):=by
  rw[show madeCells (Value.bool false).cells (g.ms.length*1)=madeCells #[.bool false] g.ms.length by rw[Nat.mul_one];rfl,toList_madeCells_one] at A;unfold OwnBl OwnR;rw[aa,List.map_replicate];exact A
 have V:=zaB N (.cells #[.slice (some ⟨J,0,none⟩) g.ms.length g.ms.length] 58);have M:=zaB (N.alloc (.cells #[.slice (some ⟨J,0,none⟩) g.ms.length g.ms.length] 58)) (.cells #[.nilFunc] 106);refine zx (R:=fun W=>(Bk W q (grC G g) 32/\Bk W (q+1) #[] 3/\Bk W (q+1+1) #[.slice (some ⟨q+1,0,none⟩) 0 0] 36/\Bk W z #[.slice (some ⟨J,0,none⟩) g.ms.length g.ms.length] 58/\Bk W (z+1) #[.nilFunc] 106)/\OwnBl W w.heap.size J g.ms.length (List.replicate g.ms.length false)/\w.heap.size<=z/\Below w.heap.size w W) ?_ ?_
 ·have h4:Bk (N.alloc (.cells #[.slice (some ⟨J,0,none⟩) g.ms.length g.ms.length] 58)) z #[.slice (some ⟨J,0,none⟩) g.ms.length g.ms.length] 58:=by rw[H];exact heap_alloc_new N _
  refine⟨⟨((X.o.later I).later V).later M,((Y.o.later I).later V).later M,((Z.o.later I).later V).later M,h4.later M,?_⟩,(K.later V).later M,by have h1:=HB.o.size;have h2:=I.size;omega,zaf (zaf (zaf HB.o I) V) M⟩;have:=heap_alloc_new (N.alloc (.cells #[.slice (some ⟨J,0,none⟩) g.ms.length g.ms.length] 58)) (.cells #[.nilFunc] 106);rw[zg,<-H] at this;exact this
 clear aa H K V M I A O X Y Z HB c0 c1 c2 cf;rintro W1 ⟨⟨hx,hy,hz,hv,U⟩,K,H,hb⟩;have RW:Hid (RunW w G g q z (z+1) (q+1+1) J (List.replicate g.ms.length false) [] (W1.setCell ⟨z+1,0,none⟩ (ziW z q (z+1) (q+1+1)))):=by
  refine⟨hx.set U (by decide),hv.set U (by decide),K.aside U (by decide),zac (i:=0) U,⟨⟨some ⟨q+1,0,none⟩,0⟩,hz.set U (by decide),?_⟩,by omega,hb.setCell (by show _<=z+1;omega) _⟩;exact⟨rfl,.inr ⟨q+1,0,#[],rfl,by omega,hy.set U (by decide),Nat.le_refl _,Nat.zero_le _,rfl,rfl⟩⟩
 obtain⟨u0,uf⟩:=zdE U;clear hx hy hz hv U K H hb;go_upto_region 5 with fail;obtain⟨W2,ab⟩: ∃W2,W2=W1.setCell ⟨z+1,0,none⟩ (ziW z q (z+1) (q+1+1)):=⟨_,rfl⟩;rw[<-ab] at RW ⊢;clear ab u0 uf;obtain⟨r0,rf⟩:=zdE RW.o.rc;have ai:zE (List.replicate g.ms.length false)=0:=by unfold zE;rw[List.count_replicate];rfl
 go_wp2_with fail;refine (zw5 w base G g q z (z+1) (q+1+1) J HL.o hn ac g.ms.length 0 _ [] _ RW.o (by omega) (by omega) (Nat.zero_le _) HO.o).mono ?_;rintro e W3 ⟨rfl,hw⟩;have R3:=zc hw;clear hw RW r0 rf;obtain⟨r,h1,h2⟩:=R3.o.oc;obtain⟨z0,zf⟩:=zdE h1;have H2:=zc h2;clear h1 h2;go_wp2;go_ret;exact⟨r,rfl,H2.o,R3.o.b⟩
theorem zw8 (O:zfI 65) (N:zfJ 66) (base:Nat) (G:GS) (g:Gr) (w:World) (ho:GrOwn w base G g) (hg:GdG g):
  Calls prog 10 #[grD G g] w fun e w'=>SameOut (GrI g) e/\Below w.heap.size w w':=by
 have J:=zc ho;have HG:=zc hg;have CM:=zc O;have CE:=zc N;have am:=hg.pl;have al:=hg.ml;have aj:=hg.ll;clear ho hg O N;unfold grD;go_enter func10,ntmps10;go_upto_region 1 with fail;obtain⟨gx,Y⟩: ∃gx,gx=w.heap.size:=⟨_,rfl⟩;rw[<-Y];refine zx (R:=fun W=>Bk W gx (grC G g) 32/\Below w.heap.size w W) ⟨by rw[Y];exact heap_alloc_new w _,zaB w _⟩ ?_;clear Y;rintro I ⟨hx,z⟩;have X:=zc hx;have A:=zc z;obtain⟨c0,c1,c2,cf⟩:=zo hx;clear hx z;by_cases h1:(g.ms.length:Int)<1
 ·have Z:Hid (¬GrI g):=fun k=>by have:=k.1;omega
  go_wp2;go_ret;exact⟨zbx Z.o rfl,A.o⟩
 by_cases h2:(g.ms.length:Int)<=8
 case neg=>
  have Z:Hid (¬GrI g):=fun k=>by have:=k.1;omega
  go_wp2;go_ret;exact⟨zbx Z.o rfl,A.o⟩
 by_cases h3:(g.ps.length:Int)=(g.ms.length:Int)
 case neg=>
  have Z:Hid (¬GrI g):=fun k=>by have:=k.2.1;omega
  have h4:((g.ps.length:Int) !=(g.ms.length:Int))=true:=bne_iff_ne.2 h3;go_wp2;go_ret;exact⟨zbx Z.o rfl,A.o⟩
 go_upto_region 3 with fail;have hp:g.ps.length=g.ms.length:=by omega
 have HP:=zc hp;have ab:1<=g.ms.length:=by omega
 have ad:g.ms.length<=8:=by omega
 clear h1 h2 h3 c0 c1 c2 cf;obtain⟨Y0,Y1,Y2,_⟩:=zo X.o;have Z0:=zc Y0;have Z1:=zc Y1;have Z2:=zc Y2;clear Y0 Y1 Y2 hp;have cA: ∀(b:Bool),(b=true↔∀i,i<g.ps.length->zcc g.ps i)->∀d H,Calls prog 34 #[.slice G.pr.a g.ps.length G.pr.cap] (grow (redrawn I d) H) fun e K=>e= .returned (.bool b)/\∃q:Regrown,K=grow (redrawn I q.d) q.os:=fun b z d H=>Calls.regrown_of ((zmX base G.pr.a G.pr.cap g.ps _ ((J.o.later A.o).later (below_regrown I d H)).ps (by have:=HP.o;omega) HG.o.ps).mono fun e w' h=>⟨h.1.of z,h.2⟩);have cB: ∀(b:Bool),(b=true↔zcV g.ms)->∀d H,Calls prog 35 #[.slice G.mr.a g.ms.length G.mr.cap] (grow (redrawn I d) H) fun e K=>e= .returned (.bool b)/\∃q:Regrown,K=grow (redrawn I q.d) q.os:=fun b z d H=>Calls.regrown_of ((zmY CM.o CE.o base G.mr.a G.mr.cap G.sv g.ms _ J.o.len ((J.o.later A.o).later (below_regrown I d H)).ms ((J.o.later A.o).later (below_regrown I d H)).md HG.o.ms (by omega)).mono fun e w' h=>⟨h.1.of z,h.2⟩);have cC: ∀(b:Bool),(b=true↔zbQ (zC g) g.ls)->∀d H,Calls prog 36 #[grD G g] (grow (redrawn I d) H) fun e K=>e= .returned (.bool b)/\∃q:Regrown,K=grow (redrawn I q.d) q.os:=fun b z d H=>Calls.regrown_of ((znb base G g _ ((J.o.later A.o).later (below_regrown I d H)) HG.o).mono fun e w' h=>⟨h.1.of z,h.2⟩);unfold grD at cC;have ag:(¬(∀i,i<g.ps.length->zcc g.ps i))∨((∀i,i<g.ps.length->zcc g.ps i)/\(¬zcV g.ms∨(zcV g.ms/\(¬zbQ (zC g) g.ls∨zbQ (zC g) g.ls)))):=by
  by_cases L: ∀i,i<g.ps.length->zcc g.ps i
  ·by_cases M:zcV g.ms
   ·exact .inr ⟨L,.inr ⟨M,(Classical.em _).symm⟩⟩
   ·exact .inr ⟨L,.inl M⟩
  ·exact .inl L
 rcases ag with L|⟨L,M|⟨M,k3|k3⟩⟩
 case inr.inr.inr=>
  clear cA cB cC;have ac:=zc L;have ae:=zc M;have aa:=zc k3;clear L M k3;obtain⟨z0,z1,z2,zf⟩:=zo X.o;go_region_with (first|(go_at_call 34;refine (zmX base G.pr.a G.pr.cap g.ps _ (J.o.later A.o.drew).ps (by have:=HP.o;omega) HG.o.ps).mono ?_;rintro e w1 ⟨V,z⟩;obtain rfl:=V.of (b:=true) (iff_of_true rfl ac.o);have B1:Hid (Below I.heap.size I w1):=(((Below.refl _ _).drew).trans z);clear V z;obtain⟨p0,p1,p2,pf⟩:=zo (X.o.later B1.o))|(go_at_call 35;refine (zmY CM.o CE.o base G.mr.a G.mr.cap G.sv g.ms _ J.o.len ((J.o.later A.o).later B1.o).ms ((J.o.later A.o).later B1.o).md HG.o.ms (by omega)).mono ?_;rintro e w2 ⟨V,z⟩;obtain rfl:=V.of (b:=true) (iff_of_true rfl ae.o);have B2:=zc (zaf B1.o z);clear V z;obtain⟨q0,q1,q2,qf⟩:=zo (X.o.later B2.o))|(go_at_call 36;refine (znb base G g _ ((J.o.later A.o).later B2.o) HG.o).mono ?_;rintro e w3 ⟨V,z⟩;obtain rfl:=V.of (b:=true) (iff_of_true rfl aa.o);have B3:=zc (zaf B2.o z);clear V z;obtain⟨r0,r1,r2,rf⟩:=zo (X.o.later B3.o))|(go_at_call 37;refine (zw7 base G g _ ((J.o.later A.o).later B3.o) aa.o ab ad aj).mono ?_;rintro e w4 ⟨r,rfl,ak,z⟩;have B4:=zc (zaf B3.o z);clear ak z;obtain⟨s0,s1,s2,sf⟩:=zo (X.o.later B4.o)))
  all_goals (
   have ai:=zc (zaf A.o B4.o);clear B1 B2 B3 B4 p0 p1 p2 pf q0 q1 q2 qf r0 r1 r2 rf s0 s1 s2 sf;go_wp2;go_ret;refine⟨⟨_,rfl,?_⟩,ai.o⟩;rw[beq_iff_eq];refine⟨fun h=>⟨⟨ab,ad⟩,HP.o,ac.o,ae.o,aa.o,(Int.ofNat.inj h:(ziX g).length=g.ms.length)⟩,fun k=>?_⟩
   rw[show (ziX g).length=g.ms.length from k.2.2.2.2.2])
 all_goals (
  have Z:Hid (¬GrI g):=fun k=>by first|exact L k.2.2.1|exact M k.2.2.2.1|exact k3 k.2.2.2.2.1
  have z0:=cell_regrown Z0.o;have z1:=cell_regrown Z1.o;have z2:=cell_regrown Z2.o;refine wp_region_quiet_below (by kernel_rfl) (by kernel_rfl) ?_
  repeat (go_big_quiet_step (first|with_reducible exact cA true (iff_of_true rfl L) _ _|with_reducible exact cA false (by simp only[Bool.false_eq_true,false_iff];exact L) _ _|with_reducible exact cB true (iff_of_true rfl M) _ _|with_reducible exact cB false (by simp only[Bool.false_eq_true,false_iff];exact M) _ _|with_reducible exact cC false (by simp only[Bool.false_eq_true,false_iff];exact k3) _ _))
  refine wpQuiet_nil ?_;intro w2 af;obtain⟨q,U⟩:=af;have ah:=zc (zaf A.o (zdT U));clear U z0 z1 z2;go_wp2;go_ret
  exact⟨zbx Z.o rfl,ah.o⟩)
end Go.Proofs.YtgcbmogmniahjaaGreat
namespace Go.Proofs.YtgcbmogmniahjaaGreat
open Go.Proofs.Tryz
set_option maxRecDepth 100000
set_option maxHeartbeats 6400000
open Go.RowKit Go.PlainAid
theorem zw9:GrC 8:=fun h G g w z q=>zwm zvY zwa h G g w z q
theorem zwA:GrC 10:=fun q G g w A z=>(zw8 zvZ zwc q G g w A z).mono fun _ _ h=>⟨by obtain⟨b,e,k⟩:=h.1;exact⟨b,e,k.trans (zqT g).symm⟩,h.2⟩
open Go.Sort
theorem zwB (Z b2:Nat) (Y X:Sv) (m:Md) (w:World) (h1:OwnMd w Z Y m) (h2:OwnMd w b2 X m) (hf:zdK m):
  Calls prog 69 #[zl Y m,zl X m] w fun e w'=>e= .returned (.bool true)/\Below w.heap.size w w':=by
 have H1:=zc h1;have H2:=zc h2;have HF:=zc hf;clear h1 h2 hf;unfold zl;go_enter func69,ntmps69;go_upto_region 1 with fail;refine zx (R:=TwoM w Z b2 Y X m m) (zhG w Z b2 Y X m m H1.o H2.o) ?_;clear H1 H2;intro w0 h;have T0:=zc h;clear h;obtain⟨V,J,L,O,K,N⟩:=zj T0.o.1;obtain⟨M,I,z,H,U,A⟩:=zj T0.o.2.1;go_wp2_with fail;refine (zk0 Z b2 Y.rq X.rq m.rq w0 (by rw[<-zeN];exact T0.o.2.2.1.rq) (by rw[<-zeN];exact T0.o.2.2.2.1.rq) HF.o.1).mono ?_;rintro e w1 ⟨rfl,q⟩;have T1:=zc (T0.o.later q);clear q V J L O K N M I z H U A;obtain⟨V,J,L,O,K,N⟩:=zj T1.o.1;obtain⟨M,I,z,H,U,A⟩:=zj T1.o.2.1;go_wp2_with fail;refine (zqh Z b2 Y.im X.im m.im w1 T1.o.2.2.1.im T1.o.2.2.2.1.im HF.o.2.1).mono ?_;rintro e w2 ⟨rfl,q⟩;have T2:=zc (T1.o.later q);clear q V J L O K N M I z H U A;obtain⟨V,J,L,O,K,N⟩:=zj T2.o.1;obtain⟨M,I,z,H,U,A⟩:=zj T2.o.2.1;go_wp2_with fail;refine (zql Z b2 Y.ep X.ep m.ep w2 T2.o.2.2.1.ep T2.o.2.2.2.1.ep HF.o.2.2.1).mono ?_;rintro e w3 ⟨rfl,q⟩;have T3:=zc (T2.o.later q);clear q V J L O K N M I z H U A;obtain⟨V,J,L,O,K,N⟩:=zj T3.o.1;obtain⟨M,I,z,H,U,A⟩:=zj T3.o.2.1;go_wp2_with fail;refine (zqp Z b2 Y.st X.st m.st w3 T3.o.2.2.1.st T3.o.2.2.2.1.st HF.o.2.2.2.1).mono ?_;rintro e w4 ⟨rfl,q⟩;have T4:=zc (T3.o.later q);clear q V J L O K N M I z H U A;obtain⟨V,J,L,O,K,N⟩:=zj T4.o.1;obtain⟨M,I,z,H,U,A⟩:=zj T4.o.2.1;go_wp2_with fail;refine (zqt Z b2 Y.ex X.ex m.ex w4 T4.o.2.2.1.ex T4.o.2.2.2.1.ex HF.o.2.2.2.2).mono ?_;rintro e w5 ⟨rfl,q⟩;have T5:=zc (T4.o.later q);clear q V J L O K N M I z H U A;obtain⟨V,J,L,O,K,N⟩:=zj T5.o.1;obtain⟨M,I,z,H,U,A⟩:=zj T5.o.2.1;go_wp2;go_ret;exact⟨rfl,T5.o.2.2.2.2⟩
theorem zwC (q z:Option Addr) (A h:Nat) (w:World):Calls prog 39 #[.slice q 0 A,.slice z 0 h] w fun e w'=>e= .returned (.bool true)/\Below w.heap.size w w':=by
 go_enter func39,ntmps39;go_wp2;go_loopg [5] 1 (fun k i wr=>k=1/\i= .int .i64 0/\wr=w)
 case atStart=>exact⟨rfl,rfl,rfl⟩
 case round=>
  obtain⟨rfl,rfl,rfl⟩:=hrel;go_wp2;go_ret;exact⟨rfl,Below.refl _ _⟩
theorem zwD (O b2 g1 g2:Nat) (X r2:Rw) (U V:List Sv) (l:List Md) (w:World) (hu:U.length=l.length) (hv:V.length=l.length) (q:OwnR w O 54 5 X l.length ((U.zip l).flatMap mdL)) (h:OwnR w b2 54 5 r2 l.length ((V.zip l).flatMap mdL)) (m1: ∀x∈U.zip l,OwnMd w O x.1 x.2) (m2: ∀x∈V.zip l,OwnMd w b2 x.1 x.2) (e1:X.a=some ⟨g1,0,none⟩) (e2:r2.a=some ⟨g2,0,none⟩) (hl:l.length<=4294967296) (hf: ∀m∈l,zdK m):
  Calls prog 39 #[.slice (some ⟨g1,0,none⟩) l.length X.cap,.slice (some ⟨g2,0,none⟩) l.length r2.cap] w fun e w'=>e= .returned (.bool true)/\Below w.heap.size w w':=by
 have H1:=zc (zeQ hu q);have H2:=zc (zeQ hv h);have M1:=zc m1;have M2:=zc m2;have E1:=zc e1;have E2:=zc e2;have HU:=zc hu;have HV:=zc hv;have HF:=zc hf;clear q h e1 e2 m1 m2 hu hv hf;go_enter func39,ntmps39;go_wp2;go_loopg [5] l.length (fun k i wr=>∃j:Nat,i= .int .i64 j/\j+k=l.length/\Below w.heap.size w wr)
 case atStart=>exact⟨0,rfl,by omega,Below.refl _ _⟩
 case round=>
  obtain⟨j,rfl,hj,hb⟩:=hrel;have A:=zc hb;clear hb;by_cases N:j<l.length
  ·have I:(j:Int)<(l.length:Int):=by omega
   obtain⟨x,L⟩:=zet N;obtain⟨s,hs⟩:=zdS HU.o L;obtain⟨t,Y⟩:=zdS HV.o L;obtain⟨g',ga,q⟩:=OwnR.elem (f:=mdL) (m:=5) (fun _=>rfl) (H1.o.later A.o) hs;obtain rfl:g'=g1:=by have:=ga.symm.trans E1.o;simpa using this
   obtain⟨g',gb,h⟩:=OwnR.elem (f:=mdL) (m:=5) (fun _=>rfl) (H2.o.later A.o) Y;obtain rfl:g'=g2:=by have:=gb.symm.trans E2.o;simpa using this
   have cQ: ∀d K,Calls prog 69 #[zl s x,zl t x] (grow (redrawn wr d) K) fun e ab=>e= .returned (.bool true)/\∃p:Regrown,ab=grow (redrawn wr p.d) p.os:=fun d K=>Calls.regrown_of (zwB O b2 s t x _ (((M1.o _ (List.mem_of_getElem? hs)).later A.o).later (below_regrown wr d K)) (((M2.o _ (List.mem_of_getElem? Y)).later A.o).later (below_regrown wr d K)) (HF.o x (List.mem_of_getElem? L)));unfold zl at cQ;have C0:=zc (q 0 (by omega));have D0:=zc (h 0 (by omega));have C1:=zc (q 1 (by omega));have D1:=zc (h 1 (by omega));have C2:=zc (q 2 (by omega));have D2:=zc (h 2 (by omega));have C3:=zc (q 3 (by omega));have D3:=zc (h 3 (by omega));have C4:=zc (q 4 (by omega));have D4:=zc (h 4 (by omega));clear q h ga gb L hs Y;obtain⟨J,H⟩: ∃J,J=j+1:=⟨_,rfl⟩;have ej:(j:Int)+1=(J:Int):=by omega
   have HJ:=zc H;clear H;go_wp2;have k0:=cell_regrown C0.o;have l0:=cell_regrown D0.o;have k1:=cell_regrown C1.o;have l1:=cell_regrown D1.o;have k2:=cell_regrown C2.o;have l2:=cell_regrown D2.o;have k3:=cell_regrown C3.o;have l3:=cell_regrown D3.o;have k4:=cell_regrown C4.o;have l4:=cell_regrown D4.o;simp only[Nat.add_zero] at k0 l0;refine wp_region_quiet_below (by kernel_rfl) (by kernel_rfl) ?_
   repeat (go_big_quiet_step (exact cQ _ _))
   refine wpQuiet_nil ?_;intro w2 M;obtain⟨⟨dq,Z⟩,z⟩:=M;have aa:Hid (Below w.heap.size w w2):=by show Below _ _ _;rw[z];exact A.o.trans ((below_regrown wr dq Z).mono A.o.size)
   clear z k0 l0 C0 D0 k1 l1 C1 D1 k2 l2 C2 D2 k3 l3 C3 D3 k4 l4 C4 D4 cQ;go_wp2;go_roundg (gk-1)
   case rel=>exact⟨J,rfl,by have:=HJ.o;omega,aa.o⟩
   case measure=>omega
  ·have I: ¬(j:Int)<(l.length:Int):=by omega
   go_wp2;go_ret;exact⟨rfl,A.o⟩
def ziY (g:Gr):Prop:=g.ps.length<=4294967296/\g.ms.length<=4294967296/\g.ls.length<=4294967296/\∀m∈g.ms,zdK m
theorem zwE (J b2:Nat) (h q:GS) (g:Gr) (w:World) (A:GrOwn w J h g) (z:GrOwn w b2 q g) (I:ziY g):
  Calls prog 39 #[.slice h.mr.a g.ms.length h.mr.cap,.slice q.mr.a g.ms.length q.mr.cap] w fun e w'=>e= .returned (.bool true)/\Below w.heap.size w w':=by
 by_cases H:g.ms.length=0
 ·rw[H];exact zwC _ _ _ _ w
 ·rcases A.ms.nil_or with ⟨_,_,e⟩|⟨N,K⟩
  ·exact absurd e H
  ·rcases z.ms.nil_or with ⟨_,_,e⟩|⟨M,L⟩
   ·exact absurd e H
   ·rw[K,L];exact zwD J b2 N M h.mr q.mr h.sv q.sv g.ms w A.len z.len A.ms z.ms A.md z.md K L I.2.1 I.2.2.2
structure TwoG (w0:World) (b1 b2:Nat) (G1 G2:GS) (g:Gr) (w:World):Prop where
 x:Bk w w0.heap.size (grC G1 g) 32
 y:Bk w (w0.heap.size+1) (grC G2 g) 32
 o1:GrOwn w b1 G1 g
 o2:GrOwn w b2 G2 g
 b:Below w0.heap.size w0 w
theorem TwoG.later {w0 w w':World} {H b2:Nat} {z A:GS} {g:Gr} (h:TwoG w0 H b2 z A g w) (q:Below w.heap.size w w'):TwoG w0 H b2 z A g w':=⟨h.x.later q,h.y.later q,h.o1.later q,h.o2.later q,zaf h.b q⟩
theorem zwF (w:World) (H b2:Nat) (h q:GS) (g:Gr) (J:GrOwn w H h g) (I:GrOwn w b2 q g):TwoG w H b2 h q g ((w.alloc (.cells (grC h g) 32)).alloc (.cells (grC q g) 32)):=by
 have A:=zaB w (.cells (grC h g) 32);have z:=zaB (w.alloc (.cells (grC h g) 32)) (.cells (grC q g) 32);refine⟨Bk.later (heap_alloc_new w _) z,?_,(J.later A).later z,(I.later A).later z,zaf A z⟩;have:=heap_alloc_new (w.alloc (.cells (grC h g) 32)) (.cells (grC q g) 32);rw[zg] at this;exact this
theorem zwG (H b2:Nat) (A z:GS) (g:Gr) (w:World) (h1:GrOwn w H A g) (h2:GrOwn w b2 z g) (hf:ziY g):
  Calls prog 11 #[grD A g,grD z g] w fun e w'=>e= .returned (.bool true)/\Below w.heap.size w w':=by
 have H1:=zc h1;have H2:=zc h2;have Z:=zc hf;clear h1 h2 hf;unfold grD;go_enter func11,ntmps11;go_upto_region 1 with fail;refine zx (R:=TwoG w H b2 A z g) (zwF w H b2 A z g H1.o H2.o) ?_;clear H1 H2;intro w0 h;have J:=zc h;clear h;obtain⟨Y,O,U,X⟩:=zo J.o.x;obtain⟨V,N,M,L⟩:=zo J.o.y;go_wp2_with fail;refine (zk0 H b2 A.pr z.pr g.ps w0 J.o.o1.ps J.o.o2.ps Z.o.1).mono ?_;rintro e w1 ⟨rfl,q⟩;have I:=zc (J.o.later q);clear q Y O U X V N M L J;obtain⟨Y,O,U,X⟩:=zo I.o.x;obtain⟨V,N,M,L⟩:=zo I.o.y;go_wp2_with fail;refine (zwE H b2 A z g w1 I.o.o1 I.o.o2 Z.o).mono ?_;rintro e w2 ⟨rfl,q⟩;have K:=zc (I.o.later q);clear q Y O U X V N M L I;obtain⟨Y,O,U,X⟩:=zo K.o.x;obtain⟨V,N,M,L⟩:=zo K.o.y;go_wp2_with fail;refine (zq7 H b2 A.lr z.lr g.ls w2 K.o.o1.ls K.o.o2.ls Z.o.2.2.1).mono ?_;rintro e w3 ⟨rfl,q⟩;have T3:=zc (K.o.later q);clear q Y O U X V N M L K;go_wp2;go_ret;exact⟨rfl,T3.o.b⟩
theorem zwH {A:GA} {g:Gr} (H:A.ms.map (·.2)=g.ms) (h:zfF A g<=1048576) (J: ∀x∈A.ms,zaW x.2.ex):GdG g/\ziY g/\(∀x∈A.ms,zfG x.2)/\A.ms.length<=1048576:=by
 have e:zfF A g=(g.ps.length+zF zbZ g.ps)+(A.ms.length+zF zds A.ms)+(g.ls.length+zF zeu g.ls):=rfl;have M:A.ms.length=g.ms.length:=by rw[<-H,List.length_map]
 have w: ∀x∈A.ms,zbv x.2<=1048576:=fun x q=>by have:=zdt (c:=zds) q;have O:zds x=zbv x.2:=rfl;omega
 have N:zaq (zC g)<=zF zds A.ms:=by
  unfold zaq zC zF;rw[<-H,List.map_map,List.map_map];clear H h J e M w
  induction A.ms with
  |nil=>exact Nat.le_refl _
  |cons x l L=>
   rw[List.map_cons,List.sum_cons,List.map_cons,List.sum_cons];have:x.2.rq.length<=zds x:=by
    show _<=zbv x.2;unfold zbv;omega
   exact Nat.add_le_add this L
 have I: ∀x∈A.ms,zfG x.2:=fun x q=>by
  have:=w x q;unfold zbv at this;exact⟨by omega,by omega,by omega,by omega,by omega⟩
 refine⟨⟨fun m z=>?_,fun p K=>?_,by omega,by omega,by omega,by omega⟩,⟨by omega,by omega,by omega,fun m z=>?_⟩,I,by omega⟩
 ·rw[<-H] at z;obtain⟨x,q,rfl⟩:=List.mem_map.1 z;exact⟨w x q,J x q⟩
 ·have:=zdt (c:=zbZ) K;have O:zbZ p=p.size:=rfl;omega
 ·rw[<-H] at z;obtain⟨x,q,rfl⟩:=List.mem_map.1 z;have:=I x q;unfold zfG at this;exact⟨by omega,by omega,by omega,by omega,by omega⟩
theorem zwI (base:Nat) (G:GS) (g:Gr) (z:Nat) (hm:z<g.ms.length) (w:World) (ho:GrOwn w base G g) (hn:1<=g.ms.length) (ax:g.ms.length<=8) (hl:g.ls.length<=1048576) (hr: ∀l∈g.ls,0<=l.frm/\l.frm<(g.ms.length:Int)/\0<=l.to/\l.to<(g.ms.length:Int)):
  Calls prog 41 #[grD G g,.int .i64 (z:Int)] w fun e w'=>ziS w g.ms.length (zai g.ls g.ms.length (zay g.ms.length z)) e w':=by
 have HR:=zc (RowAt.of (f:=lkL) (m:=3) (fun _=>rfl) ho.ls);have HC:=zc hr;clear ho hr;obtain⟨i0,hi,ai,am,ak⟩:=info_parts Tryz.infoBl;unfold grD;go_enter func41,ntmps41;go_upto_region 1 with fail;obtain⟨A,O⟩: ∃A,A=w.heap.size:=⟨_,rfl⟩;rw[<-O];refine zx (R:=fun W=>Bk W A (grC G g) 32/\Below w.heap.size w W) (by rw[O];exact⟨heap_alloc_new w _,zaB w _⟩) ?_;rintro W0 ⟨hx,hb⟩;have av:w.heap.size<=A:=by omega
 clear O;have X0:=zc hx;have V:=zc hb;have ah:A<W0.heap.size:=(aLt hx);clear hx hb;obtain⟨c0,c1,M,cf⟩:=zo X0.o;go_wp2_with (first|(at_make;refine wpList_make_full W0 rfl _ _ 58 rfl w.heap.size 4 i0 _ 1 underlying58 hi ai am .i64 .i64 _ _ g.ms.length (by rfl) (by rfl) rfl rfl (by rw[ak];omega) (by unfold maxLen;omega) V.o.size ?_));intro w1 q L;have aa:Below W0.heap.size W0 w1:=(Below.refl _ _).grown L (Nat.le_refl _) (fun k h=>by cases h);obtain⟨K,Z⟩: ∃K,K=W0.heap.size:=⟨_,rfl⟩;have RR:Hid (RchW w w1 G g A K g.ms.length (List.replicate g.ms.length false)):=by
  refine⟨X0.o.later aa,?_,by omega,zaf V.o aa⟩;unfold OwnBl OwnR;rw[toList_madeCells_one] at q;rw[Z,List.map_replicate];exact q
 rw[<-Z];clear q L aa Z X0 V ah c0 c1 M cf;obtain⟨c0,c1,M,cf⟩:=zo RR.o.x;have f0:=RR.o.r.free z;have b0:=RR.o.r.cell (j:=z) (v:=false) (by rw[List.getElem?_replicate,if_pos (by omega)]);have ar:(z:Int)<(g.ms.length:Int):=by omega
 have R1:=zc (RR.o.set z);go_upto_region 3 with fail;obtain⟨w2,ab⟩: ∃w2,w2=w1.setCell ⟨K,z,none⟩ (.bool true):=⟨_,rfl⟩;rw[<-ab] at R1 ⊢;clear ab RR f0 b0 c0 c1 M cf;have an:(List.replicate g.ms.length false).length=g.ms.length:=List.length_replicate ..;change Hid (RchW w w2 G g A K g.ms.length (zay g.ms.length z)) at R1;go_wp2;go_loopg [6,7] g.ms.length (fun k s4 s5 wr=>∃r:Nat,s4= .int .i64 r/\r+k=g.ms.length/\RchW w wr G g A K g.ms.length (zai g.ls r (zay g.ms.length z)))
 case atStart=>exact⟨0,rfl,by omega,R1.o⟩
 case round=>
  obtain⟨r,rfl,hr,hw⟩:=hrel;have RW:=zc hw;clear hw R1;obtain⟨c0,c1,M,cf⟩:=zo RW.o.x;by_cases ap:r<g.ms.length
  ·have ae:(r:Int)<(g.ms.length:Int):=by omega
   obtain⟨r1,ac⟩: ∃r1,r1=r+1:=⟨_,rfl⟩;have er:(r:Int)+1=(r1:Int):=by omega
   have U:=zc ac;clear ac;go_wp2;clear c0 c1 M cf;go_loopg [7] g.ls.length (fun k s5 wq=>∃i:Nat,s5= .int .i64 i/\i+k=g.ls.length/\RchW w wq G g A K g.ms.length (zbf (g.ls.take i) (zai g.ls r (zay g.ms.length z))))
   case atStart=>exact⟨0,rfl,by omega,RW.o⟩
   case round=>
    obtain⟨i,rfl,ao,hw⟩:=hrel;have H:=zc hw;clear hw;obtain⟨c0,c1,M,cf⟩:=zo H.o.x;by_cases al:i<g.ls.length
    ·have ag:(i:Int)<(g.ls.length:Int):=by omega
     obtain⟨l,J⟩: ∃l,g.ls[i]? =some l:=⟨_,List.getElem?_eq_getElem al⟩;obtain⟨y0,y1,y2,y3⟩:=HC.o l (List.mem_of_getElem? J);obtain⟨bl,aq,af,hc⟩:=(HR.o.later H.o.b).get J;have k0:=hc 0 _ rfl;have k2:=hc 2 _ rfl;have HN:=zc (zmN J (zai g.ls r (zay g.ms.length z)));simp only[Nat.add_zero] at k0;clear hc J;obtain⟨fr,Y⟩: ∃fr:Nat,l.frm=fr:=⟨l.frm.toNat,by omega⟩;obtain⟨X,N⟩: ∃X:Nat,l.to=X:=⟨l.to.toNat,by omega⟩;obtain⟨b,hb⟩: ∃b,b=zbf (g.ls.take i) (zai g.ls r (zay g.ms.length z)):=⟨_,rfl⟩;rw[<-hb] at H HN;clear hb;have aj:=H.o.r.len;obtain⟨v,hv⟩: ∃v,b[fr]? =some v:=⟨_,List.getElem?_eq_getElem (by omega)⟩;obtain⟨u,hu⟩: ∃u,b[X]? =some u:=⟨_,List.getElem?_eq_getElem (by omega)⟩;have HS:Hid (zbM b l=if v=true then b.set X true else b):=by
      show zbM b l=_;unfold zbM;rw[Y,N,Int.toNat_natCast,Int.toNat_natCast,List.getD,hv];rfl
     have b0:=H.o.r.cell hv;have b1:=H.o.r.cell hu;have f1:=H.o.r.free X;have au:(fr:Int)<(g.ms.length:Int):=by omega
     have aw:(X:Int)<(g.ms.length:Int):=by omega
     have Q1:=zc (H.o.set X);rw[Y] at k0;rw[N] at k2;rw[af] at M;clear Y N af hv hu aj y0 y1 y2 y3;obtain⟨i1,ad⟩: ∃i1,i1=i+1:=⟨_,rfl⟩;have ei:(i:Int)+1=(i1:Int):=by omega
     have I:=zc ad;clear ad;cases v with
     |true=>
      go_wp2;go_roundg (gk-1)
      case rel=>exact⟨i1,rfl,by have:=I.o;omega,by rw[I.o,HN.o,HS.o];exact Q1.o⟩
      case measure=>omega
     |false=>
      go_wp2;go_roundg (gk-1)
      case rel=>exact⟨i1,rfl,by have:=I.o;omega,by rw[I.o,HN.o,HS.o];exact H.o⟩
      case measure=>omega
    ·have ag: ¬(i:Int)<(g.ls.length:Int):=by omega
     have QE:Hid (RchW w wr G g A K g.ms.length (zai g.ls r1 (zay g.ms.length z))):=by
      show RchW ..;rw[U.o,zhL];have:=H.o;rw[List.take_of_length_le (by omega)] at this;exact this
     go_wp2;go_roundg (g.ms.length-r1)
     case rel=>exact⟨r1,rfl,by have:=U.o;omega,QE.o⟩
     case measure=>have:=U.o;omega
  ·have ae: ¬(r:Int)<(g.ms.length:Int):=by omega
   obtain rfl:r=g.ms.length:=by omega
   go_wp2;go_ret;exact⟨K,rfl,RW.o.r,RW.o.b⟩
end Go.Proofs.YtgcbmogmniahjaaGreat
