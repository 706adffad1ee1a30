/-
  What spec's l4List answers: the walk.
  What spec's l4Part answers,if l4Sum answers so behind it: the walks.
  What spec's l4Part answers where no number and no bracket stands,in a script: the walks.
  What spec's l4Part answers where no number and no bracket stands: the walks.
  What spec's l4Part,l4Product and l4Sum answer: the walks of the two loops,and the three together.
  What spec's l4Let and l4Fn answer: the walks.
  What spec's l4Import answers: the walks.
  What spec's l4Export answers: the walks.
-/
import Derived.Test.YtjdddblpfbmpaaaGreatCoReadAgainToSpecParseF
namespace Go.Proofs.YtjdddblpfbmpaaaGreat
set_option maxRecDepth 100000
set_option maxHeartbeats 6400000
open Go.RowKit Go.PlainAid
theorem zpd {C:Cx} {j:Bool} {l:List Ep} {Y:PRN} {H w:ByteArray} {K J q:PS} {M D A:Int} (L:Is2 Y K M H) (n:Is2 (bd Y (asP C j)) J D w) (E:(decide (D<0)&&isT C J.pos 4 zbl)=false) (h:Is (bd (zaE (bd Y (asP C j))) (zd C 4 zbb)) q A):
  Is3 (bd Y fun a=>bd (asP C j a) fun b=>if isT C b.1.pos 4 zbl then zat C j (adv b.1) (l++[⟨0,b.2,a.2,sNone⟩]) else bd (zd C 4 zbb b.1) fun q'=>.ok (q',l++[⟨0,b.2,a.2,sNone⟩])) q A (l++[⟨0,w,H,sNone⟩]):=by
 cases Y with
 |error e=>exact h
 |ok a=>
  obtain⟨_,_,rfl⟩:=L
  rw[zx] at n h ⊢
  cases I:asP C j a with
  |error e=>rw[I] at h;exact h
  |ok b=>
   rw[I] at n h
   obtain⟨rfl,rfl,rfl⟩:=n
   rw[Bool.and_eq_false_iff] at E
   rw[zx,E.resolve_left (by decide)]
   have e:bd (zaE (.ok b)) (zd C 4 zbb)=zd C 4 zbb b.1:=rfl
   rw[e] at h
   show Is3 (bd (zd C 4 zbb b.1) _) _ _ _
   cases z:zd C 4 zbb b.1 with
   |error e=>rw[z] at h;exact h
   |ok c=>rw[z] at h;exact⟨h.1,h.2,rfl⟩
theorem zpe {C:Cx} {j:Bool} {l:List Ep} {n J z:PS} {I H:ByteArray} {L w:Int} (D:Is2 (bd (.ok n) (zh C true)) J L I) (h:Is2 (bd (bd (.ok n) (zh C true)) (asP C j)) z w H) (M:w<0) (K:isT C z.pos 4 zbl=true):
  (bd (.ok n) fun q=>zat C j q l)=(bd (.ok (adv z)) fun q=>zat C j q (l++[⟨0,H,I,sNone⟩]))∧n.pos+1≤z.pos:=by
 rw[zx] at D h ⊢
 rw[zx,zeL]
 cases A:zh C true n with
 |error e=>rw[A] at h;have:w=(e:Int):=h;omega
 |ok a=>
  rw[A] at D h
  obtain⟨_,_,rfl⟩:=D
  rw[zx] at h ⊢
  obtain⟨rfl,_⟩:=zbc A
  cases E:asP C j (adv n,(ze C n.pos).text) with
  |error e=>rw[E] at h;have:w=(e:Int):=h;omega
  |ok b=>
   rw[E] at h
   obtain⟨rfl,rfl,rfl⟩:=h
   have:=zeg E
   rw[zx,K]
   exact⟨rfl,this⟩
theorem zpf {C:Cx} {h:Bool} {x:PR} {q j:PS} {z n:Int} {l:List Ep} (A:Is x q z) (D: ¬z<0) (w:Is (bd x (zd C 4 zbb)) j n):Is3 (bd x fun q=>zat C h q l) j n l:=by
 obtain⟨e,rfl,_⟩:=zcM A D
 exact w
theorem zpg {C:Cx} {h:Bool} {Y:PRN} {j w:PS} {n q:Int} {H D:ByteArray} (z:Is2 Y j n H) (A:(decide (n<0)&&isT C j.pos 1 sAs)=true) (E:Is2 (bd (.ok (adv j)) (zh C h)) w q D):Is2 (bd Y (asP C h)) w q D:=by
 rw[Bool.and_eq_true,decide_eq_true_eq] at A
 cases Y with
 |error e=>have:n=(e:Int):=z;omega
 |ok a=>
  obtain⟨rfl,_,_⟩:=z
  rw[zx,asP,if_pos A.2]
  exact E
theorem zph {C:Cx} {q:Bool} {Y:PRN} {j:PS} {n:Int} {w:ByteArray} (z:Is2 Y j n w) (A:(decide (n<0)&&isT C j.pos 1 sAs)=false) (D:((w.toList==[100,101,102,97,117,108,116])&& !q)=true):Is2 (bd Y (asP C q)) j (zbf C j.pos n) w:=by
 cases Y with
 |error e=>
  have h:n=(e:Int):=z
  show zbf C j.pos n=(e:Int)
  rw[zbf,if_neg (by omega)]
  exact h
 |ok a=>
  obtain⟨rfl,rfl,rfl⟩:=z
  rw[Bool.and_eq_false_iff] at A
  rw[zx,asP,A.resolve_left (by decide),D]
  rfl
theorem zjd {C:Cx} {h:Bool} {Y:PRN} {j:PS} {n:Int} {q:ByteArray} (w:Is2 Y j n q) (z:(decide (n<0)&&isT C j.pos 1 sAs)=false) (A:((q.toList==[100,101,102,97,117,108,116])&& !h)=false):Is2 (bd Y (asP C h)) j n q:=by
 cases Y with
 |error e=>exact w
 |ok a=>
  obtain⟨rfl,rfl,rfl⟩:=w
  rw[Bool.and_eq_false_iff] at z
  rw[zx,asP,z.resolve_left (by decide),A]
  exact⟨rfl,rfl,rfl⟩
theorem zje (C:Cx) (D n h:Nat) (S:Sv) (q:PS) (d:Nat) (K:Bool) (w:World) (hm:Mem C D n h S q w):
  Calls Tryz.prog 144 #[pv C D n S q (-1) d,.bool K] w (zpb C D n h (zcw C K q) d S w):=by
 obtain⟨i0,hi,ar,ay,av⟩:=info_parts Tryz.infoExp
 have HM:=zc hm
 have L:=hm.few
 clear hm
 unfold pv
 go_enter Tryz.func144,Tryz.ntmps144
 go_wp2_with fail
 refine (zZ C D n h (.ok q) S q (-1) d zF _ (zT q) (((HM.out.alloc _).alloc _).alloc _)).mono ?_
 rintro e w1 ⟨S1,q1,z1,rfl,ao,m1,s1⟩
 obtain⟨X0,X1,R0,t1⟩:=HM.out.list3 s1
 have F:=Fm.of2 X0 X1 m1 t1 (by omega) (by omega) (by omega)
 have j:=zc R0
 clear m1 s1 X0 X1 R0 t1
 have z:=F.x0.boxC
 unfold pv
 go_wp2
 go_loopg [7,8] (C.ts.length+1) (fun k o an wr=>∃(x':PR) (I:Sv) (O:PS) (z':Int) (r:Rw) (l:List Ep),Is x' O z'∧bd x' (fun q=>zat C K q l)=zcw C K q∧(z'<0→C.ts.length-O.pos<k)∧(l.length≤O.pos∨l=[])∧o= .slice r.a l.length r.cap∧an= .bool (za4 l)∧Mem C D n h I O wr∧SB w.heap.size S w I wr∧Bx D I wr w.heap.size #[.slice (some ⟨D,0,none⟩) C.ts.length n,.int .i64 O.pos,.int .i64 C.fin,.bool C.scr,.slice I.rq.a O.rq.length I.rq.cap,.slice I.im.a O.im.length I.im.cap,.slice I.ep.a O.ep.length I.ep.cap,.slice I.st.a O.st.length I.st.cap,.slice I.ex.a O.ex.length I.ex.cap,.slice I.la.a O.la.length I.la.cap,.int .i64 z',.int .i64 d]∧Bx D I wr (w.heap.size+1) #[.slice none 0 0,.int .i64 0,.int .i64 0,.bool false,.slice none 0 0,.slice none 0 0,.slice none 0 0,.slice none 0 0,.slice none 0 0,.slice none 0 0,.int .i64 0,.int .i64 0]∧Row I wr h w.heap.size r l)
 case atStart=>exact⟨_,S1,q1,z1,_,[],ao.out,rfl,fun _=>by omega,.inr rfl,rfl,rfl,(F.put0 ..).m,(F.put0 ..).t,(F.put0 ..).x0,(F.put0 ..).x1,(j.out.put F.x0 ..)⟩
 case round=>
  obtain⟨x2,S2,q2,z2,r,l,i2,e2,l2,n2,rfl,rfl,m2,t2,X0,X1,R0⟩:=hrel
  have F:=Fm.of2 X0 X1 m2 t2 (by omega) (by omega) (by omega)
  have ac:=zc i2
  have ad:=zc e2
  have au:=zc l2
  have j:=zc R0
  have aC:l.length≤4000:=n2.elim (fun g=>by have:=m2.inv.pos;omega) (fun g=>by rw[g];simp)
  have aq:=zc n2
  clear X0 X1 i2 m2 t2 e2 l2 R0 n2
  by_cases hz:z2<0
  ·skip
   obtain⟨rfl,rfl⟩:=za6 ac.out hz
   have aD:=au.out hz
   have z:=F.x0.boxC
   go_wp2_with fail
   refine (zaS C D n h (.ok q2) S2 q2 (-1) d true _ (zT q2) F.m).mono ?_
   rintro e w3 ⟨U,M,X,N,rfl,E,m3,s3⟩
   replace j:=zc (j.out.stp s3)
   replace F:=F.stp m3 s3
   clear z
   have aB:w.heap.size+1<w3.heap.size:=F.x1.lt
   unfold pv
   go_upto_region 6 with fail
   refine (F.new2 _).cutR (RW:=fun W=>Row U W h w.heap.size r l) (j.out.alloc _) ?_
   clear j
   intro w4 F R0
   have j:=zc R0
   clear R0
   have z:=F.x0.boxC
   have cb:=F.x2.boxC
   go_upto_region 7 with fail
   refine (F.put0 ..).cutR (RW:=fun W=>Row U W h w.heap.size r l) (j.out.put F.x0 ..) ?_
   clear z cb
   clear j
   intro w5 F R0
   have j:=zc R0
   clear R0
   skip
   have z:=F.x0.boxC
   skip
   go_wp2_with fail
   refine (zg C D n h U M X d 1 sAs _ F.m.tok L (by decide)).mono ?_
   rintro e w6 ⟨rfl,af⟩
   replace j:=zc (j.out.below af)
   replace F:=F.below af
   clear z
   go_upto_if 28 with fail
   go_cut [11] (fun am wx=>∃(A:Sv) (H:PS) (z5:Int) (V:ByteArray),am= .string V∧Is2 (bd (bd (.ok q2) (zh C true)) (asP C K)) H z5 V∧Mem C D n h A H wx∧SB w.heap.size S w A wx∧Bx D A wx w.heap.size #[.slice (some ⟨D,0,none⟩) C.ts.length n,.int .i64 H.pos,.int .i64 C.fin,.bool C.scr,.slice A.rq.a H.rq.length A.rq.cap,.slice A.im.a H.im.length A.im.cap,.slice A.ep.a H.ep.length A.ep.cap,.slice A.st.a H.st.length A.st.cap,.slice A.ex.a H.ex.length A.ex.cap,.slice A.la.a H.la.length A.la.cap,.int .i64 z5,.int .i64 d]∧Bx D A wx (w.heap.size+1) #[.slice none 0 0,.int .i64 0,.int .i64 0,.bool false,.slice none 0 0,.slice none 0 0,.slice none 0 0,.slice none 0 0,.slice none 0 0,.slice none 0 0,.int .i64 0,.int .i64 0]∧Row A wx h w.heap.size r l)
   case first=>
    cases Z:(decide (X<0)&&isT C M.pos 1 sAs) with
    |true=>
     have ak:M.pos<C.ts.length:=by rw[Bool.and_eq_true] at Z;exact zax Z.2 (by decide)
     have z:=F.x0.boxC
     have al:X= -1:=by rw[Bool.and_eq_true,decide_eq_true_eq] at Z;exact (za6 E.out.fst Z.1).2
     subst al
     go_wp2_with fail
     refine (zaS C D n h (.ok (adv M)) U (adv M) (-1) d K _ (zT _) ((F.adv ak).set0_1 _).m).mono ?_
     rintro e w7 ⟨S7,q7,z7,n7,rfl,ap,m7,s7⟩
     replace j:=zc ((j.out.set F.x0 1 _).stp s7)
     replace F:=(F.set0_1 _).stp m7 s7
     clear z
     have aA:w.heap.size+1<w7.heap.size:=F.x1.lt
     have ai:w3.heap.size<w7.heap.size:=F.x2.lt
     unfold pv
     go_upto_region 11 with fail
     refine (F.new3 _).cutR (RW:=fun W=>Row S7 W h w.heap.size r l) (j.out.alloc _) ?_
     clear j
     intro w8 F R0
     have j:=zc R0
     clear R0
     have z:=F.x0.boxC
     have db:=F.x3.boxC
     go_wp2
     go_meet
     case rel=>exact⟨S7,q7,z7,n7,rfl,zpg E.out Z ap.out,(F.put0 ..).m,(F.put0 ..).t,(F.put0 ..).x0,(F.put0 ..).x1,(j.out.put F.x0 ..)⟩
    |false=>
     cases e3:(N.toList==[100,101,102,97,117,108,116]) with
     |true=>
      cases K with
      |false=>
       have z:=F.x0.boxC
       go_wp2_with fail
       refine (zcK C D n h U M X d _ F.m.tok L).mono ?_
       rintro e w7 ⟨rfl,J⟩
       replace j:=zc (j.out.below J)
       replace F:=F.below J
       clear z
       have z:=F.x0.boxC
       unfold pv
       go_wp2
       go_meet
       case rel=>exact⟨U,M,(zbf C M.pos X),N,rfl,zph E.out Z (by rw[e3];rfl),(F.put0 ..).m,(F.put0 ..).t,(F.put0 ..).x0,(F.put0 ..).x1,(j.out.put F.x0 ..)⟩
      |true=>
       have z:=F.x0.boxC
       go_wp2
       go_meet
       case rel=>exact⟨U,M,X,N,rfl,zjd E.out Z (by rw[e3];rfl),F.m,F.t,F.x0,F.x1,j.out⟩
     |false=>
      have z:=F.x0.boxC
      go_wp2
      go_meet
      case rel=>exact⟨U,M,X,N,rfl,zjd E.out Z (by rw[e3];rfl),F.m,F.t,F.x0,F.x1,j.out⟩
   case rest=>
    obtain⟨A,H,z5,V,rfl,i5,m5,t5,X0,X1,R0⟩:=hcut
    clear j
    have F:=Fm.of2 X0 X1 m5 t5 (by omega) (by omega) (by omega)
    have Y:=zc i5
    have j:=zc R0
    clear X0 X1 i5 m5 t5 R0
    go_upto_region 15 with fail
    go_cut [8] (fun s8 wx=>s8= .bool (za4 l||(N.toList==[100,101,102,97,117,108,116]))∧wx=wc)
    case first=>
     cases ha:za4 l with
     |true=>
      go_wp2
      go_meet
      case rel=>exact⟨by rw[ha];rfl,rfl⟩
     |false=>
      cases e3:(N.toList==[100,101,102,97,117,108,116]) with
      |true=>
       go_wp2
       go_meet
       case rel=>exact⟨by rw[ha,e3];rfl,rfl⟩
      |false=>
       go_wp2
       go_meet
       case rel=>exact⟨by rw[ha,e3];rfl,rfl⟩
    case rest=>
     obtain⟨rfl,rfl⟩:=hcut
     have aa:=fun o=>j.out.own.alloc o
     have aj:=F.m.base
     go_wp2_with (at_builtin;refine zch _ rfl _ _ 32 rfl h 86 i0 _ 4 56 Tryz.underlying32 hi ar ay av rfl (by decide) (by decide) r l.length _ (by rfl) (aa _) wc.heap.size (epL ⟨0,V,N,sNone⟩) (by rfl) (by exact heap_alloc_new wc _) rfl (by intro u hu;simp[epL] at hu;rcases hu with rfl|rfl|rfl|rfl<;>rfl) (by omega) (by rw[zk];omega) ?_)
     intro r' w6 hr hg ag
     obtain⟨R6,m6⟩:=(j.out.alloc _).grow (x:=⟨0,V,N,sNone⟩) (F.alloc _).m (by rw[zk];have:=F.t.size;omega) hg hr (by rw[zk];exact ag)
     replace F:=Fm.of2 ((j.out.alloc _).bx (F.x0.alloc _) hg) ((j.out.alloc _).bx (F.x1.alloc _) hg) m6 ((j.out.alloc _).sb (F.t.alloc _) hg) (by omega) (by omega) (by omega)
     clear j hr hg ag aa aj m6
     have j:=zc R6
     clear R6
     cases hc:(decide (z5<0)&&isT C H.pos 4 zbl) with
     |true=>
      have z:=F.x0.boxC
      go_wp2_with fail
      refine (zg C D n h A H z5 d 4 zbl _ F.m.tok L (by decide)).mono ?_
      rintro e w7 ⟨rfl,J⟩
      rw[hc]
      replace j:=zc (j.out.below J)
      replace F:=F.below J
      clear z
      rw[Bool.and_eq_true,decide_eq_true_eq] at hc
      obtain⟨ae,ah⟩:=hc
      have aw:H.pos<C.ts.length:=zax ah (by decide)
      obtain⟨E5,P5⟩:=zpe (l:=l) E.out Y.out ae ah
      have HE:=zc E5
      obtain rfl:z5= -1:=(za6 Y.out.fst ae).2
      have ax:Hid ((l++[(⟨0,V,N,sNone⟩:Ep)]).length≤H.pos+1∨l++[(⟨0,V,N,sNone⟩:Ep)]=[]):=.inl (by simp only[List.length_append,List.length_singleton];exact aq.out.elim (fun g=>by omega) (fun g=>by rw[g];simp))
      clear E5
      have z:=F.x0.boxC
      go_wp2
      go_roundg (gk-1)
      case rel=>exact⟨.ok (adv H),A,adv H,-1,r',l++[⟨0,V,N,sNone⟩],zT _,by rw[←ad.out];exact HE.out.symm,fun _=>by rw[zw];omega,ax.out,by simp,by rw[zjb],((F.adv aw).set0_1 _).m,(F.t.set (by omega) 1 _),(F.x0.at1 _),(F.x1.set_other (by omega) 1 _),(j.out.set F.x0 1 _)⟩
      case measure=>omega
     |false=>
      have z:=F.x0.boxC
      go_wp2_with fail
      refine (zg C D n h A H z5 d 4 zbl _ F.m.tok L (by decide)).mono ?_
      rintro e w7 ⟨rfl,J⟩
      rw[hc]
      replace j:=zc (j.out.below J)
      replace F:=F.below J
      clear z
      have z:=F.x0.boxC
      go_wp2_with fail
      refine (zZ C D n h _ A H z5 d zbb _ Y.out.fst F.m).mono ?_
      rintro e w8 ⟨S8,q8,z8,rfl,az,m8,s8⟩
      replace j:=zc (j.out.stp s8)
      replace F:=F.stp m8 s8
      clear z
      have bb:=F.x1.boxC
      unfold pv
      go_wp2
      refine bodyPost_ret (zjc rfl _ _ (w.heap.size+1) 122 _ (0,0) _ rfl ((F.x1.put ..)).heap Tryz.underlying122 rfl (by kernel_rfl)) rfl ?_
      exact⟨S8,q8,z8,r',l++[⟨0,V,N,sNone⟩],by simp[pv,zjb],by rw[←ad.out,zx,zeL];exact zpd E.out Y.out hc az.out,(F.put1 ..).m,(F.put1 ..).t.done,(j.out.put F.x1 ..),by simp;omega⟩
  ·skip
   have z:=F.x0.boxC
   go_wp2_with fail
   refine (zZ C D n h _ S2 q2 z2 d zbb _ ac.out F.m).mono ?_
   rintro e w3 ⟨U,M,X,rfl,E,m3,s3⟩
   replace j:=zc (j.out.stp s3)
   replace F:=F.stp m3 s3
   clear z
   have bb:=F.x1.boxC
   unfold pv
   go_wp2
   refine bodyPost_ret (zjc rfl _ _ (w.heap.size+1) 122 _ (0,0) _ rfl ((F.x1.put ..)).heap Tryz.underlying122 rfl (by kernel_rfl)) rfl ?_
   exact⟨U,M,X,r,l,rfl,by rw[←ad.out];exact zpf ac.out (by omega) E.out,(F.put1 ..).m,(F.put1 ..).t.done,(j.out.put F.x1 ..),by omega⟩
def SumOK (C:Cx) (gt cap base m:Nat):Prop:=∀(x:PR) (S:Sv) (q:PS) (z:Int) (d:Nat) (w:World),Is x q z→Mem C gt cap base S q w→(z<0→C.ts.length-q.pos<m)→d≤20→
 Calls Tryz.prog 111 #[pv C gt cap S q z d] w (Out C gt cap base (bd x (pE C .sum d)) d S w)
theorem zfx {C:Cx} {o:Bool} {q w:PS} {n:Int} {j:ByteArray} (h:Is2 (bd (.ok q) (zh C o)) w n j) (z:zB C q.pos o=true):w=adv q∧n= -1∧j=(ze C q.pos).text:=by
 rw[zx,zh,if_pos z] at h
 exact h
theorem zfy {C:Cx} {o:Bool} {q z:PS} {j:Int} {w:ByteArray} (h:Is2 (bd (.ok q) (zh C o)) z j w) (n:zB C q.pos o=false):j=(zp C q.pos:Int):=by
 rw[zx,zh,n] at h
 exact h
theorem zjf {C:Cx} {n:ByteArray} {y:Except Nat (PS×ByteArray)} {q:PS} {z:Int} {f:ByteArray} (h:Is2 y q z f) (j:(decide (z<0)&&isT C q.pos 4 zm)=true):bd (bd (bd (zaE y) (zd C 4 zm)) (zd C 4 zaw)) (zL C ⟨5,0,n,f,0,0⟩)=bd y fun a=>zbw C n a.2 a.1:=by
 rw[Bool.and_eq_true,decide_eq_true_eq] at j
 cases y with
 |ok a=>
  obtain⟨rfl,_,rfl⟩:=h
  show _=zbw C n a.2 a.1
  rw[zbw,if_pos j.2]
  rfl
 |error e=>rfl
theorem zjg {C:Cx} {n:ByteArray} {y:Except Nat (PS×ByteArray)} {q:PS} {z:Int} {f:ByteArray} (h:Is2 y q z f) (j:(decide (z<0)&&isT C q.pos 4 zm)=false):bd (zaE y) (zL C ⟨4,0,n,f,0,0⟩)=bd y fun a=>zbw C n a.2 a.1:=by
 cases y with
 |ok a=>
  obtain⟨rfl,rfl,rfl⟩:=h
  rw[Bool.and_eq_false_iff] at j
  show _=zbw C n a.2 a.1
  rw[zbw,j.resolve_left (by decide)]
  rfl
 |error e=>rfl
theorem zjh {C:Cx} {o:Bool} {x:PR} {q:PS} {z:Int} {n:ByteArray} (h:Is2 (bd x (zh C o)) q z n):z<0→1≤q.pos:=by
 intro A
 cases j:bd x (zh C o) with
 |error e=>rw[j] at h;have:z=(e:Int):=h;omega
 |ok a=>
  rw[j] at h
  obtain⟨rfl,_,_⟩:=h
  obtain⟨b,_,w⟩:=zj j
  obtain⟨rfl,_⟩:=zbc w
  simp[adv]
theorem zpi (C:Cx) (D j h:Nat) (S:Sv) (q:PS) (d:Nat) (w:World) (E:Mem C D j h S q w) (J:((ze C q.pos).kind==2)=true):
  Calls Tryz.prog 182 #[pv C D j S q (-1) d] w (Out C D j h (pE C .part d q) d S w):=by
 have X:=zc E
 have z:=E.tok
 have U:C.ts.length≤4000:=E.few
 have L:=(zaj E.tok).1
 clear E
 have M:q.pos<C.ts.length:=zeF J (by decide)
 have O:Hid (pE C .part d q=bd (.ok (adv q)) (zL C ⟨1,(ze C q.pos).num,sNone,sNone,0,0⟩)):=by show pE C .part d q=_;rw[zbs,if_pos J];rfl
 obtain⟨V,_,N,_⟩:=z.cells M (d:=⟨0,sNone,0,C.fin⟩)
 change _=some (Value.int .i64 (ze C q.pos).kind) at V
 change _=some (Value.int .i64 (ze C q.pos).num) at N
 have A:Hid (Mem C D j h S (adv q) w):=X.out.adv M
 generalize (ze C q.pos).kind=kd at V J
 have Y:Hid (∀n,n=(ze C q.pos).num→pE C .part d q=bd (.ok (adv q)) (zL C ⟨1,n,sNone,sNone,0,0⟩)):=fun n e=>by rw[e];exact O.out
 generalize H:(ze C q.pos).num=nm at N
 have K:Hid (nm=(ze C q.pos).num):=H.symm
 clear H O z
 unfold pv
 go_enter Tryz.func182,Tryz.ntmps182
 go_wp2_with fail
 refine (zc0 C D j h (.ok (adv q)) S (adv q) (-1) d ⟨1,nm,sNone,sNone,0,0⟩ _ (zT _) ((A.out.alloc _).alloc _) (fun _=>by simp[adv])).mono ?_
 rintro e w1 ⟨S1,q1,z1,rfl,I,m1,Z⟩
 have F:=A.out.fm2 m1 Z
 have bb:=F.x1.boxC
 unfold pv
 go_wp2
 refine (F.x1.put ..).ret rfl rfl ?_
 rw[Y.out nm K.out]
 exact (F.put1 ..).done rfl I.out
theorem zpj (C:Cx) (A j h:Nat) (S:Sv) (q:PS) (d:Nat) (w:World) (D:Mem C A j h S q w) (J:((ze C q.pos).kind==2)=false) (E:isT C q.pos 4 zm=true) (M:20≤d) (N:d≤20):
  Calls Tryz.prog 182 #[pv C A j S q (-1) d] w (Out C A j h (pE C .part d q) d S w):=by
 have O:=zc D
 have n:=D.tok
 have z:C.ts.length≤4000:=D.few
 have K:=(zaj D.tok).1
 clear D
 have V:q.pos<C.ts.length:=zax E (by decide)
 have X:Hid (pE C .part d q= .error (zp C q.pos)):=by show pE C .part d q=_;rw[zbs,J,E];simp[M]
 have qd:decide ((20:Int)≤(d:Int))=true:=decide_eq_true (by omega)
 obtain⟨L,_,_,_⟩:=n.cells V (d:=⟨0,sNone,0,C.fin⟩)
 change _=some (Value.int .i64 (ze C q.pos).kind) at L
 generalize (ze C q.pos).kind=kd at L J
 unfold pv
 go_enter Tryz.func182,Tryz.ntmps182
 go_wp2_with fail
 refine (zg C A j h S q (-1) d 4 zm _ (zo (zo n _) _) z (by decide)).mono ?_
 rintro e Y ⟨rfl,I⟩
 rw[E]
 have F:=O.out.fm I
 have U:=F.x0.boxC
 go_wp2_with fail
 refine (zcK C A j h S q (-1) d _ F.m.tok z).mono ?_
 rintro e w2 ⟨rfl,H⟩
 replace F:=F.below H
 clear U
 have Z:=F.x1.boxC
 unfold pv
 go_wp2
 refine (F.x1.put ..).ret rfl rfl ?_
 rw[X.out]
 exact (F.put1 ..).done rfl (show Is (.error (zp C q.pos)) q _ from rfl)
theorem zpk (C:Cx) (z j h:Nat) (S:Sv) (q:PS) (d:Nat) (w:World) (A:Mem C z j h S q w) (N:((ze C q.pos).kind==2)=false) (J:isT C q.pos 4 zm=true) (Y:d<20) (V:SumOK C z j h (C.ts.length-q.pos)):
  Calls Tryz.prog 182 #[pv C z j S q (-1) d] w (Out C z j h (pE C .part d q) d S w):=by
 have HM:=zc A
 have n:=A.tok
 have E:C.ts.length≤4000:=A.few
 have O:=(zaj A.tok).1
 clear A
 have U:q.pos<C.ts.length:=zax J (by decide)
 have HV:Hid (pE C .part d q=bd (bd (.ok (adv q)) (pE C .sum (d+1))) (zd C 4 zaw)):=by show pE C .part d q=_;rw[zbs,N,J,if_neg (by decide),if_pos rfl,if_neg (by omega)];rfl
 have HS:=zc V
 clear V
 have qd:decide ((20:Int)≤(d:Int))=false:=decide_eq_false (by omega)
 obtain⟨X,_,_,_⟩:=n.cells U (d:=⟨0,sNone,0,C.fin⟩)
 change _=some (Value.int .i64 (ze C q.pos).kind) at X
 generalize (ze C q.pos).kind=kd at X N
 unfold pv
 go_enter Tryz.func182,Tryz.ntmps182
 go_wp2_with fail
 refine (zg C z j h S q (-1) d 4 zm _ (zo (zo n _) _) E (by decide)).mono ?_
 rintro e w1 ⟨rfl,L⟩
 rw[J]
 have F:=HM.out.fm L
 have H:=F.x0.boxC
 go_wp2_with fail
 refine (HS.out (.ok (adv q)) S (adv q) (-1) (d+1) _ (zT _) (((F.adv U).set0_1 _).set0_11 _).m (fun _=>by show C.ts.length-(q.pos+1)<_;omega) (by omega)).mono ?_
 rintro e w2 ⟨S2,q2,z2,rfl,I,m2,s2⟩
 replace F:=((F.set0_1 _).set0_11 _).stp m2 s2
 clear H
 go_wp2_with fail
 refine (zZ C z j h _ S2 q2 z2 (d+1) zaw _ I.out F.m).mono ?_
 rintro e w3 ⟨S3,q3,z3,rfl,K,m3,s3⟩
 replace F:=F.stp m3 s3
 have H:=F.x0.boxC
 obtain⟨D,M⟩: ∃D:Nat,D=d+1:=⟨_,rfl⟩
 rw[←M]
 have aa:(D:Int)-1=d:=by omega
 have Z:D≤20:=by omega
 clear M Y qd
 unfold pv
 go_upto_region 11 with fail
 refine (F.put0 ..).cut ?_
 clear H
 intro w4 F
 have H:=F.x0.boxC
 have bb:=F.x1.boxC
 go_wp2
 refine bodyPost_ret (results_cell_row rfl _ _ (w.heap.size+1) 122 _ (0,0) _ rfl (((F.x1.set_other (by omega) 11 _).put ..)).heap Tryz.underlying122 rfl (by kernel_rfl)) rfl ?_
 rw[HV.out]
 exact zja rfl K.out ((F.set0_11 _).put1 ..).m ((F.set0_11 _).put1 ..).t
theorem zpl (j:List Tk) (h:Nat) (D z n:Nat) (S:Sv) (q:PS) (d:Nat) (w:World) (H:Mem (Cx.mk j h true) D z n S q w) (I: ¬q.pos<(Cx.mk j h true).ts.length):
  Calls Tryz.prog 182 #[pv (Cx.mk j h true) D z S q (-1) d] w (Out (Cx.mk j h true) D z n (pE (Cx.mk j h true) .part d q) d S w):=by
 have HM:=zc H
 have E:=H.tok
 have A:(Cx.mk j h true).ts.length≤4000:=H.few
 have N:=(zaj H.tok).1
 clear H
 have hk:((ze (Cx.mk j h true) q.pos).kind==2)=false:=by rw[zcZ (by omega)];rfl
 have O:isT (Cx.mk j h true) q.pos 4 zm=false:=zel I (by decide)
 have U:isT (Cx.mk j h true) q.pos 1 za3=false:=zel I (by decide)
 have V:zB (Cx.mk j h true) q.pos false=false:=zfM I
 have HV:Hid (pE (Cx.mk j h true) .part d q= .error (zp (Cx.mk j h true) q.pos)):=by show pE (Cx.mk j h true) .part d q=_;rw[zbs,hk,O,U,zh,V];rfl
 have aa: ¬q.pos<j.length:=I
 unfold pv
 go_enter Tryz.func182,Tryz.ntmps182
 go_wp2_with fail
 refine (zg (Cx.mk j h true) D z n S q (-1) d 4 zm _ (zo (zo E _) _) A (by decide)).mono ?_
 rintro e w1 ⟨rfl,M⟩
 rw[O]
 have F:=HM.out.fm M
 have J:=F.x0.boxC
 go_wp2_with fail
 refine (zg (Cx.mk j h true) D z n S q (-1) d 1 za3 _ F.m.tok A (by decide)).mono ?_
 rintro e w2 ⟨rfl,K⟩
 rw[U]
 replace F:=F.below K
 clear J
 have J:=F.x0.boxC
 go_wp2_with fail
 refine (zaS (Cx.mk j h true) D z n (.ok q) S q (-1) d false _ (zT q) F.m).mono ?_
 rintro e Z ⟨S3,q3,z3,n3,rfl,L,Y,s3⟩
 replace F:=F.stp Y s3
 clear J
 obtain rfl:=zfy L.out V
 have dz:decide ((0:Int)≤(zp (Cx.mk j h true) q.pos:Int))=true:=decide_eq_true (by omega)
 have X:w.heap.size+1<Z.heap.size:=F.x1.lt
 unfold pv
 go_upto_region 17 with fail
 refine (F.new2 _).cut ?_
 intro w4 F
 have bb:=F.x1.boxC
 have cb:=F.x2.boxC
 go_wp2
 refine (F.x1.put ..).ret rfl rfl ?_
 rw[HV.out]
 exact (F.put1 ..).done rfl (show Is (.error (zp (Cx.mk j h true) q.pos)) q3 _ from rfl)
theorem zpm (j:List Tk) (h:Nat) (E z n:Nat) (S:Sv) (q:PS) (d:Nat) (w:World) (H:Mem (Cx.mk j h true) E z n S q w) (N:((ze (Cx.mk j h true) q.pos).kind==2)=false) (V:isT (Cx.mk j h true) q.pos 4 zm=false) (U:q.pos<(Cx.mk j h true).ts.length) (X:isT (Cx.mk j h true) q.pos 1 za3=false) (Y:zB (Cx.mk j h true) q.pos false=false):
  Calls Tryz.prog 182 #[pv (Cx.mk j h true) E z S q (-1) d] w (Out (Cx.mk j h true) E z n (pE (Cx.mk j h true) .part d q) d S w):=by
 have HM:=zc H
 have A:=H.tok
 have D:(Cx.mk j h true).ts.length≤4000:=H.few
 have O:=(zaj H.tok).1
 clear H
 have HV:Hid (pE (Cx.mk j h true) .part d q= .error (zp (Cx.mk j h true) q.pos)):=by show pE (Cx.mk j h true) .part d q=_;rw[zbs,N,V,X,zh,Y];rfl
 have aa:q.pos<j.length:=U
 obtain⟨M,_,_,_⟩:=A.cells U (d:=⟨0,sNone,0,(Cx.mk j h true).fin⟩)
 change _=some (Value.int .i64 (ze (Cx.mk j h true) q.pos).kind) at M
 generalize (ze (Cx.mk j h true) q.pos).kind=kd at M N
 unfold pv
 go_enter Tryz.func182,Tryz.ntmps182
 go_wp2_with fail
 refine (zg (Cx.mk j h true) E z n S q (-1) d 4 zm _ (zo (zo A _) _) D (by decide)).mono ?_
 rintro e w1 ⟨rfl,L⟩
 rw[V]
 have F:=HM.out.fm L
 have I:=F.x0.boxC
 go_wp2_with fail
 refine (zg (Cx.mk j h true) E z n S q (-1) d 1 za3 _ F.m.tok D (by decide)).mono ?_
 rintro e w2 ⟨rfl,J⟩
 rw[X]
 replace F:=F.below J
 clear I
 have I:=F.x0.boxC
 go_wp2_with fail
 refine (zaS (Cx.mk j h true) E z n (.ok q) S q (-1) d false _ (zT q) F.m).mono ?_
 rintro e w3 ⟨S3,q3,z3,n3,rfl,K,m3,s3⟩
 replace F:=F.stp m3 s3
 clear I
 obtain rfl:=zfy K.out Y
 have dz:decide ((0:Int)≤(zp (Cx.mk j h true) q.pos:Int))=true:=decide_eq_true (by omega)
 have Z:w.heap.size+1<w3.heap.size:=F.x1.lt
 unfold pv
 go_upto_region 17 with fail
 refine (F.new2 _).cut ?_
 intro w4 F
 have bb:=F.x1.boxC
 obtain⟨M,c1,c2,c3,c4,c5,c6,c7,c8,c9,ad,ac,cf⟩:=F.x2.box
 go_wp2
 refine (F.x1.put ..).ret rfl rfl ?_
 rw[HV.out]
 exact (F.put1 ..).done rfl (show Is (.error (zp (Cx.mk j h true) q.pos)) q3 _ from rfl)
theorem zji (A:List Tk) (h:Nat) (E n j:Nat) (S:Sv) (q:PS) (d:Nat) (w:World) (I:Mem (Cx.mk A h true) E n j S q w) (z:Nat):
  Calls Tryz.prog 182 #[pv (Cx.mk A h true) E n S q (z:Int) d] w (Out (Cx.mk A h true) E n j (.error z) d S w):=by
 have Y:=zc I
 have H:=I.tok
 have D:(Cx.mk A h true).ts.length≤4000:=I.few
 have N:=(zaj I.tok).1
 clear I
 have hz: ¬(z:Int)<0:=by omega
 have O: ∀k s,(decide ((z:Int)<0)&&isT (Cx.mk A h true) q.pos k s)=false:=fun k s=>by rw[decide_eq_false hz];rfl
 unfold pv
 go_enter Tryz.func182,Tryz.ntmps182
 go_wp2_with fail
 refine (zg (Cx.mk A h true) E n j S q (z:Int) d 4 zm _ (zo (zo H _) _) D (by decide)).mono ?_
 rintro e w1 ⟨rfl,M⟩
 rw[O]
 have F:=Y.out.fm M
 have J:=F.x0.boxC
 go_wp2_with fail
 refine (zg (Cx.mk A h true) E n j S q (z:Int) d 1 za3 _ F.m.tok D (by decide)).mono ?_
 rintro e w2 ⟨rfl,K⟩
 rw[O]
 replace F:=F.below K
 clear J
 have J:=F.x0.boxC
 go_wp2_with fail
 refine (zaS (Cx.mk A h true) E n j (.error z) S q (z:Int) d false _ (show Is (.error z) q _ from rfl) F.m).mono ?_
 rintro e X ⟨S3,Z,z3,n3,rfl,L,V,s3⟩
 replace F:=F.stp V s3
 clear J
 obtain rfl:z3=(z:Int):=L.out
 have dz:decide ((0:Int)≤(z:Int))=true:=decide_eq_true (by omega)
 have U:w.heap.size+1<X.heap.size:=F.x1.lt
 unfold pv
 go_upto_region 17 with fail
 refine (F.new2 _).cut ?_
 intro w4 F
 have bb:=F.x1.boxC
 have cb:=F.x2.boxC
 go_wp2
 refine (F.x1.put ..).ret rfl rfl ?_
 exact (F.put1 ..).done rfl (show Is (.error z) Z _ from rfl)
theorem zpn (j:List Tk) (h:Nat) (E z n:Nat) (S:Sv) (q:PS) (d:Nat) (w:World) (H:Mem (Cx.mk j h true) E z n S q w) (N:((ze (Cx.mk j h true) q.pos).kind==2)=false) (U:isT (Cx.mk j h true) q.pos 4 zm=false) (J:q.pos<(Cx.mk j h true).ts.length) (V:isT (Cx.mk j h true) q.pos 1 za3=true):
  Calls Tryz.prog 182 #[pv (Cx.mk j h true) E z S q (-1) d] w (Out (Cx.mk j h true) E z n (pE (Cx.mk j h true) .part d q) d S w):=by
 have Z:=zc H
 have A:=H.tok
 have D:(Cx.mk j h true).ts.length≤4000:=H.few
 have O:=(zaj H.tok).1
 clear H
 have HV:Hid (pE (Cx.mk j h true) .part d q=zbm (Cx.mk j h true) za3 (adv q)):=by show pE (Cx.mk j h true) .part d q=_;rw[zbs,N,U,V];rfl
 have aa:q.pos<j.length:=J
 obtain⟨X,_,_,_⟩:=A.cells J (d:=⟨0,sNone,0,(Cx.mk j h true).fin⟩)
 change _=some (Value.int .i64 (ze (Cx.mk j h true) q.pos).kind) at X
 generalize (ze (Cx.mk j h true) q.pos).kind=kd at X N
 unfold pv
 go_enter Tryz.func182,Tryz.ntmps182
 go_wp2_with fail
 refine (zg (Cx.mk j h true) E z n S q (-1) d 4 zm _ (zo (zo A _) _) D (by decide)).mono ?_
 rintro e w1 ⟨rfl,M⟩
 rw[U]
 have F:=Z.out.fm M
 have I:=F.x0.boxC
 go_wp2_with fail
 refine (zg (Cx.mk j h true) E z n S q (-1) d 1 za3 _ F.m.tok D (by decide)).mono ?_
 rintro e w2 ⟨rfl,K⟩
 rw[V]
 replace F:=F.below K
 clear I
 have I:=F.x0.boxC
 go_wp2_with fail
 refine (zgv (Cx.mk j h true) E z n S (adv q) d za3 _ ((F.adv J).set0_1 _).m (by simp[adv])).mono ?_
 rintro e w3 ⟨S3,q3,z3,rfl,L,Y,s3⟩
 replace F:=(F.set0_1 _).stp Y s3
 clear I
 have bb:=F.x1.boxC
 unfold pv
 go_wp2
 refine (F.x1.put ..).ret rfl rfl ?_
 rw[HV.out]
 exact (F.put1 ..).done rfl L.out
theorem zpo (j:List Tk) (h:Nat) (E z n:Nat) (S:Sv) (q:PS) (d:Nat) (w:World) (H:Mem (Cx.mk j h true) E z n S q w) (hk:((ze (Cx.mk j h true) q.pos).kind==2)=false) (ho:isT (Cx.mk j h true) q.pos 4 zm=false) (hp:q.pos<(Cx.mk j h true).ts.length) (hu:isT (Cx.mk j h true) q.pos 1 za3=false) (hn:zB (Cx.mk j h true) q.pos false=true) (hd:isT (Cx.mk j h true) (q.pos+1) 4 cPoint=false):
  Calls Tryz.prog 182 #[pv (Cx.mk j h true) E z S q (-1) d] w (Out (Cx.mk j h true) E z n (pE (Cx.mk j h true) .part d q) d S w):=by
 have HM:=zc H
 have D:=H.tok
 have A:(Cx.mk j h true).ts.length≤4000:=H.few
 have ae:=(zaj H.tok).1
 clear H
 have HV:Hid (pE (Cx.mk j h true) .part d q=zbm (Cx.mk j h true) (ze (Cx.mk j h true) q.pos).text (adv q)):=by show pE (Cx.mk j h true) .part d q=_;rw[zbs,hk,ho,hu,zh,hn];show (if isT (Cx.mk j h true) (adv q).pos 4 cPoint then _ else _)=_;rw[zw,hd];rfl
 have ag:q.pos<j.length:=hp
 obtain⟨M,_,_,_⟩:=D.cells hp (d:=⟨0,sNone,0,(Cx.mk j h true).fin⟩)
 change _=some (Value.int .i64 (ze (Cx.mk j h true) q.pos).kind) at M
 generalize (ze (Cx.mk j h true) q.pos).kind=kd at M hk
 unfold pv
 go_enter Tryz.func182,Tryz.ntmps182
 go_wp2_with fail
 refine (zg (Cx.mk j h true) E z n S q (-1) d 4 zm _ (zo (zo D _) _) A (by decide)).mono ?_
 rintro e w1 ⟨rfl,ad⟩
 rw[ho]
 have F:=HM.out.fm ad
 have V:=F.x0.boxC
 go_wp2_with fail
 refine (zg (Cx.mk j h true) E z n S q (-1) d 1 za3 _ F.m.tok A (by decide)).mono ?_
 rintro e w2 ⟨rfl,Z⟩
 rw[hu]
 replace F:=F.below Z
 clear V
 have V:=F.x0.boxC
 go_wp2_with fail
 refine (zaS (Cx.mk j h true) E z n (.ok q) S q (-1) d false _ (zT q) F.m).mono ?_
 rintro e w3 ⟨S3,L,z3,n3,rfl,I,m3,s3⟩
 replace F:=F.stp m3 s3
 clear V
 obtain⟨N,rfl,J⟩:=zfx I.out hn
 have HQ:=zc N
 have X:=zc J
 have K:L.pos=q.pos+1:=by rw[N];rfl
 have ac:isT (Cx.mk j h true) L.pos 4 cPoint=false:=by rw[K];exact hd
 clear N J I
 have af:w.heap.size+1<w3.heap.size:=F.x1.lt
 unfold pv
 clear K
 go_wp2_with fail
 refine (zg (Cx.mk j h true) E z n S3 L (-1) d 4 cPoint _ (F.alloc _).m.tok A (by decide)).mono ?_
 rintro e w4 ⟨rfl,aa⟩
 rw[ac]
 replace F:=(F.new2 _).below aa
 obtain⟨M,c1,c2,c3,c4,c5,c6,c7,c8,c9,Y,U,cf⟩:=F.x2.box
 go_wp2_with fail
 refine (zgv (Cx.mk j h true) E z n S3 L d n3 _ F.m (by rw[HQ.out];simp[adv])).mono ?_
 rintro e w5 ⟨S5,q5,z5,rfl,O,m5,s5⟩
 replace F:=F.stp m5 s5
 clear M c1 c2 c3 c4 c5 c6 c7 c8 c9 Y U cf
 have bb:=F.x1.boxC
 unfold pv
 go_wp2
 refine (F.x1.put ..).ret rfl rfl ?_
 rw[HV.out,←HQ.out,←X.out]
 exact (F.put1 ..).done rfl O.out
theorem zpp (n:List Tk) (h:Nat) (D z j:Nat) (S:Sv) (q:PS) (d:Nat) (w:World) (U:Mem (Cx.mk n h true) D z j S q w) (hk:((ze (Cx.mk n h true) q.pos).kind==2)=false) (ho:isT (Cx.mk n h true) q.pos 4 zm=false) (hp:q.pos<(Cx.mk n h true).ts.length) (hu:isT (Cx.mk n h true) q.pos 1 za3=false) (hn:zB (Cx.mk n h true) q.pos false=true) (hd:isT (Cx.mk n h true) (q.pos+1) 4 cPoint=true):
  Calls Tryz.prog 182 #[pv (Cx.mk n h true) D z S q (-1) d] w (Out (Cx.mk n h true) D z j (pE (Cx.mk n h true) .part d q) d S w):=by
 have HM:=zc U
 have H:=U.tok
 have A:(Cx.mk n h true).ts.length≤4000:=U.few
 have am:=(zaj U.tok).1
 clear U
 have HV:Hid (pE (Cx.mk n h true) .part d q=bd (bd (.ok (adv (adv q))) (zh (Cx.mk n h true) true)) fun y=>zbw (Cx.mk n h true) (ze (Cx.mk n h true) q.pos).text y.2 y.1):=by show pE (Cx.mk n h true) .part d q=_;rw[zbs,hk,ho,hu,zh,hn];show (if isT (Cx.mk n h true) (adv q).pos 4 cPoint then _ else _)=_;rw[zw,hd];rfl
 have ao:q.pos<n.length:=hp
 obtain⟨c0,_,_,_⟩:=H.cells hp (d:=⟨0,sNone,0,(Cx.mk n h true).fin⟩)
 change _=some (Value.int .i64 (ze (Cx.mk n h true) q.pos).kind) at c0
 generalize (ze (Cx.mk n h true) q.pos).kind=kd at c0 hk
 unfold pv
 go_enter Tryz.func182,Tryz.ntmps182
 go_wp2_with fail
 refine (zg (Cx.mk n h true) D z j S q (-1) d 4 zm _ (zo (zo H _) _) A (by decide)).mono ?_
 rintro e w1 ⟨rfl,aj⟩
 rw[ho]
 have F:=HM.out.fm aj
 have ab:=F.x0.boxC
 go_wp2_with fail
 refine (zg (Cx.mk n h true) D z j S q (-1) d 1 za3 _ F.m.tok A (by decide)).mono ?_
 rintro e w2 ⟨rfl,af⟩
 rw[hu]
 replace F:=F.below af
 clear ab
 have ab:=F.x0.boxC
 go_wp2_with fail
 refine (zaS (Cx.mk n h true) D z j (.ok q) S q (-1) d false _ (zT q) F.m).mono ?_
 rintro e w3 ⟨S3,I,z3,n3,rfl,aa,m3,s3⟩
 replace F:=F.stp m3 s3
 clear ab
 obtain⟨hq,rfl,M⟩:=zfx aa.out hn
 have HQ:=zc hq
 have O:=zc M
 have ac:I.pos=q.pos+1:=by rw[hq];rfl
 have L:isT (Cx.mk n h true) I.pos 4 cPoint=true:=by rw[ac];exact hd
 clear hq M aa
 have an:w.heap.size+1<w3.heap.size:=F.x1.lt
 unfold pv
 clear ac
 go_wp2_with fail
 refine (zg (Cx.mk n h true) D z j S3 I (-1) d 4 cPoint _ (F.alloc _).m.tok A (by decide)).mono ?_
 rintro e w4 ⟨rfl,ai⟩
 rw[L]
 replace F:=(F.new2 _).below ai
 obtain⟨c0,c1,c2,c3,c4,c5,c6,c7,c8,c9,ae,ah,cf⟩:=F.x2.box
 have X:I.pos<(Cx.mk n h true).ts.length:=zax L (by decide)
 have ak:I.pos<n.length:=X
 go_wp2_with fail
 refine (zaS (Cx.mk n h true) D z j (.ok (adv I)) S3 (adv I) (-1) d true _ (zT _) ((F.adv X).set2_1 _).m).mono ?_
 rintro e w5 ⟨S5,V,N,n5,rfl,E,m5,s5⟩
 replace F:=(F.set2_1 _).stp m5 s5
 clear c0 c1 c2 c3 c4 c5 c6 c7 c8 c9 ae ah cf
 have al:w.heap.size+1<w5.heap.size:=F.x1.lt
 have ad:w3.heap.size<w5.heap.size:=F.x2.lt
 cases hc:(decide (N<0)&&isT (Cx.mk n h true) V.pos 4 zm) with
 |true=>
  unfold pv
  go_wp2_with fail
  refine (zg (Cx.mk n h true) D z j S5 V N d 4 zm _ (F.alloc _).m.tok A (by decide)).mono ?_
  rintro e w6 ⟨rfl,K⟩
  rw[hc]
  replace F:=(F.new3 _).below K
  have Z:=F.x3.boxC
  go_wp2_with fail
  refine (zZ (Cx.mk n h true) D z j _ S5 V N d zm _ E.out.fst F.m).mono ?_
  rintro e w7 ⟨S7,q7,z7,rfl,J,m7,s7⟩
  replace F:=F.stp m7 s7
  clear Z
  go_wp2_with fail
  refine (zZ (Cx.mk n h true) D z j _ S7 q7 z7 d zaw _ J.out F.m).mono ?_
  rintro e w8 ⟨S8,q8,z8,rfl,Y,m8,s8⟩
  replace F:=F.stp m8 s8
  have Z:=F.x3.boxC
  unfold pv
  go_wp2_with fail
  refine (zc0 (Cx.mk n h true) D z j _ S8 q8 z8 d ⟨5,0,n3,n5,0,0⟩ _ Y.out (F.put3 ..).m (zaX Y.out)).mono ?_
  rintro e w9 ⟨S9,q9,z9,rfl,ag,m9,s9⟩
  replace F:=(F.put3 ..).stp m9 s9
  clear Z
  have bb:=F.x1.boxC
  unfold pv
  go_wp2
  refine (F.x1.put ..).ret rfl rfl ?_
  rw[HV.out,←HQ.out,←O.out,←zjf E.out hc]
  exact (F.put1 ..).done rfl ag.out
 |false=>
  unfold pv
  go_wp2_with fail
  refine (zg (Cx.mk n h true) D z j S5 V N d 4 zm _ (F.alloc _).m.tok A (by decide)).mono ?_
  rintro e w6 ⟨rfl,K⟩
  rw[hc]
  replace F:=(F.new3 _).below K
  have Z:=F.x3.boxC
  go_wp2_with fail
  refine (zc0 (Cx.mk n h true) D z j _ S5 V N d ⟨4,0,n3,n5,0,0⟩ _ E.out.fst F.m (zjh E.out)).mono ?_
  rintro e w7 ⟨S7,q7,z7,rfl,J,m7,s7⟩
  replace F:=F.stp m7 s7
  clear Z
  have bb:=F.x1.boxC
  unfold pv
  go_wp2
  refine (F.x1.put ..).ret rfl rfl ?_
  rw[HV.out,←HQ.out,←O.out,←zjg E.out hc]
  exact (F.put1 ..).done rfl J.out
theorem zpq (j:List Tk) (h:Nat) (D z n:Nat) (S:Sv) (q:PS) (d:Nat) (w:World) (E:Mem (Cx.mk j h false) D z n S q w) (I: ¬q.pos<(Cx.mk j h false).ts.length):
  Calls Tryz.prog 182 #[pv (Cx.mk j h false) D z S q (-1) d] w (Out (Cx.mk j h false) D z n (pE (Cx.mk j h false) .part d q) d S w):=by
 have V:=zc E
 have A:=E.tok
 have H:(Cx.mk j h false).ts.length≤4000:=E.few
 have L:=(zaj E.tok).1
 clear E
 have X:((ze (Cx.mk j h false) q.pos).kind==2)=false:=by rw[zcZ (by omega)];rfl
 have M:isT (Cx.mk j h false) q.pos 4 zm=false:=zel I (by decide)
 have hu:isT (Cx.mk j h false) q.pos 1 za3=false:=zel I (by decide)
 have N:zB (Cx.mk j h false) q.pos false=false:=zfM I
 have HV:Hid (pE (Cx.mk j h false) .part d q= .error (zp (Cx.mk j h false) q.pos)):=by show pE (Cx.mk j h false) .part d q=_;rw[zbs,X,M,zh,N];rfl
 have Y: ¬q.pos<j.length:=I
 unfold pv
 go_enter Tryz.func182,Tryz.ntmps182
 go_wp2_with fail
 refine (zg (Cx.mk j h false) D z n S q (-1) d 4 zm _ (zo (zo A _) _) H (by decide)).mono ?_
 rintro e w1 ⟨rfl,K⟩
 rw[M]
 have F:=V.out.fm K
 have ab:=F.x0.boxC
 go_wp2_with fail
 refine (zaS (Cx.mk j h false) D z n (.ok q) S q (-1) d false _ (zT q) F.m).mono ?_
 rintro e w2 ⟨S2,q2,z2,n2,rfl,J,U,Z⟩
 replace F:=F.stp U Z
 clear ab
 obtain rfl:=zfy J.out N
 have dz:decide ((0:Int)≤(zp (Cx.mk j h false) q.pos:Int))=true:=decide_eq_true (by omega)
 have O:w.heap.size+1<w2.heap.size:=F.x1.lt
 unfold pv
 go_upto_region 17 with fail
 refine (F.new2 _).cut ?_
 intro w3 F
 have bb:=F.x1.boxC
 have cb:=F.x2.boxC
 go_wp2
 refine (F.x1.put ..).ret rfl rfl ?_
 rw[HV.out]
 exact (F.put1 ..).done rfl (show Is (.error (zp (Cx.mk j h false) q.pos)) q2 _ from rfl)
theorem zpr (j:List Tk) (h:Nat) (D z n:Nat) (S:Sv) (q:PS) (d:Nat) (w:World) (E:Mem (Cx.mk j h false) D z n S q w) (L:((ze (Cx.mk j h false) q.pos).kind==2)=false) (O:isT (Cx.mk j h false) q.pos 4 zm=false) (N:q.pos<(Cx.mk j h false).ts.length) (U:zB (Cx.mk j h false) q.pos false=false):
  Calls Tryz.prog 182 #[pv (Cx.mk j h false) D z S q (-1) d] w (Out (Cx.mk j h false) D z n (pE (Cx.mk j h false) .part d q) d S w):=by
 have Y:=zc E
 have A:=E.tok
 have H:(Cx.mk j h false).ts.length≤4000:=E.few
 have M:=(zaj E.tok).1
 clear E
 have HV:Hid (pE (Cx.mk j h false) .part d q= .error (zp (Cx.mk j h false) q.pos)):=by show pE (Cx.mk j h false) .part d q=_;rw[zbs,L,O,zh,U];rfl
 have Z:q.pos<j.length:=N
 obtain⟨K,_,_,_⟩:=A.cells N (d:=⟨0,sNone,0,(Cx.mk j h false).fin⟩)
 change _=some (Value.int .i64 (ze (Cx.mk j h false) q.pos).kind) at K
 generalize (ze (Cx.mk j h false) q.pos).kind=kd at K L
 unfold pv
 go_enter Tryz.func182,Tryz.ntmps182
 go_wp2_with fail
 refine (zg (Cx.mk j h false) D z n S q (-1) d 4 zm _ (zo (zo A _) _) H (by decide)).mono ?_
 rintro e w1 ⟨rfl,J⟩
 rw[O]
 have F:=Y.out.fm J
 have ab:=F.x0.boxC
 go_wp2_with fail
 refine (zaS (Cx.mk j h false) D z n (.ok q) S q (-1) d false _ (zT q) F.m).mono ?_
 rintro e w2 ⟨S2,q2,z2,n2,rfl,I,X,s2⟩
 replace F:=F.stp X s2
 clear ab
 obtain rfl:=zfy I.out U
 have dz:decide ((0:Int)≤(zp (Cx.mk j h false) q.pos:Int))=true:=decide_eq_true (by omega)
 have V:w.heap.size+1<w2.heap.size:=F.x1.lt
 unfold pv
 go_upto_region 17 with fail
 refine (F.new2 _).cut ?_
 intro w3 F
 have bb:=F.x1.boxC
 obtain⟨K,c1,c2,c3,c4,c5,c6,c7,c8,c9,ac,aa,cf⟩:=F.x2.box
 go_wp2
 refine (F.x1.put ..).ret rfl rfl ?_
 rw[HV.out]
 exact (F.put1 ..).done rfl (show Is (.error (zp (Cx.mk j h false) q.pos)) q2 _ from rfl)
theorem zjj (A:List Tk) (h:Nat) (E z j:Nat) (S:Sv) (q:PS) (d:Nat) (w:World) (H:Mem (Cx.mk A h false) E z j S q w) (n:Nat):
  Calls Tryz.prog 182 #[pv (Cx.mk A h false) E z S q (n:Int) d] w (Out (Cx.mk A h false) E z j (.error n) d S w):=by
 have O:=zc H
 have D:=H.tok
 have I:(Cx.mk A h false).ts.length≤4000:=H.few
 have L:=(zaj H.tok).1
 clear H
 have Y: ¬(n:Int)<0:=by omega
 have Z: ∀k s,(decide ((n:Int)<0)&&isT (Cx.mk A h false) q.pos k s)=false:=fun k s=>by rw[decide_eq_false Y];rfl
 unfold pv
 go_enter Tryz.func182,Tryz.ntmps182
 go_wp2_with fail
 refine (zg (Cx.mk A h false) E z j S q (n:Int) d 4 zm _ (zo (zo D _) _) I (by decide)).mono ?_
 rintro e w1 ⟨rfl,K⟩
 rw[Z]
 have F:=O.out.fm K
 have X:=F.x0.boxC
 go_wp2_with fail
 refine (zaS (Cx.mk A h false) E z j (.error n) S q (n:Int) d false _ (show Is (.error n) q _ from rfl) F.m).mono ?_
 rintro e w2 ⟨S2,q2,U,n2,rfl,J,N,V⟩
 replace F:=F.stp N V
 clear X
 obtain rfl:U=(n:Int):=J.out
 have dz:decide ((0:Int)≤(n:Int))=true:=decide_eq_true (by omega)
 have M:w.heap.size+1<w2.heap.size:=F.x1.lt
 unfold pv
 go_upto_region 17 with fail
 refine (F.new2 _).cut ?_
 intro w3 F
 have bb:=F.x1.boxC
 have cb:=F.x2.boxC
 go_wp2
 refine (F.x1.put ..).ret rfl rfl ?_
 exact (F.put1 ..).done rfl (show Is (.error n) q2 _ from rfl)
theorem zps (j:List Tk) (h:Nat) (E z n:Nat) (S:Sv) (q:PS) (d:Nat) (w:World) (I:Mem (Cx.mk j h false) E z n S q w) (hk:((ze (Cx.mk j h false) q.pos).kind==2)=false) (ho:isT (Cx.mk j h false) q.pos 4 zm=false) (hp:q.pos<(Cx.mk j h false).ts.length) (hn:zB (Cx.mk j h false) q.pos false=true) (hd:isT (Cx.mk j h false) (q.pos+1) 4 cPoint=false):
  Calls Tryz.prog 182 #[pv (Cx.mk j h false) E z S q (-1) d] w (Out (Cx.mk j h false) E z n (pE (Cx.mk j h false) .part d q) d S w):=by
 have HM:=zc I
 have A:=I.tok
 have D:(Cx.mk j h false).ts.length≤4000:=I.few
 have ac:=(zaj I.tok).1
 clear I
 have HV:Hid (pE (Cx.mk j h false) .part d q=zbm (Cx.mk j h false) (ze (Cx.mk j h false) q.pos).text (adv q)):=by show pE (Cx.mk j h false) .part d q=_;rw[zbs,hk,ho,zh,hn];show (if isT (Cx.mk j h false) (adv q).pos 4 cPoint then _ else _)=_;rw[zw,hd];rfl
 have ae:q.pos<j.length:=hp
 obtain⟨L,_,_,_⟩:=A.cells hp (d:=⟨0,sNone,0,(Cx.mk j h false).fin⟩)
 change _=some (Value.int .i64 (ze (Cx.mk j h false) q.pos).kind) at L
 generalize (ze (Cx.mk j h false) q.pos).kind=kd at L hk
 unfold pv
 go_enter Tryz.func182,Tryz.ntmps182
 go_wp2_with fail
 refine (zg (Cx.mk j h false) E z n S q (-1) d 4 zm _ (zo (zo A _) _) D (by decide)).mono ?_
 rintro e w1 ⟨rfl,Z⟩
 rw[ho]
 have F:=HM.out.fm Z
 have ab:=F.x0.boxC
 go_wp2_with fail
 refine (zaS (Cx.mk j h false) E z n (.ok q) S q (-1) d false _ (zT q) F.m).mono ?_
 rintro e w2 ⟨S2,M,z2,n2,rfl,H,m2,s2⟩
 replace F:=F.stp m2 s2
 clear ab
 obtain⟨N,rfl,J⟩:=zfx H.out hn
 have HQ:=zc N
 have V:=zc J
 have K:M.pos=q.pos+1:=by rw[N];rfl
 have Y:isT (Cx.mk j h false) M.pos 4 cPoint=false:=by rw[K];exact hd
 clear N J H
 have ad:w.heap.size+1<w2.heap.size:=F.x1.lt
 unfold pv
 clear K
 go_wp2_with fail
 refine (zg (Cx.mk j h false) E z n S2 M (-1) d 4 cPoint _ (F.alloc _).m.tok D (by decide)).mono ?_
 rintro e w3 ⟨rfl,aa⟩
 rw[Y]
 replace F:=(F.new2 _).below aa
 obtain⟨L,c1,c2,c3,c4,c5,c6,c7,c8,c9,X,O,cf⟩:=F.x2.box
 go_wp2_with fail
 refine (zgv (Cx.mk j h false) E z n S2 M d n2 _ F.m (by rw[HQ.out];simp[adv])).mono ?_
 rintro e w4 ⟨S4,q4,z4,rfl,U,m4,s4⟩
 replace F:=F.stp m4 s4
 clear L c1 c2 c3 c4 c5 c6 c7 c8 c9 X O cf
 have bb:=F.x1.boxC
 unfold pv
 go_wp2
 refine (F.x1.put ..).ret rfl rfl ?_
 rw[HV.out,←HQ.out,←V.out]
 exact (F.put1 ..).done rfl U.out
theorem zpt (n:List Tk) (h:Nat) (D z j:Nat) (S:Sv) (q:PS) (d:Nat) (w:World) (X:Mem (Cx.mk n h false) D z j S q w) (hk:((ze (Cx.mk n h false) q.pos).kind==2)=false) (ho:isT (Cx.mk n h false) q.pos 4 zm=false) (hp:q.pos<(Cx.mk n h false).ts.length) (hn:zB (Cx.mk n h false) q.pos false=true) (hd:isT (Cx.mk n h false) (q.pos+1) 4 cPoint=true):
  Calls Tryz.prog 182 #[pv (Cx.mk n h false) D z S q (-1) d] w (Out (Cx.mk n h false) D z j (pE (Cx.mk n h false) .part d q) d S w):=by
 have HM:=zc X
 have H:=X.tok
 have A:(Cx.mk n h false).ts.length≤4000:=X.few
 have ak:=(zaj X.tok).1
 clear X
 have HV:Hid (pE (Cx.mk n h false) .part d q=bd (bd (.ok (adv (adv q))) (zh (Cx.mk n h false) true)) fun y=>zbw (Cx.mk n h false) (ze (Cx.mk n h false) q.pos).text y.2 y.1):=by show pE (Cx.mk n h false) .part d q=_;rw[zbs,hk,ho,zh,hn];show (if isT (Cx.mk n h false) (adv q).pos 4 cPoint then _ else _)=_;rw[zw,hd];rfl
 have am:q.pos<n.length:=hp
 obtain⟨c0,_,_,_⟩:=H.cells hp (d:=⟨0,sNone,0,(Cx.mk n h false).fin⟩)
 change _=some (Value.int .i64 (ze (Cx.mk n h false) q.pos).kind) at c0
 generalize (ze (Cx.mk n h false) q.pos).kind=kd at c0 hk
 unfold pv
 go_enter Tryz.func182,Tryz.ntmps182
 go_wp2_with fail
 refine (zg (Cx.mk n h false) D z j S q (-1) d 4 zm _ (zo (zo H _) _) A (by decide)).mono ?_
 rintro e w1 ⟨rfl,ah⟩
 rw[ho]
 have F:=HM.out.fm ah
 have ab:=F.x0.boxC
 go_wp2_with fail
 refine (zaS (Cx.mk n h false) D z j (.ok q) S q (-1) d false _ (zT q) F.m).mono ?_
 rintro e w2 ⟨S2,J,z2,n2,rfl,M,m2,s2⟩
 replace F:=F.stp m2 s2
 clear ab
 obtain⟨hq,rfl,O⟩:=zfx M.out hn
 have HQ:=zc hq
 have V:=zc O
 have aa:J.pos=q.pos+1:=by rw[hq];rfl
 have N:isT (Cx.mk n h false) J.pos 4 cPoint=true:=by rw[aa];exact hd
 clear hq O M
 have al:w.heap.size+1<w2.heap.size:=F.x1.lt
 unfold pv
 clear aa
 go_wp2_with fail
 refine (zg (Cx.mk n h false) D z j S2 J (-1) d 4 cPoint _ (F.alloc _).m.tok A (by decide)).mono ?_
 rintro e w3 ⟨rfl,ae⟩
 rw[N]
 replace F:=(F.new2 _).below ae
 obtain⟨c0,c1,c2,c3,c4,c5,c6,c7,c8,c9,ad,af,cf⟩:=F.x2.box
 have Y:J.pos<(Cx.mk n h false).ts.length:=zax N (by decide)
 have ai:J.pos<n.length:=Y
 go_wp2_with fail
 refine (zaS (Cx.mk n h false) D z j (.ok (adv J)) S2 (adv J) (-1) d true _ (zT _) ((F.adv Y).set2_1 _).m).mono ?_
 rintro e w4 ⟨S4,Z,L,n4,rfl,E,m4,s4⟩
 replace F:=(F.set2_1 _).stp m4 s4
 clear c0 c1 c2 c3 c4 c5 c6 c7 c8 c9 ad af cf
 have aj:w.heap.size+1<w4.heap.size:=F.x1.lt
 have ac:w2.heap.size<w4.heap.size:=F.x2.lt
 cases hc:(decide (L<0)&&isT (Cx.mk n h false) Z.pos 4 zm) with
 |true=>
  unfold pv
  go_wp2_with fail
  refine (zg (Cx.mk n h false) D z j S4 Z L d 4 zm _ (F.alloc _).m.tok A (by decide)).mono ?_
  rintro e w5 ⟨rfl,K⟩
  rw[hc]
  replace F:=(F.new3 _).below K
  have db:=F.x3.boxC
  go_wp2_with fail
  refine (zZ (Cx.mk n h false) D z j _ S4 Z L d zm _ E.out.fst F.m).mono ?_
  rintro e w6 ⟨S6,q6,z6,rfl,I,m6,s6⟩
  replace F:=F.stp m6 s6
  clear db
  go_wp2_with fail
  refine (zZ (Cx.mk n h false) D z j _ S6 q6 z6 d zaw _ I.out F.m).mono ?_
  rintro e w7 ⟨S7,q7,z7,rfl,U,m7,s7⟩
  replace F:=F.stp m7 s7
  have db:=F.x3.boxC
  unfold pv
  go_wp2_with fail
  refine (zc0 (Cx.mk n h false) D z j _ S7 q7 z7 d ⟨5,0,n2,n4,0,0⟩ _ U.out (F.put3 ..).m (zaX U.out)).mono ?_
  rintro e w8 ⟨S8,q8,z8,rfl,ag,m8,s8⟩
  replace F:=(F.put3 ..).stp m8 s8
  clear db
  have bb:=F.x1.boxC
  unfold pv
  go_wp2
  refine (F.x1.put ..).ret rfl rfl ?_
  rw[HV.out,←HQ.out,←V.out,←zjf E.out hc]
  exact (F.put1 ..).done rfl ag.out
 |false=>
  unfold pv
  go_wp2_with fail
  refine (zg (Cx.mk n h false) D z j S4 Z L d 4 zm _ (F.alloc _).m.tok A (by decide)).mono ?_
  rintro e w5 ⟨rfl,K⟩
  rw[hc]
  replace F:=(F.new3 _).below K
  have db:=F.x3.boxC
  go_wp2_with fail
  refine (zc0 (Cx.mk n h false) D z j _ S4 Z L d ⟨4,0,n2,n4,0,0⟩ _ E.out.fst F.m (zjh E.out)).mono ?_
  rintro e w6 ⟨S6,q6,z6,rfl,I,m6,s6⟩
  replace F:=F.stp m6 s6
  clear db
  have bb:=F.x1.boxC
  unfold pv
  go_wp2
  refine (F.x1.put ..).ret rfl rfl ?_
  rw[HV.out,←HQ.out,←V.out,←zjg E.out hc]
  exact (F.put1 ..).done rfl I.out
def zgw (C:Cx) (gt cap base m:Nat):Prop:=∀(x:PR) (S:Sv) (q:PS) (z:Int) (d:Nat) (w:World),Is x q z→Mem C gt cap base S q w→(z<0→C.ts.length-q.pos<m)→d≤20→
 Calls Tryz.prog 182 #[pv C gt cap S q z d] w (Out C gt cap base (bd x (pE C .part d)) d S w)
def zjk (C:Cx) (gt cap base m:Nat):Prop:=∀(x:PR) (S:Sv) (q:PS) (z:Int) (d:Nat) (w:World),Is x q z→Mem C gt cap base S q w→(z<0→C.ts.length-q.pos<m)→d≤20→
 Calls Tryz.prog 150 #[pv C gt cap S q z d] w (Out C gt cap base (bd x (pE C .prod d)) d S w)
theorem SumOK.mono {C:Cx} {A n j m k:Nat} (h:SumOK C A n j m) (D:k≤m):SumOK C A n j k:=fun x S q z d w I E J H=>h x S q z d w I E (fun g=>Nat.lt_of_lt_of_le (J g) D) H
theorem zpu {C:Cx} {D n h m:Nat} (Z:SumOK C D n h m):zgw C D n h (m+1):=by
 intro x S q z d w X E Y K
 by_cases O:z<0
 ·obtain⟨rfl,rfl⟩:=za6 X O
  rw[zx]
  have V:SumOK C D n h (C.ts.length-q.pos):=Z.mono (by have:=Y O;omega)
  cases H:((ze C q.pos).kind==2) with
  |true=>exact zpi C D n h S q d w E H
  |false=>
   cases J:isT C q.pos 4 zm with
   |true=>
    by_cases U:20≤d
    ·exact zpj C D n h S q d w E H J U K
    ·exact zpk C D n h S q d w E H J (by omega) V
   |false=>
    obtain⟨A,j,L⟩:=C
    cases L with
    |true=>
     by_cases I:q.pos<A.length
     ·cases N:isT (Cx.mk A j true) q.pos 1 za3 with
      |true=>exact zpn A j D n h S q d w E H J I N
      |false=>
       cases M:zB (Cx.mk A j true) q.pos false with
       |false=>exact zpm A j D n h S q d w E H J I N M
       |true=>
        cases K:isT (Cx.mk A j true) (q.pos+1) 4 cPoint with
        |false=>exact zpo A j D n h S q d w E H J I N M K
        |true=>exact zpp A j D n h S q d w E H J I N M K
     ·exact zpl A j D n h S q d w E I
    |false=>
     by_cases I:q.pos<A.length
     ·cases M:zB (Cx.mk A j false) q.pos false with
      |false=>exact zpr A j D n h S q d w E H J I M
      |true=>
       cases K:isT (Cx.mk A j false) (q.pos+1) 4 cPoint with
       |false=>exact zps A j D n h S q d w E H J I M K
       |true=>exact zpt A j D n h S q d w E H J I M K
     ·exact zpq A j D n h S q d w E I
 ·obtain⟨e,rfl,rfl⟩:=zcM X O
  rw[zd5]
  obtain⟨A,j,L⟩:=C
  cases L with
  |true=>exact zji A j D n h S q d w E e
  |false=>exact zjj A j D n h S q d w E e
theorem zgx {C:Cx} {x:PR} {q:PS} {z:Int} (h:Is x q z) (F:PS→Ex):bd x (zL C (F q))=bd x fun q'=>zL C (F q') q':=by
 cases x with
 |ok a=>obtain⟨rfl,_⟩:=h;rfl
 |error e=>rfl
theorem zjl {C:Cx} {y:PS→Ex} {x:PR} {q:PS} {n:Nat} (z: ∀a,x= .ok a→n≤a.pos) (h:(bd x fun q'=>zL C (y q') q')= .ok q):n≤q.pos:=by
 obtain⟨a,j,w⟩:=zj h
 obtain⟨rfl,_⟩:=zby w
 exact z a j
theorem zpv {C:Cx} {d m:Nat} {x:PR} {q j:PS} {z h:Int} (E:Is x q z) (A:Is (bd x (pE C .part d)) j h) (w:z<0→C.ts.length-q.pos<m) (H:h<0):C.ts.length-j.pos<m:=by
 obtain⟨e,_⟩:=za6 A H
 obtain⟨a,n,D⟩:=zj e
 subst n
 obtain⟨rfl,rfl⟩:=E
 have:=zaM D
 have:=w (by decide)
 omega
theorem zpw {C:Cx} {d m:Nat} {x:PR} {q j:PS} {z h:Int} (E:Is x q z) (A:Is (bd x (pE C .prod d)) j h) (w:z<0→C.ts.length-q.pos<m) (H:h<0):C.ts.length-j.pos<m:=by
 obtain⟨e,_⟩:=za6 A H
 obtain⟨a,n,D⟩:=zj e
 subst n
 obtain⟨rfl,rfl⟩:=E
 have:=zaM D
 have:=w (by decide)
 omega
theorem zpx {C:Cx} {d:Nat} {j q:PS} {z:Int} (h:Is (bd (.ok (adv j)) (pE C .part d)) q z) (n:z<0):1≤q.pos:=by
 obtain⟨e,_⟩:=za6 h n
 have:=zaM (show pE C .part d (adv j)= .ok q from e)
 rw[zw] at this
 omega
theorem zjm {C:Cx} {d:Nat} {j q:PS} {z:Int} (h:Is (bd (.ok (adv j)) (pE C .prod d)) q z) (n:z<0):1≤q.pos:=by
 obtain⟨e,_⟩:=za6 h n
 have:=zaM (show pE C .prod d (adv j)= .ok q from e)
 rw[zw] at this
 omega
theorem zpy {C:Cx} {d:Nat} {F:PS→Ex} {j q:PS} {z:Int} (h:Is (bd (bd (.ok (adv j)) (pE C .part d)) fun q'=>zL C (F q') q') q z) (w:z<0):j.pos+1≤q.pos:=by
 obtain⟨e,_⟩:=za6 h w
 exact zjl (fun a n=>by have:=zaM (show pE C .part d (adv j)= .ok a from n);rw[zw] at this;exact this) e
theorem zjn {C:Cx} {d:Nat} {F:PS→Ex} {j q:PS} {z:Int} (h:Is (bd (bd (.ok (adv j)) (pE C .prod d)) fun q'=>zL C (F q') q') q z) (w:z<0):j.pos+1≤q.pos:=by
 obtain⟨e,_⟩:=za6 h w
 exact zjl (fun a n=>by have:=zaM (show pE C .prod d (adv j)= .ok a from n);rw[zw] at this;exact this) e
theorem zpz {C:Cx} {d:Nat} {q:PS} (h:isT C q.pos 4 zv=true) (_:q.pos<C.ts.length):
  bd (.ok q) (pE C .prodT d)=bd (bd (bd (.ok (adv q)) (pE C .part d)) fun q'=>zL C ⟨8,0,sNone,sNone,(q.ex.length:Int)-1,(q'.ex.length:Int)-1⟩ q') (pE C .prodT d):=by
 show pE C .prodT d q=_
 rw[zeG,if_pos h]
 rfl
theorem zjo {C:Cx} {d:Nat} {q:PS} {k:Int} (h:(isT C q.pos 4 zbJ||isT C q.pos 4 zaQ)=true) (j:zcF C q.pos=k) (_:q.pos<C.ts.length):
  bd (.ok q) (pE C .sumT d)=bd (bd (bd (.ok (adv q)) (pE C .prod d)) fun q'=>zL C ⟨k,0,sNone,sNone,(q.ex.length:Int)-1,(q'.ex.length:Int)-1⟩ q') (pE C .sumT d):=by
 show pE C .sumT d q=_
 rw[zed,if_pos h,j]
 rfl
theorem zp0 {C:Cx} {d:Nat} {x:PR} {q:PS} {z:Int} (j:Is x q z) (h:(decide (z<0)&&isT C q.pos 4 zv)=false):Is (bd x (pE C .prodT d)) q z:=by
 cases x with
 |ok a=>
  obtain⟨rfl,rfl⟩:=j
  rw[Bool.and_eq_false_iff] at h
  rw[zx,zeG,h.resolve_left (by decide)]
  exact⟨rfl,rfl⟩
 |error e=>exact j
theorem zp1 {C:Cx} {d:Nat} {x:PR} {q:PS} {z:Int} (n:Is x q z) (j:(decide (z<0)&&isT C q.pos 4 zbJ)=false) (h:(decide (z<0)&&isT C q.pos 4 zaQ)=false):Is (bd x (pE C .sumT d)) q z:=by
 cases x with
 |ok a=>
  obtain⟨rfl,rfl⟩:=n
  rw[Bool.and_eq_false_iff] at j h
  rw[zx,zed,j.resolve_left (by decide),h.resolve_left (by decide)]
  exact⟨rfl,rfl⟩
 |error e=>exact n
theorem zp2 {C:Cx} {i:Nat} (h:isT C i 4 zbJ=true):isT C i 4 zaQ=false:=by
 simp only[isT,Bool.and_eq_true,beq_iff_eq] at h
 simp only[isT,h.2]
 rw[Bool.and_eq_false_iff]
 exact .inr (by simp)
theorem zjp {C:Cx} {I D j m:Nat} (hP:zgw C I D j m):zjk C I D j m:=by
 intro x S q z d w hx hm hl J
 have HP:=zc hP
 have HM:=zc hm
 have HX:=zc hx
 have HL:=zc hl
 have L:=hm.few
 clear hP hm hx hl
 unfold pv
 go_enter Tryz.func150,Tryz.ntmps150
 go_wp2_with fail
 refine (HP.out x S q z d _ HX.out ((HM.out.alloc _).alloc _) HL.out J).mono ?_
 rintro e w1 ⟨S1,q1,z1,rfl,X,m1,s1⟩
 have F:=HM.out.fm2 m1 s1
 have E:=F.x0.boxC
 unfold pv
 go_wp2
 go_loopg [] (C.ts.length+1) (fun k wr=>∃(x':PR) (A:Sv) (n:PS) (Z:Int),Is x' n Z∧bd x' (pE C .prodT d)=bd x (pE C .prod d)∧(Z<0→C.ts.length-n.pos<k)∧(Z<0→C.ts.length-n.pos<m)∧Mem C I D j A n wr∧SB w.heap.size S w A wr∧Bx I A wr w.heap.size #[.slice (some ⟨I,0,none⟩) C.ts.length D,.int .i64 n.pos,.int .i64 C.fin,.bool C.scr,.slice A.rq.a n.rq.length A.rq.cap,.slice A.im.a n.im.length A.im.cap,.slice A.ep.a n.ep.length A.ep.cap,.slice A.st.a n.st.length A.st.cap,.slice A.ex.a n.ex.length A.ex.cap,.slice A.la.a n.la.length A.la.cap,.int .i64 Z,.int .i64 d]∧Bx I A wr (w.heap.size+1) #[.slice none 0 0,.int .i64 0,.int .i64 0,.bool false,.slice none 0 0,.slice none 0 0,.slice none 0 0,.slice none 0 0,.slice none 0 0,.slice none 0 0,.int .i64 0,.int .i64 0])
 case atStart=>exact⟨_,S1,q1,z1,X.out,by rw[zJ];exact zX fun a _=>(zgF C d a).symm,fun _=>by omega,fun U=>zpv HX.out X.out HL.out U,(F.put0 ..).m,(F.put0 ..).t,(F.put0 ..).x0,(F.put0 ..).x1⟩
 case round=>
  obtain⟨x2,S2,H,z2,i2,e2,l2,b2,m2,t2,X0,X1⟩:=hrel
  have F:=Fm.of2 X0 X1 m2 t2 (by omega) (by omega) (by omega)
  have O:=zc i2
  have Y:=zc e2
  have ad:=zc l2
  have ac:=zc b2
  have ai:=m2.inv.ex
  clear X0 X1 i2 m2 t2 e2 l2 b2
  cases V:(decide (z2<0)&&isT C H.pos 4 zv) with
  |true=>
   have E:=F.x0.boxC
   go_wp2_with fail
   refine (zg C I D j S2 H z2 d 4 zv _ F.m.tok L (by decide)).mono ?_
   rintro e w3 ⟨rfl,N⟩
   rw[V]
   replace F:=F.below N
   clear E
   rw[Bool.and_eq_true,decide_eq_true_eq] at V
   obtain⟨U,hs⟩:=V
   have hp:H.pos<C.ts.length:=zax hs (by decide)
   obtain⟨rfl,rfl⟩:=za6 O.out U
   have af:=ad.out U
   have aj:=ac.out U
   skip
   have E:=F.x0.boxC
   go_wp2_with fail
   refine (HP.out (.ok (adv H)) S2 (adv H) (-1) d _ (zT _) ((F.adv hp).set0_1 _).m (fun _=>by rw[zw];omega) J).mono ?_
   rintro e w4 ⟨S4,q4,z4,rfl,M,m4,s4⟩
   replace F:=(F.set0_1 _).stp m4 s4
   clear E
   have E:=F.x0.boxC
   unfold pv
   go_upto_region 6 with fail
   refine (F.put0 ..).cut ?_
   clear E
   intro w5 F
   have E:=F.x0.boxC
   have ae:=F.m.inv.ex
   go_wp2_with fail
   refine (zc0 C I D j _ S4 q4 z4 d ⟨8,0,sNone,sNone,(H.ex.length:Int)-1,(q4.ex.length:Int)-1⟩ _ M.out F.m (fun h=>zpx M.out h)).mono ?_
   rintro e w6 ⟨S6,q6,z6,rfl,aa,m6,s6⟩
   replace F:=F.stp m6 s6
   clear E
   have HI:Hid (Is (bd (bd (.ok (adv H)) (pE C .part d)) fun n=>zL C ⟨8,0,sNone,sNone,(H.ex.length:Int)-1,(n.ex.length:Int)-1⟩ n) q6 z6):=by rw[←zgx M.out (fun n=>⟨8,0,sNone,sNone,(H.ex.length:Int)-1,(n.ex.length:Int)-1⟩)];exact aa.out
   have K:Hid (z6<0→H.pos+1≤q6.pos):=fun h=>zpy HI.out h
   have E:=F.x0.boxC
   unfold pv
   go_wp2
   go_roundg (gk-1)
   case rel=>exact⟨_,S6,q6,z6,HI.out,by rw[←Y.out];exact (zpz (d:=d) hs hp).symm,fun h=>by have:=K.out h;omega,fun h=>by have:=K.out h;omega,(F.put0 ..).m,(F.put0 ..).t,(F.put0 ..).x0,(F.put0 ..).x1⟩
   case measure=>omega
  |false=>
   have E:=F.x0.boxC
   go_wp2_with fail
   refine (zg C I D j S2 H z2 d 4 zv _ F.m.tok L (by decide)).mono ?_
   rintro e w3 ⟨rfl,N⟩
   rw[V]
   replace F:=F.below N
   clear E
   have E:=F.x0.boxC
   obtain⟨b0,b1,b2,b3,b4,b5,b6,b7,b8,b9,ah,ag,bf⟩:=F.x1.box
   go_wp2
   refine (F.x1.put ..).ret rfl rfl ?_
   exact (F.put1 ..).done rfl (show Is (bd x (pE C .prod d)) H z2 from by rw[←Y.out];exact zp0 O.out V)
theorem zjq {C:Cx} {L D j m:Nat} (hP:zjk C L D j m):SumOK C L D j m:=by
 intro x S q z d w hx hm hl M
 have HP:=zc hP
 have HM:=zc hm
 have HX:=zc hx
 have HL:=zc hl
 have H:=hm.few
 clear hP hm hx hl
 unfold pv
 go_enter Tryz.func111,Tryz.ntmps111
 go_wp2_with fail
 refine (HP.out x S q z d _ HX.out ((HM.out.alloc _).alloc _) HL.out M).mono ?_
 rintro e w1 ⟨S1,q1,z1,rfl,ae,m1,s1⟩
 have F:=HM.out.fm2 m1 s1
 have A:=F.x0.boxC
 unfold pv
 go_wp2
 go_loopg [] (C.ts.length+1) (fun k wr=>∃(x':PR) (K:Sv) (E:PS) (z':Int),Is x' E z'∧bd x' (pE C .sumT d)=bd x (pE C .sum d)∧(z'<0→C.ts.length-E.pos<k)∧(z'<0→C.ts.length-E.pos<m)∧Mem C L D j K E wr∧SB w.heap.size S w K wr∧Bx L K wr w.heap.size #[.slice (some ⟨L,0,none⟩) C.ts.length D,.int .i64 E.pos,.int .i64 C.fin,.bool C.scr,.slice K.rq.a E.rq.length K.rq.cap,.slice K.im.a E.im.length K.im.cap,.slice K.ep.a E.ep.length K.ep.cap,.slice K.st.a E.st.length K.st.cap,.slice K.ex.a E.ex.length K.ex.cap,.slice K.la.a E.la.length K.la.cap,.int .i64 z',.int .i64 d]∧Bx L K wr (w.heap.size+1) #[.slice none 0 0,.int .i64 0,.int .i64 0,.bool false,.slice none 0 0,.slice none 0 0,.slice none 0 0,.slice none 0 0,.slice none 0 0,.slice none 0 0,.int .i64 0,.int .i64 0])
 case atStart=>exact⟨_,S1,q1,z1,ae.out,by rw[zJ];exact zX fun a _=>(zgE C d a).symm,fun _=>by omega,fun U=>zpw HX.out ae.out HL.out U,(F.put0 ..).m,(F.put0 ..).t,(F.put0 ..).x0,(F.put0 ..).x1⟩
 case round=>
  obtain⟨x2,V,n,O,i2,e2,l2,b2,m2,t2,X0,X1⟩:=hrel
  have F:=Fm.of2 X0 X1 m2 t2 (by omega) (by omega) (by omega)
  have X:=zc i2
  have ad:=zc e2
  have ag:=zc l2
  have af:=zc b2
  have aq:=m2.inv.ex
  clear X0 X1 i2 m2 t2 e2 l2 b2
  cases hc:(decide (O<0)&&isT C n.pos 4 zbJ) with
  |true=>
   have A:=F.x0.boxC
   go_wp2_with fail
   refine (zg C L D j V n O d 4 zbJ _ F.m.tok H (by decide)).mono ?_
   rintro e w3 ⟨rfl,aa⟩
   rw[hc]
   replace F:=F.below aa
   clear A
   rw[Bool.and_eq_true,decide_eq_true_eq] at hc
   obtain⟨U,Z⟩:=hc
   have ah:isT C n.pos 4 zaQ=false:=zp2 Z
   have I:(decide (O<0)&&isT C n.pos 4 zaQ)=false:=by rw[ah,Bool.and_false]
   have A:=F.x0.boxC
   go_wp2_with fail
   refine (zg C L D j V n O d 4 zaQ _ F.m.tok H (by decide)).mono ?_
   rintro e w4 ⟨rfl,N⟩
   rw[I]
   replace F:=F.below N
   clear A
   clear I
   have hp:n.pos<C.ts.length:=zax Z (by decide)
   obtain⟨rfl,rfl⟩:=za6 X.out U
   have aj:=ag.out U
   have an:=af.out U
   skip
   have A:=F.x0.boxC
   go_wp2_with fail
   refine (HP.out (.ok (adv n)) V (adv n) (-1) d _ (zT _) ((F.adv hp).set0_1 _).m (fun _=>by rw[zw];omega) M).mono ?_
   rintro e w5 ⟨S5,q5,z5,rfl,ac,m5,s5⟩
   replace F:=(F.set0_1 _).stp m5 s5
   clear A
   have A:=F.x0.boxC
   unfold pv
   go_upto_region 9 with fail
   refine (F.put0 ..).cut ?_
   clear A
   intro w6 F
   have A:=F.x0.boxC
   have ai:=F.m.inv.ex
   go_wp2_with fail
   refine (zc0 C L D j _ S5 q5 z5 d ⟨6,0,sNone,sNone,(n.ex.length:Int)-1,(q5.ex.length:Int)-1⟩ _ ac.out F.m (fun h=>zjm ac.out h)).mono ?_
   rintro e w7 ⟨S7,q7,z7,rfl,ak,m7,s7⟩
   replace F:=F.stp m7 s7
   clear A
   have HI:Hid (Is (bd (bd (.ok (adv n)) (pE C .prod d)) fun E=>zL C ⟨6,0,sNone,sNone,(n.ex.length:Int)-1,(E.ex.length:Int)-1⟩ E) q7 z7):=by rw[←zgx ac.out (fun E=>⟨6,0,sNone,sNone,(n.ex.length:Int)-1,(E.ex.length:Int)-1⟩)];exact ak.out
   have J:Hid (z7<0→n.pos+1≤q7.pos):=fun h=>zjn HI.out h
   have A:=F.x0.boxC
   unfold pv
   go_wp2
   go_roundg (gk-1)
   case rel=>exact⟨_,S7,q7,z7,HI.out,by rw[←ad.out];exact (zjo (d:=d) (by rw[Z];rfl) (show zcF C n.pos=6 by rw[zcF,ah];rfl) hp).symm,fun h=>by have:=J.out h;omega,fun h=>by have:=J.out h;omega,(F.put0 ..).m,(F.put0 ..).t,(F.put0 ..).x0,(F.put0 ..).x1⟩
   case measure=>omega
  |false=>
   have A:=F.x0.boxC
   go_wp2_with fail
   refine (zg C L D j V n O d 4 zbJ _ F.m.tok H (by decide)).mono ?_
   rintro e w3 ⟨rfl,aa⟩
   rw[hc]
   replace F:=F.below aa
   clear A
   cases I:(decide (O<0)&&isT C n.pos 4 zaQ) with
   |true=>
    have A:=F.x0.boxC
    go_wp2_with fail
    refine (zg C L D j V n O d 4 zaQ _ F.m.tok H (by decide)).mono ?_
    rintro e w4 ⟨rfl,N⟩
    rw[I]
    replace F:=F.below N
    clear A
    have A:=F.x0.boxC
    go_wp2_with fail
    refine (zg C L D j V n O d 4 zaQ _ F.m.tok H (by decide)).mono ?_
    rintro e w5 ⟨rfl,al⟩
    rw[I]
    replace F:=F.below al
    clear A
    rw[Bool.and_eq_true,decide_eq_true_eq] at I
    obtain⟨U,Z⟩:=I
    have hp:n.pos<C.ts.length:=zax Z (by decide)
    obtain⟨rfl,rfl⟩:=za6 X.out U
    have aj:=ag.out U
    have an:=af.out U
    skip
    have A:=F.x0.boxC
    go_wp2_with fail
    refine (HP.out (.ok (adv n)) V (adv n) (-1) d _ (zT _) ((F.adv hp).set0_1 _).m (fun _=>by rw[zw];omega) M).mono ?_
    rintro e w6 ⟨S6,q6,z6,rfl,Y,m6,s6⟩
    replace F:=(F.set0_1 _).stp m6 s6
    clear A
    have A:=F.x0.boxC
    unfold pv
    go_upto_region 9 with fail
    refine (F.put0 ..).cut ?_
    clear A
    intro w7 F
    have A:=F.x0.boxC
    have ai:=F.m.inv.ex
    go_wp2_with fail
    refine (zc0 C L D j _ S6 q6 z6 d ⟨7,0,sNone,sNone,(n.ex.length:Int)-1,(q6.ex.length:Int)-1⟩ _ Y.out F.m (fun h=>zjm Y.out h)).mono ?_
    rintro e w8 ⟨S8,q8,z8,rfl,am,m8,s8⟩
    replace F:=F.stp m8 s8
    clear A
    have HI:Hid (Is (bd (bd (.ok (adv n)) (pE C .prod d)) fun E=>zL C ⟨7,0,sNone,sNone,(n.ex.length:Int)-1,(E.ex.length:Int)-1⟩ E) q8 z8):=by rw[←zgx Y.out (fun E=>⟨7,0,sNone,sNone,(n.ex.length:Int)-1,(E.ex.length:Int)-1⟩)];exact am.out
    have J:Hid (z8<0→n.pos+1≤q8.pos):=fun h=>zjn HI.out h
    have A:=F.x0.boxC
    unfold pv
    go_wp2
    go_roundg (gk-1)
    case rel=>exact⟨_,S8,q8,z8,HI.out,by rw[←ad.out];exact (zjo (d:=d) (by rw[Z,Bool.or_true]) (show zcF C n.pos=7 by rw[zcF,Z];rfl) hp).symm,fun h=>by have:=J.out h;omega,fun h=>by have:=J.out h;omega,(F.put0 ..).m,(F.put0 ..).t,(F.put0 ..).x0,(F.put0 ..).x1⟩
    case measure=>omega
   |false=>
    have A:=F.x0.boxC
    go_wp2_with fail
    refine (zg C L D j V n O d 4 zaQ _ F.m.tok H (by decide)).mono ?_
    rintro e w4 ⟨rfl,N⟩
    rw[I]
    replace F:=F.below N
    clear A
    have A:=F.x0.boxC
    obtain⟨b0,b1,b2,b3,b4,b5,b6,b7,b8,b9,ap,ao,bf⟩:=F.x1.box
    go_wp2
    refine (F.x1.put ..).ret rfl rfl ?_
    exact (F.put1 ..).done rfl (show Is (bd x (pE C .sum d)) n O from by rw[←ad.out];exact zp1 X.out hc I)
theorem zp3 (C:Cx) (D j h:Nat):zgw C D j h 0:=by
 intro x S q z d w K E J L
 by_cases I:z<0
 ·have:=J I
  omega
 ·obtain⟨e,rfl,rfl⟩:=zcM K I
  rw[zd5]
  obtain⟨H,n,A⟩:=C
  cases A with
  |true=>exact zji H n D j h S q d w E e
  |false=>exact zjj H n D j h S q d w E e
theorem zp4 (C:Cx) (n j h:Nat) (m:Nat):SumOK C n j h m:=by
 induction m with
 |zero=>exact zjq (zjp (zp3 C n j h))
 |succ m q=>exact zjq (zjp (zpu q))
theorem zcB (C:Cx) (n j h:Nat) (x:PR) (S:Sv) (q:PS) (z:Int) (w:World) (D:Is x q z) (A:Mem C n j h S q w):
  Calls Tryz.prog 111 #[pv C n j S q z 0] w (Out C n j h (bd x (pE C .sum 0)) 0 S w):=
 zp4 C n j h (C.ts.length+1) x S q z 0 w D A (fun _=>by omega) (by omega)
theorem Is2.withN {y:PRN} {q q':PS} {z z':Int} {n:ByteArray} {F:PR→ByteArray→PR} (h:Is2 y q z n) (A: ∀e n,F (.error e) n= .error e) (j:Is (F (zaE y) n) q' z'):Is2 (withN y F) q' z' n:=by
 cases y with
 |ok a=>
  obtain⟨_,_,rfl⟩:=h
  have e:zaE (.ok a)= .ok a.1:=rfl
  rw[e] at j
  show Is2 (bd (F (.ok a.1) a.2) fun q=>.ok (q,a.2)) q' z' a.2
  cases w:F (.ok a.1) a.2 with
  |ok b=>rw[w] at j;exact⟨j.1,j.2,rfl⟩
  |error e=>rw[w] at j;exact j
 |error e=>
  have D:zaE (.error e)= .error e:=rfl
  rw[D,A] at j
  exact j
theorem zjr {C:Cx} {A j h:Nat} {y:PRN} {d:Nat} {S n:Sv} {w z:World} {q':PS} {z':Int} {q:ByteArray} {v:Value} (E:v=pv C A j n q' z' d) (I:Is2 y q' z' q) (D:Mem C A j h n q' z) (H:SB w.heap.size S w n z):zcU C A j h y d S w (.returned (.tuple #[v,.string q])) z:=
 ⟨n,q',z',q,by rw[E],I,D,H.done⟩
theorem zgy (C:Cx) (z j h:Nat) (S:Sv) (q:PS) (w:World) (N:Mem C z j h S q w):
  Calls Tryz.prog 108 #[pv C z j S q (-1) 0] w (zcU C z j h (zci C q) 0 S w):=by
 have L:=zc N
 clear N
 unfold pv
 go_enter Tryz.func108,Tryz.ntmps108
 go_wp2_with fail
 refine (zaA C z j h (.ok q) S q (-1) 0 zA _ (zT q) ((L.out.alloc _).alloc _)).mono ?_
 rintro e w1 ⟨S1,q1,z1,rfl,E,m1,s1⟩
 have F:=L.out.fm2 m1 s1
 go_wp2_with fail
 refine (zaS C z j h _ S1 q1 z1 0 false _ E.out F.m).mono ?_
 rintro e w2 ⟨S2,q2,z2,n2,rfl,D,U,s2⟩
 replace F:=F.stp U s2
 have M:w.heap.size+1<w2.heap.size:=F.x1.lt
 unfold pv
 go_wp2_with fail
 refine (zZ C z j h _ S2 q2 z2 0 cEq _ D.out.fst (F.alloc _).m).mono ?_
 rintro e w3 ⟨S3,q3,z3,rfl,K,V,s3⟩
 replace F:=(F.new2 _).stp V s3
 go_wp2_with fail
 refine (zcB C z j h _ S3 q3 z3 _ K.out F.m).mono ?_
 rintro e w4 ⟨S4,q4,z4,rfl,I,m4,O⟩
 replace F:=F.stp m4 O
 go_wp2_with fail
 refine (zZ C z j h _ S4 q4 z4 0 cSemi _ I.out F.m).mono ?_
 rintro e w5 ⟨Y,q5,X,rfl,A,m5,s5⟩
 replace F:=F.stp m5 s5
 have J:=F.x2.boxC
 unfold pv
 go_upto_region 3 with fail
 refine (F.put2 ..).cut ?_
 clear J
 intro w6 F
 have J:=F.x2.boxC
 go_wp2_with fail
 refine (zc1 C z j h _ Y q5 X 0 1 n2 _ A.out F.m (zaX A.out)).mono ?_
 rintro e w7 ⟨S7,q7,z7,rfl,H,m7,Z⟩
 replace F:=F.stp m7 Z
 clear J
 have bb:=F.x1.boxC
 unfold pv
 go_wp2
 refine bodyPost_ret (zay rfl _ _ (w.heap.size+1) 122 _ (0,0) _ rfl ((F.x1.put ..)).heap Tryz.underlying122 rfl (by kernel_rfl)) rfl ?_
 exact zjr rfl (D.out.withN (F:=fun x n=>_) (fun _ _=>rfl) H.out) (F.put1 ..).m (F.put1 ..).t
theorem zgz (C:Cx) (z j h:Nat) (S:Sv) (q:PS) (w:World) (hm:Mem C z j h S q w):
  Calls Tryz.prog 109 #[pv C z j S q (-1) 0] w (zcU C z j h (fnP C q) 0 S w):=by
 have HM:=zc hm
 clear hm
 unfold pv
 go_enter Tryz.func109,Tryz.ntmps109
 go_wp2_with fail
 refine (zaA C z j h (.ok q) S q (-1) 0 zN _ (zT q) ((HM.out.alloc _).alloc _)).mono ?_
 rintro e w1 ⟨S1,q1,z1,rfl,N,m1,s1⟩
 have F:=HM.out.fm2 m1 s1
 go_wp2_with fail
 refine (zaS C z j h _ S1 q1 z1 0 false _ N.out F.m).mono ?_
 rintro e w2 ⟨S2,q2,z2,n2,rfl,E,m2,s2⟩
 replace F:=F.stp m2 s2
 have ah:w.heap.size+1<w2.heap.size:=F.x1.lt
 unfold pv
 go_wp2_with fail
 refine (zZ C z j h _ S2 q2 z2 0 zm _ E.out.fst (F.alloc _).m).mono ?_
 rintro e w3 ⟨S3,q3,z3,rfl,ae,m3,s3⟩
 replace F:=(F.new2 _).stp m3 s3
 go_wp2_with fail
 refine (zZ C z j h _ S3 q3 z3 0 zaw _ ae.out F.m).mono ?_
 rintro e w4 ⟨S4,q4,z4,rfl,U,m4,s4⟩
 replace F:=F.stp m4 s4
 go_wp2_with fail
 refine (zZ C z j h _ S4 q4 z4 0 zF _ U.out F.m).mono ?_
 rintro e w5 ⟨S5,q5,z5,rfl,aa,m5,s5⟩
 replace F:=F.stp m5 s5
 have A:=F.x2.boxC
 unfold pv
 go_upto_region 3 with fail
 refine (F.put2 ..).cut ?_
 clear A
 intro w6 F
 have A:=F.x2.boxC
 go_wp2_with fail
 refine (zaA C z j h _ S5 q5 z5 0 zd4 _ aa.out F.m).mono ?_
 rintro e w7 ⟨S7,q7,z7,rfl,O,m7,s7⟩
 replace F:=F.stp m7 s7
 clear A
 go_wp2_with fail
 refine (zcB C z j h _ S7 q7 z7 _ O.out F.m).mono ?_
 rintro e w8 ⟨S8,q8,z8,rfl,ad,m8,s8⟩
 replace F:=F.stp m8 s8
 have A:=F.x2.boxC
 unfold pv
 go_upto_region 4 with fail
 refine (F.put2 ..).cut ?_
 clear A
 intro w9 F
 have A:=F.x2.boxC
 go_wp2_with fail
 refine (zZ C z j h _ S8 q8 z8 0 cSemi _ ad.out F.m).mono ?_
 rintro e an ⟨Z,ag,J,rfl,I,ab,K⟩
 replace F:=F.stp ab K
 clear A
 go_wp2_with fail
 refine (zZ C z j h _ Z ag J 0 zbb _ I.out F.m).mono ?_
 rintro e aj ⟨V,ac,af,rfl,D,L,M⟩
 replace F:=F.stp L M
 have A:=F.x2.boxC
 unfold pv
 go_upto_region 5 with fail
 refine (F.put2 ..).cut ?_
 clear A
 intro ao F
 have A:=F.x2.boxC
 go_wp2_with fail
 refine (zc1 C z j h _ V ac af 0 2 n2 _ D.out F.m (zaX D.out)).mono ?_
 rintro e am ⟨al,ak,ai,rfl,H,Y,X⟩
 replace F:=F.stp Y X
 clear A
 have bb:=F.x1.boxC
 unfold pv
 go_wp2
 refine bodyPost_ret (zay rfl _ _ (w.heap.size+1) 122 _ (0,0) _ rfl ((F.x1.put ..)).heap Tryz.underlying122 rfl (by kernel_rfl)) rfl ?_
 exact zjr rfl (E.out.withN (F:=fun x n=>_) (fun _ _=>rfl) H.out) (F.put1 ..).m (F.put1 ..).t
theorem zcC {C:Cx} {k:Int} {s:ByteArray} {q n:PS} {j:Int} (h:Is (bd (.ok q) (zd C k s)) n j) (w:isT C q.pos k s=true):n=adv q∧j= -1:=by
 rw[zx,zd,if_pos w] at h
 exact h
theorem ze4 {α:Type} (f:α→PS→PR) (l:List α) (e:Nat):zQ f l (.error e)= .error e:=by
 induction l with
 |nil=>rfl
 |cons a l h=>exact h
theorem zfz {α:Type} (f:α→PS→PR) (l:List α) (x:PR) {k:Nat} (h:k<l.length):zQ f (l.drop k) x=zQ f (l.drop (k+1)) (bd x (f (l[k]))):=by
 rw[List.drop_eq_getElem_cons h]
 rfl
theorem zjs {C:Cx} {h:PRN} {H J:PS} {E z:Int} {n w:ByteArray} {G:ByteArray→ByteArray→PS→PR} (D:Is2 h H E n) (j:Is2 (bd (bd (zaE h) (zd C 1 zO)) (zG C)) J z w):
  bd (bd (zaE (bd (bd (zaE h) (zd C 1 zO)) (zG C))) (zd C 4 cSemi)) (G w n)=bd h fun a=>bd (zaN C (za8 C (.ok a.1))) fun b=>G b.2 a.2 b.1:=by
 cases h with
 |error e=>rfl
 |ok a=>
  obtain⟨_,_,rfl⟩:=D
  have A:bd (bd (zaE (.ok a)) (zd C 1 zO)) (zG C)=za8 C (.ok a.1):=rfl
  rw[A] at j ⊢
  rw[zx]
  cases I:za8 C (.ok a.1) with
  |error e=>rfl
  |ok b=>
   rw[I] at j
   obtain⟨_,_,rfl⟩:=j
   show bd (zd C 4 cSemi b.1) (G b.2 a.2)=bd (bd (zd C 4 cSemi b.1) fun q=>.ok (q,b.2)) fun b=>G b.2 a.2 b.1
   rw[zJ]
   rfl
def ze5 (y:PRL):PR:=bd y fun a=>.ok a.1
theorem Is3.fst {y:PRL} {q:PS} {z:Int} {l:List Ep} (h:Is3 y q z l):Is (ze5 y) q z:=by
 cases y with
 |ok a=>exact⟨h.1,h.2.1⟩
 |error e=>exact h
theorem zg0 {C:Cx} {y:PRL} {D I:PS} {A n:Int} {l:List Ep} {j:ByteArray} {G:ByteArray→Ep→PS→PR} (z:Is3 y D A l) (h:Is2 (bd (bd (ze5 y) (zd C 1 zO)) (zG C)) I n j):
  zQ (G j) l (bd (zaE (bd (bd (ze5 y) (zd C 1 zO)) (zG C))) (zd C 4 cSemi))=bd y fun a=>bd (zaN C (za8 C (.ok a.1))) fun b=>zQ (G b.2) a.2 (.ok b.1):=by
 cases y with
 |error e=>exact ze4 _ _ _
 |ok a=>
  obtain⟨_,_,rfl⟩:=z
  have w:bd (bd (ze5 (.ok a)) (zd C 1 zO)) (zG C)=za8 C (.ok a.1):=rfl
  rw[w] at h ⊢
  rw[zx]
  cases E:za8 C (.ok a.1) with
  |error e=>exact ze4 _ _ _
  |ok b=>
   rw[E] at h
   obtain⟨_,_,rfl⟩:=h
   show zQ (G b.2) a.2 (bd (zaE (.ok b)) (zd C 4 cSemi))=bd (bd (zd C 4 cSemi b.1) fun q=>.ok (q,b.2)) fun b=>zQ (G b.2) a.2 (.ok b.1)
   have H:bd (zaE (.ok b)) (zd C 4 cSemi)=zd C 4 cSemi b.1:=rfl
   rw[H,zJ]
   cases zd C 4 cSemi b.1 with
   |error e=>exact ze4 _ _ _
   |ok c=>rfl
theorem Mem.drew {C:Cx} {z n j:Nat} {S:Sv} {q:PS} {w:World} (h:Mem C z n j S q w):Mem C z n j S q w.drew:=⟨⟨h.own.rq,h.own.im,h.own.ep,h.own.st,h.own.ex,h.own.la,h.own.apart⟩,h.inv,h.tok,h.few,h.base⟩
theorem Stp.undrew {S j:Sv} {w n:World} (h:Stp S w.drew j n):Stp S w j n:=⟨h.os,h.tape,h.output,h.size,h.block,h.sub⟩
theorem Row.cells {S:Sv} {w:World} {q B g:Nat} {r:Rw} {l:List Ep} (h:Row S w q B r l) (I:r.a=some ⟨g,0,none⟩) {j:Nat} (D:j<l.length):
  w.cell? ⟨g,j*4+1,none⟩=some (.string (l[j]).name)∧w.cell? ⟨g,j*4+2,none⟩=some (.string (l[j]).loc):=by
 have z:=h.own
 unfold OwnR at z
 rw[I] at z
 have n: ∀(l:List Ep) (i c:Nat) (E:c<4) (A:i<l.length),(l.flatMap epL)[i*4+c]? =(epL l[i])[c]?:=by
  intro l
  induction l with
  |nil=>intro i c _ A;simp at A
  |cons x l H=>
   intro i c E A
   match i with
   |0=>
    simp only[List.flatMap_cons,Nat.zero_mul,Nat.zero_add,List.getElem_cons_zero]
    rw[List.getElem?_append_left (by simp[epL];omega)]
   |i+1=>
    simp only[List.flatMap_cons,List.getElem_cons_succ]
    rw[List.getElem?_append_right (by simp[epL];omega)]
    have e:(i+1)*4+c-(epL x).length=i*4+c:=by simp[epL];omega
    rw[e]
    exact H i c E (by simpa using A)
 rw[z.cellAt _ (by omega),z.cellAt _ (by omega)]
 exact⟨n l j 1 (by omega) D,n l j 2 (by omega) D⟩
theorem zp5 {C:Cx} {y:Im} {x:PR} {q q':PS} {z z':Int} (n:z<0→1≤q.pos) (A:Is x q z) (h:Is (bd x (zan C y)) q' z'):z'<0→1≤q'.pos:=by
 intro D
 obtain⟨e,_⟩:=za6 h D
 obtain⟨a,w,j⟩:=zj e
 subst w
 obtain⟨rfl,rfl⟩:=A
 unfold zan at j
 split at j
 ·cases j
 ·cases j
  exact n (by decide)
theorem zg1 {C:Cx} {y:Ep} {x:PR} {q q':PS} {z z':Int} (n:z<0→1≤q.pos) (A:Is x q z) (h:Is (bd x (zn C y)) q' z'):z'<0→1≤q'.pos:=by
 intro D
 obtain⟨e,_⟩:=za6 h D
 obtain⟨a,w,j⟩:=zj e
 subst w
 obtain⟨rfl,rfl⟩:=A
 unfold zn at j
 split at j
 ·cases j
 ·split at j
  ·cases j
   exact n (by decide)
  ·cases j
   exact n (by decide)
theorem zp6 (C:Cx) (n j h:Nat) (S:Sv) (q:PS) (w:World) (hm:Mem C n j h S q w) (hw:isT C q.pos 1 zad=true) (h1:isT C (q.pos+1) 4 zF=false) (h2:isT C (q.pos+1) 4 zv=true):
  Calls Tryz.prog 106 #[pv C n j S q (-1) 0] w (Out C n j h (zaH C q) 0 S w):=by
 have HM:=zc hm
 have D:=hm.few
 clear hm
 have HV:Hid (zaH C q=bd (bd (bd (bd (.ok (adv q)) (zd C 4 zv)) (zd C 1 sAs)) (zh C false)) fun a=>bd (zaN C (za8 C (.ok a.1))) fun b=>zan C ⟨b.2,zv,a.2⟩ b.1):=by
  show _=_
  rw[zaH,zd,if_pos hw,zx]
  rw[zw,h1,h2]
  rfl
 unfold pv
 go_enter Tryz.func106,Tryz.ntmps106
 go_wp2_with fail
 refine (zaA C n j h (.ok q) S q (-1) 0 zad _ (zT q) ((HM.out.alloc _).alloc _)).mono ?_
 rintro e w1 ⟨S1,J,z1,rfl,L,m1,s1⟩
 have F:=HM.out.fm2 m1 s1
 obtain⟨I,rfl⟩:=zcC L.out hw
 have HQ:=zc I
 have E:Hid (J.pos=q.pos+1):=by show J.pos=q.pos+1;rw[I];rfl
 clear I L
 have H:=F.x0.boxC
 unfold pv
 go_upto_region 2 with fail
 refine (F.put0 ..).cut ?_
 clear H
 intro w2 F
 have H:=F.x0.boxC
 go_wp2_with fail
 refine (zg C n j h S1 J (-1) 0 4 zF _ F.m.tok D (by decide)).mono ?_
 rintro e w3 ⟨rfl,ag⟩
 rw[E.out,h1]
 replace F:=F.below ag
 clear H
 have H:=F.x0.boxC
 go_wp2_with fail
 refine (zg C n j h S1 J (-1) 0 4 zv _ F.m.tok D (by decide)).mono ?_
 rintro e w4 ⟨rfl,am⟩
 rw[E.out,h2]
 replace F:=F.below am
 clear H
 have H:=F.x0.boxC
 clear E
 go_wp2_with fail
 refine (zZ C n j h (.ok J) S1 J (-1) 0 zv _ (zT J) F.m).mono ?_
 rintro e w5 ⟨S5,q5,z5,rfl,aj,m5,s5⟩
 replace F:=F.stp m5 s5
 clear H
 go_wp2_with fail
 refine (zaA C n j h _ S5 q5 z5 0 sAs _ aj.out F.m).mono ?_
 rintro e w6 ⟨S6,q6,z6,rfl,Z,m6,s6⟩
 replace F:=F.stp m6 s6
 go_wp2_with fail
 refine (zaS C n j h _ S6 q6 z6 0 false _ Z.out F.m).mono ?_
 rintro e w7 ⟨S7,q7,z7,n7,rfl,M,m7,s7⟩
 replace F:=F.stp m7 s7
 have ap:w.heap.size+1<w7.heap.size:=F.x1.lt
 unfold pv
 go_upto_region 13 with fail
 refine (F.new2 _).cut ?_
 intro w8 F
 have cb:=F.x2.boxC
 go_wp2_with fail
 refine (zaA C n j h _ S7 q7 z7 0 zO _ M.out.fst F.m).mono ?_
 rintro e w9 ⟨S9,q9,z9,rfl,af,m9,s9⟩
 replace F:=F.stp m9 s9
 clear cb
 go_wp2_with fail
 refine (zdw C n j h _ S9 q9 z9 0 _ af.out F.m).mono ?_
 rintro e N ⟨ae,an,U,ah,rfl,A,ak,Y⟩
 replace F:=F.stp ak Y
 have ao:w.heap.size+1<N.heap.size:=F.x1.lt
 have O:w7.heap.size<N.heap.size:=F.x2.lt
 unfold pv
 go_upto_region 14 with fail
 refine (F.new3 _).cut ?_
 intro ar F
 have db:=F.x3.boxC
 go_wp2_with fail
 refine (zZ C n j h _ ae an U 0 cSemi _ A.out.fst F.m).mono ?_
 rintro e ax ⟨ai,X,al,rfl,z,V,ac⟩
 replace F:=F.stp V ac
 clear db
 go_wp2_with fail
 refine (zfO C n j h _ ai X al 0 ⟨ah,zv,n7⟩ _ z.out F.m (zaX z.out)).mono ?_
 rintro e aw ⟨av,au,aq,rfl,K,ad,aa⟩
 replace F:=F.stp ad aa
 have bb:=F.x1.boxC
 unfold pv
 go_wp2
 refine (F.x1.put ..).ret rfl rfl ?_
 rw[HV.out,←HQ.out,←zjs (G:=fun b a=>zan C ⟨b,zv,a⟩) M.out A.out]
 exact (F.put1 ..).done rfl K.out
theorem zp7 (C:Cx) (n j h:Nat) (S:Sv) (q:PS) (w:World) (hm:Mem C n j h S q w) (hw:isT C q.pos 1 zad=true) (h1:isT C (q.pos+1) 4 zF=false) (h2:isT C (q.pos+1) 4 zv=false) (h3:zB C (q.pos+1) false=true):
  Calls Tryz.prog 106 #[pv C n j S q (-1) 0] w (Out C n j h (zaH C q) 0 S w):=by
 have HM:=zc hm
 have z:=hm.few
 clear hm
 have HV:Hid (zaH C q=bd (bd (.ok (adv q)) (zh C false)) fun a=>bd (zaN C (za8 C (.ok a.1))) fun b=>zan C ⟨b.2,sDefault,a.2⟩ b.1):=by
  show _=_
  rw[zaH,zd,if_pos hw,zx]
  rw[zw,h1,h2,h3]
  rfl
 unfold pv
 go_enter Tryz.func106,Tryz.ntmps106
 go_wp2_with fail
 refine (zaA C n j h (.ok q) S q (-1) 0 zad _ (zT q) ((HM.out.alloc _).alloc _)).mono ?_
 rintro e w1 ⟨O,H,z1,rfl,J,m1,s1⟩
 have F:=HM.out.fm2 m1 s1
 obtain⟨I,rfl⟩:=zcC J.out hw
 have HQ:=zc I
 have A:Hid (H.pos=q.pos+1):=by show H.pos=q.pos+1;rw[I];rfl
 clear I J
 have D:=F.x0.boxC
 unfold pv
 go_upto_region 2 with fail
 refine (F.put0 ..).cut ?_
 clear D
 intro w2 F
 have D:=F.x0.boxC
 go_wp2_with fail
 refine (zg C n j h O H (-1) 0 4 zF _ F.m.tok z (by decide)).mono ?_
 rintro e w3 ⟨rfl,ag⟩
 rw[A.out,h1]
 replace F:=F.below ag
 clear D
 have D:=F.x0.boxC
 go_wp2_with fail
 refine (zg C n j h O H (-1) 0 4 zv _ F.m.tok z (by decide)).mono ?_
 rintro e w4 ⟨rfl,ac⟩
 rw[A.out,h2]
 replace F:=F.below ac
 clear D
 have D:=F.x0.boxC
 go_wp2_with fail
 refine (zeS C n j h O H (-1) 0 false _ F.m.tok z).mono ?_
 rintro e w5 ⟨rfl,V⟩
 rw[A.out,h3]
 replace F:=F.below V
 clear D
 have D:=F.x0.boxC
 clear A
 go_wp2_with fail
 refine (zaS C n j h (.ok H) O H (-1) 0 false _ (zT H) F.m).mono ?_
 rintro e w6 ⟨S6,q6,z6,n6,rfl,L,m6,s6⟩
 replace F:=F.stp m6 s6
 clear D
 have ah:w.heap.size+1<w6.heap.size:=F.x1.lt
 unfold pv
 go_upto_region 17 with fail
 refine (F.new2 _).cut ?_
 intro w7 F
 have cb:=F.x2.boxC
 go_wp2_with fail
 refine (zaA C n j h _ S6 q6 z6 0 zO _ L.out.fst F.m).mono ?_
 rintro e w8 ⟨S8,q8,z8,rfl,Y,m8,s8⟩
 replace F:=F.stp m8 s8
 clear cb
 go_wp2_with fail
 refine (zdw C n j h _ S8 q8 z8 0 _ Y.out F.m).mono ?_
 rintro e w9 ⟨S9,q9,z9,n9,rfl,M,m9,s9⟩
 replace F:=F.stp m9 s9
 have ai:w.heap.size+1<w9.heap.size:=F.x1.lt
 have N:w6.heap.size<w9.heap.size:=F.x2.lt
 unfold pv
 go_upto_region 18 with fail
 refine (F.new3 _).cut ?_
 intro ao F
 have db:=F.x3.boxC
 go_wp2_with fail
 refine (zZ C n j h _ S9 q9 z9 0 cSemi _ M.out.fst F.m).mono ?_
 rintro e aj ⟨Z,X,ae,rfl,E,aa,af⟩
 replace F:=F.stp aa af
 clear db
 go_wp2_with fail
 refine (zfO C n j h _ Z X ae 0 ⟨n9,sDefault,n6⟩ _ E.out F.m (zaX E.out)).mono ?_
 rintro e an ⟨ak,al,am,rfl,K,U,ad⟩
 replace F:=F.stp U ad
 have bb:=F.x1.boxC
 unfold pv
 go_wp2
 refine (F.x1.put ..).ret rfl rfl ?_
 rw[HV.out,←HQ.out,←zjs (G:=fun b a=>zan C ⟨b,sDefault,a⟩) L.out M.out]
 exact (F.put1 ..).done rfl K.out
theorem zp8 (C:Cx) (D j h:Nat) (S:Sv) (q:PS) (w:World) (N:Mem C D j h S q w) (Z:isT C q.pos 1 zad=true) (Y:isT C (q.pos+1) 4 zF=false) (V:isT C (q.pos+1) 4 zv=false) (h3:zB C (q.pos+1) false=false):
  Calls Tryz.prog 106 #[pv C D j S q (-1) 0] w (Out C D j h (zaH C q) 0 S w):=by
 have X:=zc N
 have n:=N.few
 clear N
 have HV:Hid (zaH C q=bd (bd (.ok (adv q)) (zG C)) fun a=>zd C 4 cSemi a.1):=by
  show _=_
  rw[zaH,zd,if_pos Z,zx]
  rw[zw,Y,V,h3]
  rfl
 unfold pv
 go_enter Tryz.func106,Tryz.ntmps106
 go_wp2_with fail
 refine (zaA C D j h (.ok q) S q (-1) 0 zad _ (zT q) ((X.out.alloc _).alloc _)).mono ?_
 rintro e w1 ⟨K,E,z1,rfl,I,m1,s1⟩
 have F:=X.out.fm2 m1 s1
 obtain⟨H,rfl⟩:=zcC I.out Z
 have HQ:=zc H
 have z:Hid (E.pos=q.pos+1):=by show E.pos=q.pos+1;rw[H];rfl
 clear H I
 have A:=F.x0.boxC
 unfold pv
 go_upto_region 2 with fail
 refine (F.put0 ..).cut ?_
 clear A
 intro w2 F
 have A:=F.x0.boxC
 go_wp2_with fail
 refine (zg C D j h K E (-1) 0 4 zF _ F.m.tok n (by decide)).mono ?_
 rintro e w3 ⟨rfl,U⟩
 rw[z.out,Y]
 replace F:=F.below U
 clear A
 have A:=F.x0.boxC
 go_wp2_with fail
 refine (zg C D j h K E (-1) 0 4 zv _ F.m.tok n (by decide)).mono ?_
 rintro e w4 ⟨rfl,O⟩
 rw[z.out,V]
 replace F:=F.below O
 clear A
 have A:=F.x0.boxC
 go_wp2_with fail
 refine (zeS C D j h K E (-1) 0 false _ F.m.tok n).mono ?_
 rintro e w5 ⟨rfl,L⟩
 rw[z.out,h3]
 replace F:=F.below L
 clear A
 have A:=F.x0.boxC
 clear z
 go_wp2_with fail
 refine (zdw C D j h (.ok E) K E (-1) 0 _ (zT E) F.m).mono ?_
 rintro e w6 ⟨S6,q6,z6,n6,rfl,J,m6,s6⟩
 replace F:=F.stp m6 s6
 clear A
 have aa:w.heap.size+1<w6.heap.size:=F.x1.lt
 unfold pv
 go_upto_region 20 with fail
 refine (F.new2 _).cut ?_
 intro w7 F
 have cb:=F.x2.boxC
 go_wp2_with fail
 refine (zZ C D j h _ S6 q6 z6 0 cSemi _ J.out.fst F.m).mono ?_
 rintro e w8 ⟨S8,q8,z8,rfl,M,m8,s8⟩
 replace F:=F.stp m8 s8
 clear cb
 have bb:=F.x1.boxC
 unfold pv
 go_wp2
 refine (F.x1.put ..).ret rfl rfl ?_
 rw[HV.out,←HQ.out,←J.out.bind (fun q _=>zd C 4 cSemi q)]
 exact (F.put1 ..).done rfl M.out
theorem zp9 (C:Cx) (D n h:Nat) (S:Sv) (q:PS) (w:World) (hm:Mem C D n h S q w) (hw:isT C q.pos 1 zad=true) (h1:isT C (q.pos+1) 4 zF=true):
  Calls Tryz.prog 106 #[pv C D n S q (-1) 0] w (Out C D n h (zaH C q) 0 S w):=by
 have HM:=zc hm
 have al:=hm.few
 clear hm
 have HV:Hid (zaH C q=bd (zcw C false (adv q)) fun a=>bd (zaN C (za8 C (.ok a.1))) fun b=>zQ (fun e=>zan C (zb4 b.2 e)) a.2 (.ok b.1)):=by
  show _=_
  rw[zaH,zd,if_pos hw,zx]
  rw[zw,h1]
  rfl
 unfold pv
 go_enter Tryz.func106,Tryz.ntmps106
 go_wp2_with fail
 refine (zaA C D n h (.ok q) S q (-1) 0 zad _ (zT q) ((HM.out.alloc _).alloc _)).mono ?_
 rintro e w1 ⟨S1,q1,z1,rfl,Z,m1,s1⟩
 have F:=HM.out.fm2 m1 s1
 obtain⟨N,rfl⟩:=zcC Z.out hw
 have HQ:=zc N
 have U:Hid (q1.pos=q.pos+1):=by show q1.pos=q.pos+1;rw[N];rfl
 clear N Z
 have H:=F.x0.boxC
 unfold pv
 go_upto_region 2 with fail
 refine (F.put0 ..).cut ?_
 clear H
 intro w2 F
 have H:=F.x0.boxC
 go_wp2_with fail
 refine (zg C D n h S1 q1 (-1) 0 4 zF _ F.m.tok al (by decide)).mono ?_
 rintro e w3 ⟨rfl,av⟩
 rw[U.out,h1]
 replace F:=F.below av
 clear H
 have H:=F.x0.boxC
 clear U
 have ao:=F.t.size
 go_wp2_with fail
 refine (zje C D n h S1 q1 0 false _ F.m).mono ?_
 rintro e w4 ⟨S4,q4,z4,⟨ra,Y⟩,l,rfl,i4,m4,s4,R0,hl⟩
 obtain⟨g,rfl⟩: ∃g,ra=some ⟨g,0,none⟩:=R0.addr
 replace F:=F.stp m4 s4
 have ad:=zc i4
 clear H
 have z:Hid (Row S4 w4 h w.heap.size ⟨some ⟨g,0,none⟩,Y⟩ l):=⟨R0.own,R0.free,fun k hk=>Nat.le_trans ao (R0.new k hk),R0.addr⟩
 clear R0
 have az:w.heap.size+1<w4.heap.size:=F.x1.lt
 unfold pv
 go_upto_region 4 with fail
 refine (F.new2 _).cutR (RW:=fun W=>Row S4 W h w.heap.size ⟨some ⟨g,0,none⟩,Y⟩ l) (z.out.alloc _) ?_
 clear z
 intro w5 F R0
 have z:=zc R0
 clear R0
 obtain⟨c0,c1,c2,c3,c4,c5,c6,c7,c8,c9,ap,aw,cf⟩:=F.x2.box
 go_wp2_with fail
 refine (zaA C D n h _ S4 q4 z4 0 zO _ ad.out.fst F.m).mono ?_
 rintro e w6 ⟨S6,q6,z6,rfl,aq,m6,s6⟩
 replace z:=zc (z.out.stp s6)
 replace F:=F.stp m6 s6
 clear c0 c1 c2 c3 c4 c5 c6 c7 c8 c9 ap aw cf
 go_wp2_with fail
 refine (zdw C D n h _ S6 q6 z6 0 _ aq.out F.m).mono ?_
 rintro e w7 ⟨S7,q7,z7,X,rfl,aa,m7,s7⟩
 replace z:=zc (z.out.stp s7)
 replace F:=F.stp m7 s7
 have ay:w.heap.size+1<w7.heap.size:=F.x1.lt
 have am:w4.heap.size<w7.heap.size:=F.x2.lt
 unfold pv
 go_upto_region 5 with fail
 refine (F.new3 _).cutR (RW:=fun W=>Row S7 W h w.heap.size ⟨some ⟨g,0,none⟩,Y⟩ l) (z.out.alloc _) ?_
 clear z
 intro w8 F R0
 have z:=zc R0
 clear R0
 obtain⟨d0,d1,d2,d3,d4,d5,d6,d7,d8,d9,O,L,df⟩:=F.x3.box
 go_wp2_with fail
 refine (zZ C D n h _ S7 q7 z7 0 cSemi _ aa.out.fst F.m).mono ?_
 rintro e w9 ⟨S9,q9,z9,rfl,E,m9,s9⟩
 replace z:=zc (z.out.stp s9)
 replace F:=F.stp m9 s9
 clear d0 d1 d2 d3 d4 d5 d6 d7 d8 d9 O L df
 have H:=F.x0.boxC
 unfold pv
 go_upto_region 6 with fail
 refine (F.put0 ..).cutR (RW:=fun W=>Row S9 W h w.heap.size ⟨some ⟨g,0,none⟩,Y⟩ l) (z.out.put F.x0 ..) ?_
 clear H
 clear z
 intro ai F R0
 have z:=zc R0
 clear R0
 have ar:Hid (_=_):=zg0 (G:=fun b e=>zan C (zb4 b e)) ad.out aa.out
 go_wp2
 go_loopg [8] l.length (fun k i wr=>∃(j:Nat) (x':PR) (A:Sv) (I:PS) (z':Int),j≤l.length∧i= .int .i64 j∧Is x' I z'∧(z'<0→1≤I.pos)∧zQ (fun e=>zan C (zb4 X e)) (l.drop j) x'=zaH C q∧l.length-j=k∧Mem C D n h A I wr∧SB w.heap.size S w A wr∧Bx D A wr w.heap.size #[.slice (some ⟨D,0,none⟩) C.ts.length n,.int .i64 I.pos,.int .i64 C.fin,.bool C.scr,.slice A.rq.a I.rq.length A.rq.cap,.slice A.im.a I.im.length A.im.cap,.slice A.ep.a I.ep.length A.ep.cap,.slice A.st.a I.st.length A.st.cap,.slice A.ex.a I.ex.length A.ex.cap,.slice A.la.a I.la.length A.la.cap,.int .i64 z',.int .i64 0]∧Bx D A wr (w.heap.size+1) #[.slice none 0 0,.int .i64 0,.int .i64 0,.bool false,.slice none 0 0,.slice none 0 0,.slice none 0 0,.slice none 0 0,.slice none 0 0,.slice none 0 0,.int .i64 0,.int .i64 0]∧Row A wr h w.heap.size ⟨some ⟨g,0,none⟩,Y⟩ l)
 case atStart=>exact⟨0,_,S9,q9,z9,Nat.zero_le _,rfl,E.out,zaX E.out,by rw[HV.out,←HQ.out];exact ar.out,rfl,F.m,F.t,F.x0,F.x1,z.out⟩
 case round=>
  obtain⟨j,x9,S9,q9,z9,hj,rfl,i9,p9,e9,g9,m9,t9,X0,X1,R0⟩:=hrel
  clear z
  have F:=Fm.of2 X0 X1 m9 t9 (by omega) (by omega) (by omega)
  have E:=zc i9
  have ae:=zc p9
  have V:=zc e9
  have ak:=zc g9
  have z:=zc R0
  clear X0 X1 i9 m9 t9 e9 g9 R0 p9
  by_cases ac:j<l.length
  ·skip
   obtain⟨c1,c2⟩:=z.out.cells (g:=g) rfl ac
   have aA:=z.out.own.lt (g:=g) rfl
   have HX:Hid (∀e,e=l[j]→zQ (fun e=>zan C (zb4 X e)) (l.drop (j+1)) (bd x9 (zan C (zb4 X e)))=zaH C q):=fun e he=>by rw[he,←V.out];exact (zfz (fun e=>zan C (zb4 X e)) l x9 ac).symm
   generalize ag:l[j]=el at c1 c2
   have au:Hid (el=l[j]):=ag.symm
   clear ag
   have H:=F.x0.boxC
   go_upto_region 9 with fail
   go_region_law (first|(go_simp;go_wp2_with (go_at_call 146;refine (zfO C D n h x9 S9 q9 z9 0 (zb4 X el) _ E.out F.m.drew ae.out).mono ?_;rintro e ai ⟨af,ax,an,rfl,ah,aj,M⟩;obtain⟨d0,d1,d2,d3,d4,d5,d6,d7,d8,d9,O,L,df⟩:=(F.x0.stp M.undrew).box;unfold pv)))
   all_goals
    clear H d0 d1 d2 d3 d4 d5 d6 d7 d8 d9 O L df
    have K:=zc ah
    have J:Hid (Stp S9 wr af ai):=M.undrew
    replace F:=F.stp aj J.out
    clear ah aj M
    go_wp2
    go_roundg (gk-1)
    case rel=>exact⟨j+1,_,af,ax,an,by omega,by go_num,K.out,zp5 ae.out E.out K.out,HX.out el au.out,by have:=ak.out;omega,F.m.put F.x0 _ _ _ _ _ _ _ _ _ _ _ _,F.t.put (by omega) _ _ _ _ _ _ _ _ _ _ _ _,F.x0.put _ _ _ _ _ _ _ _ _ _ _ _,F.x1.other (by omega) _ _ _ _ _ _ _ _ _ _ _ _,(z.out.stp J.out).put F.x0 _ _ _ _ _ _ _ _ _ _ _ _⟩
    case measure=>have:=ak.out;omega
  ·skip
   have H:=F.x0.boxC
   have bb:=F.x1.boxC
   go_wp2
   refine (F.x1.put ..).ret rfl rfl ?_
   exact (F.put1 ..).done rfl (show Is (zaH C q) q9 z9 from by rw[←V.out,List.drop_eq_nil_of_le (by omega)];exact E.out)
theorem zpA {C:Cx} {k:Int} {n:ByteArray} {q q':PS} (h:zV C k n q= .ok q'):q'={q with st:=q.st++[⟨k,n,(q.ex.length:Int)-1⟩]}∧q.st.length<80:=by
 unfold zV at h
 split at h
 ·cases h
 ·cases h
  exact⟨rfl,by omega⟩
theorem zjt {C:Cx} {x:PR} {k:Int} {s:ByteArray} {j:Int} {n:ByteArray} {q:PS} {z:Int} (h:Is (bd (bd x (zd C k s)) (zV C j n)) q z):z<0→1≤q.pos:=by
 intro E
 obtain⟨e,_⟩:=za6 h E
 obtain⟨a,w,A⟩:=zj e
 obtain⟨b,_,D⟩:=zj w
 obtain⟨rfl,_⟩:=zbx D
 obtain⟨rfl,_⟩:=zpA A
 simp[adv]
theorem zju {C:Cx} {y:PRN} {G:PR→PR} {k:Int} {s:ByteArray} {j:Int} {q:PS} {z:Int} {n:ByteArray} (h:Is2 (withN y fun x n=>bd (bd (G x) (zd C k s)) (zV C j n)) q z n):z<0→1≤q.pos:=by
 intro D
 cases y with
 |error e=>have:z=(e:Int):=h;omega
 |ok a=>
  have w:Is2 (bd (bd (bd (G (.ok a.1)) (zd C k s)) (zV C j a.2)) fun q=>.ok (q,a.2)) q z n:=h
  cases A:bd (bd (G (.ok a.1)) (zd C k s)) (zV C j a.2) with
  |error e=>rw[A] at w;have:z=(e:Int):=w;omega
  |ok b=>
   rw[A] at w
   obtain⟨rfl,rfl,_⟩:=w
   exact zjt (show Is (bd (bd (G (.ok a.1)) (zd C k s)) (zV C j a.2)) q (-1) by rw[A];exact⟨rfl,rfl⟩) (by decide)
theorem zpB {C:Cx} {j q:PS} {z:Int} {n:ByteArray} (h:Is2 (zci C j) q z n):z<0→1≤q.pos:=zju (G:=fun x=>bd (bd x (zd C 4 cEq)) (pE C .sum 0)) h
theorem zpC {C:Cx} {j q:PS} {z:Int} {n:ByteArray} (h:Is2 (fnP C j) q z n):z<0→1≤q.pos:=zju (G:=fun x=>bd (bd (bd (bd (bd (bd x (zd C 4 zm)) (zd C 4 zaw)) (zd C 4 zF)) (zd C 1 zd4)) (pE C .sum 0)) (zd C 4 cSemi)) h
theorem zpD {C:Cx} {x:PR} {A:PS} {n:Int} {j:ByteArray} {G:ByteArray→PS→PR} (h:Is2 (bd (bd x (zd C 1 zO)) (zG C)) A n j):
  bd (bd (zaE (bd (bd x (zd C 1 zO)) (zG C))) (zd C 4 cSemi)) (G j)=bd (zaN C (za8 C x)) fun b=>G b.2 b.1:=by
 have w:bd (bd x (zd C 1 zO)) (zG C)=za8 C x:=rfl
 rw[w] at h ⊢
 cases z:za8 C x with
 |error e=>rfl
 |ok b=>
  rw[z] at h
  obtain⟨_,_,rfl⟩:=h
  show bd (zd C 4 cSemi b.1) (G b.2)=bd (bd (zd C 4 cSemi b.1) fun q=>.ok (q,b.2)) fun b=>G b.2 b.1
  rw[zJ]
  rfl
theorem zpE {C:Cx} {y:PRL} {j:PS} {h:Int} {l:List Ep} {f:Ep→PS→PR} {D:PS×List Ep→PR} (w:Is3 y j h l) (z:za4 l=false) (n:(decide (h<0)&&isT C j.pos 1 zO)=false):
  zQ f l (bd (ze5 y) (zd C 4 cSemi))=bd y fun a=>if !za4 a.2&& !isT C a.1.pos 1 zO then bd (zd C 4 cSemi a.1) fun q=>zQ f a.2 (.ok q) else D a:=by
 cases y with
 |error e=>exact ze4 _ _ _
 |ok a=>
  obtain⟨rfl,rfl,rfl⟩:=w
  rw[Bool.and_eq_false_iff] at n
  rw[zx,z,n.resolve_left (by decide)]
  show zQ f a.2 (zd C 4 cSemi a.1)=bd (zd C 4 cSemi a.1) fun q=>zQ f a.2 (.ok q)
  cases zd C 4 cSemi a.1 with
  |error e=>exact ze4 _ _ _
  |ok c=>rfl
theorem zjv {C:Cx} {y:PRL} {n:PS} {q:Int} {l:List Ep} {D E:PS×List Ep→PR} (w:Is3 y n q l) (j:za4 l=true∨(decide (q<0)&&isT C n.pos 1 zO)=true):
  bd y D=bd y fun a=>if !za4 a.2&& !isT C a.1.pos 1 zO then E a else D a:=by
 cases y with
 |error e=>rfl
 |ok a=>
  obtain⟨rfl,rfl,rfl⟩:=w
  rw[zx,zx]
  rcases j with h|h
  ·rw[h];rfl
  ·rw[Bool.and_eq_true] at h
   rw[h.2,Bool.not_true,Bool.and_false]
   rfl
theorem zpF (C:Cx) (n j h:Nat) (S:Sv) (q:PS) (w:World) (V:Mem C n j h S q w) (hw:isT C q.pos 1 zab=true) (h1:isT C (q.pos+1) 4 zF=false) (h2:isT C (q.pos+1) 4 zv=true):
  Calls Tryz.prog 107 #[pv C n j S q (-1) 0] w (Out C n j h (zae C q) 0 S w):=by
 have HM:=zc V
 have z:=V.few
 clear V
 have HV:Hid (zae C q=bd (zaN C (za8 C (bd (.ok (adv q)) (zd C 4 zv)))) fun b=>zn C ⟨3,sNone,sNone,b.2⟩ b.1):=by
  show _=_
  rw[zae,zd,if_pos hw,zx]
  rw[zw,h1,h2]
  rfl
 unfold pv
 go_enter Tryz.func107,Tryz.ntmps107
 go_wp2_with fail
 refine (zaA C n j h (.ok q) S q (-1) 0 zab _ (zT q) ((HM.out.alloc _).alloc _)).mono ?_
 rintro e w1 ⟨Y,E,z1,rfl,I,m1,s1⟩
 have F:=HM.out.fm2 m1 s1
 obtain⟨A,rfl⟩:=zcC I.out hw
 have HQ:=zc A
 have D:Hid (E.pos=q.pos+1):=by show E.pos=q.pos+1;rw[A];rfl
 clear A I
 have H:=F.x0.boxC
 unfold pv
 go_upto_region 2 with fail
 refine (F.put0 ..).cut ?_
 clear H
 intro w2 F
 have H:=F.x0.boxC
 go_wp2_with fail
 refine (zg C n j h Y E (-1) 0 4 zF _ F.m.tok z (by decide)).mono ?_
 rintro e w3 ⟨rfl,Z⟩
 rw[D.out,h1]
 replace F:=F.below Z
 clear H
 have H:=F.x0.boxC
 go_wp2_with fail
 refine (zg C n j h Y E (-1) 0 4 zv _ F.m.tok z (by decide)).mono ?_
 rintro e w4 ⟨rfl,X⟩
 rw[D.out,h2]
 replace F:=F.below X
 clear H
 have H:=F.x0.boxC
 clear D
 go_wp2_with fail
 refine (zZ C n j h (.ok E) Y E (-1) 0 zv _ (zT E) F.m).mono ?_
 rintro e w5 ⟨S5,q5,z5,rfl,N,m5,s5⟩
 replace F:=F.stp m5 s5
 clear H
 go_wp2_with fail
 refine (zaA C n j h _ S5 q5 z5 0 zO _ N.out F.m).mono ?_
 rintro e w6 ⟨S6,q6,z6,rfl,M,m6,s6⟩
 replace F:=F.stp m6 s6
 go_wp2_with fail
 refine (zdw C n j h _ S6 q6 z6 0 _ M.out F.m).mono ?_
 rintro e w7 ⟨S7,q7,z7,n7,rfl,K,m7,s7⟩
 replace F:=F.stp m7 s7
 have aa:w.heap.size+1<w7.heap.size:=F.x1.lt
 unfold pv
 go_upto_region 20 with fail
 refine (F.new2 _).cut ?_
 intro w8 F
 have cb:=F.x2.boxC
 go_wp2_with fail
 refine (zZ C n j h _ S7 q7 z7 0 cSemi _ K.out.fst F.m).mono ?_
 rintro e w9 ⟨S9,q9,z9,rfl,L,m9,s9⟩
 replace F:=F.stp m9 s9
 clear cb
 go_wp2_with fail
 refine (zdk C n j h _ S9 q9 z9 0 ⟨3,sNone,sNone,n7⟩ _ L.out F.m (zaX L.out)).mono ?_
 rintro e ae ⟨ad,af,ac,rfl,J,O,U⟩
 replace F:=F.stp O U
 have bb:=F.x1.boxC
 unfold pv
 go_wp2
 refine (F.x1.put ..).ret rfl rfl ?_
 rw[HV.out,←HQ.out,←zpD (G:=fun b=>zn C ⟨3,sNone,sNone,b⟩) K.out]
 exact (F.put1 ..).done rfl J.out
theorem zpG (C:Cx) (n j h:Nat) (S:Sv) (q:PS) (w:World) (Y:Mem C n j h S q w) (hw:isT C q.pos 1 zab=true) (h1:isT C (q.pos+1) 4 zF=false) (h2:isT C (q.pos+1) 4 zv=false) (h3:isT C (q.pos+1) 1 sDefault=true):
  Calls Tryz.prog 107 #[pv C n j S q (-1) 0] w (Out C n j h (zae C q) 0 S w):=by
 have HM:=zc Y
 have z:=Y.few
 clear Y
 have HV:Hid (zae C q=bd (bd (bd (bd (bd (.ok (adv q)) (zd C 1 sDefault)) (pE C .sum 0)) (zd C 4 cSemi)) (zV C 1 zbC)) (zn C ⟨1,sDefault,zbC,sNone⟩)):=by
  show _=_
  rw[zae,zd,if_pos hw,zx]
  rw[zw,h1,h2,h3]
  rfl
 unfold pv
 go_enter Tryz.func107,Tryz.ntmps107
 go_wp2_with fail
 refine (zaA C n j h (.ok q) S q (-1) 0 zab _ (zT q) ((HM.out.alloc _).alloc _)).mono ?_
 rintro e w1 ⟨M,H,z1,rfl,J,m1,s1⟩
 have F:=HM.out.fm2 m1 s1
 obtain⟨I,rfl⟩:=zcC J.out hw
 have HQ:=zc I
 have A:Hid (H.pos=q.pos+1):=by show H.pos=q.pos+1;rw[I];rfl
 clear I J
 have D:=F.x0.boxC
 unfold pv
 go_upto_region 2 with fail
 refine (F.put0 ..).cut ?_
 clear D
 intro w2 F
 have D:=F.x0.boxC
 go_wp2_with fail
 refine (zg C n j h M H (-1) 0 4 zF _ F.m.tok z (by decide)).mono ?_
 rintro e w3 ⟨rfl,af⟩
 rw[A.out,h1]
 replace F:=F.below af
 clear D
 have D:=F.x0.boxC
 go_wp2_with fail
 refine (zg C n j h M H (-1) 0 4 zv _ F.m.tok z (by decide)).mono ?_
 rintro e w4 ⟨rfl,aa⟩
 rw[A.out,h2]
 replace F:=F.below aa
 clear D
 have D:=F.x0.boxC
 go_wp2_with fail
 refine (zg C n j h M H (-1) 0 1 sDefault _ F.m.tok z (by decide)).mono ?_
 rintro e w5 ⟨rfl,U⟩
 rw[A.out,h3]
 replace F:=F.below U
 clear D
 have D:=F.x0.boxC
 clear A
 go_wp2_with fail
 refine (zaA C n j h (.ok H) M H (-1) 0 sDefault _ (zT H) F.m).mono ?_
 rintro e w6 ⟨S6,q6,z6,rfl,O,m6,s6⟩
 replace F:=F.stp m6 s6
 clear D
 go_wp2_with fail
 refine (zcB C n j h _ S6 q6 z6 _ O.out F.m).mono ?_
 rintro e w7 ⟨S7,q7,z7,rfl,ac,m7,s7⟩
 replace F:=F.stp m7 s7
 go_wp2_with fail
 refine (zZ C n j h _ S7 q7 z7 0 cSemi _ ac.out F.m).mono ?_
 rintro e w8 ⟨S8,q8,z8,rfl,L,m8,s8⟩
 replace F:=F.stp m8 s8
 have ah:w.heap.size+1<w8.heap.size:=F.x1.lt
 unfold pv
 go_upto_region 23 with fail
 refine (F.new2 _).cut ?_
 intro w9 F
 have cb:=F.x2.boxC
 go_wp2_with fail
 refine (zc1 C n j h _ S8 q8 z8 0 1 zbC _ L.out F.m (zaX L.out)).mono ?_
 rintro e am ⟨ad,ag,N,rfl,E,V,X⟩
 replace F:=F.stp V X
 clear cb
 go_wp2_with fail
 refine (zdk C n j h _ ad ag N 0 ⟨1,sDefault,zbC,sNone⟩ _ E.out F.m (zjt E.out)).mono ?_
 rintro e ai ⟨ak,aj,al,rfl,K,Z,ae⟩
 replace F:=F.stp Z ae
 have bb:=F.x1.boxC
 unfold pv
 go_wp2
 refine (F.x1.put ..).ret rfl rfl ?_
 rw[HV.out,←HQ.out]
 exact (F.put1 ..).done rfl K.out
theorem zpH (C:Cx) (E j h:Nat) (S:Sv) (q:PS) (w:World) (O:Mem C E j h S q w) (hw:isT C q.pos 1 zab=true) (h1:isT C (q.pos+1) 4 zF=false) (Y:isT C (q.pos+1) 4 zv=false) (h3:isT C (q.pos+1) 1 sDefault=false) (h4:isT C (q.pos+1) 1 zA=true):
  Calls Tryz.prog 107 #[pv C E j S q (-1) 0] w (Out C E j h (zae C q) 0 S w):=by
 have Z:=zc O
 have z:=O.few
 clear O
 have HV:Hid (zae C q=bd (zci C (adv q)) fun a=>zn C ⟨1,a.2,a.2,sNone⟩ a.1):=by
  show _=_
  rw[zae,zd,if_pos hw,zx]
  rw[zw,h1,Y,h3,h4]
  rfl
 unfold pv
 go_enter Tryz.func107,Tryz.ntmps107
 go_wp2_with fail
 refine (zaA C E j h (.ok q) S q (-1) 0 zab _ (zT q) ((Z.out.alloc _).alloc _)).mono ?_
 rintro e w1 ⟨L,J,z1,rfl,K,m1,s1⟩
 have F:=Z.out.fm2 m1 s1
 obtain⟨H,rfl⟩:=zcC K.out hw
 have HQ:=zc H
 have A:Hid (J.pos=q.pos+1):=by show J.pos=q.pos+1;rw[H];rfl
 clear H K
 have D:=F.x0.boxC
 unfold pv
 go_upto_region 2 with fail
 refine (F.put0 ..).cut ?_
 clear D
 intro w2 F
 have D:=F.x0.boxC
 go_wp2_with fail
 refine (zg C E j h L J (-1) 0 4 zF _ F.m.tok z (by decide)).mono ?_
 rintro e w3 ⟨rfl,X⟩
 rw[A.out,h1]
 replace F:=F.below X
 clear D
 have D:=F.x0.boxC
 go_wp2_with fail
 refine (zg C E j h L J (-1) 0 4 zv _ F.m.tok z (by decide)).mono ?_
 rintro e w4 ⟨rfl,U⟩
 rw[A.out,Y]
 replace F:=F.below U
 clear D
 have D:=F.x0.boxC
 go_wp2_with fail
 refine (zg C E j h L J (-1) 0 1 sDefault _ F.m.tok z (by decide)).mono ?_
 rintro e w5 ⟨rfl,N⟩
 rw[A.out,h3]
 replace F:=F.below N
 clear D
 have D:=F.x0.boxC
 go_wp2_with fail
 refine (zg C E j h L J (-1) 0 1 zA _ F.m.tok z (by decide)).mono ?_
 rintro e w6 ⟨rfl,M⟩
 rw[A.out,h4]
 replace F:=F.below M
 clear D
 have D:=F.x0.boxC
 clear A
 go_wp2_with fail
 refine (zgy C E j h L J _ F.m).mono ?_
 rintro e w7 ⟨S7,q7,z7,n7,rfl,I,m7,s7⟩
 replace F:=F.stp m7 s7
 clear D
 have aa:w.heap.size+1<w7.heap.size:=F.x1.lt
 unfold pv
 go_upto_region 26 with fail
 refine (F.new2 _).cut ?_
 intro w8 F
 have cb:=F.x2.boxC
 go_wp2_with fail
 refine (zdk C E j h _ S7 q7 z7 0 ⟨1,n7,n7,sNone⟩ _ I.out.fst F.m (zpB I.out)).mono ?_
 rintro e w9 ⟨S9,q9,z9,rfl,V,m9,s9⟩
 replace F:=F.stp m9 s9
 clear cb
 have bb:=F.x1.boxC
 unfold pv
 go_wp2
 refine (F.x1.put ..).ret rfl rfl ?_
 rw[HV.out,←HQ.out,←I.out.bind (fun q n=>zn C ⟨1,n,n,sNone⟩ q)]
 exact (F.put1 ..).done rfl V.out
theorem zpI (C:Cx) (E j h:Nat) (S:Sv) (q:PS) (w:World) (Y:Mem C E j h S q w) (hw:isT C q.pos 1 zab=true) (h1:isT C (q.pos+1) 4 zF=false) (h2:isT C (q.pos+1) 4 zv=false) (h3:isT C (q.pos+1) 1 sDefault=false) (h4:isT C (q.pos+1) 1 zA=false) (h5:isT C (q.pos+1) 1 zN=true):
  Calls Tryz.prog 107 #[pv C E j S q (-1) 0] w (Out C E j h (zae C q) 0 S w):=by
 have HM:=zc Y
 have z:=Y.few
 clear Y
 have HV:Hid (zae C q=bd (fnP C (adv q)) fun a=>zn C ⟨1,a.2,a.2,sNone⟩ a.1):=by
  show _=_
  rw[zae,zd,if_pos hw,zx]
  rw[zw,h1,h2,h3,h4,h5]
  rfl
 unfold pv
 go_enter Tryz.func107,Tryz.ntmps107
 go_wp2_with fail
 refine (zaA C E j h (.ok q) S q (-1) 0 zab _ (zT q) ((HM.out.alloc _).alloc _)).mono ?_
 rintro e w1 ⟨K,H,z1,rfl,L,m1,s1⟩
 have F:=HM.out.fm2 m1 s1
 obtain⟨I,rfl⟩:=zcC L.out hw
 have HQ:=zc I
 have A:Hid (H.pos=q.pos+1):=by show H.pos=q.pos+1;rw[I];rfl
 clear I L
 have D:=F.x0.boxC
 unfold pv
 go_upto_region 2 with fail
 refine (F.put0 ..).cut ?_
 clear D
 intro w2 F
 have D:=F.x0.boxC
 go_wp2_with fail
 refine (zg C E j h K H (-1) 0 4 zF _ F.m.tok z (by decide)).mono ?_
 rintro e w3 ⟨rfl,aa⟩
 rw[A.out,h1]
 replace F:=F.below aa
 clear D
 have D:=F.x0.boxC
 go_wp2_with fail
 refine (zg C E j h K H (-1) 0 4 zv _ F.m.tok z (by decide)).mono ?_
 rintro e w4 ⟨rfl,Z⟩
 rw[A.out,h2]
 replace F:=F.below Z
 clear D
 have D:=F.x0.boxC
 go_wp2_with fail
 refine (zg C E j h K H (-1) 0 1 sDefault _ F.m.tok z (by decide)).mono ?_
 rintro e w5 ⟨rfl,O⟩
 rw[A.out,h3]
 replace F:=F.below O
 clear D
 have D:=F.x0.boxC
 go_wp2_with fail
 refine (zg C E j h K H (-1) 0 1 zA _ F.m.tok z (by decide)).mono ?_
 rintro e w6 ⟨rfl,N⟩
 rw[A.out,h4]
 replace F:=F.below N
 clear D
 have D:=F.x0.boxC
 go_wp2_with fail
 refine (zg C E j h K H (-1) 0 1 zN _ F.m.tok z (by decide)).mono ?_
 rintro e w7 ⟨rfl,X⟩
 rw[A.out,h5]
 replace F:=F.below X
 clear D
 have D:=F.x0.boxC
 clear A
 go_wp2_with fail
 refine (zgz C E j h K H _ F.m).mono ?_
 rintro e w8 ⟨S8,q8,z8,n8,rfl,J,m8,s8⟩
 replace F:=F.stp m8 s8
 clear D
 have ac:w.heap.size+1<w8.heap.size:=F.x1.lt
 unfold pv
 go_upto_region 29 with fail
 refine (F.new2 _).cut ?_
 intro w9 F
 have cb:=F.x2.boxC
 go_wp2_with fail
 refine (zdk C E j h _ S8 q8 z8 0 ⟨1,n8,n8,sNone⟩ _ J.out.fst F.m (zpC J.out)).mono ?_
 rintro e af ⟨ae,ag,ad,rfl,M,U,V⟩
 replace F:=F.stp U V
 clear cb
 have bb:=F.x1.boxC
 unfold pv
 go_wp2
 refine (F.x1.put ..).ret rfl rfl ?_
 rw[HV.out,←HQ.out,←J.out.bind (fun q n=>zn C ⟨1,n,n,sNone⟩ q)]
 exact (F.put1 ..).done rfl M.out
theorem zpJ (C:Cx) (E j h:Nat) (S:Sv) (q:PS) (w:World) (N:Mem C E j h S q w) (hw:isT C q.pos 1 zab=true) (h1:isT C (q.pos+1) 4 zF=false) (X:isT C (q.pos+1) 4 zv=false) (h3:isT C (q.pos+1) 1 sDefault=false) (Z:isT C (q.pos+1) 1 zA=false) (h5:isT C (q.pos+1) 1 zN=false):
  Calls Tryz.prog 107 #[pv C E j S q (-1) 0] w (Out C E j h (zae C q) 0 S w):=by
 have Y:=zc N
 have n:=N.few
 clear N
 have HV:Hid (zae C q= .error (zp C (adv q).pos)):=by
  show _=_
  rw[zae,zd,if_pos hw,zx]
  rw[zw,h1,X,h3,Z,h5]
  rfl
 unfold pv
 go_enter Tryz.func107,Tryz.ntmps107
 go_wp2_with fail
 refine (zaA C E j h (.ok q) S q (-1) 0 zab _ (zT q) ((Y.out.alloc _).alloc _)).mono ?_
 rintro e w1 ⟨I,D,z1,rfl,J,m1,s1⟩
 have F:=Y.out.fm2 m1 s1
 obtain⟨H,rfl⟩:=zcC J.out hw
 have HQ:=zc H
 have z:Hid (D.pos=q.pos+1):=by show D.pos=q.pos+1;rw[H];rfl
 clear H J
 have A:=F.x0.boxC
 unfold pv
 go_upto_region 2 with fail
 refine (F.put0 ..).cut ?_
 clear A
 intro w2 F
 have A:=F.x0.boxC
 go_wp2_with fail
 refine (zg C E j h I D (-1) 0 4 zF _ F.m.tok n (by decide)).mono ?_
 rintro e w3 ⟨rfl,V⟩
 rw[z.out,h1]
 replace F:=F.below V
 clear A
 have A:=F.x0.boxC
 go_wp2_with fail
 refine (zg C E j h I D (-1) 0 4 zv _ F.m.tok n (by decide)).mono ?_
 rintro e w4 ⟨rfl,U⟩
 rw[z.out,X]
 replace F:=F.below U
 clear A
 have A:=F.x0.boxC
 go_wp2_with fail
 refine (zg C E j h I D (-1) 0 1 sDefault _ F.m.tok n (by decide)).mono ?_
 rintro e w5 ⟨rfl,L⟩
 rw[z.out,h3]
 replace F:=F.below L
 clear A
 have A:=F.x0.boxC
 go_wp2_with fail
 refine (zg C E j h I D (-1) 0 1 zA _ F.m.tok n (by decide)).mono ?_
 rintro e w6 ⟨rfl,K⟩
 rw[z.out,Z]
 replace F:=F.below K
 clear A
 have A:=F.x0.boxC
 go_wp2_with fail
 refine (zg C E j h I D (-1) 0 1 zN _ F.m.tok n (by decide)).mono ?_
 rintro e w7 ⟨rfl,M⟩
 rw[z.out,h5]
 replace F:=F.below M
 clear A
 have A:=F.x0.boxC
 clear z
 go_wp2_with fail
 refine (zcK C E j h I D (-1) 0 _ F.m.tok n).mono ?_
 rintro e w8 ⟨rfl,O⟩
 replace F:=F.below O
 clear A
 have bb:=F.x1.boxC
 unfold pv
 go_wp2
 refine (F.x1.put ..).ret rfl rfl ?_
 rw[HV.out,←HQ.out]
 exact (F.put1 ..).done rfl (show Is (.error (zp C D.pos)) D _ from rfl)
end Go.Proofs.YtjdddblpfbmpaaaGreat
