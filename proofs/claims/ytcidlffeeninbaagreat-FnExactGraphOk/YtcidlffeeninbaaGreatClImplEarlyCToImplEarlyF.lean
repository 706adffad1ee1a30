/-
  What impl's declares and standingsOf answer: the walks.
  What impl's hasTwice answers: the walk.
  What impl's hasUnbound,hasMemberOfNone and hasSpaceAlone answer: the walks.
  Both sides tell the same early errors of a program in which each statement of DefaultName is a let. No program is spoken of.
  What impl.Early answers: the walk.
-/
import Derived.BigRegion
import Derived.Test.YtcidlffeeninbaaGreatClImplEarlyAToImplEarlyB
import Derived.Test.YtcidlffeeninbaaGreatClLawLinkToSameSpec
namespace Go.Proofs.YtcidlffeeninbaaGreat
set_option maxRecDepth 100000
set_option maxHeartbeats 6400000
open Go.RowKit Go.PlainAid Go.Sort
def zch (s:Sm):Bool:=s.kind==2||(s.kind==1&& !(s.name.toList==dN))
def kI (l:List Im):List (Int×ByteArray):=l.flatMap fun x=>(1,x.loc)::if x.first.toList==[42] then [(3,x.loc)] else []
def kS (l:List Sm):List (Int×ByteArray):=(l.filter zch).map fun x=>(1,x.name)
def kE (l:List Ep):List (Int×ByteArray):=(l.filter fun x=> !(x.kind==3)).map fun x=>(2,x.name)
def zbi (m:Md):List (Int×ByteArray):=kI m.im++kS m.st++kE m.ep
theorem zu5 {l:List Im} {j:Nat} {x:Im} (h:l[j]? =some x):kI (l.take (j+1))=if x.first.toList==[42] then kI (l.take j)++[(1,x.loc)]++[(3,x.loc)] else kI (l.take j)++[(1,x.loc)]:=by
 have e:kI [x]=(1,x.loc)::if x.first.toList==[42] then [(3,x.loc)] else []:=by rw[kI,List.flatMap_cons,List.flatMap_nil,List.append_nil]
 have q:kI (l.take j++[x])=kI (l.take j)++kI [x]:=by rw[kI,List.flatMap_append];rfl
 rw[zcX h,q,e]
 generalize (x.first.toList==[42])=b
 cases b<;>simp
theorem zu6 {l:List Sm} {j:Nat} {x:Sm} (h:l[j]? =some x):kS (l.take (j+1))=if zch x then kS (l.take j)++[(1,x.name)] else kS (l.take j):=by
 rw[zcX h,kS,kS,List.filter_append]
 cases q:zch x<;>simp[q]
theorem zu7 {l:List Ep} {j:Nat} {x:Ep} (h:l[j]? =some x):kE (l.take (j+1))=if x.kind==3 then kE (l.take j) else kE (l.take j)++[(2,x.name)]:=by
 rw[zcX h,kE,kE,List.filter_append]
 cases q:(x.kind==3)<;>simp[q]
theorem zmc (l:List Im):(kI l).length≤2*l.length:=by
 induction l with
 |nil=>simp[kI]
 |cons x l h=>
  have:kI (x::l)=((1,x.loc)::if x.first.toList==[42] then [(3,x.loc)] else [])++kI l:=rfl
  rw[this,List.length_append,List.length_cons,List.length_cons]
  split<;>simp<;>omega
theorem zmd (l:List Sm):(kS l).length≤l.length:=by
 rw[kS,List.length_map]
 exact List.length_filter_le _ _
theorem zu8 (l:List Ep):(kE l).length≤l.length:=by
 rw[kE,List.length_map]
 exact List.length_filter_le _ _
theorem zu9 (x:Sm) (w:World):
  Calls Tryz.prog 119 #[.agg #[.int .i64 x.kind,.string x.name,.int .i64 x.expr]] w fun e D=>e= .returned (.bool (zch x))∧Below w.heap.size w D:=by
 have z:Hid (Below w.heap.size w (w.alloc (.cells #[.int .i64 x.kind,.string x.name,.int .i64 x.expr] 87))):=(Below.refl _ _).alloc (Nat.le_refl _) _
 cases q:(x.kind==2) with
 |true=>
  have h:Hid (zch x=true):=by show _=_;rw[zch,q];rfl
  go_enter Tryz.func119,Tryz.ntmps119
  go_wp2
  go_ret
  exact⟨zh h.out.symm,z.out⟩
 |false=>
  cases A:(x.kind==1) with
  |false=>
   have h:Hid (zch x=false):=by show _=_;rw[zch,q,A];rfl
   go_enter Tryz.func119,Tryz.ntmps119
   go_wp2
   go_ret
   exact⟨zh h.out.symm,z.out⟩
  |true=>
   have h:Hid (zch x= !(x.name.toList==dN)):=by show _=_;rw[zch,q,A];simp
   go_enter Tryz.func119,Tryz.ntmps119
   go_wp2
   go_ret
   exact⟨zh h.out.symm,z.out⟩
def zuA (w:World) (L:List (Int×ByteArray)) (e:Ending) (w':World):Prop:=∃b,e= .returned (.map (some b))∧CntW w' b L∧Below w.heap.size w w'∧w.heap.size≤b
def SU (W0 W:World) (L:List (Int×ByteArray)):Prop:=CntW W W0.heap.size L∧Below W0.heap.size W0 W
theorem SU.below {q W w:World} {L:List (Int×ByteArray)} (h:SU q W L) (z:Below W.heap.size W w):SU q w L:=⟨h.1.kept (z.block _ h.1.lt),h.2.trans (z.mono h.2.size)⟩
theorem SU.grown {q W w:World} {L z:List (Int×ByteArray)} (h:SU q W L) (A:CntW w q.heap.size z) (D:W.grownBy w (some q.heap.size)):SU q w z:=⟨A,h.2.grown D h.2.size fun k E=>by cases E;exact Nat.le_refl _⟩
theorem SU.start (h:World):SU h (h.alloc (.map #[] 0)) []:=⟨⟨#[],0,heap_alloc_new h _,zu0 mkK,fun p q=>by cases q⟩,(Below.refl _ _).alloc (Nat.le_refl _) _⟩
def zgM (m:Md):Prop:=(∀x∈m.im,x.loc.size≤maxLen)∧(∀x∈m.st,x.name.size≤maxLen)∧(∀x∈m.ep,x.name.size≤maxLen∧x.loc.size≤maxLen)∧∀x∈m.ex,x.name.size≤maxLen
theorem zuB (V:Sv) (m:Md) (w:World) (hI:RowAt w V.im.a imL 3 m.im) (hE:RowAt w V.ep.a epL 4 m.ep) (hS:RowAt w V.st.a smL 3 m.st) (lI:m.im.length≤10000) (lE:m.ep.length≤10000) (lS:m.st.length≤10000) (hN:zgM m):
  Calls Tryz.prog 71 #[zn V m] w (zuA w (zbi m)):=by
 obtain⟨a1,aw⟩: ∃a,V.im.a=a:=⟨_,rfl⟩
 obtain⟨a2,ap⟩: ∃a,V.ep.a=a:=⟨_,rfl⟩
 obtain⟨a3,ax⟩: ∃a,V.st.a=a:=⟨_,rfl⟩
 unfold zn
 rw[aw] at hI ⊢
 rw[ap] at hE ⊢
 rw[ax] at hS ⊢
 have ac:Hid (Below w.heap.size w (w.alloc (.cells #[.slice V.rq.a m.rq.length V.rq.cap,.slice a1 m.im.length V.im.cap,.slice a2 m.ep.length V.ep.cap,.slice a3 m.st.length V.st.cap,.slice V.ex.a m.ex.length V.ex.cap] 48))):=(Below.refl _ _).alloc (Nat.le_refl _) _
 have ai:=zc (heap_alloc_new w (.cells #[.slice V.rq.a m.rq.length V.rq.cap,.slice a1 m.im.length V.im.cap,.slice a2 m.ep.length V.ep.cap,.slice a3 m.st.length V.st.cap,.slice V.ex.a m.ex.length V.ex.cap] 48))
 have HS:=zc (zg w (.cells #[.slice V.rq.a m.rq.length V.rq.cap,.slice a1 m.im.length V.im.cap,.slice a2 m.ep.length V.ep.cap,.slice a3 m.st.length V.st.cap,.slice V.ex.a m.ex.length V.ex.cap] 48))
 have RI:=zc (hI.later ac.out)
 have RE:=zc (hE.later ac.out)
 have RS:=zc (hS.later ac.out)
 have ST:=zc (SU.start (w.alloc (.cells #[.slice V.rq.a m.rq.length V.rq.cap,.slice a1 m.im.length V.im.cap,.slice a2 m.ep.length V.ep.cap,.slice a3 m.st.length V.st.cap,.slice V.ex.a m.ex.length V.ex.cap] 48)))
 have ah:=zc hN
 clear hI hE hS aw ap ax hN
 have aA:=@run_makeMap Tryz.prog
 go_enter Tryz.func71,Tryz.ntmps71
 go_upto_region 2 with fail
 obtain⟨N,aq⟩: ∃N,N=w.alloc (.cells #[.slice V.rq.a m.rq.length V.rq.cap,.slice a1 m.im.length V.im.cap,.slice a2 m.ep.length V.ep.cap,.slice a3 m.st.length V.st.cap,.slice V.ex.a m.ex.length V.ex.cap] 48):=⟨_,rfl⟩
 rw[←aq] at ai ac HS RI RE RS ST ⊢
 refine zx (R:=fun W=>SU N W []) ST.out ?_
 clear aq ST aA
 intro W1 ao
 have al:=zc ao
 clear ao
 obtain⟨c0,c1,c2,c3,c4,cf⟩:=zk ((al.out.2.block w.heap.size (by rw[HS.out];omega)).trans ai.out)
 go_wp2
 go_loopg [14] m.im.length (fun k i wr=>∃j:Nat,i= .int .i64 j∧j+k=m.im.length∧SU N wr (kI (m.im.take j)))
 case atStart=>exact⟨0,rfl,by omega,al.out⟩
 case round=>
  clear c0 c1 c2 c3 c4 cf
  obtain⟨j,rfl,hj,Y⟩:=hrel
  have q:=zc Y
  clear Y
  by_cases af:j<m.im.length
  ·have Z:(j:Int)<(m.im.length:Int):=by omega
   obtain⟨x,hx⟩: ∃x,m.im[j]? =some x:=⟨_,List.getElem?_eq_getElem af⟩
   obtain⟨b,ay,rfl,hc⟩:=(RI.out.later q.out.2).get hx
   have D:=zc (zu5 hx)
   have ag:Hid (RoleOk (1,x.loc)):=⟨by show (1:Int)≤1;omega,by show (1:Int)≤3;omega,ah.out.1 x (List.mem_of_getElem? hx)⟩
   have az:Hid (RoleOk (3,x.loc)):=⟨by show (1:Int)≤3;omega,by show (3:Int)≤3;omega,ah.out.1 x (List.mem_of_getElem? hx)⟩
   have d0:=hc 0 _ rfl
   have d1:=hc 1 _ rfl
   have d2:=hc 2 _ rfl
   simp only[Nat.add_zero] at d0
   clear hc hx
   obtain⟨L,hL⟩: ∃L,L=kI (m.im.take j):=⟨_,rfl⟩
   have ar:L.length≤20000:=by rw[hL];have:=zmc (m.im.take j);rw[List.length_take] at this;omega
   rw[←hL] at q D
   clear hL
   obtain⟨O,U⟩: ∃O,O=j+1:=⟨_,rfl⟩
   have ej:(j:Int)+1=(O:Int):=by omega
   have E:Hid (∀(w':World),SU N w' (kI (m.im.take (j+1)))→∃j':Nat,Value.int .i64 (O:Int)= .int .i64 (j':Int)∧j'+(gk-1)=m.im.length∧SU N w' (kI (m.im.take j'))):=fun w' h=>⟨O,rfl,by omega,by rw[U];exact h⟩
   clear U
   go_upto_region 5 with fail
   refine zx (R:=fun W=>SU N W L∧W.heap[wr.heap.size]? =some (.cells (imL x).toArray 80 (0,0))∧wr.heap.size<W.heap.size) ⟨q.out.below ((Below.refl _ _).alloc (Nat.le_refl _) _),heap_alloc_new wr _,by rw[zg];omega⟩ ?_
   obtain⟨bs,X⟩: ∃bs,bs=wr.heap.size:=⟨_,rfl⟩
   rw[←X]
   have NE:Hid (some bs≠some N.heap.size):=fun e=>by have:=q.out.1.lt;simp only[Option.some.injEq] at e;omega
   clear d0 d1 d2 X q
   rintro W2 ⟨K,I,M⟩
   have ad:=zc K
   have ae:=zc I
   obtain⟨e0,e1,e2,ef⟩:=zq I
   obtain⟨c,v0,st,Wa,Wb,hc,l1,me,l2,es,z,H⟩:=K.1.bump (1,x.loc) ag.out
   have aF:c≤20000:=by omega
   dsimp only at l1 me l2 es
   have A:=zc (K.grown z H)
   have X3:Hid (Wb.heap[bs]? =some (.cells (imL x).toArray 80 (0,0))):=(H.block bs M NE.out).trans I
   have av:bs<Wb.heap.size:=Nat.lt_of_lt_of_le M H.size
   clear K I z H hc
   rw[HS.out] at l1 me l2 es
   go_wp2_with fail
   go_region
   all_goals
    clear e0 e1 e2 ef l1 me l2 es
    obtain⟨e0,e1,e2,ef⟩:=zq X3.out
    cases kf:(x.first.toList==[42]) with
    |false=>
     have J:=zc (E.out Wb (by rw[D.out,kf,if_neg Bool.false_ne_true];exact A.out))
     clear E D A ad X3 ae
     go_wp2
     go_roundg (gk-1)
     case rel=>exact J.out
     case measure=>omega
    |true=>
     obtain⟨cc,v1,au,Wc,Wd,ab,l1,me,l2,es,z,H⟩:=A.out.1.bump (3,x.loc) az.out
     rw[List.length_append] at ab
     have an:cc≤20001:=by simp only[List.length_singleton] at ab;omega
     dsimp only at l1 me l2 es
     rw[HS.out] at l1 me l2 es
     have J:=zc (E.out Wd (by rw[D.out,kf,if_pos rfl];exact A.out.grown z H))
     clear E D A ad X3 ae z H ab
     go_wp2_with fail
     go_region
     all_goals
      go_wp2
      go_roundg (gk-1)
      case rel=>exact J.out
      case measure=>omega
  ·have Z: ¬(j:Int)<(m.im.length:Int):=by omega
   have aa:m.im.take j=m.im:=List.take_of_length_le (by omega)
   rw[aa] at q
   obtain⟨c0,c1,c2,c3,c4,cf⟩:=zk ((q.out.2.block w.heap.size (by rw[HS.out];omega)).trans ai.out)
   obtain⟨L1,ak⟩: ∃L,L=kI m.im:=⟨_,rfl⟩
   have aB:=zc ak
   have aE:L1.length≤20000:=by rw[ak];have:=zmc m.im;omega
   rw[←ak] at q
   clear ak aa al
   go_wp2
   go_loopg [41] m.st.length (fun k i wr=>∃j:Nat,i= .int .i64 j∧j+k=m.st.length∧SU N wr (L1++kS (m.st.take j)))
   case atStart=>exact⟨0,rfl,by omega,by rw[List.take_zero];show SU N _ (L1++[]);rw[List.append_nil];exact q.out⟩
   case round=>
    clear c0 c1 c2 c3 c4 cf q
    obtain⟨j,rfl,hj,Y⟩:=hrel
    have q:=zc Y
    clear Y
    by_cases af:j<m.st.length
    ·have Z:(j:Int)<(m.st.length:Int):=by omega
     obtain⟨x,hx⟩: ∃x,m.st[j]? =some x:=⟨_,List.getElem?_eq_getElem af⟩
     obtain⟨b,ay,rfl,hc⟩:=(RS.out.later q.out.2).get hx
     have D:=zc (zu6 hx)
     have ag:Hid (RoleOk (1,x.name)):=⟨by show (1:Int)≤1;omega,by show (1:Int)≤3;omega,ah.out.2.1 x (List.mem_of_getElem? hx)⟩
     have d0:=hc 0 _ rfl
     have d1:=hc 1 _ rfl
     have d2:=hc 2 _ rfl
     simp only[Nat.add_zero] at d0
     clear hc hx
     obtain⟨L,hL⟩: ∃L,L=L1++kS (m.st.take j):=⟨_,rfl⟩
     have HL:=zc hL
     have ar:L.length≤40000:=by rw[hL,List.length_append];have:=zmd (m.st.take j);rw[List.length_take] at this;omega
     rw[←hL] at q
     clear hL
     obtain⟨O,U⟩: ∃O,O=j+1:=⟨_,rfl⟩
     have ej:(j:Int)+1=(O:Int):=by omega
     have E:Hid (∀(w':World),SU N w' (L1++kS (m.st.take (j+1)))→∃j':Nat,Value.int .i64 (O:Int)= .int .i64 (j':Int)∧j'+(gk-1)=m.st.length∧SU N w' (L1++kS (m.st.take j'))):=fun w' h=>⟨O,rfl,by omega,by rw[U];exact h⟩
     clear U
     go_upto_region 12 with fail
     refine zx (R:=fun W=>SU N W L∧W.heap[wr.heap.size]? =some (.cells (smL x).toArray 87 (0,0))∧wr.heap.size<W.heap.size) ⟨q.out.below ((Below.refl _ _).alloc (Nat.le_refl _) _),heap_alloc_new wr _,by rw[zg];omega⟩ ?_
     obtain⟨bs,X⟩: ∃bs,bs=wr.heap.size:=⟨_,rfl⟩
     rw[←X]
     clear d0 d1 d2 X q
     rintro W2 ⟨K,I,M⟩
     have ad:=zc K
     have ae:=zc I
     obtain⟨e0,e1,e2,ef⟩:=zq I
     clear K I
     go_wp2_with fail
     refine (zu9 x _).mono ?_
     rintro e W3 ⟨rfl,am⟩
     have A:=zc (ad.out.below am)
     have X3:=zc ((am.block bs M).trans ae.out)
     clear e0 e1 e2 ef am ad ae M
     obtain⟨e0,e1,e2,ef⟩:=zq X3.out
     have av:=(Array.getElem?_eq_some_iff.1 X3.out).1
     cases hd:zch x with
     |false=>
      have J:=zc (E.out W3 (by rw[D.out,hd,if_neg Bool.false_ne_true,←HL.out];exact A.out))
      clear E D A X3 HL
      go_wp2
      go_roundg (gk-1)
      case rel=>exact J.out
      case measure=>omega
     |true=>
      obtain⟨cc,v1,au,Wc,Wd,ab,l1,me,l2,es,z,H⟩:=A.out.1.bump (1,x.name) ag.out
      have an:cc≤40000:=by omega
      dsimp only at l1 me l2 es
      rw[HS.out] at l1 me l2 es
      have J:=zc (E.out Wd (by rw[D.out,hd,if_pos rfl,←List.append_assoc,←HL.out];exact A.out.grown z H))
      clear E D A X3 HL z H ab
      go_wp2_with fail
      go_region
      all_goals
       go_wp2
       go_roundg (gk-1)
       case rel=>exact J.out
       case measure=>omega
    ·have Z: ¬(j:Int)<(m.st.length:Int):=by omega
     have aa:m.st.take j=m.st:=List.take_of_length_le (by omega)
     rw[aa] at q
     obtain⟨c0,c1,c2,c3,c4,cf⟩:=zk ((q.out.2.block w.heap.size (by rw[HS.out];omega)).trans ai.out)
     obtain⟨L2,aj⟩: ∃L,L=L1++kS m.st:=⟨_,rfl⟩
     have aC:=zc aj
     have aD:L2.length≤40000:=by rw[aj,List.length_append];have:=zmd m.st;omega
     rw[←aj] at q
     clear aj aa
     go_wp2
     go_loopg [59] m.ep.length (fun k i wr=>∃j:Nat,i= .int .i64 j∧j+k=m.ep.length∧SU N wr (L2++kE (m.ep.take j)))
     case atStart=>exact⟨0,rfl,by omega,by rw[List.take_zero];show SU N _ (L2++[]);rw[List.append_nil];exact q.out⟩
     case round=>
      clear c0 c1 c2 c3 c4 cf q
      obtain⟨j,rfl,hj,Y⟩:=hrel
      have q:=zc Y
      clear Y
      by_cases af:j<m.ep.length
      ·have Z:(j:Int)<(m.ep.length:Int):=by omega
       obtain⟨x,hx⟩: ∃x,m.ep[j]? =some x:=⟨_,List.getElem?_eq_getElem af⟩
       obtain⟨b,ay,rfl,hc⟩:=(RE.out.later q.out.2).get hx
       have D:=zc (zu7 hx)
       have ag:Hid (RoleOk (2,x.name)):=⟨by show (1:Int)≤2;omega,by show (2:Int)≤3;omega,(ah.out.2.2.1 x (List.mem_of_getElem? hx)).1⟩
       have d0:=hc 0 _ rfl
       have d1:=hc 1 _ rfl
       have d2:=hc 2 _ rfl
       have d3:=hc 3 _ rfl
       simp only[Nat.add_zero] at d0
       clear hc hx
       obtain⟨L,hL⟩: ∃L,L=L2++kE (m.ep.take j):=⟨_,rfl⟩
       have HL:=zc hL
       have ar:L.length≤60000:=by rw[hL,List.length_append];have:=zu8 (m.ep.take j);rw[List.length_take] at this;omega
       rw[←hL] at q
       clear hL
       obtain⟨O,U⟩: ∃O,O=j+1:=⟨_,rfl⟩
       have ej:(j:Int)+1=(O:Int):=by omega
       have E:Hid (∀(w':World),SU N w' (L2++kE (m.ep.take (j+1)))→∃j':Nat,Value.int .i64 (O:Int)= .int .i64 (j':Int)∧j'+(gk-1)=m.ep.length∧SU N w' (L2++kE (m.ep.take j'))):=fun w' h=>⟨O,rfl,by omega,by rw[U];exact h⟩
       clear U
       go_upto_region 18 with fail
       refine zx (R:=fun W=>SU N W L∧W.heap[wr.heap.size]? =some (.cells (epL x).toArray 82 (0,0))∧wr.heap.size<W.heap.size) ⟨q.out.below ((Below.refl _ _).alloc (Nat.le_refl _) _),heap_alloc_new wr _,by rw[zg];omega⟩ ?_
       obtain⟨bs,X⟩: ∃bs,bs=wr.heap.size:=⟨_,rfl⟩
       rw[←X]
       clear d0 d1 d2 d3 X q
       rintro W2 ⟨K,I,M⟩
       have A:=zc K
       obtain⟨e0,e1,e2,e3,ef⟩:=zb1 I
       clear K I
       cases hd:(x.kind==3) with
       |true=>
        have J:=zc (E.out W2 (by rw[D.out,hd,if_pos rfl,←HL.out];exact A.out))
        clear E D A HL
        go_wp2
        go_roundg (gk-1)
        case rel=>exact J.out
        case measure=>omega
       |false=>
        obtain⟨cc,v1,au,Wc,Wd,ab,l1,me,l2,es,z,H⟩:=A.out.1.bump (2,x.name) ag.out
        have an:cc≤60000:=by omega
        dsimp only at l1 me l2 es
        rw[HS.out] at l1 me l2 es
        have J:=zc (E.out Wd (by rw[D.out,hd,if_neg Bool.false_ne_true,←List.append_assoc,←HL.out];exact A.out.grown z H))
        clear E D A HL z H ab
        go_wp2_with fail
        go_region
        all_goals
         go_wp2
         go_roundg (gk-1)
         case rel=>exact J.out
         case measure=>omega
      ·have Z: ¬(j:Int)<(m.ep.length:Int):=by omega
       have aa:m.ep.take j=m.ep:=List.take_of_length_le (by omega)
       rw[aa,aC.out,aB.out] at q
       go_wp2
       go_ret
       refine⟨_,rfl,?_,ac.out.trans (q.out.2.mono (by rw[HS.out];omega)),by omega⟩
       have:=q.out.1
       rw[HS.out] at this
       exact this
open Go.ChangeMaps (setBlock)
def twK (L:List (Int×ByteArray)) (r:Int):Prop:=∃n,2≤cnt L (r,n)
def zuC (L:List (Int×ByteArray)) (r:Int) (e:Ending):Prop:=∃b:Bool,e= .returned (.bool b)∧(b=true↔twK L r)
def RgW (W0 W:World) (b it:Nat) (es:Array MapEntry) (clock:Nat) (r:Int) (k:Nat):Prop:=
 ∃seen:Array Nat,W.heap[it]? =some (.mapIter (some b) clock seen clock)∧W.heap[b]? =some (.map es clock)∧(leftOf es seen).size=k∧Below W0.heap.size W0 W∧
  ∀y∈es.toList,seen.contains y.born=true→∀n c,y.key=mkK (r,n)→y.val= .int .i64 c→c≤1
theorem zuD {q:Array MapEntry} {h:Array Nat} {y:MapEntry} (w:y∈(leftOf q h).toList):(leftOf q (h.push y.born)).size<(leftOf q h).size:=by
 have e:(leftOf q (h.push y.born)).toList=(leftOf q h).toList.filter (fun x=> !(x.born==y.born)):=by
  simp only[leftOf,Array.toList_filter,List.filter_filter,Array.contains_push]
  refine List.filter_congr fun x _=>?_
  rw[Bool.not_or,Bool.and_comm]
 rw[←Array.length_toList,←Array.length_toList,e,List.length_filter_lt_length_iff_exists]
 exact⟨y,w,by simp⟩
theorem zuE {l:List MapEntry} (h:(l.map (·.born)).Nodup) {x y:MapEntry} (z:x∈l) (w:y∈l) (e:x.born=y.born):x=y:=by
 obtain⟨i,q,rfl⟩:=List.mem_iff_getElem.1 z
 obtain⟨j,A,rfl⟩:=List.mem_iff_getElem.1 w
 have:i=j:=(List.getElem_inj (xs:=l.map (·.born)) (h₀:=by rw[List.length_map];exact q) (h₁:=by rw[List.length_map];exact A) h).1 (by rw[List.getElem_map,List.getElem_map];exact e)
 subst this
 rfl
theorem zme (b:Nat) (L:List (Int×ByteArray)) (r:Int) (w:World) (h:CntW w b L):
  Calls Tryz.prog 72 #[.map (some b),.int .i64 r] w fun e w'=>zuC L r e∧Below w.heap.size w w':=by
 obtain⟨I,q,J,hc,hR⟩:=h
 have aA:=run_range_map (P:=Tryz.prog) w 117 170 3 b I q Tryz.underlying117 J
 have HB:=zc J
 have HC:=zc hc
 have HR:=zc hR
 clear J hc hR
 go_enter Tryz.func72,Tryz.ntmps72
 go_wp2
 obtain⟨D,X⟩: ∃D,D=w.heap.size:=⟨_,rfl⟩
 have K:Hid (RgW w (w.alloc (.mapIter (some b) q #[] q)) b D I q r (leftOf I #[]).size):=⟨#[],by rw[X];exact heap_alloc_new w _,(heap_alloc_old _ _ (Array.getElem?_eq_some_iff.1 HB.out).1).trans HB.out,rfl,(Below.refl _ _).alloc (Nat.le_refl _) _,fun y _ h=>by simp at h⟩
 have aw:Hid (w.heap.size≤D):=Nat.le_of_eq X.symm
 rw[←X]
 clear X
 go_loopg [6] (leftOf I #[]).size (fun k u wr=>RgW w wr b D I q r k)
 case atStart=>exact K.out
 case round=>
  clear K
  obtain⟨A,hi,J,hk,E,ag⟩:=hrel
  have HI:=zc hi
  have aB:=zc J
  have HK:=zc hk
  have ap:=zc E
  have al:=zc ag
  rcases run_next_at (P:=Tryz.prog) wr 0 D b q q A I q hi J HC.out.1.1 (Nat.le_refl _) with ⟨h0,H⟩|⟨y,hy,U,ad,H⟩
  ·have HV:Hid (¬twK L r):=fun⟨n,hn⟩=>by
    obtain⟨y,hy,e1,e2⟩:=zlW HC.out (zu4.1 (Nat.lt_of_lt_of_le (by decide) hn))
    have O:A.contains y.born=true:=by
     cases O:A.contains y.born with
     |true=>rfl
     |false=>
      have:y∈(leftOf I A).toList:=by
       simp only[leftOf,Array.toList_filter,List.mem_filter]
       exact⟨hy,by rw[O];rfl⟩
      rw[Array.eq_empty_of_size_eq_zero h0] at this
      cases this
    have:=al.out y hy O n _ e1 e2
    have h2:(2:Int)≤(cnt L (r,n):Nat):=by omega
    unfold cnt at h2
    omega
   clear hi J hk E ag h0
   go_wp2
   go_ret
   exact⟨⟨false,rfl,⟨fun k=>(by cases k),fun k=>absurd k HV.out⟩⟩,ap.out⟩
  ·have aa:y∈I.toList:=by
    simp only[leftOf,Array.toList_filter,List.mem_filter] at hy
    exact hy.1
   obtain⟨jy,aj,ab⟩:=List.mem_iff_getElem.1 aa
   obtain⟨z,hz,e1,e2⟩:=zin HC.out (j:=jy) (y:=y) (by rw[List.getElem?_eq_getElem aj,ab])
   have ac:=zc (zuD hy)
   have hh:U.heap=wr.heap:=by rcases ad with rfl|rfl<;>rfl
   have am:b≠D:=fun e=>by rw[e,hi] at J;cases J
   have ah:U.heap[D]? =some (.mapIter (some b) q A q):=by rw[hh];exact hi
   have n1:=(MapKept.heap_set (o':=.mapIter (some b) q (A.push y.born) q) ah).1
   have n2:=(MapKept.heap_set (o':=.mapIter (some b) q (A.push y.born) q) ah).2
   have ai:Below w.heap.size w (setBlock U D (.mapIter (some b) q (A.push y.born) q)):=by
    have h1:Below w.heap.size w U:=by rcases ad with rfl|rfl;exact E;exact E.drew
    refine⟨h1.os,h1.tape,h1.output,by simpa [setBlock] using h1.size,fun k az=>?_⟩
    have ay:k≠D:=by have:=aw.out;omega
    exact (n2 k ay).trans (h1.block k az)
   have V:=run_entry_at (P:=Tryz.prog) (setBlock U D (.mapIter (some b) q (A.push y.born) q)) D b q A I q y n1 ((n2 b am).trans (by rw[hh];exact J)) aa HC.out.1.2.1
   have NB:=zc ((n2 b am).trans (show U.heap[b]? =some (.map I q) by rw[hh];exact J))
   have NI:(setBlock U D (.mapIter (some b) q (A.push y.born) q)).heap[D]? =some (.mapIter (some b) q (A.push y.born) q):=n1
   have M:=zc ai
   change (setBlock U D (.mapIter (some b) q (A.push y.born) q)).heap[b]? =_ at NB
   generalize setBlock U D (.mapIter (some b) q (A.push y.born) q)=Wn at H V NB NI M
   rw[e1,e2] at H V
   have Z:Hid ((z.1=r→cnt L z≤1)→∀y'∈I.toList,(A.push y.born).contains y'.born=true→∀n c,y'.key=mkK (r,n)→y'.val= .int .i64 c→c≤1):=fun av y' an O n c k1 k2=>by
    rw[Array.contains_push,Bool.or_eq_true] at O
    rcases O with O|O
    ·exact al.out y' an O n c k1 k2
    ·have ak:=zuE HC.out.1.2.1 an aa (eq_of_beq O)
     rw[ak,e1] at k1
     rw[ak,e2] at k2
     have:=zgL _ _ k1
     have h1:=av (by rw[this])
     simp only[Value.int.injEq,true_and] at k2
     unfold cnt at h1
     omega
   obtain⟨Y,n0⟩:=z
   have ax:=zmb L (Y,n0)
   obtain⟨c,ae⟩: ∃c:Nat,c=cnt L (Y,n0):=⟨_,rfl⟩
   change (Instr.next (.pointer (some ⟨D,0,none⟩)) false 0).run Tryz.prog wr= .ok (.tuple #[.bool true,.agg #[.int .i64 Y,.string n0],.int .i64 (cnt L (Y,n0):Nat)]) Wn at H
   change (Instr.entry (.pointer (some ⟨D,0,none⟩))).run Tryz.prog Wn= .ok (.tuple #[.agg #[.int .i64 Y,.string n0],.int .i64 (cnt L (Y,n0):Nat)]) Wn at V
   rw[←ae] at H V ax
   have ao:=zc ae
   clear ae hi J hk E ag n1 n2 ai ah hh ad ab aj e1 e2 hz aa hy
   have N:Hid ((Y=r→c≤1)→RgW w (Wn.alloc (.cells #[.int .i64 Y,.string n0] 170)) b D I q r (leftOf I (A.push y.born)).size):=fun hq=>by
    have au:=(Array.getElem?_eq_some_iff.1 NB).1
    have aq:=(Array.getElem?_eq_some_iff.1 NI).1
    exact⟨_,(heap_alloc_old _ _ aq).trans NI,(heap_alloc_old _ _ au).trans NB,rfl,M.out.alloc M.out.size _,Z.out (by rw[←ao.out];exact hq)⟩
   cases q1:(Y==r) with
   |false=>
    have af:=zc (N.out (fun e=>by rw[e] at q1;simp at q1))
    clear N Z
    go_wp2
    go_roundg ((leftOf I (A.push y.born)).size)
    case rel=>exact af.out
    case measure=>have:=ac.out;have:=HK.out;omega
   |true=>
    by_cases q2:1<c
    ·have ar:(1:Int)<(c:Int):=by omega
     have HV:Hid (twK L r):=⟨n0,by rw[←eq_of_beq q1,←ao.out];omega⟩
     clear N Z
     go_wp2
     go_ret
     exact⟨⟨true,rfl,⟨fun _=>HV.out,fun _=>rfl⟩⟩,M.out.alloc M.out.size _⟩
    ·have ar: ¬(1:Int)<(c:Int):=by omega
     have af:=zc (N.out (fun _=>by omega))
     clear N Z
     go_wp2
     go_roundg ((leftOf I (A.push y.born)).size)
     case rel=>exact af.out
     case measure=>have:=ac.out;have:=HK.out;omega
def hB (L:List (Int×ByteArray)) (r:Int) (n:ByteArray):Bool:=decide (0<cnt L (r,n))
def unI (L:List (Int×ByteArray)) (x:Ep):Bool:=(x.kind==1&& !(x.loc.toList==dN))&& !hB L 1 x.loc
def mxI (L:List (Int×ByteArray)) (x:Ex):Bool:=(x.kind==4||x.kind==5)&& !hB L 3 x.name
def seI (L:List (Int×ByteArray)) (x:Ep):Bool:=x.kind==1&&hB L 3 x.loc
def ssI (L:List (Int×ByteArray)) (x:Sm):Bool:=x.kind==3&&hB L 3 x.name
def sxI (L:List (Int×ByteArray)) (x:Ex):Bool:=(x.kind==2||x.kind==3)&&hB L 3 x.name
theorem zex {α:Type} {f:α→Bool} {l:List α} {j:Nat} {x:α} (h:l[j]? =some x) (q:f x=true):l.any f=true:=List.any_eq_true.2 ⟨x,List.mem_of_getElem? h,q⟩
theorem zfJ {α:Type} {f:α→Bool} {l:List α} {j:Nat} {x:α} (h:l[j]? =some x) (q:(l.take j).any f=false) (w:f x=false):(l.take (j+1)).any f=false:=by
 rw[zcX h,List.any_append,q,Bool.false_or,List.any_cons,w]
 rfl
def zvG (r:Int) (n:ByteArray):Prop:=RoleOk (r,n)
theorem zcu {r:Int} {n:ByteArray} (w:1≤r) (q:r≤3) (h:n.size≤maxLen):RoleOk (r,n):=⟨w,q,h⟩
theorem zuF (b:Nat) (L:List (Int×ByteArray)) (a:Option Addr) (ad:Nat) (l:List Ep) (w:World) (h:CntW w b L) (hr:RowAt w a epL 4 l) (hl:l.length≤10000) (hn: ∀x∈l,x.loc.size≤maxLen):
  Calls Tryz.prog 73 #[.map (some b),.slice a l.length ad] w fun e D=>e= .returned (.bool (l.any (unI L)))∧Below w.heap.size w D:=by
 have CW:=zc h
 have HR:=zc hr
 have HN:=zc hn
 clear h hr hn
 go_enter Tryz.func73,Tryz.ntmps73
 go_wp2
 go_loopg [9] l.length (fun k i wr=>∃j:Nat,i= .int .i64 j∧j+k=l.length∧(l.take j).any (unI L)=false∧Below w.heap.size w wr)
 case atStart=>exact⟨0,rfl,by omega,rfl,Below.refl _ _⟩
 case round=>
  obtain⟨j,rfl,hj,Y,O⟩:=hrel
  have I:=zc Y
  have q:=zc O
  clear Y O
  by_cases aa:j<l.length
  ·have V:(j:Int)<(l.length:Int):=by omega
   obtain⟨x,hx⟩: ∃x,l[j]? =some x:=⟨_,List.getElem?_eq_getElem aa⟩
   obtain⟨bb,af,rfl,Z⟩:=(HR.out.later q.out).get hx
   have HX:=zc hx
   have NS:=zc (HN.out x (List.mem_of_getElem? HX.out))
   have d0:=Z 0 _ rfl
   have d1:=Z 1 _ rfl
   have d2:=Z 2 _ rfl
   have d3:=Z 3 _ rfl
   simp only[Nat.add_zero] at d0
   clear Z hx
   obtain⟨j1,X⟩: ∃j1,j1=j+1:=⟨_,rfl⟩
   have ej:(j:Int)+1=(j1:Int):=by omega
   have z:Hid (∀D:World,unI L x=false→Below wr.heap.size wr D→∃j':Nat,Value.int .i64 (j1:Int)= .int .i64 (j':Int)∧j'+(gk-1)=l.length∧(l.take j').any (unI L)=false∧Below w.heap.size w D):=fun D h1 h2=>⟨j1,rfl,by omega,by rw[X];exact zfJ HX.out I.out h1,q.out.trans (h2.mono q.out.size)⟩
   clear X
   go_upto_region 4 with fail
   refine zx (R:=fun W=>Below wr.heap.size wr W∧W.heap[wr.heap.size]? =some (.cells (epL x).toArray 82 (0,0))) ⟨(Below.refl _ _).alloc (Nat.le_refl _) _,heap_alloc_new wr _⟩ ?_
   have U:=zc (CW.out.kept ((q.out.block _ CW.out.lt)))
   obtain⟨bs,J⟩: ∃bs,bs=wr.heap.size:=⟨_,rfl⟩
   rw[←J]
   have ac:=zc J
   clear d0 d1 d2 d3 J
   rintro W2 ⟨H,K⟩
   rw[ac.out] at H
   have E:=zc H
   have N:=zc (U.out.kept (H.block _ U.out.lt))
   obtain⟨e0,e1,e2,e3,ef⟩:=zb1 K
   have ae:=(Array.getElem?_eq_some_iff.1 K).1
   clear H K
   cases k1:(x.kind==1) with
   |true=>
    cases kd:(x.loc.toList==dN) with
    |true=>
     have A:=zc (z.out W2 (by rw[unI,k1,kd];rfl) E.out)
     clear z
     go_wp2
     go_roundg (gk-1)
     case rel=>exact A.out
     case measure=>omega
    |false=>
     cases M:hB L 1 x.loc with
     |true=>
      have A:=zc (z.out W2 (by rw[unI,k1,kd,M];rfl) E.out)
      clear z
      go_wp2_with (first|(go_at_call 120;refine (zct b L 1 x.loc _ N.out (zcu (by decide) (by decide) NS.out)).mono ?_;rintro e D ⟨rfl,hw⟩;rw[hw];clear hw D;change hB L 1 x.loc=_ at M;rw[show decide (0<cnt L (1,x.loc))=hB L 1 x.loc from rfl,M]))
      go_roundg (gk-1)
      case rel=>exact A.out
      case measure=>omega
     |false=>
      have HV:Hid (l.any (unI L)=true):=zex HX.out (by rw[unI,k1,kd,M];rfl)
      clear z
      go_wp2_with (first|(go_at_call 120;refine (zct b L 1 x.loc _ N.out (zcu (by decide) (by decide) NS.out)).mono ?_;rintro e D ⟨rfl,hw⟩;rw[hw];clear hw D;change hB L 1 x.loc=_ at M;rw[show decide (0<cnt L (1,x.loc))=hB L 1 x.loc from rfl,M]))
      go_ret
      exact⟨zh HV.out.symm,q.out.trans (E.out.mono q.out.size)⟩
   |false=>
    have A:=zc (z.out W2 (by rw[unI,k1];rfl) E.out)
    clear z
    go_wp2
    go_roundg (gk-1)
    case rel=>exact A.out
    case measure=>omega
  ·have V: ¬(j:Int)<(l.length:Int):=by omega
   have ab:l.take j=l:=List.take_of_length_le (by omega)
   rw[ab] at I
   go_wp2
   go_ret
   exact⟨zh I.out.symm,q.out⟩
theorem zuG (b:Nat) (L:List (Int×ByteArray)) (a:Option Addr) (af:Nat) (l:List Ex) (w:World) (h:CntW w b L) (hr:RowAt w a exL 6 l) (hl:l.length≤10000) (hn: ∀x∈l,x.name.size≤maxLen):
  Calls Tryz.prog 75 #[.map (some b),.slice a l.length af] w fun e A=>e= .returned (.bool (l.any (mxI L)))∧Below w.heap.size w A:=by
 have CW:=zc h
 have HR:=zc hr
 have HN:=zc hn
 clear h hr hn
 go_enter Tryz.func75,Tryz.ntmps75
 go_wp2
 go_loopg [9] l.length (fun k i wr=>∃j:Nat,i= .int .i64 j∧j+k=l.length∧(l.take j).any (mxI L)=false∧Below w.heap.size w wr)
 case atStart=>exact⟨0,rfl,by omega,rfl,Below.refl _ _⟩
 case round=>
  obtain⟨j,rfl,hj,ab,X⟩:=hrel
  have M:=zc ab
  have q:=zc X
  clear ab X
  by_cases ac:j<l.length
  ·have Z:(j:Int)<(l.length:Int):=by omega
   obtain⟨x,hx⟩: ∃x,l[j]? =some x:=⟨_,List.getElem?_eq_getElem ac⟩
   obtain⟨bb,ah,rfl,N⟩:=(HR.out.later q.out).get hx
   have HX:=zc hx
   have NS:=zc (HN.out x (List.mem_of_getElem? HX.out))
   have d0:=N 0 _ rfl
   have d1:=N 1 _ rfl
   have d2:=N 2 _ rfl
   have d3:=N 3 _ rfl
   have d4:=N 4 _ rfl
   have d5:=N 5 _ rfl
   simp only[Nat.add_zero] at d0
   clear N hx
   obtain⟨j1,aa⟩: ∃j1,j1=j+1:=⟨_,rfl⟩
   have ej:(j:Int)+1=(j1:Int):=by omega
   have z:Hid (∀A:World,mxI L x=false→Below wr.heap.size wr A→∃j':Nat,Value.int .i64 (j1:Int)= .int .i64 (j':Int)∧j'+(gk-1)=l.length∧(l.take j').any (mxI L)=false∧Below w.heap.size w A):=fun A h1 h2=>⟨j1,rfl,by omega,by rw[aa];exact zfJ HX.out M.out h1,q.out.trans (h2.mono q.out.size)⟩
   clear aa
   go_upto_region 4 with fail
   refine zx (R:=fun W=>Below wr.heap.size wr W∧W.heap[wr.heap.size]? =some (.cells (exL x).toArray 85 (0,0))) ⟨(Below.refl _ _).alloc (Nat.le_refl _) _,heap_alloc_new wr _⟩ ?_
   have Y:=zc (CW.out.kept ((q.out.block _ CW.out.lt)))
   obtain⟨bs,O⟩: ∃bs,bs=wr.heap.size:=⟨_,rfl⟩
   rw[←O]
   have ae:=zc O
   clear d0 d1 d2 d3 d4 d5 O
   rintro W2 ⟨K,U⟩
   rw[ae.out] at K
   have E:=zc K
   have J:=zc (Y.out.kept (K.block _ Y.out.lt))
   obtain⟨e0,e1,e2,e3,e4,e5,ef⟩:=zw U
   have ag:=(Array.getElem?_eq_some_iff.1 U).1
   clear K U
   cases V:(x.kind==4) with
   |true=>
    cases D:hB L 3 x.name with
    |true=>
     have H:=zc (z.out W2 (by rw[mxI,V,D];rfl) E.out)
     clear z
     go_wp2_with (first|(go_at_call 120;refine (zct b L 3 x.name _ J.out (zcu (by decide) (by decide) NS.out)).mono ?_;rintro e A ⟨rfl,I⟩;rw[I];clear I A;change hB L 3 x.name=_ at D;rw[show decide (0<cnt L (3,x.name))=hB L 3 x.name from rfl,D]))
     go_roundg (gk-1)
     case rel=>exact H.out
     case measure=>omega
    |false=>
     have HV:Hid (l.any (mxI L)=true):=zex HX.out (by rw[mxI,V,D];rfl)
     clear z
     go_wp2_with (first|(go_at_call 120;refine (zct b L 3 x.name _ J.out (zcu (by decide) (by decide) NS.out)).mono ?_;rintro e A ⟨rfl,I⟩;rw[I];clear I A;change hB L 3 x.name=_ at D;rw[show decide (0<cnt L (3,x.name))=hB L 3 x.name from rfl,D]))
     go_ret
     exact⟨zh HV.out.symm,q.out.trans (E.out.mono q.out.size)⟩
   |false=>
    cases k5:(x.kind==5) with
    |true=>
     cases D:hB L 3 x.name with
     |true=>
      have H:=zc (z.out W2 (by rw[mxI,V,k5,D];rfl) E.out)
      clear z
      go_wp2_with (first|(go_at_call 120;refine (zct b L 3 x.name _ J.out (zcu (by decide) (by decide) NS.out)).mono ?_;rintro e A ⟨rfl,I⟩;rw[I];clear I A;change hB L 3 x.name=_ at D;rw[show decide (0<cnt L (3,x.name))=hB L 3 x.name from rfl,D]))
      go_roundg (gk-1)
      case rel=>exact H.out
      case measure=>omega
     |false=>
      have HV:Hid (l.any (mxI L)=true):=zex HX.out (by rw[mxI,V,k5,D];rfl)
      clear z
      go_wp2_with (first|(go_at_call 120;refine (zct b L 3 x.name _ J.out (zcu (by decide) (by decide) NS.out)).mono ?_;rintro e A ⟨rfl,I⟩;rw[I];clear I A;change hB L 3 x.name=_ at D;rw[show decide (0<cnt L (3,x.name))=hB L 3 x.name from rfl,D]))
      go_ret
      exact⟨zh HV.out.symm,q.out.trans (E.out.mono q.out.size)⟩
    |false=>
     have H:=zc (z.out W2 (by rw[mxI,V,k5];rfl) E.out)
     clear z
     go_wp2
     go_roundg (gk-1)
     case rel=>exact H.out
     case measure=>omega
  ·have Z: ¬(j:Int)<(l.length:Int):=by omega
   have ad:l.take j=l:=List.take_of_length_le (by omega)
   rw[ad] at M
   go_wp2
   go_ret
   exact⟨zh M.out.symm,q.out⟩
theorem zuH (b:Nat) (L:List (Int×ByteArray)) (V:Sv) (m:Md) (w:World) (h:CntW w b L) (hE:RowAt w V.ep.a epL 4 m.ep) (hS:RowAt w V.st.a smL 3 m.st) (hX:RowAt w V.ex.a exL 6 m.ex) (lE:m.ep.length≤10000) (lS:m.st.length≤10000) (lX:m.ex.length≤10000) (hn:zgM m):
  Calls Tryz.prog 74 #[.map (some b),zn V m] w fun e D=>e= .returned (.bool (m.ep.any (seI L)||(m.st.any (ssI L)||m.ex.any (sxI L))))∧Below w.heap.size w D:=by
 obtain⟨a2,am⟩: ∃a,V.ep.a=a:=⟨_,rfl⟩
 obtain⟨a3,ao⟩: ∃a,V.st.a=a:=⟨_,rfl⟩
 obtain⟨a4,al⟩: ∃a,V.ex.a=a:=⟨_,rfl⟩
 unfold zn
 rw[am] at hE ⊢
 rw[ao] at hS ⊢
 rw[al] at hX ⊢
 have O:Hid (Below w.heap.size w (w.alloc (.cells #[.slice V.rq.a m.rq.length V.rq.cap,.slice V.im.a m.im.length V.im.cap,.slice a2 m.ep.length V.ep.cap,.slice a3 m.st.length V.st.cap,.slice a4 m.ex.length V.ex.cap] 48))):=(Below.refl _ _).alloc (Nat.le_refl _) _
 have ah:=zc (heap_alloc_new w (.cells #[.slice V.rq.a m.rq.length V.rq.cap,.slice V.im.a m.im.length V.im.cap,.slice a2 m.ep.length V.ep.cap,.slice a3 m.st.length V.st.cap,.slice a4 m.ex.length V.ex.cap] 48))
 have RE:=zc (hE.later O.out)
 have RS:=zc (hS.later O.out)
 have RX:=zc (hX.later O.out)
 have CW:=zc (h.kept (O.out.block _ h.lt))
 have HN:=zc hn
 have HS:=zc (zg w (.cells #[.slice V.rq.a m.rq.length V.rq.cap,.slice V.im.a m.im.length V.im.cap,.slice a2 m.ep.length V.ep.cap,.slice a3 m.st.length V.st.cap,.slice a4 m.ex.length V.ex.cap] 48))
 clear h hE hS hX hn am ao al
 go_enter Tryz.func74,Tryz.ntmps74
 go_upto_region 1 with fail
 obtain⟨W0,an⟩: ∃W0,W0=w.alloc (.cells #[.slice V.rq.a m.rq.length V.rq.cap,.slice V.im.a m.im.length V.im.cap,.slice a2 m.ep.length V.ep.cap,.slice a3 m.st.length V.st.cap,.slice a4 m.ex.length V.ex.cap] 48):=⟨_,rfl⟩
 rw[←an] at ah O HS RE RS RX CW ⊢
 clear an
 obtain⟨c0,c1,c2,c3,c4,cf⟩:=zk ah.out
 go_wp2
 go_loopg [14] m.ep.length (fun k i wr=>∃j:Nat,i= .int .i64 j∧j+k=m.ep.length∧(m.ep.take j).any (seI L)=false∧Below W0.heap.size W0 wr)
 case atStart=>exact⟨0,rfl,by omega,rfl,Below.refl _ _⟩
 case round=>
  clear c0 c1 c2 c3 c4 cf
  obtain⟨j,rfl,hj,ad,Z⟩:=hrel
  have E:=zc ad
  have q:=zc Z
  clear ad Z
  by_cases af:j<m.ep.length
  ·have ab:(j:Int)<(m.ep.length:Int):=by omega
   obtain⟨x,hx⟩: ∃x,m.ep[j]? =some x:=⟨_,List.getElem?_eq_getElem af⟩
   obtain⟨bb,ap,rfl,X⟩:=(RE.out.later q.out).get hx
   have HX:=zc hx
   have NS:=zc ((HN.out.2.2.1 x (List.mem_of_getElem? HX.out)).2)
   have d0:=X 0 _ rfl
   have d1:=X 1 _ rfl
   have d2:=X 2 _ rfl
   have d3:=X 3 _ rfl
   simp only[Nat.add_zero] at d0
   clear X hx
   obtain⟨Y,aa⟩: ∃Y,Y=j+1:=⟨_,rfl⟩
   have ej:(j:Int)+1=(Y:Int):=by omega
   have z:Hid (∀D:World,seI L x=false→Below wr.heap.size wr D→∃j':Nat,Value.int .i64 (Y:Int)= .int .i64 (j':Int)∧j'+(gk-1)=m.ep.length∧(m.ep.take j').any (seI L)=false∧Below W0.heap.size W0 D):=fun D h1 h2=>⟨Y,rfl,by omega,by rw[aa];exact zfJ HX.out E.out h1,q.out.trans (h2.mono q.out.size)⟩
   clear aa
   go_upto_region 4 with fail
   refine zx (R:=fun W=>Below wr.heap.size wr W∧W.heap[wr.heap.size]? =some (.cells (epL x).toArray 82 (0,0))) ⟨(Below.refl _ _).alloc (Nat.le_refl _) _,heap_alloc_new wr _⟩ ?_
   have ac:=zc (CW.out.kept ((q.out.block _ CW.out.lt)))
   obtain⟨bs,N⟩: ∃bs,bs=wr.heap.size:=⟨_,rfl⟩
   rw[←N]
   have ag:=zc N
   clear d0 d1 d2 d3 N
   rintro W2 ⟨A,M⟩
   rw[ag.out] at A
   have H:=zc A
   have U:=zc (ac.out.kept (A.block _ ac.out.lt))
   obtain⟨e0,e1,e2,e3,ef⟩:=zb1 M
   have ai:=(Array.getElem?_eq_some_iff.1 M).1
   clear A M
   cases k1:(x.kind==1) with
   |true=>
    cases I:hB L 3 x.loc with
    |true=>
     have HV:Hid (m.ep.any (seI L)=true):=zex HX.out (by rw[seI,k1,I];rfl)
     clear z
     go_wp2_with (first|(go_at_call 120;refine (zct b L 3 x.loc _ U.out (zcu (by decide) (by decide) NS.out)).mono ?_;rintro e D ⟨rfl,K⟩;rw[K];clear K D;change hB L 3 x.loc=_ at I;rw[show decide (0<cnt L (3,x.loc))=hB L 3 x.loc from rfl,I]))
     go_ret
     exact⟨zh (by rw[HV.out];simp),O.out.trans ((q.out.trans (H.out.mono q.out.size)).mono (by rw[HS.out];omega))⟩
    |false=>
     have J:=zc (z.out W2 (by rw[seI,k1,I];rfl) H.out)
     clear z
     go_wp2_with (first|(go_at_call 120;refine (zct b L 3 x.loc _ U.out (zcu (by decide) (by decide) NS.out)).mono ?_;rintro e D ⟨rfl,K⟩;rw[K];clear K D;change hB L 3 x.loc=_ at I;rw[show decide (0<cnt L (3,x.loc))=hB L 3 x.loc from rfl,I]))
     go_roundg (gk-1)
     case rel=>exact J.out
     case measure=>omega
   |false=>
    have J:=zc (z.out W2 (by rw[seI,k1];rfl) H.out)
    clear z
    go_wp2
    go_roundg (gk-1)
    case rel=>exact J.out
    case measure=>omega
  ·have ab: ¬(j:Int)<(m.ep.length:Int):=by omega
   have ae:m.ep.take j=m.ep:=List.take_of_length_le (by omega)
   rw[ae] at E
   have aj:=zc E.out
   obtain⟨c0,c1,c2,c3,c4,cf⟩:=zk ((q.out.block w.heap.size (by rw[HS.out];omega)).trans ah.out)
   clear E ae
   go_wp2
   go_loopg [31] m.st.length (fun k i wr=>∃j:Nat,i= .int .i64 j∧j+k=m.st.length∧(m.st.take j).any (ssI L)=false∧Below W0.heap.size W0 wr)
   case atStart=>exact⟨0,rfl,by omega,rfl,q.out⟩
   case round=>
    clear c0 c1 c2 c3 c4 cf q
    obtain⟨j,rfl,hj,ad,Z⟩:=hrel
    have E:=zc ad
    have q:=zc Z
    clear ad Z
    by_cases af:j<m.st.length
    ·have ab:(j:Int)<(m.st.length:Int):=by omega
     obtain⟨x,hx⟩: ∃x,m.st[j]? =some x:=⟨_,List.getElem?_eq_getElem af⟩
     obtain⟨bb,ap,rfl,X⟩:=(RS.out.later q.out).get hx
     have HX:=zc hx
     have NS:=zc (HN.out.2.1 x (List.mem_of_getElem? HX.out))
     have d0:=X 0 _ rfl
     have d1:=X 1 _ rfl
     have d2:=X 2 _ rfl
     simp only[Nat.add_zero] at d0
     clear X hx
     obtain⟨Y,aa⟩: ∃Y,Y=j+1:=⟨_,rfl⟩
     have ej:(j:Int)+1=(Y:Int):=by omega
     have z:Hid (∀D:World,ssI L x=false→Below wr.heap.size wr D→∃j':Nat,Value.int .i64 (Y:Int)= .int .i64 (j':Int)∧j'+(gk-1)=m.st.length∧(m.st.take j').any (ssI L)=false∧Below W0.heap.size W0 D):=fun D h1 h2=>⟨Y,rfl,by omega,by rw[aa];exact zfJ HX.out E.out h1,q.out.trans (h2.mono q.out.size)⟩
     clear aa
     go_upto_region 10 with fail
     refine zx (R:=fun W=>Below wr.heap.size wr W∧W.heap[wr.heap.size]? =some (.cells (smL x).toArray 87 (0,0))) ⟨(Below.refl _ _).alloc (Nat.le_refl _) _,heap_alloc_new wr _⟩ ?_
     have ac:=zc (CW.out.kept ((q.out.block _ CW.out.lt)))
     obtain⟨bs,N⟩: ∃bs,bs=wr.heap.size:=⟨_,rfl⟩
     rw[←N]
     have ag:=zc N
     clear d0 d1 d2 N
     rintro W2 ⟨A,M⟩
     rw[ag.out] at A
     have H:=zc A
     have U:=zc (ac.out.kept (A.block _ ac.out.lt))
     obtain⟨e0,e1,e2,ef⟩:=zq M
     have ai:=(Array.getElem?_eq_some_iff.1 M).1
     clear A M
     cases k3:(x.kind==3) with
     |true=>
      cases I:hB L 3 x.name with
      |true=>
       have HV:Hid (m.st.any (ssI L)=true):=zex HX.out (by rw[ssI,k3,I];rfl)
       clear z
       go_wp2_with (first|(go_at_call 120;refine (zct b L 3 x.name _ U.out (zcu (by decide) (by decide) NS.out)).mono ?_;rintro e D ⟨rfl,K⟩;rw[K];clear K D;change hB L 3 x.name=_ at I;rw[show decide (0<cnt L (3,x.name))=hB L 3 x.name from rfl,I]))
       go_ret
       exact⟨zh (by rw[HV.out];simp),O.out.trans ((q.out.trans (H.out.mono q.out.size)).mono (by rw[HS.out];omega))⟩
      |false=>
       have J:=zc (z.out W2 (by rw[ssI,k3,I];rfl) H.out)
       clear z
       go_wp2_with (first|(go_at_call 120;refine (zct b L 3 x.name _ U.out (zcu (by decide) (by decide) NS.out)).mono ?_;rintro e D ⟨rfl,K⟩;rw[K];clear K D;change hB L 3 x.name=_ at I;rw[show decide (0<cnt L (3,x.name))=hB L 3 x.name from rfl,I]))
       go_roundg (gk-1)
       case rel=>exact J.out
       case measure=>omega
     |false=>
      have J:=zc (z.out W2 (by rw[ssI,k3];rfl) H.out)
      clear z
      go_wp2
      go_roundg (gk-1)
      case rel=>exact J.out
      case measure=>omega
    ·have ab: ¬(j:Int)<(m.st.length:Int):=by omega
     have ae:m.st.take j=m.st:=List.take_of_length_le (by omega)
     rw[ae] at E
     have ak:=zc E.out
     obtain⟨c0,c1,c2,c3,c4,cf⟩:=zk ((q.out.block w.heap.size (by rw[HS.out];omega)).trans ah.out)
     clear E ae
     go_wp2
     go_loopg [48] m.ex.length (fun k i wr=>∃j:Nat,i= .int .i64 j∧j+k=m.ex.length∧(m.ex.take j).any (sxI L)=false∧Below W0.heap.size W0 wr)
     case atStart=>exact⟨0,rfl,by omega,rfl,q.out⟩
     case round=>
      clear c0 c1 c2 c3 c4 cf q
      obtain⟨j,rfl,hj,ad,Z⟩:=hrel
      have E:=zc ad
      have q:=zc Z
      clear ad Z
      by_cases af:j<m.ex.length
      ·have ab:(j:Int)<(m.ex.length:Int):=by omega
       obtain⟨x,hx⟩: ∃x,m.ex[j]? =some x:=⟨_,List.getElem?_eq_getElem af⟩
       obtain⟨bb,ap,rfl,X⟩:=(RX.out.later q.out).get hx
       have HX:=zc hx
       have NS:=zc (HN.out.2.2.2 x (List.mem_of_getElem? HX.out))
       have d0:=X 0 _ rfl
       have d1:=X 1 _ rfl
       have d2:=X 2 _ rfl
       have d3:=X 3 _ rfl
       have d4:=X 4 _ rfl
       have d5:=X 5 _ rfl
       simp only[Nat.add_zero] at d0
       clear X hx
       obtain⟨Y,aa⟩: ∃Y,Y=j+1:=⟨_,rfl⟩
       have ej:(j:Int)+1=(Y:Int):=by omega
       have z:Hid (∀D:World,sxI L x=false→Below wr.heap.size wr D→∃j':Nat,Value.int .i64 (Y:Int)= .int .i64 (j':Int)∧j'+(gk-1)=m.ex.length∧(m.ex.take j').any (sxI L)=false∧Below W0.heap.size W0 D):=fun D h1 h2=>⟨Y,rfl,by omega,by rw[aa];exact zfJ HX.out E.out h1,q.out.trans (h2.mono q.out.size)⟩
       clear aa
       go_upto_region 16 with fail
       refine zx (R:=fun W=>Below wr.heap.size wr W∧W.heap[wr.heap.size]? =some (.cells (exL x).toArray 85 (0,0))) ⟨(Below.refl _ _).alloc (Nat.le_refl _) _,heap_alloc_new wr _⟩ ?_
       have ac:=zc (CW.out.kept ((q.out.block _ CW.out.lt)))
       obtain⟨bs,N⟩: ∃bs,bs=wr.heap.size:=⟨_,rfl⟩
       rw[←N]
       have ag:=zc N
       clear d0 d1 d2 d3 d4 d5 N
       rintro W2 ⟨A,M⟩
       rw[ag.out] at A
       have H:=zc A
       have U:=zc (ac.out.kept (A.block _ ac.out.lt))
       obtain⟨e0,e1,e2,e3,e4,e5,ef⟩:=zw M
       have ai:=(Array.getElem?_eq_some_iff.1 M).1
       clear A M
       cases k2:(x.kind==2) with
       |true=>
        cases I:hB L 3 x.name with
        |true=>
         have HV:Hid (m.ex.any (sxI L)=true):=zex HX.out (by rw[sxI,k2,I];rfl)
         clear z
         go_wp2_with (first|(go_at_call 120;refine (zct b L 3 x.name _ U.out (zcu (by decide) (by decide) NS.out)).mono ?_;rintro e D ⟨rfl,K⟩;rw[K];clear K D;change hB L 3 x.name=_ at I;rw[show decide (0<cnt L (3,x.name))=hB L 3 x.name from rfl,I]))
         go_ret
         exact⟨zh (by rw[aj.out,ak.out,HV.out];simp),O.out.trans ((q.out.trans (H.out.mono q.out.size)).mono (by rw[HS.out];omega))⟩
        |false=>
         have J:=zc (z.out W2 (by rw[sxI,k2,I];rfl) H.out)
         clear z
         go_wp2_with (first|(go_at_call 120;refine (zct b L 3 x.name _ U.out (zcu (by decide) (by decide) NS.out)).mono ?_;rintro e D ⟨rfl,K⟩;rw[K];clear K D;change hB L 3 x.name=_ at I;rw[show decide (0<cnt L (3,x.name))=hB L 3 x.name from rfl,I]))
         go_roundg (gk-1)
         case rel=>exact J.out
         case measure=>omega
       |false=>
        cases k3:(x.kind==3) with
        |true=>
         cases I:hB L 3 x.name with
         |true=>
          have HV:Hid (m.ex.any (sxI L)=true):=zex HX.out (by rw[sxI,k2,k3,I];rfl)
          clear z
          go_wp2_with (first|(go_at_call 120;refine (zct b L 3 x.name _ U.out (zcu (by decide) (by decide) NS.out)).mono ?_;rintro e D ⟨rfl,K⟩;rw[K];clear K D;change hB L 3 x.name=_ at I;rw[show decide (0<cnt L (3,x.name))=hB L 3 x.name from rfl,I]))
          go_ret
          exact⟨zh (by rw[aj.out,ak.out,HV.out];simp),O.out.trans ((q.out.trans (H.out.mono q.out.size)).mono (by rw[HS.out];omega))⟩
         |false=>
          have J:=zc (z.out W2 (by rw[sxI,k2,k3,I];rfl) H.out)
          clear z
          go_wp2_with (first|(go_at_call 120;refine (zct b L 3 x.name _ U.out (zcu (by decide) (by decide) NS.out)).mono ?_;rintro e D ⟨rfl,K⟩;rw[K];clear K D;change hB L 3 x.name=_ at I;rw[show decide (0<cnt L (3,x.name))=hB L 3 x.name from rfl,I]))
          go_roundg (gk-1)
          case rel=>exact J.out
          case measure=>omega
        |false=>
         have J:=zc (z.out W2 (by rw[sxI,k2,k3];rfl) H.out)
         clear z
         go_wp2
         go_roundg (gk-1)
         case rel=>exact J.out
         case measure=>omega
      ·have ab: ¬(j:Int)<(m.ex.length:Int):=by omega
       have ae:m.ex.take j=m.ex:=List.take_of_length_le (by omega)
       rw[ae] at E
       go_wp2
       go_ret
       exact⟨zh (by rw[aj.out,ak.out,E.out];rfl),O.out.trans (q.out.mono (by rw[HS.out];omega))⟩
def zaW (l:List ByteArray) (n:ByteArray):Nat:=@List.count ByteArray instBEqOfDecidableEq n l
theorem zeY {l:List ByteArray} {n:ByteArray}:0<zaW l n↔n∈l:=zlZ l n
theorem zfK (l1 h:List ByteArray) (n:ByteArray):zaW (l1++h) n=zaW l1 n+zaW h n:=zma l1 h n
theorem zir (l:List ByteArray) (x n:ByteArray):zaW (l++[x]) n=zaW l n+if x=n then 1 else 0:=ziq l x n
theorem zdt (l1 h:List (Int×ByteArray)) (p:Int×ByteArray):cnt (l1++h) p=cnt l1 p+cnt h p:=zma l1 h p
theorem zuI (l:List (Int×ByteArray)) (x p:Int×ByteArray):cnt (l++[x]) p=cnt l p+if x=p then 1 else 0:=ziq l x p
theorem zmf (p:Int×ByteArray):cnt [] p=0:=rfl
theorem zmg (n:ByteArray):zaW [] n=0:=rfl
theorem zey (l:List (Int×ByteArray)) (x p:Int×ByteArray):cnt (x::l) p=cnt l p+if x=p then 1 else 0:=by
 have:=zdt [x] l p
 have h:=zuI [] x p
 rw[List.nil_append,zmf,Nat.zero_add] at h
 rw[List.singleton_append,h] at this
 omega
theorem zgN (l:List ByteArray) (x n:ByteArray):zaW (x::l) n=zaW l n+if x=n then 1 else 0:=by
 have:=zfK [x] l n
 have h:=zir [] x n
 rw[List.nil_append,zmg,Nat.zero_add] at h
 rw[List.singleton_append,h] at this
 omega
theorem zuJ {l:List ByteArray} {n:ByteArray}: ∀k,k≤l.length→2≤zaW (l.take k) n→∃i,i<k∧inL (l.take i) (l.getD i sNone)=true:=by
 intro k
 induction k with
 |zero=>intro _ h;rw[List.take_zero,zmg] at h;omega
 |succ k D=>
  intro A h
  have w:l[k]? =some l[k]:=List.getElem?_eq_getElem A
  rw[zcX w,zir] at h
  by_cases z:2≤zaW (l.take k) n
  ·obtain⟨i,E,q⟩:=D (by omega) z
   exact⟨i,by omega,q⟩
  ·split at h
   ·rename_i e
    refine⟨k,by omega,zgt.2 ?_⟩
    rw[show l.getD k sNone=l[k] by simp[List.getD,w],e]
    exact zeY.1 (by omega)
   ·omega
theorem zis {l:List ByteArray}:twB l=true↔∃n,2≤zaW l n:=by
 constructor
 ·intro h
  rw[twB,List.any_eq_true] at h
  obtain⟨k,z,q⟩:=h
  rw[List.mem_range] at z
  have w:l[k]? =some l[k]:=List.getElem?_eq_getElem z
  rw[show l.getD k sNone=l[k] by simp[List.getD,w]] at q
  have E:=zeY.2 (zgt.1 q)
  refine⟨l[k],?_⟩
  have e:l=l.take (k+1)++l.drop (k+1):=(List.take_append_drop _ _).symm
  have:zaW l l[k]=zaW (l.take (k+1)) l[k]+zaW (l.drop (k+1)) l[k]:=by
   rw[←zfK,←e]
  rw[zcX w,zir,if_pos rfl] at this
  omega
 ·rintro⟨n,A⟩
  obtain⟨i,D,q⟩:=zuJ (n:=n) l.length (Nat.le_refl _) (by rw[List.take_length];exact A)
  exact zjK D q
def zdL (l:List Im):List ByteArray:=(l.filter fun x=>x.first.toList==[42]).map (·.loc)
theorem zit (l:List Im) (n:ByteArray):cnt (kI l) (1,n)=zaW (imN l) n∧cnt (kI l) (2,n)=0∧cnt (kI l) (3,n)=zaW (zdL l) n:=by
 induction l with
 |nil=>exact⟨rfl,rfl,rfl⟩
 |cons x l h=>
  have e:kI (x::l)=((1,x.loc)::if x.first.toList==[42] then [(3,x.loc)] else [])++kI l:=rfl
  have w:imN (x::l)=x.loc::imN l:=rfl
  rw[e,w,zdt,zdt,zdt,h.1,h.2.1,h.2.2,zgN]
  have q:zdL (x::l)=if x.first.toList==[42] then x.loc::zdL l else zdL l:=by
   rw[zdL,List.filter_cons]
   split<;>rfl
  rw[q]
  generalize (x.first.toList==[42])=b
  cases b<;>simp[zey,zmf,zgN]<;>omega
theorem ziu (l:List Sm) (n:ByteArray):cnt (kS l) (1,n)=zaW ((l.filter zch).map (·.name)) n∧cnt (kS l) (2,n)=0∧cnt (kS l) (3,n)=0:=by
 rw[kS]
 induction l.filter zch with
 |nil=>exact⟨rfl,rfl,rfl⟩
 |cons x l h=>
  rw[List.map_cons,List.map_cons,zey,zey,zey,h.1,h.2.1,h.2.2,zgN]
  simp
theorem ziv (l:List Ep) (n:ByteArray):cnt (kE l) (1,n)=0∧cnt (kE l) (2,n)=zaW (epN l) n∧cnt (kE l) (3,n)=0:=by
 rw[kE,epN]
 induction l.filter (fun x=> !(x.kind==3)) with
 |nil=>exact⟨rfl,rfl,rfl⟩
 |cons x l h=>
  rw[List.map_cons,List.map_cons,zey,zey,zey,h.1,h.2.1,h.2.2,zgN]
  simp
theorem zuK {q:List Sm} (h:zcE q):q.filter zch=q.filter zbK:=by
 refine List.filter_congr fun s z=>?_
 have D:=h s z
 rw[zch,zbK]
 cases w:(s.name.toList==dN) with
 |true=>
  have A:=D (by simpa using w)
  rw[A]
  rfl
 |false=>simp[Bool.or_comm]
theorem ziw {m:Md} (h:zcE m.st) (n:ByteArray):cnt (zbi m) (1,n)=zaW (zbT m) n:=by
 rw[zbi,zdt,zdt,(zit _ _).1,(ziu _ _).1,(ziv _ _).1,zuK h,zbT,zfK,stN]
 omega
theorem zmh (m:Md) (n:ByteArray):cnt (zbi m) (2,n)=zaW (epN m.ep) n:=by
 rw[zbi,zdt,zdt,(zit _ _).2.1,(ziu _ _).2.1,(ziv _ _).2.1]
 omega
theorem zuL (m:Md) (n:ByteArray):cnt (zbi m) (3,n)=zaW (zdL m.im) n:=by
 rw[zbi,zdt,zdt,(zit _ _).2.2,(ziu _ _).2.2,(ziv _ _).2.2]
 omega
theorem tw1 {m:Md} (h:zcE m.st):twK (zbi m) 1↔twB (zbT m)=true:=by
 rw[zis]
 exact⟨fun⟨n,q⟩=>⟨n,by rw[←ziw h];exact q⟩,fun⟨n,q⟩=>⟨n,by rw[ziw h];exact q⟩⟩
theorem tw2 (m:Md):twK (zbi m) 2↔twB (epN m.ep)=true:=by
 rw[zis]
 exact⟨fun⟨n,h⟩=>⟨n,by rw[←zmh];exact h⟩,fun⟨n,h⟩=>⟨n,by rw[zmh];exact h⟩⟩
theorem zuM {m:Md} (h:zcE m.st) (n:ByteArray):hB (zbi m) 1 n=inL (zbT m) n:=by
 rw[hB,ziw h,Bool.eq_iff_iff,decide_eq_true_eq,zeY,zgt]
theorem zgO {m:Md} (J:twB (zbT m)=false) (n:ByteArray):hB (zbi m) 3 n=spB m.im n:=by
 have z: ∀(i j:Nat) (x y:Im),m.im[i]? =some x→m.im[j]? =some y→i<j→x.loc=n→y.loc≠n:=by
  intro i j x y E H K q L
  have:twB (zbT m)=true:=by
   rw[zis]
   refine⟨n,?_⟩
   rw[zbT,zfK]
   have e:imN m.im=imN (m.im.take j)++imN (m.im.drop j):=by rw[imN,imN,imN,←List.map_append,List.take_append_drop]
   rw[e,zfK]
   have U:0<zaW (imN (m.im.take j)) n:=zeY.2 (List.mem_map.2 ⟨x,List.mem_of_getElem? (i:=i) (by rw[List.getElem?_take,if_pos K];exact E),q⟩)
   have V:0<zaW (imN (m.im.drop j)) n:=zeY.2 (List.mem_map.2 ⟨y,List.mem_of_getElem? (i:=0) (by rw[List.getElem?_drop];exact H),L⟩)
   omega
  rw[J] at this
  cases this
 rw[hB,zuL,Bool.eq_iff_iff,decide_eq_true_eq,zeY]
 have D:n∈zdL m.im↔∃x∈m.im,(x.first.toList==[42])=true∧x.loc=n:=by
  rw[zdL,List.mem_map]
  constructor
  ·rintro⟨x,q,e⟩
   rw[List.mem_filter] at q
   exact⟨x,q.1,q.2,e⟩
  ·rintro⟨x,q,N,I⟩
   exact⟨x,List.mem_filter.2 ⟨q,N⟩,I⟩
 rw[D,spB]
 cases M:m.im.find? (fun x=>x.loc.toList==n.toList) with
 |none=>
  rw[List.find?_eq_none] at M
  constructor
  ·rintro⟨x,q,_,e⟩
   exact absurd ((zdN _ _).2 e) (M x q)
  ·intro h
   cases h
 |some y=>
  obtain⟨L,i,E,w,O⟩:=List.find?_eq_some_iff_getElem.1 M
  have A:=(zdN _ _).1 L
  constructor
  ·rintro⟨x,q,N,I⟩
   obtain⟨j,H,rfl⟩:=List.mem_iff_getElem.1 q
   rcases Nat.lt_trichotomy i j with h|h|h
   ·exact absurd I (z i j y _ (by rw[List.getElem?_eq_getElem E,w]) (List.getElem?_eq_getElem H) h A)
   ·subst h
    rw[←w]
    exact N
   ·exact absurd A (z j i _ y (List.getElem?_eq_getElem H) (by rw[List.getElem?_eq_getElem E,w]) h I)
  ·intro h
   exact⟨y,by rw[←w];exact List.getElem_mem E,h,A⟩
theorem zuN {m:Md} (h:zcE m.st):m.ep.any (unI (zbi m))=unB (zbT m) m.ep:=by
 rw[unB]
 congr 1
 funext x
 rw[unI,zuM h,Bool.and_assoc]
theorem zuO {m:Md} (h:twB (zbT m)=false):(m.ep.any (seI (zbi m))||(m.st.any (ssI (zbi m))||m.ex.any (sxI (zbi m))))=(seB m.im m.ep||sxB m.im m.ex||ssB m.im m.st):=by
 have z:seI (zbi m)=fun x=>x.kind==1&&spB m.im x.loc:=by funext x;rw[seI,zgO h]
 have w:ssI (zbi m)=fun x=>x.kind==3&&spB m.im x.name:=by funext x;rw[ssI,zgO h]
 have q:sxI (zbi m)=fun x=>(x.kind==2||x.kind==3)&&spB m.im x.name:=by funext x;rw[sxI,zgO h]
 rw[z,w,q,seB,sxB,ssB,Bool.or_assoc]
 congr 1
 exact Bool.or_comm _ _
theorem zuP {m:Md} (h:twB (zbT m)=false):m.ex.any (mxI (zbi m))=mxB m.im m.ex:=by
 have e:mxI (zbi m)=fun x=>(x.kind==4||x.kind==5)&& !spB m.im x.name:=by funext x;rw[mxI,zgO h]
 rw[e,mxB]
theorem zuQ (V:Sv) (m:Md) (af:Bool) (w:World) (hI:RowAt w V.im.a imL 3 m.im) (hE:RowAt w V.ep.a epL 4 m.ep) (hS:RowAt w V.st.a smL 3 m.st) (hX:RowAt w V.ex.a exL 6 m.ex) (lI:m.im.length≤10000) (lE:m.ep.length≤10000) (lS:m.st.length≤10000) (lX:m.ex.length≤10000) (hN:zgM m) (hF:zcE m.st):
  Calls Tryz.prog 43 #[zn V m,.bool af] w fun e w'=>e= .returned (.int .i64 (zaq m))∧Below w.heap.size w w':=by
 have h:Hid (Below w.heap.size w (w.alloc (.cells #[.slice V.rq.a m.rq.length V.rq.cap,.slice V.im.a m.im.length V.im.cap,.slice V.ep.a m.ep.length V.ep.cap,.slice V.st.a m.st.length V.st.cap,.slice V.ex.a m.ex.length V.ex.cap] 48))):=(Below.refl _ _).alloc (Nat.le_refl _) _
 have E:=zc (heap_alloc_new w (.cells #[.slice V.rq.a m.rq.length V.rq.cap,.slice V.im.a m.im.length V.im.cap,.slice V.ep.a m.ep.length V.ep.cap,.slice V.st.a m.st.length V.st.cap,.slice V.ex.a m.ex.length V.ex.cap] 48))
 have A:=zc (zg w (.cells #[.slice V.rq.a m.rq.length V.rq.cap,.slice V.im.a m.im.length V.im.cap,.slice V.ep.a m.ep.length V.ep.cap,.slice V.st.a m.st.length V.st.cap,.slice V.ex.a m.ex.length V.ex.cap] 48))
 have RI:=zc (hI.later h.out)
 have RE:=zc (hE.later h.out)
 have RS:=zc (hS.later h.out)
 have RX:=zc (hX.later h.out)
 have HN:=zc hN
 have HF:=zc hF
 clear hI hE hS hX hN hF
 unfold zn
 go_enter Tryz.func43,Tryz.ntmps43
 go_wp2_with fail
 refine (zuB V m _ RI.out RE.out RS.out lI lE lS HN.out).mono ?_
 obtain⟨W0,ac⟩: ∃W0,W0=w.alloc (.cells #[.slice V.rq.a m.rq.length V.rq.cap,.slice V.im.a m.im.length V.im.cap,.slice V.ep.a m.ep.length V.ep.cap,.slice V.st.a m.st.length V.st.cap,.slice V.ex.a m.ex.length V.ex.cap] 48):=⟨_,rfl⟩
 rw[←ac] at E h A RI RE RS RX ⊢
 clear ac
 rintro e W1 ⟨b,rfl,ae,ad,_⟩
 have q:=zc ae
 have B1:=zc ad
 clear ae ad
 obtain⟨L,hL⟩: ∃L,L=zbi m:=⟨_,rfl⟩
 have HL:=zc hL
 rw[←hL] at q
 clear hL
 go_wp2_with fail
 refine (zme b L 1 _ q.out).mono ?_
 rintro e W2 ⟨⟨t1,rfl,M⟩,Z⟩
 have K:Hid (t1=twB (zbT m)):=by
  show _=_
  rw[HL.out,tw1 HF.out] at M
  exact Bool.eq_iff_iff.2 M
 have B2:=zc (B1.out.trans (Z.mono B1.out.size))
 have D:=zc (q.out.kept (Z.block _ q.out.lt))
 clear M Z B1 q
 cases t1 with
 |true=>
  have z:Hid (zaq m=1):=by show _=_;rw[zaq,←K.out];rfl
  go_wp2
  go_ret
  exact⟨zb7 z.out.symm,h.out.trans (B2.out.mono (by rw[A.out];omega))⟩
 |false=>
  go_wp2_with fail
  refine (zme b L 2 _ D.out).mono ?_
  rintro e W3 ⟨⟨t2,rfl,O⟩,N⟩
  have T2:Hid (t2=twB (epN m.ep)):=by
   show _=_
   rw[HL.out,tw2] at O
   exact Bool.eq_iff_iff.2 O
  have B3:=zc (B2.out.trans (N.mono B2.out.size))
  have H:=zc (D.out.kept (N.block _ D.out.lt))
  clear O N B2 D
  cases t2 with
  |true=>
   have z:Hid (zaq m=2):=by show _=_;rw[zaq,←K.out,←T2.out];rfl
   go_wp2
   go_ret
   exact⟨zb7 z.out.symm,h.out.trans (B3.out.mono (by rw[A.out];omega))⟩
  |false=>
   obtain⟨c0,c1,c2,c3,c4,cf⟩:=zk ((B3.out.block w.heap.size (by rw[A.out];omega)).trans E.out)
   go_wp2_with fail
   refine (zuF b L V.ep.a V.ep.cap m.ep _ H.out (RE.out.later B3.out) lE (fun x hx=>(HN.out.2.2.1 x hx).2)).mono ?_
   rintro e W4 ⟨rfl,Y⟩
   have U:Hid (m.ep.any (unI L)=unB (zbT m) m.ep):=by show _=_;rw[HL.out];exact zuN HF.out
   rw[U.out]
   have J:=zc (B3.out.trans (Y.mono B3.out.size))
   have I:=zc (H.out.kept (Y.block _ H.out.lt))
   clear Y B3 H U c0 c1 c2 c3 c4 cf
   cases hu:unB (zbT m) m.ep with
   |true=>
    have z:Hid (zaq m=3):=by show _=_;rw[zaq,←K.out,←T2.out,hu];rfl
    go_wp2
    go_ret
    exact⟨zb7 z.out.symm,h.out.trans (J.out.mono (by rw[A.out];omega))⟩
   |false=>
    obtain⟨c0,c1,c2,c3,c4,cf⟩:=zk ((J.out.block w.heap.size (by rw[A.out];omega)).trans E.out)
    go_wp2_with fail
    refine (zuH b L V m _ I.out (RE.out.later J.out) (RS.out.later J.out) (RX.out.later J.out) lE lS lX HN.out).mono ?_
    rintro e W5 ⟨rfl,X⟩
    have U:Hid ((m.ep.any (seI L)||(m.st.any (ssI L)||m.ex.any (sxI L)))=(seB m.im m.ep||sxB m.im m.ex||ssB m.im m.st)):=by show _=_;rw[HL.out];exact zuO K.out.symm
    rw[U.out]
    have B5:=zc (J.out.trans (X.mono J.out.size))
    have ab:=zc (I.out.kept (X.block _ I.out.lt))
    clear X J I U c0 c1 c2 c3 c4 cf
    cases hs:(seB m.im m.ep||sxB m.im m.ex||ssB m.im m.st) with
    |true=>
     have z:Hid (zaq m=4):=by show _=_;rw[zaq,←K.out,←T2.out,hu,hs];rfl
     go_wp2
     go_ret
     exact⟨zb7 z.out.symm,h.out.trans (B5.out.mono (by rw[A.out];omega))⟩
    |false=>
     obtain⟨c0,c1,c2,c3,c4,cf⟩:=zk ((B5.out.block w.heap.size (by rw[A.out];omega)).trans E.out)
     go_wp2_with fail
     refine (zuG b L V.ex.a V.ex.cap m.ex _ ab.out (RX.out.later B5.out) lX HN.out.2.2.2).mono ?_
     rintro e W6 ⟨rfl,aa⟩
     have U:Hid (m.ex.any (mxI L)=mxB m.im m.ex):=by show _=_;rw[HL.out];exact zuP K.out.symm
     rw[U.out]
     have B6:=zc (B5.out.trans (aa.mono B5.out.size))
     clear aa B5 ab U c0 c1 c2 c3 c4 cf
     cases hm:mxB m.im m.ex with
     |true=>
      have z:Hid (zaq m=5):=by show _=_;rw[zaq,←K.out,←T2.out,hu,hs,hm];rfl
      go_wp2
      go_ret
      exact⟨zb7 z.out.symm,h.out.trans (B6.out.mono (by rw[A.out];omega))⟩
     |false=>
      have z:Hid (zaq m=0):=by show _=_;rw[zaq,←K.out,←T2.out,hu,hs,hm];rfl
      go_wp2
      go_ret
      exact⟨zb7 z.out.symm,h.out.trans (B6.out.mono (by rw[A.out];omega))⟩
end Go.Proofs.YtcidlffeeninbaaGreat
