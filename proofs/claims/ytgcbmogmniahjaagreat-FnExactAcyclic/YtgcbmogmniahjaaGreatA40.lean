/- Facts and walks that the theorem stands on. -/
import Derived.Test.YtgcbmogmniahjaaGreatA33
import Derived.Test.YtgcbmogmniahjaaGreatA34
import Derived.Test.YtgcbmogmniahjaaGreatA39
namespace Go.Proofs.YtgcbmogmniahjaaGreat
open Go.Proofs.Tryz
set_option maxRecDepth 100000
set_option maxHeartbeats 3200000
open Go.RowKit Go.PlainAid Go.Sort
theorem zi6 (s:BA) (a b:Nat):(s.extract a b).size<=s.size:=by
 rw[ByteArray.size_extract];omega
theorem zuX {s:BA} {q:Bool} {a e:Nat} {t:Tk} (h:Tok s q a t e):t.text.size<=s.size:=by
 cases h using Tok.elim with
 |name h w=>exact zi6 _ _ _
 |num h w=>exact Nat.zero_le _
 |str h w=>exact zi6 _ _ _
 |sign h=>exact zi6 _ _ _
theorem zuY {s:BA} {A:Bool} {a n:Nat} {r:Except Nat (List Tk)} (h:Lx s A a n r): ∀w,r= .ok w->∀t∈w,t.text.size<=s.size:=by
 induction h using Lx.ind with
 |done=>intro w z;cases z;intro t H;cases H
 |bad _ _=>intro w z;cases z
 | @tok a n e b t r h L H K z J=>
  intro w q;cases r with
  |error p=>simp[Except.map] at q
  |ok l=>
   simp only[Except.map,Except.ok.injEq] at q;subst q;intro x I;rcases List.mem_cons.1 I with rfl|I
   ·exact zuX H
   ·exact J l rfl x I
theorem zuZ {s:BA} {w:Bool} {q:List Tk} (h:zak s w (.ok q)) (H:s.size<=4294967296):zbr ⟨q,s.size,w⟩:=by
 obtain⟨a,_,A⟩:=h;intro i;by_cases z:i<q.length
 ·have:ze ⟨q,s.size,w⟩ i∈q:=by
   rw[ze,List.getD,List.getElem?_eq_getElem z];exact List.getElem_mem z
  have:=zuY A q rfl _ this;omega
 ·rw[zea (by show q.length<=i;omega)];exact Nat.zero_le _
theorem zi7 {P:Program} {I:Func} {p u:Tmp} {q A:TypeId} (h:I.results= #[.cell p q,.cell u A]) (tmps:Array Value) (w:World) (g z:Nat) (t M:TypeId) (H:Array Value) (v:Value) (d:TypeDesc) (k:IntKind)
  (L:tmps.getD p undef= .pointer (some ⟨g,0,none⟩)) (Z:w.heap[g]? =some (.cells H t (0,0)))
  (Y:P.underlying q=some d) (K:(match d with| .struct _| .array _ _=>true|_=>false)=true) (X:(P.info? q).map (·.size)=some H.size)
  (N:tmps.getD u undef= .pointer (some ⟨z,0,none⟩)) (J:w.heap[z]? =some (.cells #[v] M (0,0))) (hz:P.underlying A=some (.int k)) (O: ∃n,v= .int k n):
  (results I tmps).run P w= .ok (.tuple #[.agg H,v]) w:=by
 obtain⟨n,rfl⟩:=O;have V:=run_loadVar_row w g t q H (0,0) d Z Y K X;have U:(loadVar A ⟨z,0,none⟩).run P w= .ok (.int k n) w:=by
  have hc:w.cell? ⟨z,0,none⟩=some (.int k n):=by simp[World.cell?,J]
  simp[go_sem,isAgg,run_underlying hz,hc]
 have e:(results I tmps).run P w=((asAddr (tmps.getD p undef)).run P w).andThen fun a w₁=>((loadVar q a).run P w₁).andThen fun v w₂=>((asAddr (tmps.getD u undef)).run P w₂).andThen fun b w₃=>((loadVar A b).run P w₃).andThen fun x w₄=>.ok (.tuple #[v,x]) w₄:=by
  simp only[results,h];simp[Sem.run_bind,Result.andThen]
 rw[e,L,N];simp[asAddr,Result.andThen,V,U]
theorem zgZ {w:World} {b k:Nat} {q A I H z:Value} (h:k≠b):(((((w.setCell ⟨b,0,none⟩ q).setCell ⟨b,1,none⟩ A).setCell ⟨b,2,none⟩ I).setCell ⟨b,3,none⟩ H).setCell ⟨b,4,none⟩ z).heap[k]? =w.heap[k]?:=by
 rw[zv h,zv h,zv h,zv h,zv h]
theorem zi8 {w:World} {b:Nat} {u v:Value} {t:TypeId} (h:w.heap[b]? =some (.cells #[v] t (0,0))):(w.setCell ⟨b,0,none⟩ u).heap[b]? =some (.cells #[u] t (0,0)):=(zac h).trans (by simp)
theorem OwnMod.keepI {w w':World} {base:Nat} {S:Sv} {q:PS} (h:OwnMod w base S q) (z: ∀k,base<=k->w'.heap[k]? =w.heap[k]?):OwnMod w' base S q:=
 ⟨h.rq.keep fun k g=>z k (h.rq.typed g).1,h.im.keep fun k g=>z k (h.im.typed g).1,h.ep.keep fun k g=>z k (h.ep.typed g).1,h.st.keep fun k g=>z k (h.st.typed g).1,h.ex.keep fun k g=>z k (h.ex.typed g).1,h.inv⟩
theorem OwnMod.lowI {w:World} {base z:Nat} {S:Sv} {q:PS} (h:OwnMod w base S q) (A:z<=base):OwnMod w z S q:=⟨h.rq.low A,h.im.low A,h.ep.low A,h.st.low A,h.ex.low A,h.inv⟩
theorem zva (C:Cx) (H z base A:Nat) (S:Sv) (q:PS) (w:World) (h:IM C H z base A S q w) (J:zbr C):
  Calls prog 169 #[.pointer (some ⟨A,0,none⟩)] w (zi2 base A (za0 C q) w):=by
 cases I:C.scr with
 |true=>exact zuq C H z base A S q w h I
 |false=>exact zur C H z base A S q w h J I
theorem zvb (s:BA) (z:Bool) (w:World) (hs:s.size<=4294967296):
  Calls prog 135 #[.string s,.bool z] w fun e w'=>ParseOut s z w e w'/\Below w.heap.size w w':=by
 have af: ∀(fn:Fn) (first H:Array Value) (w:World),(Instr.makeFunc fn first H).run prog w= .ok (.func fn first H) w:=fun _ _ _ _=>rfl;go_enter_defers func135,ntmps135;go_wp2_with fail;refine (zuW s z _ hs).mono ?_;rintro e M ⟨⟨r1,L,O⟩,Y⟩;have h:((w.alloc (.cells #[.slice none 0 0,.slice none 0 0,.slice none 0 0,.slice none 0 0,.slice none 0 0] 54)).alloc (.cells #[.int .i64 0] 3)).heap.size=w.heap.size+1+1:=zcS w _ _;have Z:Below w.heap.size w M:=(zbe w _ _).trans (Y.mono (by rw[h];omega));have X:Hid (M.heap[w.heap.size]? =some (.cells #[.slice none 0 0,.slice none 0 0,.slice none 0 0,.slice none 0 0,.slice none 0 0] 54 (0,0))):=(Y.block _ (by rw[h];omega)).trans (zcE (heap_alloc_new w _));have U:Hid (M.heap[w.heap.size+1]? =some (.cells #[.int .i64 0] 3 (0,0))):=(Y.block _ (by rw[h];omega)).trans (new2 w _ _);have N:w.heap.size+1+1<=M.heap.size:=by have:=Y.size;rw[h] at this;exact this
 rw[h] at Y;obtain⟨c0,c1,c2,c3,c4,cf⟩:=zj X.o;have d0:M.cell? ⟨w.heap.size+1,0,none⟩=some (.int .i64 0):=by simp[World.cell?,U.o]
 have df:M.frozen? ⟨w.heap.size+1,0,none⟩=false:=by simp[World.frozen?,U.o]
 cases r1 with
 |error p=>
  subst O;have HY:Hid (zb6 s z (.error p)):=⟨_,L,rfl⟩;have dz:decide ((0:Int)<=(p:Int))=true:=decide_eq_true (by omega);clear L Y h;go_wp2;exact⟨_,zi7 rfl _ _ w.heap.size (w.heap.size+1) 54 3 _ _ _ .i64 rfl ((zv (by omega)).trans (zd6 X.o)) underlying54 rfl (by kernel_rfl) rfl (zi8 ((zgZ (by omega)).trans U.o)) underlying3 ⟨_,rfl⟩,⟨_,HY.o,rfl⟩,(zdI Z (Nat.le_refl _) ..).setCell (Nat.le_succ _) _⟩
 |ok ts=>
  obtain⟨g,n,H,rfl,J⟩:=O;obtain rfl:n=ts.length:=J.2;rw[h] at J;have ab:=zjy L;have HR:=zc L;have HC:Hid (zbr ⟨ts,s.size,z⟩):=zuZ L hs;have ae:Hid (Mem ⟨ts,s.size,z⟩ g H (w.heap.size+1+1) S0 zbX M):=zjz J ab N;clear J L Y h;go_wp2_with fail;have ad:IM ⟨ts,s.size,z⟩ g H (w.heap.size+1+1) M.heap.size S0 zbX (M.alloc (.cells #[.slice (some ⟨g,0,none⟩) ts.length H,.int .i64 0,.int .i64 s.size,.bool z,.slice none 0 0,.slice none 0 0,.slice none 0 0,.slice none 0 0,.slice none 0 0,.slice none 0 0] 211)):=⟨ae.o.alloc _,heap_alloc_new M _,N⟩;have K:Below (w.heap.size+1+1) M (M.alloc (.cells #[.slice (some ⟨g,0,none⟩) ts.length H,.int .i64 0,.int .i64 s.size,.bool z,.slice none 0 0,.slice none 0 0,.slice none 0 0,.slice none 0 0,.slice none 0 0,.slice none 0 0] 211)):=(Below.refl _ _).alloc N _;refine (zva _ g H _ _ S0 zbX _ ad HC.o).mono ?_;cases hp:za0 ⟨ts,s.size,z⟩ zbX with
  |error p=>
   rintro e w2 ⟨rfl,V⟩;have HY:Hid (zb6 s z (.error p)):=⟨_,HR.o,hp.symm⟩;have aa:=Z.trans ((K.trans V).mono (by omega));have I:Hid (w2.heap[w.heap.size]? =some (.cells #[.slice none 0 0,.slice none 0 0,.slice none 0 0,.slice none 0 0,.slice none 0 0] 54 (0,0))):=((K.trans V).block _ (by omega)).trans X.o;have A:Hid (w2.heap[w.heap.size+1]? =some (.cells #[.int .i64 0] 3 (0,0))):=((K.trans V).block _ (by omega)).trans U.o;clear V;unfold Pan;go_wp2;refine leaves_cons (f:=168) (args:=#[.pointer (some ⟨w.heap.size,0,none⟩),.pointer (some ⟨w.heap.size+1,0,none⟩)]) (by simp) (by simp[go_sem]) ?_;refine (zuv w.heap.size (w.heap.size+1) p _ _ _ _ _ _ _ I.o A.o (by omega)).mono ?_;rintro e u' w3 ⟨rfl,rfl,rfl⟩;exact⟨_,zi7 rfl _ _ w.heap.size (w.heap.size+1) 54 3 _ _ _ .i64 rfl ((zv (by omega)).trans (zd6 I.o)) underlying54 rfl (by kernel_rfl) rfl (zi8 ((zgZ (by omega)).trans A.o)) underlying3 ⟨_,rfl⟩,⟨_,HY.o,rfl⟩,(zdI aa (Nat.le_refl _) ..).setCell (Nat.le_succ _) _⟩
  |ok q=>
   rintro e w2 ⟨rfl,S2,om,⟨v0,v1,v2,v3,v9,ac⟩,V⟩;have HY:Hid (zb6 s z (.ok q)):=⟨_,HR.o,hp.symm⟩;have aa:=Z.trans ((K.trans V).mono (by omega));have I:Hid (w2.heap[w.heap.size]? =some (.cells #[.slice none 0 0,.slice none 0 0,.slice none 0 0,.slice none 0 0,.slice none 0 0] 54 (0,0))):=((K.trans V).block _ (by omega)).trans X.o;have A:Hid (w2.heap[w.heap.size+1]? =some (.cells #[.int .i64 0] 3 (0,0))):=((K.trans V).block _ (by omega)).trans U.o;have HO:=zc om;clear V om c0 c1 c2 c3 c4 cf d0 df;obtain⟨b0,Y,b2,b3,b4,b5,b6,b7,b8,b9,bf⟩:=zah ac;clear ac;obtain⟨c0,c1,c2,c3,c4,cf⟩:=zj I.o;have d0:w2.cell? ⟨w.heap.size+1,0,none⟩=some (.int .i64 0):=by simp[World.cell?,A.o]
   have df:w2.frozen? ⟨w.heap.size+1,0,none⟩=false:=by simp[World.frozen?,A.o]
   go_wp2;refine leaves_cons (f:=168) (args:=#[.pointer (some ⟨w.heap.size,0,none⟩),.pointer (some ⟨w.heap.size+1,0,none⟩)]) (by simp) (by simp[go_sem]) ?_;refine (zuu w.heap.size (w.heap.size+1) _).mono ?_;rintro e u' w3 ⟨rfl,rfl,rfl⟩;refine⟨_,zi7 rfl _ _ w.heap.size (w.heap.size+1) 54 3 _ _ _ .i64 rfl ((zv (by omega)).trans (zd6 I.o)) underlying54 rfl (by kernel_rfl) rfl (zi8 ((zgZ (by omega)).trans A.o)) underlying3 ⟨_,rfl⟩,⟨_,HY.o,S2,by simp[zgj],?_⟩,(zdI aa (Nat.le_refl _) ..).setCell (Nat.le_succ _) _⟩;exact (HO.o.keepI fun k hk=>(zv (by omega)).trans (zgZ (by omega))).lowI (by omega)
end Go.Proofs.YtgcbmogmniahjaaGreat
namespace Go.Proofs.YtgcbmogmniahjaaGreat
open Go.Proofs.Tryz
set_option maxRecDepth 100000
set_option maxHeartbeats 6400000
open Go.RowKit Go.PlainAid Go.Sort
def zvc (m:Md) (scr:Bool) (w:World) (e:Ending) (w':World):Prop:=
 ∃(t:BA) (S:Sv) (n:Md) (r:Bool),PrOf (zbK m) m t/\e= .returned (.tuple #[zl S n,.bool r])/\OwnMd w' w.heap.size S n/\(r=true↔zdM t scr m)/\(r=true->n=m)/\Below w.heap.size w w'
structure RA (w:World) (base b3 gx gz gy:Nat) (S S3:Sv) (m n:Md) (z0 z1 z2 z3 z4:Value) (W:World):Prop where
 x:W.heap[gx]? =some (.cells #[.slice S.rq.a m.rq.length S.rq.cap,.slice S.im.a m.im.length S.im.cap,.slice S.ep.a m.ep.length S.ep.cap,.slice S.st.a m.st.length S.st.cap,.slice S.ex.a m.ex.length S.ex.cap] 54 (0,0))
 z:W.heap[gz]? =some (.cells #[z0,z1,z2,z3,z4] 54 (0,0))
 y:W.heap[gy]? =some (.cells #[.slice S3.rq.a n.rq.length S3.rq.cap,.slice S3.im.a n.im.length S3.im.cap,.slice S3.ep.a n.ep.length S3.ep.cap,.slice S3.st.a n.st.length S3.st.cap,.slice S3.ex.a n.ex.length S3.ex.cap] 54 (0,0))
 om:OwnMd W base S m
 on':OwnMd W b3 S3 n
 bel:Below w.heap.size w W
 hz:w.heap.size<=gz
 hx:gx≠gz
 hy:gy≠gz
variable {w W W':World} {base b3 gx gz gy:Nat} {S S3:Sv} {m n:Md} {z0 z1 z2 z3 z4:Value}
theorem RA.later (h:RA w base b3 gx gz gy S S3 m n z0 z1 z2 z3 z4 W) (q:Below W.heap.size W W'):RA w base b3 gx gz gy S S3 m n z0 z1 z2 z3 z4 W':=
 ⟨(q.block _ (aLt h.x)).trans h.x,(q.block _ (aLt h.z)).trans h.z,(q.block _ (aLt h.y)).trans h.y,h.om.later q,h.on'.later q,h.bel.trans (q.mono h.bel.size),h.hz,h.hx,h.hy⟩
theorem zmz {W:World} {b c:Nat} (q z H A w:Value) (h:b≠c):(((((W.setCell ⟨c,0,none⟩ q).setCell ⟨c,1,none⟩ z).setCell ⟨c,2,none⟩ H).setCell ⟨c,3,none⟩ A).setCell ⟨c,4,none⟩ w).heap[b]? =W.heap[b]?:=by
 rw[heap_setCell_other _ _ _ _ h,heap_setCell_other _ _ _ _ h,heap_setCell_other _ _ _ _ h,heap_setCell_other _ _ _ _ h,heap_setCell_other _ _ _ _ h]
theorem RA.store (h:RA w base b3 gx gz gy S S3 m n z0 z1 z2 z3 z4 W) (q H J I A:Value):RA w base b3 gx gz gy S S3 m n q H J I A (((((W.setCell ⟨gz,0,none⟩ q).setCell ⟨gz,1,none⟩ H).setCell ⟨gz,2,none⟩ J).setCell ⟨gz,3,none⟩ I).setCell ⟨gz,4,none⟩ A):=
 ⟨(zmz _ _ _ _ _ h.hx).trans h.x,zd6 h.z,(zmz _ _ _ _ _ h.hy).trans h.y,zgB (o:=0) h.om ⟨_,h.z⟩,zgB (o:=0) h.on' ⟨_,h.z⟩,zdI h.bel h.hz _ _ _ _ _,h.hz,h.hx,h.hy⟩
theorem zvd (base:Nat) (S:Sv) (m:Md) (X:Bool) (w:World) (h:OwnMd w base S m) (hm:Small m) (ac:Tree m->(zbK m).size<=4294967296):
  Calls prog 97 #[zl S m,.bool X] w (zvc m X w):=by
 have HH:=zc h;have SM:=zc hm;have HU:=zc ac;have SF:Hid (zdK m):=hm.few;clear h hm ac;unfold zl;go_enter func97,ntmps97;go_upto_region 1 with fail;have e1:(w.alloc (.cells #[.slice S.rq.a m.rq.length S.rq.cap,.slice S.im.a m.im.length S.im.cap,.slice S.ep.a m.ep.length S.ep.cap,.slice S.st.a m.st.length S.st.cap,.slice S.ex.a m.ex.length S.ex.cap] 54)).heap.size=w.heap.size+1:=zg _ _;have I:Hid (Below w.heap.size w ((w.alloc (.cells #[.slice S.rq.a m.rq.length S.rq.cap,.slice S.im.a m.im.length S.im.cap,.slice S.ep.a m.ep.length S.ep.cap,.slice S.st.a m.st.length S.st.cap,.slice S.ex.a m.ex.length S.ex.cap] 54)).alloc (.cells #[.slice none 0 0,.slice none 0 0,.slice none 0 0,.slice none 0 0,.slice none 0 0] 54))):=((Below.refl _ _).alloc (Nat.le_refl _) _).alloc (by rw[e1];omega) _;refine zx (R:=fun W=>W.heap[w.heap.size]? =some (.cells #[.slice S.rq.a m.rq.length S.rq.cap,.slice S.im.a m.im.length S.im.cap,.slice S.ep.a m.ep.length S.ep.cap,.slice S.st.a m.st.length S.st.cap,.slice S.ex.a m.ex.length S.ex.cap] 54 (0,0))/\W.heap[w.heap.size+1]? =some (.cells #[.slice none 0 0,.slice none 0 0,.slice none 0 0,.slice none 0 0,.slice none 0 0] 54 (0,0))/\OwnMd W base S m/\Below w.heap.size w W) ⟨(heap_alloc_old _ _ (by rw[e1];omega)).trans (heap_alloc_new w _),heap_alloc2_new w _ _,HH.o.later I.o,I.o⟩ ?_;obtain⟨gx,Z⟩: ∃gx,gx=w.heap.size:=⟨_,rfl⟩;obtain⟨gz,ad⟩: ∃gz,gz=w.heap.size+1:=⟨_,rfl⟩;rw[<-ad,<-Z];rintro w1 ⟨hx,hz,ho,A⟩;rw[Z] at A;have V:Hid (gx≠gz/\w.heap.size<=gz):=⟨by omega,by omega⟩;clear Z ad I HH e1;have X1:=zc hx;have Z1:=zc hz;have O1:=zc ho;have ab:=zc A;clear hx hz ho A;obtain⟨c0,c1,c2,c3,c4,cf⟩:=zj X1.o;go_wp2_with fail;refine (ztz base S m X w1 O1.o SM.o (fun t=>Nat.le_trans (HU.o t) (by omega))).mono ?_;rintro e w2 ⟨L,A⟩;obtain⟨t,aa,rfl⟩:=L.form;have PR:=zc aa;have ht:=aa.size HU.o;have X2:=zc ((A.block _ (aLt X1.o)).trans X1.o);have Z2:=zc ((A.block _ (aLt Z1.o)).trans Z1.o);have O2:=zc (O1.o.later A);have U:=zc (ab.o.trans (A.mono ab.o.size));clear L aa A c0 c1 c2 c3 c4 cf X1 Z1 O1 ab;go_wp2_with fail;refine (zvb t X w2 ht).mono ?_;rintro e J ⟨L,A⟩;have X3:=zc ((A.block _ (aLt X2.o)).trans X2.o);have Z3:=zc ((A.block _ (aLt Z2.o)).trans Z2.o);have O3:=zc (O2.o.later A);have M:=zc (U.o.trans (A.mono U.o.size));have ag:=(aLt Z2.o);clear A X2 Z2 O2;rcases L.md with ⟨q,S3,n,hy,hn,rfl,Y,ae⟩|⟨p,hy,rfl⟩
 ·have OK:=zc (zkb (m:=m) hy hn);have O4:=zc Y;have N:gz<J.heap.size:=(aLt Z3.o);clear L hy hn Y ae;unfold zl;go_upto_region 2 with fail;have I:Hid (Below J.heap.size J (J.alloc (.cells #[.slice S3.rq.a n.rq.length S3.rq.cap,.slice S3.im.a n.im.length S3.im.cap,.slice S3.ep.a n.ep.length S3.ep.cap,.slice S3.st.a n.st.length S3.st.cap,.slice S3.ex.a n.ex.length S3.ex.cap] 54))):=(Below.refl _ _).alloc (Nat.le_refl _) _;refine zx (R:=RA w base w2.heap.size gx gz J.heap.size S S3 m n (.slice none 0 0) (.slice none 0 0) (.slice none 0 0) (.slice none 0 0) (.slice none 0 0)) ⟨(I.o.block _ (aLt X3.o)).trans X3.o,(I.o.block _ N).trans Z3.o,heap_alloc_new J _,O3.o.later I.o,O4.o.later I.o,M.o.trans (I.o.mono M.o.size),V.o.2,V.o.1,by omega⟩ ?_;obtain⟨gy,O⟩: ∃gy,gy=J.heap.size:=⟨_,rfl⟩;rw[<-O];intro w4 h4;have K:=zc h4;clear h4 O I X3 Z3 O3 O4 M N;obtain⟨c0,c1,c2,c3,c4,cf⟩:=zj K.o.x;obtain⟨d0,d1,d2,d3,d4,df⟩:=zj K.o.y;obtain⟨k0,k1,k2,k3,k4,kf⟩:=zj K.o.z;go_region_with (go_at_call 137;first|(refine ((zkL base w2.heap.size S S3 m n _ (K.o.later (Below.refl _ _).drew).om (K.o.later (Below.refl _ _).drew).on' SF.o)).mono ?_;rintro e w5 ⟨⟨r,rfl,hr⟩,A⟩;have H:=zc ((K.o.later (Below.refl _ _).drew).later A);have HR:=zc hr;clear hr A;obtain⟨a0,a1,a2,a3,a4,af⟩:=zj H.o.x;obtain⟨b0,b1,b2,b3,b4,bf⟩:=zj H.o.y;obtain⟨l0,l1,l2,l3,l4,lf⟩:=zj H.o.z)|(refine ((zkL base w2.heap.size S S3 m n _ ((K.o.later (Below.refl _ _).drew).store ..).om ((K.o.later (Below.refl _ _).drew).store ..).on' SF.o)).mono ?_;rintro e w5 ⟨⟨r,rfl,hr⟩,A⟩;have H:=zc (((K.o.later (Below.refl _ _).drew).store ..).later A);have HR:=zc hr;clear hr A;obtain⟨a0,a1,a2,a3,a4,af⟩:=zj H.o.x;obtain⟨b0,b1,b2,b3,b4,bf⟩:=zj H.o.y;obtain⟨l0,l1,l2,l3,l4,lf⟩:=zj H.o.z))
  all_goals
   go_wp2
   first
   |(refine bodyPost_ret (zaA rfl _ _ gz 54 _ (0,0) _ rfl (H.o.store ..).z underlying54 rfl (by kernel_rfl)) rfl ?_
     exact⟨t,S3,n,r,PR.o,rfl,((H.o.store ..).on').low U.o.size,HR.o.trans (Iff.trans ⟨Eq.symm,Eq.symm⟩ OK.o.symm),fun k=>(HR.o.1 k).symm,(H.o.store ..).bel⟩)
   |(refine bodyPost_ret (zaA rfl _ _ gz 54 _ (0,0) _ rfl H.o.z underlying54 rfl (by kernel_rfl)) rfl ?_
     exact⟨t,S3,n,r,PR.o,rfl,H.o.on'.low U.o.size,HR.o.trans (Iff.trans ⟨Eq.symm,Eq.symm⟩ OK.o.symm),fun k=>(HR.o.1 k).symm,H.o.bel⟩)
 ·have NO:=zc (zka (m:=m) hy);have N:gz<J.heap.size:=(aLt Z3.o);clear L hy;go_upto_region 2 with fail;have I:Hid (Below J.heap.size J (J.alloc (.cells #[.slice none 0 0,.slice none 0 0,.slice none 0 0,.slice none 0 0,.slice none 0 0] 54))):=(Below.refl _ _).alloc (Nat.le_refl _) _;refine zx (R:=RA w base w2.heap.size gx gz J.heap.size S S0 m md0 (.slice none 0 0) (.slice none 0 0) (.slice none 0 0) (.slice none 0 0) (.slice none 0 0)) ⟨(I.o.block _ (aLt X3.o)).trans X3.o,(I.o.block _ N).trans Z3.o,heap_alloc_new J _,O3.o.later I.o,zly _ _,M.o.trans (I.o.mono M.o.size),V.o.2,V.o.1,by omega⟩ ?_;obtain⟨gy,O⟩: ∃gy,gy=J.heap.size:=⟨_,rfl⟩;rw[<-O];intro w4 h4;have K:=zc h4;clear h4 O I X3 Z3 O3 M N;obtain⟨c0,c1,c2,c3,c4,cf⟩:=zj K.o.x;obtain⟨d0,d1,d2,d3,d4,df⟩:=zj (v0:=.slice none 0 0) (v1:=.slice none 0 0) (v2:=.slice none 0 0) (v3:=.slice none 0 0) (v4:=.slice none 0 0) K.o.y;obtain⟨k0,k1,k2,k3,k4,kf⟩:=zj K.o.z;have H:=zc ((K.o.store (.slice none 0 0) (.slice none 0 0) (.slice none 0 0) (.slice none 0 0) (.slice none 0 0)).later (Below.refl _ _).drew);have ah:((p:Int)== -1)=false:=beq_eq_false_iff_ne.2 (by omega);go_region_with (fail)
  all_goals
   go_wp2;go_simp;refine bodyPost_ret (zaA rfl _ _ gz 54 _ (0,0) _ rfl H.o.z underlying54 rfl (by kernel_rfl)) rfl ?_;exact⟨t,S0,md0,false,PR.o,rfl,zly _ _,⟨fun k=>(by cases k),fun k=>absurd k NO.o⟩,fun k=>(by cases k),H.o.bel⟩
theorem zve (base:Nat) (S:Sv) (m:Md) (q:Bool) (w:World) (h:OwnMd w base S m) (J:Small m) (z:Tree m->(zbK m).size<=4294967296):
  Calls prog 65 #[zl S m,.bool q] w fun e w'=>zg1 (zbK m) m q e/\Below w.heap.size w w':=by
 have H:Hid (Below w.heap.size w (w.alloc (.cells #[.slice S.rq.a m.rq.length S.rq.cap,.slice S.im.a m.im.length S.im.cap,.slice S.ep.a m.ep.length S.ep.cap,.slice S.st.a m.st.length S.st.cap,.slice S.ex.a m.ex.length S.ex.cap] 54))):=(Below.refl _ _).alloc (Nat.le_refl _) _;have A:=zc (zvd base S m q _ (h.later H.o) J z);clear h J z;unfold zl at A ⊢;go_enter func65,ntmps65;go_wp2_with fail;refine A.o.mono ?_;rintro e U ⟨t,V,n,r,I,rfl,_,L,_,M⟩;have N:=zc I;have O:=zc L;have K:=zc (H.o.trans (M.mono H.o.size));clear I L M A;unfold zl;go_wp2;go_ret;exact⟨⟨t,N.o,r,rfl,O.o⟩,K.o.alloc K.o.size _⟩
end Go.Proofs.YtgcbmogmniahjaaGreat
