/- Facts and walks. -/
import Derived.Test.YtgcbmogmniahjaaGreatR33
import Derived.Test.YtgcbmogmniahjaaGreatR34
import Derived.Test.YtgcbmogmniahjaaGreatR39
namespace Go.Proofs.YtgcbmogmniahjaaGreat
open Go.Proofs.Tryz
set_option maxRecDepth 100000
set_option maxHeartbeats 3200000
open Go.RowKit Go.PlainAid Go.Sort
theorem ziF (s:BA) (a b:Nat):(s.extract a b).size<=s.size:=by
 rw[ByteArray.size_extract];omega
variable {s:BA} {w:Bool} {g:Nat} {W:World} {C:Value} {S:Sv} {q:PS}
theorem zvt {e:Nat} {t:Tk} (h:Tok s w g t e):t.text.size<=s.size:=by
 cases h using Tok.elim with
 |name h z=>exact ziF _ _ _
 |num h z=>exact Nat.zero_le _
 |str h z=>exact ziF _ _ _
 |sign h=>exact ziF _ _ _
theorem zvu {n:Nat} {r:Except Nat (List Tk)} (h:Lx s w g n r): ∀c,r= .ok c->∀t∈c,t.text.size<=s.size:=by
 induction h using Lx.ind with
 |done=>intro c z;cases z;intro t D;cases D
 |bad _ _=>intro c z;cases z
 | @tok g n e b t r h J D I z H=>
  intro c q;cases r with
  |error p=>simp[Except.map] at q
  |ok l=>
   simp only[Except.map,Except.ok.injEq] at q;subst q;intro x E;rcases List.mem_cons.1 E with rfl|E
   ·exact zvt D
   ·exact H l rfl x E
theorem zvv {q:List Tk} (h:zal s w (.ok q)) (D:s.size<=4294967296):zbu ⟨q,s.size,w⟩:=by
 obtain⟨a,_,A⟩:=h;intro i;by_cases z:i<q.length
 ·have:ze ⟨q,s.size,w⟩ i∈q:=by
   rw[ze,List.getD,List.getElem?_eq_getElem z];exact List.getElem_mem z
  have:=zvu A q rfl _ this;omega
 ·rw[zek (by show q.length<=i;omega)];exact Nat.zero_le _
theorem ziG {P:Program} {E:Func} {p u:Tmp} {q A:TypeId} (h:E.results= #[.cell p q,.cell u A]) (tmps:Array Value) (w:World) (g z:Nat) (t K:TypeId) (D:Array Value) (v:Value) (d:TypeDesc) (k:IntKind)
  (J:tmps.getD p undef= .pointer (some ⟨g,0,none⟩)) (X:w.heap[g]? =some (.cells D t (0,0)))
  (V:P.underlying q=some d) (I:(match d with| .struct _| .array _ _=>true|_=>false)=true) (U:(P.info? q).map (·.size)=some D.size)
  (L:tmps.getD u undef= .pointer (some ⟨z,0,none⟩)) (H:w.heap[z]? =some (.cells #[v] K (0,0))) (Z:P.underlying A=some (.int k)) (M: ∃n,v= .int k n):
  (results E tmps).run P w= .ok (.tuple #[.agg D,v]) w:=by
 obtain⟨n,rfl⟩:=M;have O:=run_loadVar_row w g t q D (0,0) d X V I U;have N:(loadVar A ⟨z,0,none⟩).run P w= .ok (.int k n) w:=by
  have Y:w.cell? ⟨z,0,none⟩=some (.int k n):=by simp[World.cell?,H]
  simp[go_sem,isAgg,run_underlying Z,Y]
 have e:(results E tmps).run P w=((asAddr (tmps.getD p undef)).run P w).andThen fun a w₁=>((loadVar q a).run P w₁).andThen fun v w₂=>((asAddr (tmps.getD u undef)).run P w₂).andThen fun b w₃=>((loadVar A b).run P w₃).andThen fun x w₄=>.ok (.tuple #[v,x]) w₄:=by
  simp only[results,h];simp[Sem.run_bind,Result.andThen]
 rw[e,J,L];simp[asAddr,Result.andThen,O,N]
theorem zhj {k:Nat} {A E D z:Value} (h:k≠g):(((((W.setCell ⟨g,0,none⟩ C).setCell ⟨g,1,none⟩ A).setCell ⟨g,2,none⟩ E).setCell ⟨g,3,none⟩ D).setCell ⟨g,4,none⟩ z).heap[k]? =W.heap[k]?:=by
 rw[zx h,zx h,zx h,zx h,zx h]
theorem ziH {v:Value} {t:TypeId} (h:W.heap[g]? =some (.cells #[v] t (0,0))):(W.setCell ⟨g,0,none⟩ C).heap[g]? =some (.cells #[C] t (0,0)):=(zae h).trans (by simp)
theorem OwnMod.keepI {A:World} (h:OwnMod W g S q) (z: ∀k,g<=k->A.heap[k]? =W.heap[k]?):OwnMod A g S q:=
 ⟨h.rq.keep fun k b=>z k (h.rq.typed b).1,h.im.keep fun k b=>z k (h.im.typed b).1,h.ep.keep fun k b=>z k (h.ep.typed b).1,h.st.keep fun k b=>z k (h.st.typed b).1,h.ex.keep fun k b=>z k (h.ex.typed b).1,h.inv⟩
theorem OwnMod.lowI {z:Nat} (h:OwnMod W g S q) (A:z<=g):OwnMod W z S q:=⟨h.rq.low A,h.im.low A,h.ep.low A,h.st.low A,h.ex.low A,h.inv⟩
theorem zvw (C:Cx) (D z base A:Nat) (S:Sv) (q:PS) (w:World) (h:IM C D z base A S q w) (H:zbu C):
  Calls prog 169 #[.pointer (some ⟨A,0,none⟩)] w (ziB base A (za2 C q) w):=by
 cases E:C.scr with
 |true=>exact zuC C D z base A S q w h E
 |false=>exact zuD C D z base A S q w h H E
theorem zvx (s:BA) (z:Bool) (w:World) (hs:s.size<=4294967296):
  Calls prog 135 #[.string s,.bool z] w fun e w'=>ParseOut s z w e w'/\Bw w w':=by
 have ae: ∀(fn:Fn) (first D:Array Value) (w:World),(Instr.makeFunc fn first D).run prog w= .ok (.func fn first D) w:=fun _ _ _ _=>rfl;go_enter_defers func135,ntmps135;go_wp2_with fail;refine (zvs s z _ hs).mono ?_;rintro e K ⟨⟨r1,J,M⟩,V⟩;have h:((w.alloc (.cells #[.slice none 0 0,.slice none 0 0,.slice none 0 0,.slice none 0 0,.slice none 0 0] 54)).alloc (.cells #[.int .i64 0] 3)).heap.size=w.heap.size+1+1:=zcX w _ _;have X:Bw w K:=(zbg w _ _).trans (V.mono (by rw[h];omega));have U:Hid (K.heap[w.heap.size]? =some (.cells #[.slice none 0 0,.slice none 0 0,.slice none 0 0,.slice none 0 0,.slice none 0 0] 54 (0,0))):=(V.block _ (by rw[h];omega)).trans (zcH (heap_alloc_new w _));have N:Hid (K.heap[w.heap.size+1]? =some (.cells #[.int .i64 0] 3 (0,0))):=(V.block _ (by rw[h];omega)).trans (new2 w _ _);have L:w.heap.size+1+1<=K.heap.size:=by have:=V.size;rw[h] at this;exact this
 rw[h] at V;obtain⟨c0,c1,c2,c3,c4,cf⟩:=zj U.o;have d0:K.cell? ⟨w.heap.size+1,0,none⟩=some (.int .i64 0):=by simp[World.cell?,N.o]
 have df:K.frozen? ⟨w.heap.size+1,0,none⟩=false:=by simp[World.frozen?,N.o]
 cases r1 with
 |error p=>
  subst M;have HY:Hid (zbA s z (.error p)):=⟨_,J,rfl⟩;have dz:decide ((0:Int)<=(p:Int))=true:=decide_eq_true (by omega);clear J V h;go_wp2;exact⟨_,ziG rfl _ _ w.heap.size (w.heap.size+1) 54 3 _ _ _ .i64 rfl ((zx (by omega)).trans (zdD U.o)) underlying54 rfl (by kernel_rfl) rfl (ziH ((zhj (by omega)).trans N.o)) underlying3 ⟨_,rfl⟩,⟨_,HY.o,rfl⟩,(zdR X (Nat.le_refl _) ..).setCell (Nat.le_succ _) _⟩
 |ok Z=>
  obtain⟨g,n,D,rfl,H⟩:=M;obtain rfl:n=Z.length:=H.2;rw[h] at H;have aa:=zjD J;have HR:=zc J;have HC:Hid (zbu ⟨Z,s.size,z⟩):=zvv J hs;have ad:Hid (Mem ⟨Z,s.size,z⟩ g D (w.heap.size+1+1) S0 zcd K):=zjE H aa L;clear H J V h;go_wp2_with fail;have ac:IM ⟨Z,s.size,z⟩ g D (w.heap.size+1+1) K.heap.size S0 zcd (K.alloc (.cells #[.slice (some ⟨g,0,none⟩) Z.length D,.int .i64 0,.int .i64 s.size,.bool z,.slice none 0 0,.slice none 0 0,.slice none 0 0,.slice none 0 0,.slice none 0 0,.slice none 0 0] 211)):=⟨ad.o.alloc _,heap_alloc_new K _,L⟩;have I:Below (w.heap.size+1+1) K (K.alloc (.cells #[.slice (some ⟨g,0,none⟩) Z.length D,.int .i64 0,.int .i64 s.size,.bool z,.slice none 0 0,.slice none 0 0,.slice none 0 0,.slice none 0 0,.slice none 0 0,.slice none 0 0] 211)):=(Below.refl _ _).alloc L _;refine (zvw _ g D _ _ S0 zcd _ ac HC.o).mono ?_;cases hp:za2 ⟨Z,s.size,z⟩ zcd with
  |error p=>
   rintro e w2 ⟨rfl,O⟩;have HY:Hid (zbA s z (.error p)):=⟨_,HR.o,hp.symm⟩;have Y:=X.trans ((I.trans O).mono (by omega));have E:Hid (w2.heap[w.heap.size]? =some (.cells #[.slice none 0 0,.slice none 0 0,.slice none 0 0,.slice none 0 0,.slice none 0 0] 54 (0,0))):=((I.trans O).block _ (by omega)).trans U.o;have A:Hid (w2.heap[w.heap.size+1]? =some (.cells #[.int .i64 0] 3 (0,0))):=((I.trans O).block _ (by omega)).trans N.o;clear O;unfold Pan;go_wp2;refine leaves_cons (f:=168) (args:=#[.pointer (some ⟨w.heap.size,0,none⟩),.pointer (some ⟨w.heap.size+1,0,none⟩)]) (by simp) (by simp[go_sem]) ?_;refine (zuH w.heap.size (w.heap.size+1) p _ _ _ _ _ _ _ E.o A.o (by omega)).mono ?_;rintro e u' w3 ⟨rfl,rfl,rfl⟩;exact⟨_,ziG rfl _ _ w.heap.size (w.heap.size+1) 54 3 _ _ _ .i64 rfl ((zx (by omega)).trans (zdD E.o)) underlying54 rfl (by kernel_rfl) rfl (ziH ((zhj (by omega)).trans A.o)) underlying3 ⟨_,rfl⟩,⟨_,HY.o,rfl⟩,(zdR Y (Nat.le_refl _) ..).setCell (Nat.le_succ _) _⟩
  |ok q=>
   rintro e w2 ⟨rfl,S2,om,⟨v0,v1,v2,v3,v9,ab⟩,O⟩;have HY:Hid (zbA s z (.ok q)):=⟨_,HR.o,hp.symm⟩;have Y:=X.trans ((I.trans O).mono (by omega));have E:Hid (w2.heap[w.heap.size]? =some (.cells #[.slice none 0 0,.slice none 0 0,.slice none 0 0,.slice none 0 0,.slice none 0 0] 54 (0,0))):=((I.trans O).block _ (by omega)).trans U.o;have A:Hid (w2.heap[w.heap.size+1]? =some (.cells #[.int .i64 0] 3 (0,0))):=((I.trans O).block _ (by omega)).trans N.o;have HO:=zc om;clear O om c0 c1 c2 c3 c4 cf d0 df;obtain⟨b0,V,b2,b3,b4,b5,b6,b7,b8,b9,bf⟩:=zaj ab;clear ab;obtain⟨c0,c1,c2,c3,c4,cf⟩:=zj E.o;have d0:w2.cell? ⟨w.heap.size+1,0,none⟩=some (.int .i64 0):=by simp[World.cell?,A.o]
   have df:w2.frozen? ⟨w.heap.size+1,0,none⟩=false:=by simp[World.frozen?,A.o]
   go_wp2;refine leaves_cons (f:=168) (args:=#[.pointer (some ⟨w.heap.size,0,none⟩),.pointer (some ⟨w.heap.size+1,0,none⟩)]) (by simp) (by simp[go_sem]) ?_;refine (zuG w.heap.size (w.heap.size+1) _).mono ?_;rintro e u' w3 ⟨rfl,rfl,rfl⟩;refine⟨_,ziG rfl _ _ w.heap.size (w.heap.size+1) 54 3 _ _ _ .i64 rfl ((zx (by omega)).trans (zdD E.o)) underlying54 rfl (by kernel_rfl) rfl (ziH ((zhj (by omega)).trans A.o)) underlying3 ⟨_,rfl⟩,⟨_,HY.o,S2,by simp[zgs],?_⟩,(zdR Y (Nat.le_refl _) ..).setCell (Nat.le_succ _) _⟩;exact (HO.o.keepI fun k hk=>(zx (by omega)).trans (zhj (by omega))).lowI (by omega)
end Go.Proofs.YtgcbmogmniahjaaGreat
namespace Go.Proofs.YtgcbmogmniahjaaGreat
open Go.Proofs.Tryz
set_option maxRecDepth 100000
set_option maxHeartbeats 6400000
open Go.RowKit Go.PlainAid Go.Sort
def zvy (m:Md) (scr:Bool) (w:World) (e:Ending) (w':World):Prop:=
 ∃(t:BA) (S:Sv) (n:Md) (r:Bool),PrOf (zbO m) m t/\e= .returned (.tuple #[zl S n,.bool r])/\OwnMd w' w.heap.size S n/\(r=true↔zdV t scr m)/\(r=true->n=m)/\Bw w w'
structure RA (w:World) (base b3 gx gz gy:Nat) (S S3:Sv) (m n:Md) (z0 z1 z2 z3 z4:Value) (W:World):Prop where
 x:W.heap[gx]? =some (.cells #[.slice S.rq.a m.rq.length S.rq.cap,.slice S.im.a m.im.length S.im.cap,.slice S.ep.a m.ep.length S.ep.cap,.slice S.st.a m.st.length S.st.cap,.slice S.ex.a m.ex.length S.ex.cap] 54 (0,0))
 z:W.heap[gz]? =some (.cells #[z0,z1,z2,z3,z4] 54 (0,0))
 y:W.heap[gy]? =some (.cells #[.slice S3.rq.a n.rq.length S3.rq.cap,.slice S3.im.a n.im.length S3.im.cap,.slice S3.ep.a n.ep.length S3.ep.cap,.slice S3.st.a n.st.length S3.st.cap,.slice S3.ex.a n.ex.length S3.ex.cap] 54 (0,0))
 om:OwnMd W base S m
 on':OwnMd W b3 S3 n
 bel:Bw w W
 hz:w.heap.size<=gz
 hx:gx≠gz
 hy:gy≠gz
variable {w W W':World} {base b3 gx gz gy:Nat} {S S3:Sv} {m n:Md} {z0 z1 z2 z3 z4:Value}
theorem RA.later (h:RA w base b3 gx gz gy S S3 m n z0 z1 z2 z3 z4 W) (q:Bw W W'):RA w base b3 gx gz gy S S3 m n z0 z1 z2 z3 z4 W':=
 ⟨(q.block _ (aLt h.x)).trans h.x,(q.block _ (aLt h.z)).trans h.z,(q.block _ (aLt h.y)).trans h.y,h.om.later q,h.on'.later q,h.bel.trans (q.mono h.bel.size),h.hz,h.hx,h.hy⟩
theorem zmE {W:World} {b c:Nat} (q z D A w:Value) (h:b≠c):(((((W.setCell ⟨c,0,none⟩ q).setCell ⟨c,1,none⟩ z).setCell ⟨c,2,none⟩ D).setCell ⟨c,3,none⟩ A).setCell ⟨c,4,none⟩ w).heap[b]? =W.heap[b]?:=by
 rw[heap_setCell_other _ _ _ _ h,heap_setCell_other _ _ _ _ h,heap_setCell_other _ _ _ _ h,heap_setCell_other _ _ _ _ h,heap_setCell_other _ _ _ _ h]
theorem RA.store (h:RA w base b3 gx gz gy S S3 m n z0 z1 z2 z3 z4 W) (q D H E A:Value):RA w base b3 gx gz gy S S3 m n q D H E A (((((W.setCell ⟨gz,0,none⟩ q).setCell ⟨gz,1,none⟩ D).setCell ⟨gz,2,none⟩ H).setCell ⟨gz,3,none⟩ E).setCell ⟨gz,4,none⟩ A):=
 ⟨(zmE _ _ _ _ _ h.hx).trans h.x,zdD h.z,(zmE _ _ _ _ _ h.hy).trans h.y,zgK (o:=0) h.om ⟨_,h.z⟩,zgK (o:=0) h.on' ⟨_,h.z⟩,zdR h.bel h.hz _ _ _ _ _,h.hz,h.hx,h.hy⟩
theorem zvz (base:Nat) (S:Sv) (m:Md) (U:Bool) (w:World) (h:OwnMd w base S m) (hm:Small m) (aa:Tree m->(zbO m).size<=4294967296):
  Calls prog 97 #[zl S m,.bool U] w (zvy m U w):=by
 have HH:=zc h;have SM:=zc hm;have HU:=zc aa;have SF:Hid (zdT m):=hm.few;clear h hm aa;unfold zl;go_enter func97,ntmps97;go_upto_region 1 with fail;have e1:(w.alloc (.cells #[.slice S.rq.a m.rq.length S.rq.cap,.slice S.im.a m.im.length S.im.cap,.slice S.ep.a m.ep.length S.ep.cap,.slice S.st.a m.st.length S.st.cap,.slice S.ex.a m.ex.length S.ex.cap] 54)).heap.size=w.heap.size+1:=zg _ _;have E:Hid (Bw w ((w.alloc (.cells #[.slice S.rq.a m.rq.length S.rq.cap,.slice S.im.a m.im.length S.im.cap,.slice S.ep.a m.ep.length S.ep.cap,.slice S.st.a m.st.length S.st.cap,.slice S.ex.a m.ex.length S.ex.cap] 54)).alloc (.cells #[.slice none 0 0,.slice none 0 0,.slice none 0 0,.slice none 0 0,.slice none 0 0] 54))):=(bA0).alloc (by rw[e1];omega) _;refine zu (R:=fun W=>W.heap[w.heap.size]? =some (.cells #[.slice S.rq.a m.rq.length S.rq.cap,.slice S.im.a m.im.length S.im.cap,.slice S.ep.a m.ep.length S.ep.cap,.slice S.st.a m.st.length S.st.cap,.slice S.ex.a m.ex.length S.ex.cap] 54 (0,0))/\W.heap[w.heap.size+1]? =some (.cells #[.slice none 0 0,.slice none 0 0,.slice none 0 0,.slice none 0 0,.slice none 0 0] 54 (0,0))/\OwnMd W base S m/\Below w.heap.size w W) ⟨(heap_alloc_old _ _ (by rw[e1];omega)).trans (heap_alloc_new w _),heap_alloc2_new w _ _,HH.o.later E.o,E.o⟩ ?_;obtain⟨gx,X⟩: ∃gx,gx=w.heap.size:=⟨_,rfl⟩;obtain⟨gz,ab⟩: ∃gz,gz=w.heap.size+1:=⟨_,rfl⟩;rw[<-ab,<-X];rintro w1 ⟨hx,hz,ho,A⟩;rw[X] at A;have O:Hid (gx≠gz/\w.heap.size<=gz):=⟨by omega,by omega⟩;clear X ab E HH e1;have X1:=zc hx;have Z1:=zc hz;have O1:=zc ho;have Z:=zc A;clear hx hz ho A;obtain⟨c0,c1,c2,c3,c4,cf⟩:=zj X1.o;go_wp2_with fail;refine (ztL base S m U w1 O1.o SM.o (fun t=>Nat.le_trans (HU.o t) (by omega))).mono ?_;rintro e w2 ⟨J,A⟩;obtain⟨t,Y,rfl⟩:=J.form;have PR:=zc Y;have ht:=Y.size HU.o;have X2:=zc ((A.block _ (aLt X1.o)).trans X1.o);have Z2:=zc ((A.block _ (aLt Z1.o)).trans Z1.o);have O2:=zc (O1.o.later A);have N:=zc (Z.o.trans (A.mono Z.o.size));clear J Y A c0 c1 c2 c3 c4 cf X1 Z1 O1 Z;go_wp2_with fail;refine (zvx t U w2 ht).mono ?_;rintro e H ⟨J,A⟩;have X3:=zc ((A.block _ (aLt X2.o)).trans X2.o);have Z3:=zc ((A.block _ (aLt Z2.o)).trans Z2.o);have O3:=zc (O2.o.later A);have K:=zc (N.o.trans (A.mono N.o.size));have ad:=(aLt Z2.o);clear A X2 Z2 O2;rcases J.md with ⟨q,S3,n,hy,hn,rfl,V,ac⟩|⟨p,hy,rfl⟩
 ·have OK:=zc (zkq (m:=m) hy hn);have O4:=zc V;have L:gz<H.heap.size:=(aLt Z3.o);clear J hy hn V ac;unfold zl;go_upto_region 2 with fail;have E:Hid (Bw H (H.alloc (.cells #[.slice S3.rq.a n.rq.length S3.rq.cap,.slice S3.im.a n.im.length S3.im.cap,.slice S3.ep.a n.ep.length S3.ep.cap,.slice S3.st.a n.st.length S3.st.cap,.slice S3.ex.a n.ex.length S3.ex.cap] 54))):=bA0;refine zu (R:=RA w base w2.heap.size gx gz H.heap.size S S3 m n (.slice none 0 0) (.slice none 0 0) (.slice none 0 0) (.slice none 0 0) (.slice none 0 0)) ⟨(E.o.block _ (aLt X3.o)).trans X3.o,(E.o.block _ L).trans Z3.o,heap_alloc_new H _,O3.o.later E.o,O4.o.later E.o,K.o.trans (E.o.mono K.o.size),O.o.2,O.o.1,by omega⟩ ?_;obtain⟨gy,M⟩: ∃gy,gy=H.heap.size:=⟨_,rfl⟩;rw[<-M];intro w4 h4;have I:=zc h4;clear h4 M E X3 Z3 O3 O4 K L;obtain⟨c0,c1,c2,c3,c4,cf⟩:=zj I.o.x;obtain⟨d0,d1,d2,d3,d4,df⟩:=zj I.o.y;obtain⟨k0,k1,k2,k3,k4,kf⟩:=zj I.o.z;go_region_with (go_at_call 137;first|(refine ((zla base w2.heap.size S S3 m n _ (I.o.later (Below.refl _ _).drew).om (I.o.later (Below.refl _ _).drew).on' SF.o)).mono ?_;rintro e w5 ⟨⟨r,rfl,hr⟩,A⟩;have D:=zc ((I.o.later (Below.refl _ _).drew).later A);have HR:=zc hr;clear hr A;obtain⟨a0,a1,a2,a3,a4,af⟩:=zj D.o.x;obtain⟨b0,b1,b2,b3,b4,bf⟩:=zj D.o.y;obtain⟨l0,l1,l2,l3,l4,lf⟩:=zj D.o.z)|(refine ((zla base w2.heap.size S S3 m n _ ((I.o.later (Below.refl _ _).drew).store ..).om ((I.o.later (Below.refl _ _).drew).store ..).on' SF.o)).mono ?_;rintro e w5 ⟨⟨r,rfl,hr⟩,A⟩;have D:=zc (((I.o.later (Below.refl _ _).drew).store ..).later A);have HR:=zc hr;clear hr A;obtain⟨a0,a1,a2,a3,a4,af⟩:=zj D.o.x;obtain⟨b0,b1,b2,b3,b4,bf⟩:=zj D.o.y;obtain⟨l0,l1,l2,l3,l4,lf⟩:=zj D.o.z))
  all_goals
   go_wp2
   first
   |(refine bodyPost_ret (zaC rfl _ _ gz 54 _ (0,0) _ rfl (D.o.store ..).z underlying54 rfl (by kernel_rfl)) rfl ?_
     exact⟨t,S3,n,r,PR.o,rfl,((D.o.store ..).on').low N.o.size,HR.o.trans (Iff.trans ⟨Eq.symm,Eq.symm⟩ OK.o.symm),fun k=>(HR.o.1 k).symm,(D.o.store ..).bel⟩)
   |(refine bodyPost_ret (zaC rfl _ _ gz 54 _ (0,0) _ rfl D.o.z underlying54 rfl (by kernel_rfl)) rfl ?_
     exact⟨t,S3,n,r,PR.o,rfl,D.o.on'.low N.o.size,HR.o.trans (Iff.trans ⟨Eq.symm,Eq.symm⟩ OK.o.symm),fun k=>(HR.o.1 k).symm,D.o.bel⟩)
 ·have NO:=zc (zkp (m:=m) hy);have L:gz<H.heap.size:=(aLt Z3.o);clear J hy;go_upto_region 2 with fail;have E:Hid (Bw H (H.alloc (.cells #[.slice none 0 0,.slice none 0 0,.slice none 0 0,.slice none 0 0,.slice none 0 0] 54))):=bA0;refine zu (R:=RA w base w2.heap.size gx gz H.heap.size S S0 m md0 (.slice none 0 0) (.slice none 0 0) (.slice none 0 0) (.slice none 0 0) (.slice none 0 0)) ⟨(E.o.block _ (aLt X3.o)).trans X3.o,(E.o.block _ L).trans Z3.o,heap_alloc_new H _,O3.o.later E.o,zlD _ _,K.o.trans (E.o.mono K.o.size),O.o.2,O.o.1,by omega⟩ ?_;obtain⟨gy,M⟩: ∃gy,gy=H.heap.size:=⟨_,rfl⟩;rw[<-M];intro w4 h4;have I:=zc h4;clear h4 M E X3 Z3 O3 K L;obtain⟨c0,c1,c2,c3,c4,cf⟩:=zj I.o.x;obtain⟨d0,d1,d2,d3,d4,df⟩:=zj (v0:=.slice none 0 0) (v1:=.slice none 0 0) (v2:=.slice none 0 0) (v3:=.slice none 0 0) (v4:=.slice none 0 0) I.o.y;obtain⟨k0,k1,k2,k3,k4,kf⟩:=zj I.o.z;have D:=zc ((I.o.store (.slice none 0 0) (.slice none 0 0) (.slice none 0 0) (.slice none 0 0) (.slice none 0 0)).later (Below.refl _ _).drew);have ae:((p:Int)== -1)=false:=beq_eq_false_iff_ne.2 (by omega);go_region_with (fail)
  all_goals
   go_wp2;go_simp;refine bodyPost_ret (zaC rfl _ _ gz 54 _ (0,0) _ rfl D.o.z underlying54 rfl (by kernel_rfl)) rfl ?_;exact⟨t,S0,md0,false,PR.o,rfl,zlD _ _,⟨fun k=>(by cases k),fun k=>absurd k NO.o⟩,fun k=>(by cases k),D.o.bel⟩
theorem zv0 (base:Nat) (S:Sv) (m:Md) (q:Bool) (w:World) (h:OwnMd w base S m) (H:Small m) (z:Tree m->(zbO m).size<=4294967296):
  Calls prog 65 #[zl S m,.bool q] w fun e L=>zgA (zbO m) m q e/\Bw w L:=by
 have D:Hid (Bw w (w.alloc (.cells #[.slice S.rq.a m.rq.length S.rq.cap,.slice S.im.a m.im.length S.im.cap,.slice S.ep.a m.ep.length S.ep.cap,.slice S.st.a m.st.length S.st.cap,.slice S.ex.a m.ex.length S.ex.cap] 54))):=bA0;have A:=zc (zvz base S m q _ (h.later D.o) H z);clear h H z;unfold zl at A ⊢;go_enter func65,ntmps65;go_wp2_with fail;refine A.o.mono ?_;rintro e O ⟨t,U,n,r,E,rfl,_,J,_,K⟩;have M:=zc E;have N:=zc J;have I:=zc (D.o.trans (K.mono D.o.size));clear E J K A;unfold zl;go_wp2;go_ret;exact⟨⟨t,M.o,r,rfl,N.o⟩,I.o.alloc I.o.size _⟩
end Go.Proofs.YtgcbmogmniahjaaGreat
