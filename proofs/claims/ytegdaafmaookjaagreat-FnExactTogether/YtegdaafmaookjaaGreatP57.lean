/- Facts. -/
import Derived.Test.YtegdaafmaookjaaGreatP48
import Derived.Test.YtegdaafmaookjaaGreatP51
import Derived.Test.YtegdaafmaookjaaGreatP56
namespace Go.Proofs.YtegdaafmaookjaaGreat
open Go.Proofs.Tryz
set_option maxRecDepth 100000
set_option maxHeartbeats 3200000
open Go.RowKit Go.PlainAid Go.Sort
theorem zj3 (s:BA0) (a b:Nat):(s.extract a b).size<=s.size:=by
 rw[ByteArray.size_extract];omega
variable {s:BA0} {w:Bool} {g:Nat} {W:World} {C:Value} {S:Sv} {q:PS}
theorem zxb {e:Nat} {t:Tk} (h:Tok s w g t e):t.text.size<=s.size:=by
 cases h using Tok.elim with
 |name h z=>exact zj3 _ _ _
 |num h z=>exact Nat.zero_le _
 |str h z=>exact zj3 _ _ _
 |sign h=>exact zj3 _ _ _
theorem zxc {n:Nat} {r:Except Nat (List Tk)} (h:Lx s w g n r): ∀z,r= .ok z->∀t∈z,t.text.size<=s.size:=by
 induction h using Lx.ind with
 |done=>intro z A;cases A;intro t I;cases I
 |bad _ _=>intro z A;cases A
 | @tok g n e b t r h M I L A K=>
  intro z q;cases r with
  |error p=>simp[Except.map] at q
  |ok l=>
   simp only[Except.map,Except.ok.injEq] at q;subst q;intro x J;rcases List.mem_cons.1 J with rfl|J
   ·exact zxb I
   ·exact K l rfl x J
theorem zxd {q:List Tk} (h:zap s w (.ok q)) (I:s.size<=4294967296):zb2 ⟨q,s.size,w⟩:=by
 obtain⟨a,_,H⟩:=h;intro i;by_cases A:i<q.length
 ·have:ze ⟨q,s.size,w⟩ i∈q:=by
   rw[ze,List.getD,gE A];exact List.getElem_mem A
  have:=zxc H q rfl _ this;omega
 ·rw[ze8 (by show q.length<=i;omega)];exact Nat.zero_le _
theorem zj4 {P:Program} {J:Func} {p u:Tmp} {q H:TypeId} (h:J.results= #[.cell p q,.cell u H]) (tmps:Array Value) (w:World) (g A:Nat) (t N:TypeId) (I:Array Value) (v:Value) (d:TypeDesc) (k:IntKind)
  (M:tmps.getD p undef= .pointer (some ⟨g,0,none⟩)) (hg:w.heap[g]? =some (.cells I t (0,0)))
  (Z:P.underlying q=some d) (L:(match d with| .struct _| .array _ _=>true|_=>false)=true) (Y:(P.info? q).map (·.size)=some I.size)
  (O:tmps.getD u undef= .pointer (some ⟨A,0,none⟩)) (K:w.heap[A]? =some (.cells #[v] N (0,0))) (hz:P.underlying H=some (.int k)) (U: ∃n,v= .int k n):
  (results J tmps).run P w= .ok (.tuple #[.agg I,v]) w:=by
 obtain⟨n,rfl⟩:=U;have X:=run_loadVar_row w g t q I (0,0) d hg Z L Y;have V:(loadVar H ⟨A,0,none⟩).run P w= .ok (.int k n) w:=by
  have hc:w.cell? ⟨A,0,none⟩=some (.int k n):=by simp[World.cell?,K]
  simp[go_sem,isAgg,run_underlying hz,hc]
 have e:(results J tmps).run P w=((asAddr (tmps.getD p undef)).run P w).andThen fun a w₁=>((loadVar q a).run P w₁).andThen fun v w₂=>((asAddr (tmps.getD u undef)).run P w₂).andThen fun b w₃=>((loadVar H b).run P w₃).andThen fun x w₄=>.ok (.tuple #[v,x]) w₄:=by
  simp only[results,h];simp[Sem.run_bind,Result.andThen]
 rw[e,M,O];simp[asAddr,Result.andThen,X,V]
theorem zhP {k:Nat} {H J I A:Value} (h:k≠g):(((((W.setCell ⟨g,0,none⟩ C).setCell ⟨g,1,none⟩ H).setCell ⟨g,2,none⟩ J).setCell ⟨g,3,none⟩ I).setCell ⟨g,4,none⟩ A).heap[k]? =W.heap[k]?:=by
 rw[zC h,zC h,zC h,zC h,zC h]
theorem zj5 {v:Value} {t:TypeId} (h:W.heap[g]? =some (.cells #[v] t (0,0))):(W.setCell ⟨g,0,none⟩ C).heap[g]? =some (.cells #[C] t (0,0)):=(zaj h).trans (by simp)
theorem OwnMod.keepI {w':World} (h:OwnMod W g S q) (A: ∀k,g<=k->w'.heap[k]? =W.heap[k]?):OwnMod w' g S q:=
 ⟨h.rq.keep fun k z=>A k (h.rq.typed z).1,h.im.keep fun k z=>A k (h.im.typed z).1,h.ep.keep fun k z=>A k (h.ep.typed z).1,h.st.keep fun k z=>A k (h.st.typed z).1,h.ex.keep fun k z=>A k (h.ex.typed z).1,h.inv⟩
theorem OwnMod.lowI {A:Nat} (h:OwnMod W g S q) (H:A<=g):OwnMod W A S q:=⟨h.rq.low H,h.im.low H,h.ep.low H,h.st.low H,h.ex.low H,h.inv⟩
theorem zxe (C:Cx) (I A base H:Nat) (S:Sv) (q:PS) (w:World) (h:IM C I A base H S q w) (K:zb2 C):
  Calls prog 191 #[.pointer (some ⟨H,0,none⟩)] w (zjz base H (za6 C q) w):=by
 cases J:C.scr with
 |true=>exact zwu C I A base H S q w h J
 |false=>exact zwv C I A base H S q w h K J
theorem zxf (s:BA0) (A:Bool) (w:World) (hs:s.size<=4294967296):
  Calls prog 176 #[.string s,.bool A] w fun e w'=>ParseOut s A w e w'/\Below w.heap.size w w':=by
 have ag: ∀(fn:Fn) (first I:Array Value) (w:World),(Instr.makeFunc fn first I).run prog w= .ok (.func fn first I) w:=fun _ _ _ _=>rfl;go_enter_defers func176,ntmps176;go_wp2_with fail;refine (zxa s A _ hs).mono ?_;rintro e N ⟨⟨r1,M,U⟩,X⟩;have h:((w.alloc (.cells #[.slice none 0 0,.slice none 0 0,.slice none 0 0,.slice none 0 0,.slice none 0 0] 59)).alloc (.cells #[.int .i64 0] 3)).heap.size=w.heap.size+1+1:=zdl w _ _;have aa:Below w.heap.size w N:=(zbq w _ _).trans (X.mono (by rw[h];omega));have Z:Hid (N.heap[w.heap.size]? =some (.cells #[.slice none 0 0,.slice none 0 0,.slice none 0 0,.slice none 0 0,.slice none 0 0] 59 (0,0))):=(X.block _ (by rw[h];omega)).trans (zcV (hN0 w _));have V:Hid (N.heap[w.heap.size+1]? =some (.cells #[.int .i64 0] 3 (0,0))):=(X.block _ (by rw[h];omega)).trans (new2 w _ _);have O:w.heap.size+1+1<=N.heap.size:=by have:=X.size;rw[h] at this;exact this
 replace X:=(show Below _ _ _ from X);rw[h] at X;obtain⟨c0,c1,c2,c3,c4,cf⟩:=zl Z.o;have d0:N.cell? ⟨w.heap.size+1,0,none⟩=some (.int .i64 0):=by simp[World.cell?,V.o]
 have df:N.frozen? ⟨w.heap.size+1,0,none⟩=false:=by simp[World.frozen?,V.o]
 cases r1 with
 |error p=>
  subst U;have HY:Hid (zbJ s A (.error p)):=⟨_,M,rfl⟩;have dz:decide ((0:Int)<=(p:Int))=true:=dT (by omega);clear M X h;go_wp2;exact⟨_,zj4 rfl _ _ w.heap.size (w.heap.size+1) 59 3 _ _ _ .i64 rfl ((zC (by omega)).trans (zdV Z.o)) underlying59 rfl (by kernel_rfl) rfl (zj5 ((zhP (by omega)).trans V.o)) underlying3 ⟨_,rfl⟩,⟨_,HY.o,rfl⟩,(zeo aa (Nat.le_refl _) ..).setCell (Nat.le_succ _) _⟩
 |ok ts=>
  obtain⟨g,n,I,rfl,K⟩:=U;obtain rfl:n=ts.length:=K.2;rw[h] at K;have ac:=zk9 M;have HR:=zc M;have HC:Hid (zb2 ⟨ts,s.size,A⟩):=zxd M hs;have af:Hid (Mem ⟨ts,s.size,A⟩ g I (w.heap.size+1+1) S0 zcl N):=zkA K ac O;clear K M X h;go_wp2_with fail;have ae:IM ⟨ts,s.size,A⟩ g I (w.heap.size+1+1) N.heap.size S0 zcl (N.alloc (.cells #[.slice (some ⟨g,0,none⟩) ts.length I,.int .i64 0,.int .i64 s.size,.bool A,.slice none 0 0,.slice none 0 0,.slice none 0 0,.slice none 0 0,.slice none 0 0,.slice none 0 0] 222)):=⟨af.o.alloc _,hN0 N _,O⟩;have L:Below (w.heap.size+1+1) N (N.alloc (.cells #[.slice (some ⟨g,0,none⟩) ts.length I,.int .i64 0,.int .i64 s.size,.bool A,.slice none 0 0,.slice none 0 0,.slice none 0 0,.slice none 0 0,.slice none 0 0,.slice none 0 0] 222)):=(Below.refl _ _).alloc O _;refine (zxe _ g I _ _ S0 zcl _ ae HC.o).mono ?_;cases hp:za6 ⟨ts,s.size,A⟩ zcl with
  |error p=>
   rintro e w2 ⟨rfl,Y⟩;have HY:Hid (zbJ s A (.error p)):=⟨_,HR.o,hp.symm⟩;have ab:=aa.trans ((L.trans Y).mono (by omega));have J:Hid (w2.heap[w.heap.size]? =some (.cells #[.slice none 0 0,.slice none 0 0,.slice none 0 0,.slice none 0 0,.slice none 0 0] 59 (0,0))):=((L.trans Y).block _ (by omega)).trans Z.o;have H:Hid (w2.heap[w.heap.size+1]? =some (.cells #[.int .i64 0] 3 (0,0))):=((L.trans Y).block _ (by omega)).trans V.o;clear Y;unfold Pan;go_wp2;refine leaves_cons (f:=190) (args:=#[.pointer (some ⟨w.heap.size,0,none⟩),.pointer (some ⟨w.heap.size+1,0,none⟩)]) (by simp) (by simp[go_sem]) ?_;refine (zwz w.heap.size (w.heap.size+1) p _ _ _ _ _ _ _ J.o H.o (by omega)).mono ?_;rintro e u' w3 ⟨rfl,rfl,rfl⟩;exact⟨_,zj4 rfl _ _ w.heap.size (w.heap.size+1) 59 3 _ _ _ .i64 rfl ((zC (by omega)).trans (zdV J.o)) underlying59 rfl (by kernel_rfl) rfl (zj5 ((zhP (by omega)).trans H.o)) underlying3 ⟨_,rfl⟩,⟨_,HY.o,rfl⟩,(zeo ab (Nat.le_refl _) ..).setCell (Nat.le_succ _) _⟩
  |ok q=>
   rintro e w2 ⟨rfl,S2,om,⟨v0,v1,v2,v3,v9,ad⟩,Y⟩;have HY:Hid (zbJ s A (.ok q)):=⟨_,HR.o,hp.symm⟩;have ab:=aa.trans ((L.trans Y).mono (by omega));have J:Hid (w2.heap[w.heap.size]? =some (.cells #[.slice none 0 0,.slice none 0 0,.slice none 0 0,.slice none 0 0,.slice none 0 0] 59 (0,0))):=((L.trans Y).block _ (by omega)).trans Z.o;have H:Hid (w2.heap[w.heap.size+1]? =some (.cells #[.int .i64 0] 3 (0,0))):=((L.trans Y).block _ (by omega)).trans V.o;have HO:=zc om;clear Y om c0 c1 c2 c3 c4 cf d0 df;obtain⟨b0,X,b2,b3,b4,b5,b6,b7,b8,b9,bf⟩:=zan ad;clear ad;obtain⟨c0,c1,c2,c3,c4,cf⟩:=zl J.o;have d0:w2.cell? ⟨w.heap.size+1,0,none⟩=some (.int .i64 0):=by simp[World.cell?,H.o]
   have df:w2.frozen? ⟨w.heap.size+1,0,none⟩=false:=by simp[World.frozen?,H.o]
   go_wp2;refine leaves_cons (f:=190) (args:=#[.pointer (some ⟨w.heap.size,0,none⟩),.pointer (some ⟨w.heap.size+1,0,none⟩)]) (by simp) (by simp[go_sem]) ?_;refine (zwy w.heap.size (w.heap.size+1) _).mono ?_;rintro e u' w3 ⟨rfl,rfl,rfl⟩;refine⟨_,zj4 rfl _ _ w.heap.size (w.heap.size+1) 59 3 _ _ _ .i64 rfl ((zC (by omega)).trans (zdV J.o)) underlying59 rfl (by kernel_rfl) rfl (zj5 ((zhP (by omega)).trans H.o)) underlying3 ⟨_,rfl⟩,⟨_,HY.o,S2,by simp[zgX],?_⟩,(zeo ab (Nat.le_refl _) ..).setCell (Nat.le_succ _) _⟩;exact (HO.o.keepI fun k hk=>(zC (by omega)).trans (zhP (by omega))).lowI (by omega)
