/-
 What impl.Parse answers: the walk.
-/
import Derived.Test.YtgcbmogmniahjaaGreatCGrImplParseYToImplProgM
import Derived.Test.YtgcbmogmniahjaaGreatCGrImplCatch
import Derived.Test.YtgcbmogmniahjaaGreatCGrImplLex
namespace Go.Proofs.YtgcbmogmniahjaaGreat
set_option maxRecDepth 100000
set_option maxHeartbeats 3200000
open Go.RowKit Go.PlainAid Go.Sort
theorem ziq (s:ByteArray) (a b:Nat):(s.extract a b).size≤s.size:=by
 rw[ByteArray.size_extract]
 omega
theorem zu8 {s:ByteArray} {q:Bool} {a e:Nat} {t:Tk} (h:Tok s q a t e):t.text.size≤s.size:=by
 cases h using Tok.elim with
 |name h w=>exact ziq _ _ _
 |num h w=>exact Nat.zero_le _
 |str h w=>exact ziq _ _ _
 |sign h=>exact ziq _ _ _
theorem zu9 {s:ByteArray} {A:Bool} {a n:Nat} {r:Except Nat (List Tk)} (h:Lx s A a n r): ∀w,r= .ok w→∀t∈w,t.text.size≤s.size:=by
 induction h using Lx.ind with
 |done=>intro w z;cases z;intro t D;cases D
 |bad _ _=>intro w z;cases z
 | @tok a n e b t r h J D I z H=>
  intro w q
  cases r with
  |error p=>simp[Except.map] at q
  |ok l=>
   simp only[Except.map,Except.ok.injEq] at q
   subst q
   intro x E
   rcases List.mem_cons.1 E with rfl|E
   ·exact zu8 D
   ·exact H l rfl x E
theorem zuA {s:ByteArray} {w:Bool} {q:List Tk} (h:zai s w (.ok q)) (D:s.size≤4294967296):zbo ⟨q,s.size,w⟩:=by
 obtain⟨a,_,A⟩:=h
 intro i
 by_cases z:i<q.length
 ·have:ze ⟨q,s.size,w⟩ i∈q:=by
   rw[ze,List.getD,List.getElem?_eq_getElem z]
   exact List.getElem_mem z
  have:=zu9 A q rfl _ this
  omega
 ·rw[zdR (by show q.length≤i;omega)]
  exact Nat.zero_le _
theorem zir {P:Program} {E:Func} {p u:Tmp} {q A:TypeId} (h:E.results= #[.cell p q,.cell u A]) (tmps:Array Value) (w:World) (g z:Nat) (t K:TypeId) (D:Array Value) (v:Value) (d:TypeDesc) (k:IntKind)
  (J:tmps.getD p undef= .pointer (some ⟨g,0,none⟩)) (X:w.heap[g]? =some (.cells D t (0,0)))
  (V:P.underlying q=some d) (I:(match d with| .struct _| .array _ _=>true|_=>false)=true) (U:(P.info? q).map (·.size)=some D.size)
  (L:tmps.getD u undef= .pointer (some ⟨z,0,none⟩)) (H:w.heap[z]? =some (.cells #[v] K (0,0))) (Z:P.underlying A=some (.int k)) (M: ∃n,v= .int k n):
  (results E tmps).run P w= .ok (.tuple #[.agg D,v]) w:=by
 obtain⟨n,rfl⟩:=M
 have O:=run_loadVar_row w g t q D (0,0) d X V I U
 have N:(loadVar A ⟨z,0,none⟩).run P w= .ok (.int k n) w:=by
  have Y:w.cell? ⟨z,0,none⟩=some (.int k n):=by simp[World.cell?,H]
  simp[go_sem,isAgg,run_underlying Z,Y]
 have e:(results E tmps).run P w=((asAddr (tmps.getD p undef)).run P w).andThen fun a w₁=>((loadVar q a).run P w₁).andThen fun v w₂=>((asAddr (tmps.getD u undef)).run P w₂).andThen fun b w₃=>((loadVar A b).run P w₃).andThen fun x w₄=>.ok (.tuple #[v,x]) w₄:=by
  simp only[results,h]
  simp[Sem.run_bind,Result.andThen]
 rw[e,J,L]
 simp[asAddr,Result.andThen,O,N]
theorem zgP {w:World} {b k:Nat} {q A E D z:Value} (h:k≠b):(((((w.setCell ⟨b,0,none⟩ q).setCell ⟨b,1,none⟩ A).setCell ⟨b,2,none⟩ E).setCell ⟨b,3,none⟩ D).setCell ⟨b,4,none⟩ z).heap[k]? =w.heap[k]?:=by
 rw[zv h,zv h,zv h,zv h,zv h]
theorem zis {w:World} {b:Nat} {u v:Value} {t:TypeId} (h:w.heap[b]? =some (.cells #[v] t (0,0))):(w.setCell ⟨b,0,none⟩ u).heap[b]? =some (.cells #[u] t (0,0)):=(zab h).trans (by simp)
theorem OwnMod.keepI {w A:World} {base:Nat} {S:Sv} {q:PS} (h:OwnMod w base S q) (z: ∀k,base≤k→A.heap[k]? =w.heap[k]?):OwnMod A base S q:=
 ⟨h.rq.keep fun k g=>z k (h.rq.typed g).1,h.im.keep fun k g=>z k (h.im.typed g).1,h.ep.keep fun k g=>z k (h.ep.typed g).1,h.st.keep fun k g=>z k (h.st.typed g).1,h.ex.keep fun k g=>z k (h.ex.typed g).1,h.inv⟩
theorem OwnMod.lowI {w:World} {base z:Nat} {S:Sv} {q:PS} (h:OwnMod w base S q) (A:z≤base):OwnMod w z S q:=⟨h.rq.low A,h.im.low A,h.ep.low A,h.st.low A,h.ex.low A,h.inv⟩
theorem zuB (C:Cx) (D z base A:Nat) (S:Sv) (q:PS) (w:World) (h:IM C D z base A S q w) (H:zbo C):
  Calls Tryz.prog 169 #[.pointer (some ⟨A,0,none⟩)] w (zil base A (zay C q) w):=by
 cases E:C.scr with
 |true=>exact ztR C D z base A S q w h E
 |false=>exact ztS C D z base A S q w h H E
theorem zuC (s:ByteArray) (z:Bool) (w:World) (hs:s.size≤4294967296):
  Calls Tryz.prog 135 #[.string s,.bool z] w fun e w'=>ParseOut s z w e w'∧Below w.heap.size w w':=by
 have ae: ∀(fn:Fn) (first D:Array Value) (w:World),(Instr.makeFunc fn first D).run Tryz.prog w= .ok (.func fn first D) w:=fun _ _ _ _=>rfl
 go_enter_defers Tryz.func135,Tryz.ntmps135
 go_wp2_with fail
 refine (zu7 s z _ hs).mono ?_
 rintro e K ⟨⟨r1,J,M⟩,V⟩
 have h:((w.alloc (.cells #[.slice none 0 0,.slice none 0 0,.slice none 0 0,.slice none 0 0,.slice none 0 0] 54)).alloc (.cells #[.int .i64 0] 3)).heap.size=w.heap.size+1+1:=zcN w _ _
 have X:Below w.heap.size w K:=(zbd w _ _).trans (V.mono (by rw[h];omega))
 have U:Hid (K.heap[w.heap.size]? =some (.cells #[.slice none 0 0,.slice none 0 0,.slice none 0 0,.slice none 0 0,.slice none 0 0] 54 (0,0))):=(V.block _ (by rw[h];omega)).trans (zc9 (heap_alloc_new w _))
 have N:Hid (K.heap[w.heap.size+1]? =some (.cells #[.int .i64 0] 3 (0,0))):=(V.block _ (by rw[h];omega)).trans (new2 w _ _)
 have L:w.heap.size+1+1≤K.heap.size:=by have:=V.size;rw[h] at this;exact this
 rw[h] at V
 obtain⟨c0,c1,c2,c3,c4,cf⟩:=zj U.out
 have d0:K.cell? ⟨w.heap.size+1,0,none⟩=some (.int .i64 0):=by simp[World.cell?,N.out]
 have df:K.frozen? ⟨w.heap.size+1,0,none⟩=false:=by simp[World.frozen?,N.out]
 cases r1 with
 |error p=>
  subst M
  have HY:Hid (zb5 s z (.error p)):=⟨_,J,rfl⟩
  have dz:decide ((0:Int)≤(p:Int))=true:=decide_eq_true (by omega)
  clear J V h
  go_wp2
  exact⟨_,zir rfl _ _ w.heap.size (w.heap.size+1) 54 3 _ _ _ .i64 rfl ((zv (by omega)).trans (zdz U.out)) Tryz.underlying54 rfl (by kernel_rfl) rfl (zis ((zgP (by omega)).trans N.out)) Tryz.underlying3 ⟨_,rfl⟩,⟨_,HY.out,rfl⟩,(zdA X (Nat.le_refl _) ..).setCell (Nat.le_succ _) _⟩
 |ok Z=>
  obtain⟨g,n,D,rfl,H⟩:=M
  obtain rfl:n=Z.length:=H.2
  rw[h] at H
  have aa:=zjf J
  have HR:=zc J
  have HC:Hid (zbo ⟨Z,s.size,z⟩):=zuA J hs
  have ad:Hid (Mem ⟨Z,s.size,z⟩ g D (w.heap.size+1+1) S0 zbU K):=zjg H aa L
  clear H J V h
  go_wp2_with fail
  have ac:IM ⟨Z,s.size,z⟩ g D (w.heap.size+1+1) K.heap.size S0 zbU (K.alloc (.cells #[.slice (some ⟨g,0,none⟩) Z.length D,.int .i64 0,.int .i64 s.size,.bool z,.slice none 0 0,.slice none 0 0,.slice none 0 0,.slice none 0 0,.slice none 0 0,.slice none 0 0] 211)):=⟨ad.out.alloc _,heap_alloc_new K _,L⟩
  have I:Below (w.heap.size+1+1) K (K.alloc (.cells #[.slice (some ⟨g,0,none⟩) Z.length D,.int .i64 0,.int .i64 s.size,.bool z,.slice none 0 0,.slice none 0 0,.slice none 0 0,.slice none 0 0,.slice none 0 0,.slice none 0 0] 211)):=(Below.refl _ _).alloc L _
  refine (zuB _ g D _ _ S0 zbU _ ac HC.out).mono ?_
  cases hp:zay ⟨Z,s.size,z⟩ zbU with
  |error p=>
   rintro e w2 ⟨rfl,O⟩
   have HY:Hid (zb5 s z (.error p)):=⟨_,HR.out,hp.symm⟩
   have Y:=X.trans ((I.trans O).mono (by omega))
   have E:Hid (w2.heap[w.heap.size]? =some (.cells #[.slice none 0 0,.slice none 0 0,.slice none 0 0,.slice none 0 0,.slice none 0 0] 54 (0,0))):=((I.trans O).block _ (by omega)).trans U.out
   have A:Hid (w2.heap[w.heap.size+1]? =some (.cells #[.int .i64 0] 3 (0,0))):=((I.trans O).block _ (by omega)).trans N.out
   clear O
   unfold Pan
   go_wp2
   refine leaves_cons (f:=168) (args:=#[.pointer (some ⟨w.heap.size,0,none⟩),.pointer (some ⟨w.heap.size+1,0,none⟩)]) (by simp) (by simp[go_sem]) ?_
   refine (ztW w.heap.size (w.heap.size+1) p _ _ _ _ _ _ _ E.out A.out (by omega)).mono ?_
   rintro e u' w3 ⟨rfl,rfl,rfl⟩
   exact⟨_,zir rfl _ _ w.heap.size (w.heap.size+1) 54 3 _ _ _ .i64 rfl ((zv (by omega)).trans (zdz E.out)) Tryz.underlying54 rfl (by kernel_rfl) rfl (zis ((zgP (by omega)).trans A.out)) Tryz.underlying3 ⟨_,rfl⟩,⟨_,HY.out,rfl⟩,(zdA Y (Nat.le_refl _) ..).setCell (Nat.le_succ _) _⟩
  |ok q=>
   rintro e w2 ⟨rfl,S2,om,⟨v0,v1,v2,v3,v9,ab⟩,O⟩
   have HY:Hid (zb5 s z (.ok q)):=⟨_,HR.out,hp.symm⟩
   have Y:=X.trans ((I.trans O).mono (by omega))
   have E:Hid (w2.heap[w.heap.size]? =some (.cells #[.slice none 0 0,.slice none 0 0,.slice none 0 0,.slice none 0 0,.slice none 0 0] 54 (0,0))):=((I.trans O).block _ (by omega)).trans U.out
   have A:Hid (w2.heap[w.heap.size+1]? =some (.cells #[.int .i64 0] 3 (0,0))):=((I.trans O).block _ (by omega)).trans N.out
   have HO:=zc om
   clear O om c0 c1 c2 c3 c4 cf d0 df
   obtain⟨b0,V,b2,b3,b4,b5,b6,b7,b8,b9,bf⟩:=zag ab
   clear ab
   obtain⟨c0,c1,c2,c3,c4,cf⟩:=zj E.out
   have d0:w2.cell? ⟨w.heap.size+1,0,none⟩=some (.int .i64 0):=by simp[World.cell?,A.out]
   have df:w2.frozen? ⟨w.heap.size+1,0,none⟩=false:=by simp[World.frozen?,A.out]
   go_wp2
   refine leaves_cons (f:=168) (args:=#[.pointer (some ⟨w.heap.size,0,none⟩),.pointer (some ⟨w.heap.size+1,0,none⟩)]) (by simp) (by simp[go_sem]) ?_
   refine (ztV w.heap.size (w.heap.size+1) _).mono ?_
   rintro e u' w3 ⟨rfl,rfl,rfl⟩
   refine⟨_,zir rfl _ _ w.heap.size (w.heap.size+1) 54 3 _ _ _ .i64 rfl ((zv (by omega)).trans (zdz E.out)) Tryz.underlying54 rfl (by kernel_rfl) rfl (zis ((zgP (by omega)).trans A.out)) Tryz.underlying3 ⟨_,rfl⟩,⟨_,HY.out,S2,by simp[zga],?_⟩,(zdA Y (Nat.le_refl _) ..).setCell (Nat.le_succ _) _⟩
   exact (HO.out.keepI fun k hk=>(zv (by omega)).trans (zgP (by omega))).lowI (by omega)
end Go.Proofs.YtgcbmogmniahjaaGreat