/-
 What impl.Parse answers: the walk.
-/
import Derived.Test.YtcidlffeeninbaaGreatClImplParseYToImplProgM
import Derived.Test.YtcidlffeeninbaaGreatClImplCatch
import Derived.Test.YtcidlffeeninbaaGreatClImplLex
namespace Go.Proofs.YtcidlffeeninbaaGreat
set_option maxRecDepth 100000
set_option maxHeartbeats 3200000
open Go.RowKit Go.PlainAid Go.Sort
theorem zii (s:ByteArray) (a b:Nat):(s.extract a b).size≤s.size:=by
 rw[ByteArray.size_extract]
 omega
theorem zum {s:ByteArray} {q:Bool} {a e:Nat} {t:Tk} (h:Tok s q a t e):t.text.size≤s.size:=by
 cases h using Tok.elim with
 |name h w=>exact zii _ _ _
 |num h w=>exact Nat.zero_le _
 |str h w=>exact zii _ _ _
 |sign h=>exact zii _ _ _
theorem zun {s:ByteArray} {E:Bool} {a n:Nat} {r:Except Nat (List Tk)} (h:Lx s E a n r): ∀w,r= .ok w→∀t∈w,t.text.size≤s.size:=by
 induction h using Lx.ind with
 |done=>intro w z;cases z;intro t D;cases D
 |bad _ _=>intro w z;cases z
 | @tok a n e b t r h I D J z H=>
  intro w q
  cases r with
  |error p=>simp[Except.map] at q
  |ok l=>
   simp only[Except.map,Except.ok.injEq] at q
   subst q
   intro x A
   rcases List.mem_cons.1 A with rfl|A
   ·exact zum D
   ·exact H l rfl x A
theorem zuo {s:ByteArray} {w:Bool} {q:List Tk} (h:zaj s w (.ok q)) (D:s.size≤4294967296):zbm ⟨q,s.size,w⟩:=by
 obtain⟨a,_,A⟩:=h
 intro i
 by_cases z:i<q.length
 ·have:ze ⟨q,s.size,w⟩ i∈q:=by
   rw[ze,List.getD,List.getElem?_eq_getElem z]
   exact List.getElem_mem z
  have:=zun A q rfl _ this
  omega
 ·rw[zdP (by show q.length≤i;omega)]
  exact Nat.zero_le _
theorem zij {P:Program} {E:Func} {p u:Tmp} {q z:TypeId} (h:E.results= #[.cell p q,.cell u z]) (tmps:Array Value) (w:World) (g A:Nat) (t K:TypeId) (D:Array Value) (v:Value) (d:TypeDesc) (k:IntKind)
  (I:tmps.getD p undef= .pointer (some ⟨g,0,none⟩)) (V:w.heap[g]? =some (.cells D t (0,0)))
  (O:P.underlying q=some d) (L:(match d with| .struct _| .array _ _=>true|_=>false)=true) (Z:(P.info? q).map (·.size)=some D.size)
  (U:tmps.getD u undef= .pointer (some ⟨A,0,none⟩)) (H:w.heap[A]? =some (.cells #[v] K (0,0))) (Y:P.underlying z=some (.int k)) (J: ∃n,v= .int k n):
  (results E tmps).run P w= .ok (.tuple #[.agg D,v]) w:=by
 obtain⟨n,rfl⟩:=J
 have M:=run_loadVar_row w g t q D (0,0) d V O L Z
 have X:(loadVar z ⟨A,0,none⟩).run P w= .ok (.int k n) w:=by
  have N:w.cell? ⟨A,0,none⟩=some (.int k n):=by simp[World.cell?,H]
  simp[go_sem,isAgg,run_underlying Y,N]
 have e:(results E tmps).run P w=((asAddr (tmps.getD p undef)).run P w).andThen fun a w₁=>((loadVar q a).run P w₁).andThen fun v w₂=>((asAddr (tmps.getD u undef)).run P w₂).andThen fun b w₃=>((loadVar z b).run P w₃).andThen fun x w₄=>.ok (.tuple #[v,x]) w₄:=by
  simp only[results,h]
  simp[Sem.run_bind,Result.andThen]
 rw[e,I,U]
 simp[asAddr,Result.andThen,M,X]
theorem zgK {w:World} {b k:Nat} {q E z D A:Value} (h:k≠b):(((((w.setCell ⟨b,0,none⟩ q).setCell ⟨b,1,none⟩ E).setCell ⟨b,2,none⟩ z).setCell ⟨b,3,none⟩ D).setCell ⟨b,4,none⟩ A).heap[k]? =w.heap[k]?:=by
 rw[zv h,zv h,zv h,zv h,zv h]
theorem zik {w:World} {b:Nat} {u v:Value} {t:TypeId} (h:w.heap[b]? =some (.cells #[v] t (0,0))):(w.setCell ⟨b,0,none⟩ u).heap[b]? =some (.cells #[u] t (0,0)):=(zag h).trans (by simp)
theorem OwnMod.keepI {w D:World} {z:Nat} {S:Sv} {q:PS} (h:OwnMod w z S q) (A: ∀k,z≤k→D.heap[k]? =w.heap[k]?):OwnMod D z S q:=
 ⟨h.rq.keep fun k g=>A k (h.rq.typed g).1,h.im.keep fun k g=>A k (h.im.typed g).1,h.ep.keep fun k g=>A k (h.ep.typed g).1,h.st.keep fun k g=>A k (h.st.typed g).1,h.ex.keep fun k g=>A k (h.ex.typed g).1,h.inv⟩
theorem OwnMod.lowI {w:World} {A z:Nat} {S:Sv} {q:PS} (h:OwnMod w A S q) (D:z≤A):OwnMod w z S q:=⟨h.rq.low D,h.im.low D,h.ep.low D,h.st.low D,h.ex.low D,h.inv⟩
theorem zup (C:Cx) (E A z D:Nat) (S:Sv) (q:PS) (w:World) (h:IM C E A z D S q w) (I:zbm C):
  Calls Tryz.prog 110 #[.pointer (some ⟨D,0,none⟩)] w (zie z D (zaz C q) w):=by
 cases H:C.scr with
 |true=>exact zt5 C E A z D S q w h H
 |false=>exact zt6 C E A z D S q w h I H
theorem zuq (s:ByteArray) (z:Bool) (w:World) (hs:s.size≤4294967296):
  Calls Tryz.prog 68 #[.string s,.bool z] w fun e w'=>ParseOut s z w e w'∧Below w.heap.size w w':=by
 have ae: ∀(fn:Fn) (first E:Array Value) (w:World),(Instr.makeFunc fn first E).run Tryz.prog w= .ok (.func fn first E) w:=fun _ _ _ _=>rfl
 go_enter_defers Tryz.func68,Tryz.ntmps68
 go_wp2_with fail
 refine (zul s z _ hs).mono ?_
 rintro e K ⟨⟨r1,I,L⟩,X⟩
 have h:((w.alloc (.cells #[.slice none 0 0,.slice none 0 0,.slice none 0 0,.slice none 0 0,.slice none 0 0] 48)).alloc (.cells #[.int .i64 0] 3)).heap.size=w.heap.size+1+1:=zcN w _ _
 have Z:Hid (Below w.heap.size w K):=(zbc w _ _).trans (X.mono (by rw[h];omega))
 have U:Hid (K.heap[w.heap.size]? =some (.cells #[.slice none 0 0,.slice none 0 0,.slice none 0 0,.slice none 0 0,.slice none 0 0] 48 (0,0))):=(X.block _ (by rw[h];omega)).trans (zcA (heap_alloc_new w _))
 have M:Hid (K.heap[w.heap.size+1]? =some (.cells #[.int .i64 0] 3 (0,0))):=(X.block _ (by rw[h];omega)).trans (new2 w _ _)
 have N:w.heap.size+1+1≤K.heap.size:=by have:=X.size;rw[h] at this;exact this
 rw[h] at X
 obtain⟨c0,c1,c2,c3,c4,cf⟩:=zk U.out
 have d0:K.cell? ⟨w.heap.size+1,0,none⟩=some (.int .i64 0):=by simp[World.cell?,M.out]
 have df:K.frozen? ⟨w.heap.size+1,0,none⟩=false:=by simp[World.frozen?,M.out]
 cases r1 with
 |error p=>
  subst L
  have HY:Hid (zbF s z (.error p)):=⟨_,I,rfl⟩
  have dz:decide ((0:Int)≤(p:Int))=true:=decide_eq_true (by omega)
  clear I X h
  go_wp2
  exact⟨_,zij rfl _ _ w.heap.size (w.heap.size+1) 48 3 _ _ _ .i64 rfl ((zv (by omega)).trans (zd9 U.out)) Tryz.underlying48 rfl (by kernel_rfl) rfl (zik ((zgK (by omega)).trans M.out)) Tryz.underlying3 ⟨_,rfl⟩,⟨_,HY.out,rfl⟩,(zdU Z.out (Nat.le_refl _) ..).setCell (Nat.le_succ _) _⟩
 |ok ts=>
  obtain⟨g,n,E,rfl,H⟩:=L
  obtain rfl:n=ts.length:=H.2
  rw[h] at H
  have ab:=ziR I
  have HR:=zc I
  have HC:Hid (zbm ⟨ts,s.size,z⟩):=zuo I hs
  have ad:Hid (Mem ⟨ts,s.size,z⟩ g E (w.heap.size+1+1) S0 zbQ K):=ziS H ab N
  clear H I X h
  go_wp2_with fail
  have ac:Hid (IM ⟨ts,s.size,z⟩ g E (w.heap.size+1+1) K.heap.size S0 zbQ (K.alloc (.cells #[.slice (some ⟨g,0,none⟩) ts.length E,.int .i64 0,.int .i64 s.size,.bool z,.slice none 0 0,.slice none 0 0,.slice none 0 0,.slice none 0 0,.slice none 0 0,.slice none 0 0] 164))):=⟨ad.out.alloc _,heap_alloc_new K _,N⟩
  have J:Hid (Below (w.heap.size+1+1) K (K.alloc (.cells #[.slice (some ⟨g,0,none⟩) ts.length E,.int .i64 0,.int .i64 s.size,.bool z,.slice none 0 0,.slice none 0 0,.slice none 0 0,.slice none 0 0,.slice none 0 0,.slice none 0 0] 164))):=(Below.refl _ _).alloc N _
  refine (zup _ g E _ _ S0 zbQ _ ac.out HC.out).mono ?_
  cases hp:zaz ⟨ts,s.size,z⟩ zbQ with
  |error p=>
   rintro e V ⟨rfl,O⟩
   have HY:Hid (zbF s z (.error p)):=⟨_,HR.out,hp.symm⟩
   have Y:Hid (Below w.heap.size w V):=Z.out.trans ((J.out.trans O).mono (by omega))
   have D:Hid (V.heap[w.heap.size]? =some (.cells #[.slice none 0 0,.slice none 0 0,.slice none 0 0,.slice none 0 0,.slice none 0 0] 48 (0,0))):=((J.out.trans O).block _ (by omega)).trans U.out
   have A:Hid (V.heap[w.heap.size+1]? =some (.cells #[.int .i64 0] 3 (0,0))):=((J.out.trans O).block _ (by omega)).trans M.out
   clear O
   unfold Pan
   go_wp2
   refine leaves_cons (f:=109) (args:=#[.pointer (some ⟨w.heap.size,0,none⟩),.pointer (some ⟨w.heap.size+1,0,none⟩)]) (by simp) (by simp[go_sem]) ?_
   refine (ztA w.heap.size (w.heap.size+1) p _ _ _ _ _ _ _ D.out A.out (by omega)).mono ?_
   rintro e u' w3 ⟨rfl,rfl,rfl⟩
   exact⟨_,zij rfl _ _ w.heap.size (w.heap.size+1) 48 3 _ _ _ .i64 rfl ((zv (by omega)).trans (zd9 D.out)) Tryz.underlying48 rfl (by kernel_rfl) rfl (zik ((zgK (by omega)).trans A.out)) Tryz.underlying3 ⟨_,rfl⟩,⟨_,HY.out,rfl⟩,(zdU Y.out (Nat.le_refl _) ..).setCell (Nat.le_succ _) _⟩
  |ok q=>
   rintro e V ⟨rfl,S2,om,⟨v0,v1,v2,v3,v9,aa⟩,O⟩
   have HY:Hid (zbF s z (.ok q)):=⟨_,HR.out,hp.symm⟩
   have Y:Hid (Below w.heap.size w V):=Z.out.trans ((J.out.trans O).mono (by omega))
   have D:Hid (V.heap[w.heap.size]? =some (.cells #[.slice none 0 0,.slice none 0 0,.slice none 0 0,.slice none 0 0,.slice none 0 0] 48 (0,0))):=((J.out.trans O).block _ (by omega)).trans U.out
   have A:Hid (V.heap[w.heap.size+1]? =some (.cells #[.int .i64 0] 3 (0,0))):=((J.out.trans O).block _ (by omega)).trans M.out
   have HO:=zc om
   clear O om c0 c1 c2 c3 c4 cf d0 df
   obtain⟨b0,X,b2,b3,b4,b5,b6,b7,b8,b9,bf⟩:=zah aa
   clear aa
   obtain⟨c0,c1,c2,c3,c4,cf⟩:=zk D.out
   have d0:V.cell? ⟨w.heap.size+1,0,none⟩=some (.int .i64 0):=by simp[World.cell?,A.out]
   have df:V.frozen? ⟨w.heap.size+1,0,none⟩=false:=by simp[World.frozen?,A.out]
   go_wp2
   refine leaves_cons (f:=109) (args:=#[.pointer (some ⟨w.heap.size,0,none⟩),.pointer (some ⟨w.heap.size+1,0,none⟩)]) (by simp) (by simp[go_sem]) ?_
   refine (zt9 w.heap.size (w.heap.size+1) _).mono ?_
   rintro e u' w3 ⟨rfl,rfl,rfl⟩
   refine⟨_,zij rfl _ _ w.heap.size (w.heap.size+1) 48 3 _ _ _ .i64 rfl ((zv (by omega)).trans (zd9 D.out)) Tryz.underlying48 rfl (by kernel_rfl) rfl (zik ((zgK (by omega)).trans A.out)) Tryz.underlying3 ⟨_,rfl⟩,⟨_,HY.out,S2,by simp[zfX],?_⟩,(zdU Y.out (Nat.le_refl _) ..).setCell (Nat.le_succ _) _⟩
   exact (HO.out.keepI fun k hk=>(zv (by omega)).trans (zgK (by omega))).lowI (by omega)
end Go.Proofs.YtcidlffeeninbaaGreat