/-
 What impl.Parse answers: the walk.
-/
import Derived.Test.YthfeoomfiafldaaGreatCdImplParseYToImplProgM
import Derived.Test.YthfeoomfiafldaaGreatCdImplCatch
import Derived.Test.YthfeoomfiafldaaGreatCdImplLex
namespace Go.Proofs.YthfeoomfiafldaaGreat
set_option maxRecDepth 100000
set_option maxHeartbeats 3200000
open Go.RowKit Go.PlainAid Go.Sort
theorem zjb (s:ByteArray) (a b:Nat):(s.extract a b).size≤s.size:=by
 rw[ByteArray.size_extract]
 omega
theorem zum {s:ByteArray} {scr:Bool} {a e:Nat} {t:Tk} (h:Tok s scr a t e):t.text.size≤s.size:=by
 cases h using Tok.elim with
 |name h j=>exact zjb _ _ _
 |num h j=>exact Nat.zero_le _
 |str h j=>exact zjb _ _ _
 |sign h=>exact zjb _ _ _
theorem zun {s:ByteArray} {scr:Bool} {a n:Nat} {r:Except Nat (List Tk)} (h:Lx s scr a n r): ∀o,r= .ok o→∀t∈o,t.text.size≤s.size:=by
 induction h using Lx.ind with
 |done=>intro o z;cases z;intro t D;cases D
 |bad _ _=>intro o z;cases z
 | @tok a n e b t r h I D J z H=>
  intro o j
  cases r with
  |error p=>simp[Except.map] at j
  |ok l=>
   simp only[Except.map,Except.ok.injEq] at j
   subst j
   intro x E
   rcases List.mem_cons.1 E with rfl|E
   ·exact zum D
   ·exact H l rfl x E
theorem zuo {s:ByteArray} {scr:Bool} {j:List Tk} (h:zY s scr (.ok j)) (D:s.size≤4294967296):zb0 ⟨j,s.size,scr⟩:=by
 obtain⟨a,_,z⟩:=h
 intro i
 by_cases o:i<j.length
 ·have:zf ⟨j,s.size,scr⟩ i∈j:=by
   rw[zf,List.getD,List.getElem?_eq_getElem o]
   exact List.getElem_mem o
  have:=zun z j rfl _ this
  omega
 ·rw[zcT (by show j.length≤i;omega)]
  exact Nat.zero_le _
theorem zjc {P:Program} {D:Func} {p u:Tmp} {j o:TypeId} (h:D.results= #[.cell p j,.cell u o]) (tmps:Array Value) (w:World) (g z:Nat) (t H:TypeId) (cs:Array Value) (v:Value) (d:TypeDesc) (k:IntKind)
  (N:tmps.getD p undef= .pointer (some ⟨g,0,none⟩)) (K:w.heap[g]? =some (.cells cs t (0,0)))
  (Q:P.underlying j=some d) (hd:(match d with| .struct _| .array _ _=>true|_=>false)=true) (V:(P.info? j).map (·.size)=some cs.size)
  (I:tmps.getD u undef= .pointer (some ⟨z,0,none⟩)) (E:w.heap[z]? =some (.cells #[v] H (0,0))) (U:P.underlying o=some (.int k)) (J: ∃n,v= .int k n):
  (results D tmps).run P w= .ok (.tuple #[.agg cs,v]) w:=by
 obtain⟨n,rfl⟩:=J
 have O:=run_loadVar_row w g t j cs (0,0) d K Q hd V
 have M:(loadVar o ⟨z,0,none⟩).run P w= .ok (.int k n) w:=by
  have L:w.cell? ⟨z,0,none⟩=some (.int k n):=by simp[World.cell?,E]
  simp[go_sem,isAgg,run_underlying U,L]
 have e:(results D tmps).run P w=((asAddr (tmps.getD p undef)).run P w).andThen fun a w₁=>((loadVar j a).run P w₁).andThen fun v w₂=>((asAddr (tmps.getD u undef)).run P w₂).andThen fun b w₃=>((loadVar o b).run P w₃).andThen fun x w₄=>.ok (.tuple #[v,x]) w₄:=by
  simp only[results,h]
  simp[Sem.run_bind,Result.andThen]
 rw[e,N,I]
 simp[asAddr,Result.andThen,O,M]
theorem zhp {w:World} {b k:Nat} {D z o E j:Value} (h:k≠b):(((((w.setCell ⟨b,0,none⟩ D).setCell ⟨b,1,none⟩ z).setCell ⟨b,2,none⟩ o).setCell ⟨b,3,none⟩ E).setCell ⟨b,4,none⟩ j).heap[k]? =w.heap[k]?:=by
 rw[zx h,zx h,zx h,zx h,zx h]
theorem zjd {w:World} {b:Nat} {u v:Value} {t:TypeId} (h:w.heap[b]? =some (.cells #[v] t (0,0))):(w.setCell ⟨b,0,none⟩ u).heap[b]? =some (.cells #[u] t (0,0)):=(zbf h).trans (by simp)
theorem OwnMod.keepI {w z:World} {j:Nat} {S:Sv} {q:PS} (h:OwnMod w j S q) (o: ∀k,j≤k→z.heap[k]? =w.heap[k]?):OwnMod z j S q:=
 ⟨h.rq.keep fun k g=>o k (h.rq.typed g).1,h.im.keep fun k g=>o k (h.im.typed g).1,h.ep.keep fun k g=>o k (h.ep.typed g).1,h.st.keep fun k g=>o k (h.st.typed g).1,h.ex.keep fun k g=>o k (h.ex.typed g).1,h.inv⟩
theorem OwnMod.lowI {w:World} {o j:Nat} {S:Sv} {q:PS} (h:OwnMod w o S q) (z:j≤o):OwnMod w j S q:=⟨h.rq.low z,h.im.low z,h.ep.low z,h.st.low z,h.ex.low z,h.inv⟩
theorem zup (C:Cx) (D o j z:Nat) (S:Sv) (q:PS) (w:World) (h:IM C D o j z S q w) (H:zb0 C):
  Calls Tryz.prog 20 #[.pointer (some ⟨z,0,none⟩)] w (ziX j z (zM C q) w):=by
 cases E:C.scr with
 |true=>exact zt5 C D o j z S q w h E
 |false=>exact zt6 C D o j z S q w h H E
theorem zhq (s:ByteArray) (scr:Bool) (w:World) (hs:s.size≤4294967296):
  Calls Tryz.prog 6 #[.string s,.bool scr] w fun e w'=>ParseOut s scr w e w'∧Below w.heap.size w w':=by
 have ad: ∀(fn:Fn) (first D:Array Value) (w:World),(Instr.makeFunc fn first D).run Tryz.prog w= .ok (.func fn first D) w:=fun _ _ _ _=>rfl
 go_enter_defers Tryz.func6,Tryz.ntmps6
 go_wp2_with fail
 refine (zul s scr _ hs).mono ?_
 rintro e J ⟨⟨r1,I,K⟩,U⟩
 have j:((w.alloc (.cells #[.slice none 0 0,.slice none 0 0,.slice none 0 0,.slice none 0 0,.slice none 0 0] 32)).alloc (.cells #[.int .i64 0] 3)).heap.size=w.heap.size+1+1:=zcG w _ _
 have Y:Hid (Below w.heap.size w J):=(zcD w _ _).trans (U.mono (by rw[j];omega))
 have O:Hid (J.heap[w.heap.size]? =some (.cells #[.slice none 0 0,.slice none 0 0,.slice none 0 0,.slice none 0 0,.slice none 0 0] 32 (0,0))):=(U.block _ (by rw[j];omega)).trans (zjF (heap_alloc_new w _))
 have L:Hid (J.heap[w.heap.size+1]? =some (.cells #[.int .i64 0] 3 (0,0))):=(U.block _ (by rw[j];omega)).trans (zdz w _ _)
 have M:w.heap.size+1+1≤J.heap.size:=by have:=U.size;rw[j] at this;exact this
 rw[j] at U
 obtain⟨c0,c1,c2,c3,c4,cf⟩:=zaa O.out
 have d0:J.cell? ⟨w.heap.size+1,0,none⟩=some (.int .i64 0):=by simp[World.cell?,L.out]
 have df:J.frozen? ⟨w.heap.size+1,0,none⟩=false:=by simp[World.frozen?,L.out]
 cases r1 with
 |error p=>
  subst K
  have HY:Hid (za8 s scr (.error p)):=⟨_,I,rfl⟩
  have dz:decide ((0:Int)≤(p:Int))=true:=decide_eq_true (by omega)
  clear I U j
  go_wp2
  exact⟨_,zjc rfl _ _ w.heap.size (w.heap.size+1) 32 3 _ _ _ .i64 rfl ((zx (by omega)).trans (zei O.out)) Tryz.underlying32 rfl (by kernel_rfl) rfl (zjd ((zhp (by omega)).trans L.out)) Tryz.underlying3 ⟨_,rfl⟩,⟨_,HY.out,rfl⟩,(zej Y.out (Nat.le_refl _) ..).setCell (Nat.le_succ _) _⟩
 |ok X=>
  obtain⟨g,n,D,rfl,E⟩:=K
  obtain rfl:n=X.length:=E.2
  rw[j] at E
  have aa:=zg0 I
  have HR:=zc I
  have HC:Hid (zb0 ⟨X,s.size,scr⟩):=zuo I hs
  have ab:Hid (Mem ⟨X,s.size,scr⟩ g D (w.heap.size+1+1) S0 startP J):=zjC E aa M
  clear E I U j
  go_wp2_with fail
  have ac:Hid (IM ⟨X,s.size,scr⟩ g D (w.heap.size+1+1) J.heap.size S0 startP (J.alloc (.cells #[.slice (some ⟨g,0,none⟩) X.length D,.int .i64 0,.int .i64 s.size,.bool scr,.slice none 0 0,.slice none 0 0,.slice none 0 0,.slice none 0 0,.slice none 0 0,.slice none 0 0] 53))):=⟨ab.out.alloc _,heap_alloc_new J _,M⟩
  have H:Hid (Below (w.heap.size+1+1) J (J.alloc (.cells #[.slice (some ⟨g,0,none⟩) X.length D,.int .i64 0,.int .i64 s.size,.bool scr,.slice none 0 0,.slice none 0 0,.slice none 0 0,.slice none 0 0,.slice none 0 0,.slice none 0 0] 53))):=(Below.refl _ _).alloc M _
  refine (zup _ g D _ _ S0 startP _ ac.out HC.out).mono ?_
  cases hp:zM ⟨X,s.size,scr⟩ startP with
  |error p=>
   rintro e Q ⟨rfl,N⟩
   have HY:Hid (za8 s scr (.error p)):=⟨_,HR.out,hp.symm⟩
   have V:Hid (Below w.heap.size w Q):=Y.out.trans ((H.out.trans N).mono (by omega))
   have z:Hid (Q.heap[w.heap.size]? =some (.cells #[.slice none 0 0,.slice none 0 0,.slice none 0 0,.slice none 0 0,.slice none 0 0] 32 (0,0))):=((H.out.trans N).block _ (by omega)).trans O.out
   have o:Hid (Q.heap[w.heap.size+1]? =some (.cells #[.int .i64 0] 3 (0,0))):=((H.out.trans N).block _ (by omega)).trans L.out
   clear N
   unfold Pan
   go_wp2
   refine leaves_cons (f:=19) (args:=#[.pointer (some ⟨w.heap.size,0,none⟩),.pointer (some ⟨w.heap.size+1,0,none⟩)]) (by simp) (by simp[go_sem]) ?_
   refine (ztA w.heap.size (w.heap.size+1) p _ _ _ _ _ _ _ z.out o.out (by omega)).mono ?_
   rintro e u' w3 ⟨rfl,rfl,rfl⟩
   exact⟨_,zjc rfl _ _ w.heap.size (w.heap.size+1) 32 3 _ _ _ .i64 rfl ((zx (by omega)).trans (zei z.out)) Tryz.underlying32 rfl (by kernel_rfl) rfl (zjd ((zhp (by omega)).trans o.out)) Tryz.underlying3 ⟨_,rfl⟩,⟨_,HY.out,rfl⟩,(zej V.out (Nat.le_refl _) ..).setCell (Nat.le_succ _) _⟩
  |ok q=>
   rintro e Q ⟨rfl,S2,om,⟨v0,v1,v2,v3,v9,Z⟩,N⟩
   have HY:Hid (za8 s scr (.ok q)):=⟨_,HR.out,hp.symm⟩
   have V:Hid (Below w.heap.size w Q):=Y.out.trans ((H.out.trans N).mono (by omega))
   have z:Hid (Q.heap[w.heap.size]? =some (.cells #[.slice none 0 0,.slice none 0 0,.slice none 0 0,.slice none 0 0,.slice none 0 0] 32 (0,0))):=((H.out.trans N).block _ (by omega)).trans O.out
   have o:Hid (Q.heap[w.heap.size+1]? =some (.cells #[.int .i64 0] 3 (0,0))):=((H.out.trans N).block _ (by omega)).trans L.out
   have HO:=zc om
   clear N om c0 c1 c2 c3 c4 cf d0 df
   obtain⟨b0,U,b2,b3,b4,b5,b6,b7,b8,b9,bf⟩:=zag Z
   clear Z
   obtain⟨c0,c1,c2,c3,c4,cf⟩:=zaa z.out
   have d0:Q.cell? ⟨w.heap.size+1,0,none⟩=some (.int .i64 0):=by simp[World.cell?,o.out]
   have df:Q.frozen? ⟨w.heap.size+1,0,none⟩=false:=by simp[World.frozen?,o.out]
   go_wp2
   refine leaves_cons (f:=19) (args:=#[.pointer (some ⟨w.heap.size,0,none⟩),.pointer (some ⟨w.heap.size+1,0,none⟩)]) (by simp) (by simp[go_sem]) ?_
   refine (zt9 w.heap.size (w.heap.size+1) _).mono ?_
   rintro e u' w3 ⟨rfl,rfl,rfl⟩
   refine⟨_,zjc rfl _ _ w.heap.size (w.heap.size+1) 32 3 _ _ _ .i64 rfl ((zx (by omega)).trans (zei z.out)) Tryz.underlying32 rfl (by kernel_rfl) rfl (zjd ((zhp (by omega)).trans o.out)) Tryz.underlying3 ⟨_,rfl⟩,⟨_,HY.out,S2,by simp[zg1],?_⟩,(zej V.out (Nat.le_refl _) ..).setCell (Nat.le_succ _) _⟩
   exact (HO.out.keepI fun k hk=>(zx (by omega)).trans (zhp (by omega))).lowI (by omega)
end Go.Proofs.YthfeoomfiafldaaGreat