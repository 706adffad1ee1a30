/-
 What impl.Parse answers: the walk.
-/
import Derived.Test.YtgcbmogmniahjaaGreatCAcImplParseYToImplProgM
import Derived.Test.YtgcbmogmniahjaaGreatCAcImplCatch
import Derived.Test.YtgcbmogmniahjaaGreatCAcImplLex
namespace Go.Proofs.YtgcbmogmniahjaaGreat
set_option maxRecDepth 100000
set_option maxHeartbeats 3200000
open Go.RowKit Go.PlainAid Go.Sort
theorem zi6 (s:ByteArray) (a b:Nat):(s.extract a b).size≤s.size:=by
 rw[ByteArray.size_extract]
 omega
theorem zuX {s:ByteArray} {q:Bool} {a e:Nat} {t:Tk} (h:Tok s q a t e):t.text.size≤s.size:=by
 cases h using Tok.elim with
 |name h w=>exact zi6 _ _ _
 |num h w=>exact Nat.zero_le _
 |str h w=>exact zi6 _ _ _
 |sign h=>exact zi6 _ _ _
theorem zuY {s:ByteArray} {A:Bool} {a n:Nat} {r:Except Nat (List Tk)} (h:Lx s A a n r): ∀w,r= .ok w→∀t∈w,t.text.size≤s.size:=by
 induction h using Lx.ind with
 |done=>intro w z;cases z;intro t H;cases H
 |bad _ _=>intro w z;cases z
 | @tok a n e b t r h L H K z J=>
  intro w q
  cases r with
  |error p=>simp[Except.map] at q
  |ok l=>
   simp only[Except.map,Except.ok.injEq] at q
   subst q
   intro x I
   rcases List.mem_cons.1 I with rfl|I
   ·exact zuX H
   ·exact J l rfl x I
theorem zuZ {s:ByteArray} {w:Bool} {q:List Tk} (h:zak s w (.ok q)) (H:s.size≤4294967296):zbr ⟨q,s.size,w⟩:=by
 obtain⟨a,_,A⟩:=h
 intro i
 by_cases z:i<q.length
 ·have:ze ⟨q,s.size,w⟩ i∈q:=by
   rw[ze,List.getD,List.getElem?_eq_getElem z]
   exact List.getElem_mem z
  have:=zuY A q rfl _ this
  omega
 ·rw[zea (by show q.length≤i;omega)]
  exact Nat.zero_le _
theorem zi7 {P:Program} {I:Func} {p u:Tmp} {q A:TypeId} (h:I.results= #[.cell p q,.cell u A]) (tmps:Array Value) (w:World) (g z:Nat) (t M:TypeId) (H:Array Value) (v:Value) (d:TypeDesc) (k:IntKind)
  (L:tmps.getD p undef= .pointer (some ⟨g,0,none⟩)) (Z:w.heap[g]? =some (.cells H t (0,0)))
  (Y:P.underlying q=some d) (K:(match d with| .struct _| .array _ _=>true|_=>false)=true) (X:(P.info? q).map (·.size)=some H.size)
  (N:tmps.getD u undef= .pointer (some ⟨z,0,none⟩)) (J:w.heap[z]? =some (.cells #[v] M (0,0))) (hz:P.underlying A=some (.int k)) (O: ∃n,v= .int k n):
  (results I tmps).run P w= .ok (.tuple #[.agg H,v]) w:=by
 obtain⟨n,rfl⟩:=O
 have V:=run_loadVar_row w g t q H (0,0) d Z Y K X
 have U:(loadVar A ⟨z,0,none⟩).run P w= .ok (.int k n) w:=by
  have hc:w.cell? ⟨z,0,none⟩=some (.int k n):=by simp[World.cell?,J]
  simp[go_sem,isAgg,run_underlying hz,hc]
 have e:(results I tmps).run P w=((asAddr (tmps.getD p undef)).run P w).andThen fun a w₁=>((loadVar q a).run P w₁).andThen fun v w₂=>((asAddr (tmps.getD u undef)).run P w₂).andThen fun b w₃=>((loadVar A b).run P w₃).andThen fun x w₄=>.ok (.tuple #[v,x]) w₄:=by
  simp only[results,h]
  simp[Sem.run_bind,Result.andThen]
 rw[e,L,N]
 simp[asAddr,Result.andThen,V,U]
theorem zgZ {w:World} {b k:Nat} {q A I H z:Value} (h:k≠b):(((((w.setCell ⟨b,0,none⟩ q).setCell ⟨b,1,none⟩ A).setCell ⟨b,2,none⟩ I).setCell ⟨b,3,none⟩ H).setCell ⟨b,4,none⟩ z).heap[k]? =w.heap[k]?:=by
 rw[zv h,zv h,zv h,zv h,zv h]
theorem zi8 {w:World} {b:Nat} {u v:Value} {t:TypeId} (h:w.heap[b]? =some (.cells #[v] t (0,0))):(w.setCell ⟨b,0,none⟩ u).heap[b]? =some (.cells #[u] t (0,0)):=(zac h).trans (by simp)
theorem OwnMod.keepI {w w':World} {base:Nat} {S:Sv} {q:PS} (h:OwnMod w base S q) (z: ∀k,base≤k→w'.heap[k]? =w.heap[k]?):OwnMod w' base S q:=
 ⟨h.rq.keep fun k g=>z k (h.rq.typed g).1,h.im.keep fun k g=>z k (h.im.typed g).1,h.ep.keep fun k g=>z k (h.ep.typed g).1,h.st.keep fun k g=>z k (h.st.typed g).1,h.ex.keep fun k g=>z k (h.ex.typed g).1,h.inv⟩
theorem OwnMod.lowI {w:World} {base z:Nat} {S:Sv} {q:PS} (h:OwnMod w base S q) (A:z≤base):OwnMod w z S q:=⟨h.rq.low A,h.im.low A,h.ep.low A,h.st.low A,h.ex.low A,h.inv⟩
theorem zva (C:Cx) (H z base A:Nat) (S:Sv) (q:PS) (w:World) (h:IM C H z base A S q w) (J:zbr C):
  Calls Tryz.prog 169 #[.pointer (some ⟨A,0,none⟩)] w (zi2 base A (za0 C q) w):=by
 cases I:C.scr with
 |true=>exact zuq C H z base A S q w h I
 |false=>exact zur C H z base A S q w h J I
theorem zvb (s:ByteArray) (z:Bool) (w:World) (hs:s.size≤4294967296):
  Calls Tryz.prog 135 #[.string s,.bool z] w fun e w'=>ParseOut s z w e w'∧Below w.heap.size w w':=by
 have af: ∀(fn:Fn) (first H:Array Value) (w:World),(Instr.makeFunc fn first H).run Tryz.prog w= .ok (.func fn first H) w:=fun _ _ _ _=>rfl
 go_enter_defers Tryz.func135,Tryz.ntmps135
 go_wp2_with fail
 refine (zuW s z _ hs).mono ?_
 rintro e M ⟨⟨r1,L,O⟩,Y⟩
 have h:((w.alloc (.cells #[.slice none 0 0,.slice none 0 0,.slice none 0 0,.slice none 0 0,.slice none 0 0] 54)).alloc (.cells #[.int .i64 0] 3)).heap.size=w.heap.size+1+1:=zcS w _ _
 have Z:Below w.heap.size w M:=(zbe w _ _).trans (Y.mono (by rw[h];omega))
 have X:Hid (M.heap[w.heap.size]? =some (.cells #[.slice none 0 0,.slice none 0 0,.slice none 0 0,.slice none 0 0,.slice none 0 0] 54 (0,0))):=(Y.block _ (by rw[h];omega)).trans (zcE (heap_alloc_new w _))
 have U:Hid (M.heap[w.heap.size+1]? =some (.cells #[.int .i64 0] 3 (0,0))):=(Y.block _ (by rw[h];omega)).trans (new2 w _ _)
 have N:w.heap.size+1+1≤M.heap.size:=by have:=Y.size;rw[h] at this;exact this
 rw[h] at Y
 obtain⟨c0,c1,c2,c3,c4,cf⟩:=zj X.out
 have d0:M.cell? ⟨w.heap.size+1,0,none⟩=some (.int .i64 0):=by simp[World.cell?,U.out]
 have df:M.frozen? ⟨w.heap.size+1,0,none⟩=false:=by simp[World.frozen?,U.out]
 cases r1 with
 |error p=>
  subst O
  have HY:Hid (zb6 s z (.error p)):=⟨_,L,rfl⟩
  have dz:decide ((0:Int)≤(p:Int))=true:=decide_eq_true (by omega)
  clear L Y h
  go_wp2
  exact⟨_,zi7 rfl _ _ w.heap.size (w.heap.size+1) 54 3 _ _ _ .i64 rfl ((zv (by omega)).trans (zd6 X.out)) Tryz.underlying54 rfl (by kernel_rfl) rfl (zi8 ((zgZ (by omega)).trans U.out)) Tryz.underlying3 ⟨_,rfl⟩,⟨_,HY.out,rfl⟩,(zdI Z (Nat.le_refl _) ..).setCell (Nat.le_succ _) _⟩
 |ok ts=>
  obtain⟨g,n,H,rfl,J⟩:=O
  obtain rfl:n=ts.length:=J.2
  rw[h] at J
  have ab:=zjy L
  have HR:=zc L
  have HC:Hid (zbr ⟨ts,s.size,z⟩):=zuZ L hs
  have ae:Hid (Mem ⟨ts,s.size,z⟩ g H (w.heap.size+1+1) S0 zbX M):=zjz J ab N
  clear J L Y h
  go_wp2_with fail
  have ad:IM ⟨ts,s.size,z⟩ g H (w.heap.size+1+1) M.heap.size S0 zbX (M.alloc (.cells #[.slice (some ⟨g,0,none⟩) ts.length H,.int .i64 0,.int .i64 s.size,.bool z,.slice none 0 0,.slice none 0 0,.slice none 0 0,.slice none 0 0,.slice none 0 0,.slice none 0 0] 211)):=⟨ae.out.alloc _,heap_alloc_new M _,N⟩
  have K:Below (w.heap.size+1+1) M (M.alloc (.cells #[.slice (some ⟨g,0,none⟩) ts.length H,.int .i64 0,.int .i64 s.size,.bool z,.slice none 0 0,.slice none 0 0,.slice none 0 0,.slice none 0 0,.slice none 0 0,.slice none 0 0] 211)):=(Below.refl _ _).alloc N _
  refine (zva _ g H _ _ S0 zbX _ ad HC.out).mono ?_
  cases hp:za0 ⟨ts,s.size,z⟩ zbX with
  |error p=>
   rintro e w2 ⟨rfl,V⟩
   have HY:Hid (zb6 s z (.error p)):=⟨_,HR.out,hp.symm⟩
   have aa:=Z.trans ((K.trans V).mono (by omega))
   have I:Hid (w2.heap[w.heap.size]? =some (.cells #[.slice none 0 0,.slice none 0 0,.slice none 0 0,.slice none 0 0,.slice none 0 0] 54 (0,0))):=((K.trans V).block _ (by omega)).trans X.out
   have A:Hid (w2.heap[w.heap.size+1]? =some (.cells #[.int .i64 0] 3 (0,0))):=((K.trans V).block _ (by omega)).trans U.out
   clear V
   unfold Pan
   go_wp2
   refine leaves_cons (f:=168) (args:=#[.pointer (some ⟨w.heap.size,0,none⟩),.pointer (some ⟨w.heap.size+1,0,none⟩)]) (by simp) (by simp[go_sem]) ?_
   refine (zuv w.heap.size (w.heap.size+1) p _ _ _ _ _ _ _ I.out A.out (by omega)).mono ?_
   rintro e u' w3 ⟨rfl,rfl,rfl⟩
   exact⟨_,zi7 rfl _ _ w.heap.size (w.heap.size+1) 54 3 _ _ _ .i64 rfl ((zv (by omega)).trans (zd6 I.out)) Tryz.underlying54 rfl (by kernel_rfl) rfl (zi8 ((zgZ (by omega)).trans A.out)) Tryz.underlying3 ⟨_,rfl⟩,⟨_,HY.out,rfl⟩,(zdI aa (Nat.le_refl _) ..).setCell (Nat.le_succ _) _⟩
  |ok q=>
   rintro e w2 ⟨rfl,S2,om,⟨v0,v1,v2,v3,v9,ac⟩,V⟩
   have HY:Hid (zb6 s z (.ok q)):=⟨_,HR.out,hp.symm⟩
   have aa:=Z.trans ((K.trans V).mono (by omega))
   have I:Hid (w2.heap[w.heap.size]? =some (.cells #[.slice none 0 0,.slice none 0 0,.slice none 0 0,.slice none 0 0,.slice none 0 0] 54 (0,0))):=((K.trans V).block _ (by omega)).trans X.out
   have A:Hid (w2.heap[w.heap.size+1]? =some (.cells #[.int .i64 0] 3 (0,0))):=((K.trans V).block _ (by omega)).trans U.out
   have HO:=zc om
   clear V om c0 c1 c2 c3 c4 cf d0 df
   obtain⟨b0,Y,b2,b3,b4,b5,b6,b7,b8,b9,bf⟩:=zah ac
   clear ac
   obtain⟨c0,c1,c2,c3,c4,cf⟩:=zj I.out
   have d0:w2.cell? ⟨w.heap.size+1,0,none⟩=some (.int .i64 0):=by simp[World.cell?,A.out]
   have df:w2.frozen? ⟨w.heap.size+1,0,none⟩=false:=by simp[World.frozen?,A.out]
   go_wp2
   refine leaves_cons (f:=168) (args:=#[.pointer (some ⟨w.heap.size,0,none⟩),.pointer (some ⟨w.heap.size+1,0,none⟩)]) (by simp) (by simp[go_sem]) ?_
   refine (zuu w.heap.size (w.heap.size+1) _).mono ?_
   rintro e u' w3 ⟨rfl,rfl,rfl⟩
   refine⟨_,zi7 rfl _ _ w.heap.size (w.heap.size+1) 54 3 _ _ _ .i64 rfl ((zv (by omega)).trans (zd6 I.out)) Tryz.underlying54 rfl (by kernel_rfl) rfl (zi8 ((zgZ (by omega)).trans A.out)) Tryz.underlying3 ⟨_,rfl⟩,⟨_,HY.out,S2,by simp[zgj],?_⟩,(zdI aa (Nat.le_refl _) ..).setCell (Nat.le_succ _) _⟩
   exact (HO.out.keepI fun k hk=>(zv (by omega)).trans (zgZ (by omega))).lowI (by omega)
end Go.Proofs.YtgcbmogmniahjaaGreat