/-
 What impl.Parse answers: the walk.
-/
import Derived.Test.YtlnohpdiiileeaaGreatClImplParseYToImplProgM
import Derived.Test.YtlnohpdiiileeaaGreatClImplCatch
import Derived.Test.YtlnohpdiiileeaaGreatClImplLex
namespace Go.Proofs.YtlnohpdiiileeaaGreat
set_option maxRecDepth 100000
set_option maxHeartbeats 3200000
open Go.RowKit Go.PlainAid Go.Sort
theorem zvb (s:ByteArray) (a b:Nat):(s.extract a b).size≤s.size:=by
 rw[ByteArray.size_extract]
 omega
theorem zbro {s:ByteArray} {scr:Bool} {a e:Nat} {t:Tk} (h:Tok s scr a t e):t.text.size≤s.size:=by
 cases h with
 |name h he=>exact zvb _ _ _
 |num h he=>exact Nat.zero_le _
 |str h he=>exact zvb _ _ _
 |sign h=>exact zvb _ _ _
theorem zbve {s:ByteArray} {scr:Bool} {a n:Nat} {r:Except Nat (List Tk)} (h:Lx s scr a n r): ∀ts,r= .ok ts→∀t∈ts,t.text.size≤s.size:=by
 induction h with
 |done=>intro ts hr;cases hr;intro t ht;cases ht
 |bad _ _=>intro ts hr;cases hr
 | @tok a n e b t r h hn ht hs hr ih=>
  intro ts hts
  cases r with
  |error p=>simp[Except.map] at hts
  |ok l=>
   simp only[Except.map,Except.ok.injEq] at hts
   subst hts
   intro x hx
   rcases List.mem_cons.1 hx with rfl|hx
   ·exact zbro ht
   ·exact ih l rfl x hx
theorem zbkn {s:ByteArray} {scr:Bool} {ts:List Tk} (h:LexR s scr (.ok ts)) (hs:s.size≤4294967296):zgb ⟨ts,s.size,scr⟩:=by
 obtain⟨a,_,hl⟩:=h
 intro i
 by_cases hi:i<ts.length
 ·have:zd ⟨ts,s.size,scr⟩ i∈ts:=by
   rw[zd,List.getD,List.getElem?_eq_getElem hi]
   exact List.getElem_mem hi
  have:=zbve hl ts rfl _ this
  omega
 ·rw[zfp (by show ts.length≤i;omega)]
  exact Nat.zero_le _
theorem zmp {P:Program} {fn:Func} {p u:Tmp} {ty tz:TypeId} (h:fn.results= #[.cell p ty,.cell u tz]) (tmps:Array Value) (w:World) (g g2:Nat) (t t2:TypeId) (cs:Array Value) (v:Value) (d:TypeDesc) (k:IntKind)
  (hp:tmps.getD p undef= .pointer (some ⟨g,0,none⟩)) (hg:w.heap[g]? =some (.cells cs t (0,0)))
  (hu:P.underlying ty=some d) (hd:(match d with| .struct _| .array _ _=>true|_=>false)=true) (hi:(P.info? ty).map (·.size)=some cs.size)
  (hq:tmps.getD u undef= .pointer (some ⟨g2,0,none⟩)) (hg2:w.heap[g2]? =some (.cells #[v] t2 (0,0))) (hz:P.underlying tz=some (.int k)) (hv: ∃n,v= .int k n):
  (results fn tmps).run P w= .ok (.tuple #[.agg cs,v]) w:=by
 obtain⟨n,rfl⟩:=hv
 have h1:=run_loadVar_row w g t ty cs (0,0) d hg hu hd hi
 have h2:(loadVar tz ⟨g2,0,none⟩).run P w= .ok (.int k n) w:=by
  have hc:w.cell? ⟨g2,0,none⟩=some (.int k n):=by simp[World.cell?,hg2]
  simp[go_sem,isAgg,run_underlying hz,hc]
 have e:(results fn tmps).run P w=((asAddr (tmps.getD p undef)).run P w).andThen fun a w₁=>((loadVar ty a).run P w₁).andThen fun v w₂=>((asAddr (tmps.getD u undef)).run P w₂).andThen fun b w₃=>((loadVar tz b).run P w₃).andThen fun x w₄=>.ok (.tuple #[v,x]) w₄:=by
  simp only[results,h]
  simp[Sem.run_bind,Result.andThen]
 rw[e,hp,hq]
 simp[asAddr,Result.andThen,h1,h2]
theorem znb {w:World} {b k:Nat} {x0 x1 x2 x3 x4:Value} (h:k≠b):(((((w.setCell ⟨b,0,none⟩ x0).setCell ⟨b,1,none⟩ x1).setCell ⟨b,2,none⟩ x2).setCell ⟨b,3,none⟩ x3).setCell ⟨b,4,none⟩ x4).heap[k]? =w.heap[k]?:=by
 rw[zv h,zv h,zv h,zv h,zv h]
theorem qone {w:World} {b:Nat} {u v:Value} {t:TypeId} (h:w.heap[b]? =some (.cells #[v] t (0,0))):(w.setCell ⟨b,0,none⟩ u).heap[b]? =some (.cells #[u] t (0,0)):=(zev h).trans (by simp)
theorem OwnMod.keepI {w w':World} {base:Nat} {S:Sv} {q:PS} (h:OwnMod w base S q) (hk: ∀k,base≤k→w'.heap[k]? =w.heap[k]?):OwnMod w' base S q:=
 ⟨h.rq.keep fun k g=>hk k (h.rq.typed g).1,h.im.keep fun k g=>hk k (h.im.typed g).1,h.ep.keep fun k g=>hk k (h.ep.typed g).1,h.st.keep fun k g=>hk k (h.st.typed g).1,h.ex.keep fun k g=>hk k (h.ex.typed g).1,h.inv⟩
theorem OwnMod.lowI {w:World} {base base':Nat} {S:Sv} {q:PS} (h:OwnMod w base S q) (hb:base'≤base):OwnMod w base' S q:=⟨h.rq.low hb,h.im.low hb,h.ep.low hb,h.st.low hb,h.ex.low hb,h.inv⟩
theorem zbft (C:Cx) (gt cap base gp:Nat) (S:Sv) (q:PS) (w:World) (h:IM C gt cap base gp S q w) (hC:zgb C):
  Calls Tryz.prog 88 #[.pointer (some ⟨gp,0,none⟩)] w (zbkc base gp (zbg C q) w):=by
 cases hs:C.scr with
 |true=>exact zbnu C gt cap base gp S q w h hs
 |false=>exact zbnv C gt cap base gp S q w h hC hs
theorem znc (s:ByteArray) (scr:Bool) (w:World) (hs:s.size≤4294967296):
  Calls Tryz.prog 39 #[.string s,.bool scr] w fun e w'=>ParseOut s scr w e w'∧Below w.heap.size w w':=by
 have hmf: ∀(fn:Fn) (first cap:Array Value) (w:World),(Instr.makeFunc fn first cap).run Tryz.prog w= .ok (.func fn first cap) w:=fun _ _ _ _=>rfl
 go_enter_defers Tryz.func39,Tryz.ntmps39
 go_wp2_with fail
 refine (zbrn s scr _ hs).mono ?_
 rintro e w1 ⟨⟨r1,hr1,hout1⟩,b1⟩
 have hsz2:((w.alloc (.cells #[.slice none 0 0,.slice none 0 0,.slice none 0 0,.slice none 0 0,.slice none 0 0] 59)).alloc (.cells #[.int .i64 0] 3)).heap.size=w.heap.size+1+1:=zkv w _ _
 have HB1:Hid (Below w.heap.size w w1):=(zir w _ _).trans (b1.mono (by rw[hsz2];omega))
 have HGM:Hid (w1.heap[w.heap.size]? =some (.cells #[.slice none 0 0,.slice none 0 0,.slice none 0 0,.slice none 0 0,.slice none 0 0] 59 (0,0))):=(b1.block _ (by rw[hsz2];omega)).trans (zvn (heap_alloc_new w _))
 have HGB:Hid (w1.heap[w.heap.size+1]? =some (.cells #[.int .i64 0] 3 (0,0))):=(b1.block _ (by rw[hsz2];omega)).trans (new2 w _ _)
 have hlt1:w.heap.size+1+1≤w1.heap.size:=by have:=b1.size;rw[hsz2] at this;exact this
 rw[hsz2] at b1
 obtain⟨c0,c1,c2,c3,c4,cf⟩:=zbh HGM.out
 have d0:w1.cell? ⟨w.heap.size+1,0,none⟩=some (.int .i64 0):=by simp[World.cell?,HGB.out]
 have df:w1.frozen? ⟨w.heap.size+1,0,none⟩=false:=by simp[World.frozen?,HGB.out]
 cases r1 with
 |error p=>
  subst hout1
  have HY:Hid (zct s scr (.error p)):=⟨_,hr1,rfl⟩
  have dz:decide ((0:Int)≤(p:Int))=true:=decide_eq_true (by omega)
  clear hr1 b1 hsz2
  go_wp2
  exact⟨_,zmp rfl _ _ w.heap.size (w.heap.size+1) 59 3 _ _ _ .i64 rfl ((zv (by omega)).trans (put5 HGM.out)) Tryz.underlying59 rfl (by kernel_rfl) rfl (qone ((znb (by omega)).trans HGB.out)) Tryz.underlying3 ⟨_,rfl⟩,⟨_,HY.out,rfl⟩,(znk HB1.out (Nat.le_refl _) _ _ _ _ _).setCell (Nat.le_succ _) _⟩
 |ok ts=>
  obtain⟨g,n,cap,rfl,own0⟩:=hout1
  obtain rfl:n=ts.length:=own0.2
  rw[hsz2] at own0
  have hlen:=zpv hr1
  have HR:=hidI hr1
  have HC:Hid (zgb ⟨ts,s.size,scr⟩):=zbkn hr1 hs
  have HM0:Hid (Mem ⟨ts,s.size,scr⟩ g cap (w.heap.size+1+1) S0 startP w1):=zxx own0 hlen hlt1
  clear own0 hr1 b1 hsz2
  go_wp2_with fail
  have HIM:Hid (IM ⟨ts,s.size,scr⟩ g cap (w.heap.size+1+1) w1.heap.size S0 startP (w1.alloc (.cells #[.slice (some ⟨g,0,none⟩) ts.length cap,.int .i64 0,.int .i64 s.size,.bool scr,.slice none 0 0,.slice none 0 0,.slice none 0 0,.slice none 0 0,.slice none 0 0,.slice none 0 0] 120))):=⟨HM0.out.alloc _,heap_alloc_new w1 _,hlt1⟩
  have HBa:Hid (Below (w.heap.size+1+1) w1 (w1.alloc (.cells #[.slice (some ⟨g,0,none⟩) ts.length cap,.int .i64 0,.int .i64 s.size,.bool scr,.slice none 0 0,.slice none 0 0,.slice none 0 0,.slice none 0 0,.slice none 0 0,.slice none 0 0] 120))):=(Below.refl _ _).alloc hlt1 _
  refine (zbft _ g cap _ _ S0 startP _ HIM.out HC.out).mono ?_
  cases hp:zbg ⟨ts,s.size,scr⟩ startP with
  |error p=>
   rintro e w2 ⟨rfl,hb⟩
   have HY:Hid (zct s scr (.error p)):=⟨_,HR.out,hp.symm⟩
   have HB2:Hid (Below w.heap.size w w2):=HB1.out.trans ((HBa.out.trans hb).mono (by omega))
   have HGM2:Hid (w2.heap[w.heap.size]? =some (.cells #[.slice none 0 0,.slice none 0 0,.slice none 0 0,.slice none 0 0,.slice none 0 0] 59 (0,0))):=((HBa.out.trans hb).block _ (by omega)).trans HGM.out
   have HGB2:Hid (w2.heap[w.heap.size+1]? =some (.cells #[.int .i64 0] 3 (0,0))):=((HBa.out.trans hb).block _ (by omega)).trans HGB.out
   clear hb
   unfold Pan
   go_wp2
   refine leaves_cons (f:=87) (args:=#[.pointer (some ⟨w.heap.size,0,none⟩),.pointer (some ⟨w.heap.size+1,0,none⟩)]) (by simp) (by simp[go_sem]) ?_
   refine (zbfp w.heap.size (w.heap.size+1) p _ _ _ _ _ _ _ HGM2.out HGB2.out (by omega)).mono ?_
   rintro e u' w3 ⟨rfl,rfl,rfl⟩
   exact⟨_,zmp rfl _ _ w.heap.size (w.heap.size+1) 59 3 _ _ _ .i64 rfl ((zv (by omega)).trans (put5 HGM2.out)) Tryz.underlying59 rfl (by kernel_rfl) rfl (qone ((znb (by omega)).trans HGB2.out)) Tryz.underlying3 ⟨_,rfl⟩,⟨_,HY.out,rfl⟩,(znk HB2.out (Nat.le_refl _) _ _ _ _ _).setCell (Nat.le_succ _) _⟩
  |ok q=>
   rintro e w2 ⟨rfl,S2,om,⟨v0,v1,v2,v3,v9,hcl⟩,hb⟩
   have HY:Hid (zct s scr (.ok q)):=⟨_,HR.out,hp.symm⟩
   have HB2:Hid (Below w.heap.size w w2):=HB1.out.trans ((HBa.out.trans hb).mono (by omega))
   have HGM2:Hid (w2.heap[w.heap.size]? =some (.cells #[.slice none 0 0,.slice none 0 0,.slice none 0 0,.slice none 0 0,.slice none 0 0] 59 (0,0))):=((HBa.out.trans hb).block _ (by omega)).trans HGM.out
   have HGB2:Hid (w2.heap[w.heap.size+1]? =some (.cells #[.int .i64 0] 3 (0,0))):=((HBa.out.trans hb).block _ (by omega)).trans HGB.out
   have HO:=hidI om
   clear hb om c0 c1 c2 c3 c4 cf d0 df
   obtain⟨b0,b1,b2,b3,b4,b5,b6,b7,b8,b9,bf⟩:=zbe hcl
   clear hcl
   obtain⟨c0,c1,c2,c3,c4,cf⟩:=zbh HGM2.out
   have d0:w2.cell? ⟨w.heap.size+1,0,none⟩=some (.int .i64 0):=by simp[World.cell?,HGB2.out]
   have df:w2.frozen? ⟨w.heap.size+1,0,none⟩=false:=by simp[World.frozen?,HGB2.out]
   go_wp2
   refine leaves_cons (f:=87) (args:=#[.pointer (some ⟨w.heap.size,0,none⟩),.pointer (some ⟨w.heap.size+1,0,none⟩)]) (by simp) (by simp[go_sem]) ?_
   refine (zbkd w.heap.size (w.heap.size+1) _).mono ?_
   rintro e u' w3 ⟨rfl,rfl,rfl⟩
   refine⟨_,zmp rfl _ _ w.heap.size (w.heap.size+1) 59 3 _ _ _ .i64 rfl ((zv (by omega)).trans (put5 HGM2.out)) Tryz.underlying59 rfl (by kernel_rfl) rfl (qone ((znb (by omega)).trans HGB2.out)) Tryz.underlying3 ⟨_,rfl⟩,⟨_,HY.out,S2,by simp[modV],?_⟩,(znk HB2.out (Nat.le_refl _) _ _ _ _ _).setCell (Nat.le_succ _) _⟩
   exact (HO.out.keepI fun k hk=>(zv (by omega)).trans (znb (by omega))).lowI (by omega)
end Go.Proofs.YtlnohpdiiileeaaGreat