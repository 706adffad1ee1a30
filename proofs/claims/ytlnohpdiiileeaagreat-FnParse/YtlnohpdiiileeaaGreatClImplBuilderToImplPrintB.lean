/-
  What a strings.Builder's copyCheck and WriteString answer in this program: the walks.
  What the closure put of impl's Print answers: the walk.
  impl's printer in memory; what quoted,list and kind answer: the walks.
-/
import Derived.Lib.Builder
import Derived.Lib.AppendStr
import Derived.Laws.Externs
import Derived.Test.YtlnohpdiiileeaaGreatClImplTree
import Derived.Test.YtlnohpdiiileeaaGreatClDrawProgAToPrintText
namespace Go.Proofs.YtlnohpdiiileeaaGreat
set_option maxRecDepth 100000
set_option maxHeartbeats 2000000
open Go.RowKit Go.PlainAid Go.Sort
theorem Tryz.sizeBld:(Tryz.prog.info? 127).map (·.size)=some 2:=by kernel_rfl
theorem Tryz.liesBld:liesAt Tryz.prog Tryz.prog.depth 127 (2/Tryz.prog.cellsOf 127) 0 127 1=true:=by kernel_rfl
theorem zxj (b:Nat) (w:World) (h:w.cell? ⟨b,0,none⟩=some (.pointer (some ⟨b,0,none⟩))):
  Calls Tryz.prog 161 #[.pointer (some ⟨b,0,none⟩)] w fun e w'=>e= .returned (.tuple #[])∧w'=w:=by
 obtain⟨j,hj,_⟩:=Option.map_eq_some_iff.1 Tryz.sizeBld
 go_enter Tryz.func161,Tryz.ntmps161
 go_wp2
 rw[Lib.run_neq_ptr_same w _ Tryz.underlying125 hj]
 go_wp2
 go_end0
 exact⟨rfl,rfl⟩
theorem zwf (b:Nat) (w:World) (h0:w.cell? ⟨b,0,none⟩=some (.pointer none)) (hsh:w.shape? b=some (127,2)) (hfz:w.frozen? ⟨b,0,none⟩=false):
  Calls Tryz.prog 161 #[.pointer (some ⟨b,0,none⟩)] w fun e w'=>e= .returned (.tuple #[])∧w'=w.setCell ⟨b,0,none⟩ (.pointer (some ⟨b,0,none⟩)):=by
 obtain⟨j,hj,hjs⟩:=Option.map_eq_some_iff.1 Tryz.sizeBld
 go_enter Tryz.func161,Tryz.ntmps161
 go_wp2
 rw[Lib.run_to_unsafe w ⟨b,0,none⟩ Tryz.underlying125 Tryz.underlying266 hj (by rw[hjs];decide) hsh (Nat.zero_lt_succ 1)]
 simp only[Result.andThen]
 rw[Oper.upon_value]
 go_wp2
 rw[run_callFunc_extern Tryz.func247 (by kernel_rfl) (by kernel_rfl) (by kernel_rfl) (e:=Extern.AbiNoEscape.same) (by kernel_rfl)]
 rw[Lib.run_noEscape]
 simp only[Result.andThen]
 rw[Oper.upon_value]
 go_wp2
 rw[Lib.run_from_unsafe w ⟨b,0,none⟩ Tryz.underlying266 Tryz.underlying125 hj hsh Tryz.liesBld]
 simp only[Result.andThen]
 rw[Oper.upon_value]
 go_wp2
 go_end0
 exact⟨rfl,rfl⟩
theorem zzq (B b:Nat) (bs:List Value) (w:World) (h:Lib.IsBuilder 127 5 B b bs w):
  Calls Tryz.prog 161 #[.pointer (some ⟨b,0,none⟩)] w fun e w'=>e= .returned (.tuple #[])∧Lib.BuilderAt 127 5 B b (.pointer (some ⟨b,0,none⟩)) bs w'∧Below B w w'∧∀k,k≠b→w'.heap[k]? =w.heap[k]?:=by
 rcases h with h|h
 ·refine (zwf b w h.cell0 h.shape h.frozen0).mono ?_
  rintro e w' ⟨rfl,rfl⟩
  exact⟨rfl,h.used _,(Below.refl B w).setCell (p:=⟨b,0,none⟩) h.1 _,fun k hk=>zv hk⟩
 ·refine (zxj b w h.cell0).mono ?_
  rintro e w' ⟨rfl,rfl⟩
  exact⟨rfl,h,Below.refl B _,fun k _=>rfl⟩
/-- What is written stands behind what was there; nothing else that was there before is touched. -/
def BOut (B b:Nat) (bs:List Value) (w w':World):Prop:=Lib.BuilderAt 127 5 B b (.pointer (some ⟨b,0,none⟩)) bs w'∧Below B w w'∧∀(k:Nat) (cur:Array Value) (t:TypeId) (fz:Nat×Nat),w.heap[k]? =some (.cells cur t fz)→k≠b→t≠5→w'.heap[k]? =w.heap[k]?
theorem Tryz.infoByte1:(Tryz.prog.info? 5).map (fun i=>(i.zero,i.size,i.bytes))=some (some (.int .u8 0),1,1):=by kernel_rfl
theorem zbnd {w:World} {B k:Nat} {e:TypeId} {v:Value} {n:Nat} {xs:List Value} (h:w.ownsRow B e 1 v n xs) (hv:some k=v.ownBlock): ∃c,w.heap[k]? =some (.cells c e (0,0)):=by
 rcases h.2 with ⟨h1,_⟩|⟨g,cap,cur,h1,_,hg,_⟩
 ·rw[h1] at hv
  cases hv
 ·rw[h1] at hv
  simp only[Value.ownBlock,Option.some.injEq] at hv
  rw[hv]
  exact⟨cur,hg⟩
theorem zwg (B b:Nat) (bs:List Value) (s:ByteArray) (w:World) (h:Lib.IsBuilder 127 5 B b bs w) (hlen:bs.length+s.size≤140737488355328) (hBw:B≤w.heap.size):
  Calls Tryz.prog 92 #[.pointer (some ⟨b,0,none⟩),.string s] w fun e w'=>e= .returned (.tuple #[.int .i64 s.size,.nilIface])∧BOut B b (bs++Lib.strCells s) w w':=by
 obtain⟨i0,hi,hz0,hz1,hz2⟩:=info_parts Tryz.infoByte1
 go_enter Tryz.func92,Tryz.ntmps92
 go_wp2_with fail
 refine (zzq B b bs _ h).mono ?_
 rintro e w1 ⟨rfl,h1,hb1,hk1⟩
 obtain⟨hB,v,hbk,hown,hne⟩:=h1
 have c0:w1.cell? ⟨b,0,none⟩=some (.pointer (some ⟨b,0,none⟩)):=by rw[Lib.cell_of_heap hbk];rfl
 have c1:w1.cell? ⟨b,1,none⟩=some v:=by rw[Lib.cell_of_heap hbk];rfl
 go_wp2_with (at_builtin;refine Lib.wpList_append_own_string _ rfl _ _ 49 9 rfl B 5 i0 Tryz.underlying49 Tryz.underlying9 hi hz0 hz1 hz2 _ _ _ rfl hown s rfl ?c3 ?c4 ?c5 ?_)
 case c3=>unfold maxLen;omega
 case c4=>omega
 case c5=>have:=hb1.size;omega
 intro v' w2 hown' hgrow _
 have hlt:b<w1.heap.size:=(Array.getElem?_eq_some_iff.1 hbk).1
 have hb2:w2.heap[b]? =some (.cells #[.pointer (some ⟨b,0,none⟩),v] 127 (0,0)):=(hgrow.block b hlt (fun e=>hne e.symm)).trans hbk
 have d0:w2.cell? ⟨b,0,none⟩=some (.pointer (some ⟨b,0,none⟩)):=by rw[Lib.cell_of_heap hb2];rfl
 have d1:w2.cell? ⟨b,1,none⟩=some v:=by rw[Lib.cell_of_heap hb2];rfl
 have f1:w2.frozen? ⟨b,1,none⟩=false:=Lib.frozen_of_heap hb2 1
 obtain⟨ao,n',cap,rfl⟩: ∃ao n' cap,v'= .slice ao n' cap:=by
  rcases hown'.2 with ⟨hv,_⟩|⟨g,cap,cur,hv,_⟩
  ·exact⟨_,_,_,hv⟩
  ·exact⟨_,_,_,hv⟩
 go_wp2
 go_ret2
 refine⟨rfl,Lib.BuilderAt.put (T:=127) (e:=5) hB hb2 (bs':=bs++Lib.strCells s) (by simpa [Lib.strCells_length] using hown') (by decide),(hb1.grown hgrow (by have:=hb1.size;omega) (fun k hk=>(hown.lt k hk).1)).setCell (p:=⟨b,1,none⟩) hB _,?_⟩
 intro k cur t fz hk hkb ht
 have e1:=hk1 k hkb
 rw[zv hkb,hgrow.block k (Array.getElem?_eq_some_iff.1 (e1.trans hk)).1 ?_,e1]
 intro hv
 obtain⟨c,hc⟩:=zbnd hown hv
 rw[e1,hk] at hc
 simp only[Option.some.injEq,Obj.cells.injEq] at hc
 exact ht hc.2.1
/-- Blocks of another type than bytes, the builder's own apart, are kept. -/
def KeepB (b:Nat) (w w':World):Prop:=∀(k:Nat) (cur:Array Value) (t:TypeId) (fz:Nat×Nat),w.heap[k]? =some (.cells cur t fz)→k≠b→t≠5→w'.heap[k]? =w.heap[k]?
theorem KeepB.refl (b:Nat) (w:World):KeepB b w w:=fun _ _ _ _ _ _ _=>rfl
theorem KeepB.trans {b:Nat} {w w1 w2:World} (h:KeepB b w w1) (h2:KeepB b w1 w2):KeepB b w w2:=fun k cur t fz hk hb ht=>by
 have e:=h k cur t fz hk hb ht
 rw[h2 k cur t fz (e.trans hk) hb ht,e]
/-- What a put leaves. -/
def PutO (B b:Nat) (bs:List Value) (w w':World):Prop:=Lib.IsBuilder 127 5 B b bs w'∧Below B w w'∧KeepB b w w'
theorem zwh {ps:List ByteArray} {j:Nat} (hj:j<ps.length):(ps.take (j+1)).flatMap Lib.strCells=(ps.take j).flatMap Lib.strCells++Lib.strCells ps[j]:=by
 rw[List.take_succ_eq_append_getElem hj,List.flatMap_append]
 simp
theorem zbra (ps:List ByteArray) {j:Nat} (hj:j<ps.length):((ps.take j).flatMap Lib.strCells).length+ps[j].size≤(ps.flatMap Lib.strCells).length:=by
 have e:=congrArg List.length (congrArg (List.flatMap Lib.strCells) (List.take_append_drop (j+1) ps))
 rw[List.flatMap_append,zwh hj] at e
 simp only[List.length_append,Lib.strCells_length] at e
 omega
theorem zbtw (B b gq:Nat) (bs:List Value) (ps:List ByteArray) (w:World) (h:Lib.IsBuilder 127 5 B b bs w) (hq:w.heap[gq]? =some (.cells (ps.map Value.string).toArray 9 (0,0))) (hlen:bs.length+(ps.flatMap Lib.strCells).length≤140737488355328) (hn:ps.length≤4294967296) (hB:B≤w.heap.size) (hne:gq≠b):
  Calls Tryz.prog 91 #[.slice (some ⟨gq,0,none⟩) ps.length ps.length,.pointer (some ⟨b,0,none⟩)] w fun e w'=>e= .returned (.tuple #[])∧PutO B b (bs++ps.flatMap Lib.strCells) w w':=by
 have HI:=hidI h
 have HQ:=hidI hq
 clear h hq
 go_enter Tryz.func91,Tryz.ntmps91
 go_wp2
 go_loopg [7] ps.length (fun k i wr=>∃j:Nat,i= .int .i64 j∧j+k=ps.length∧PutO B b (bs++(ps.take j).flatMap Lib.strCells) w wr)
 case atStart=>exact⟨0,rfl,by omega,by simp only[List.take_zero,List.flatMap_nil,List.append_nil];exact HI.out,Below.refl _ _,KeepB.refl _ _⟩
 case round=>
  obtain⟨j,rfl,hj,hp⟩:=hrel
  have HP:=hidI hp
  clear hp
  by_cases hlt:j<ps.length
  ·have hlti:(j:Int)<(ps.length:Int):=by omega
   have HQ2:=hidI ((HP.out.2.2 gq _ _ _ HQ.out hne (by decide)).trans HQ.out)
   have q0:wr.cell? ⟨gq,j,none⟩=some (.string ps[j]):=by
    rw[Lib.cell_of_heap HQ2.out]
    simp[List.getElem?_eq_getElem hlt]
   obtain⟨s,hs⟩: ∃s,ps[j]=s:=⟨_,rfl⟩
   rw[hs] at q0
   have HS:=hidI hs
   clear hs
   obtain⟨j1,hj1⟩: ∃j1,j1=j+1:=⟨_,rfl⟩
   have ej:(j:Int)+1=(j1:Int):=by omega
   have HJ:=hidI hj1
   clear hj1
   go_wp2_with fail
   have hle:=zbra ps hlt
   rw[HS.out] at hle
   refine (zwg B b _ s wr HP.out.1 (by rw[List.length_append];omega) (by have:=HP.out.2.1.size;omega)).mono ?_
   rintro e w2 ⟨rfl,hb⟩
   have HB:=hidI hb
   clear hb hle
   go_wp2
   go_roundg (gk-1)
   case rel=>
    refine⟨j1,rfl,by have:=HJ.out;omega,?_,HP.out.2.1.trans HB.out.2.1,HP.out.2.2.trans HB.out.2.2⟩
    rw[HJ.out,zwh hlt,HS.out,←List.append_assoc]
    exact .inr HB.out.1
   case measure=>omega
  ·have hlti: ¬(j:Int)<(ps.length:Int):=by omega
   obtain rfl:j=ps.length:=by omega
   go_wp2
   go_end0
   exact⟨rfl,by have:=HP.out;rw[List.take_length] at this;exact this⟩
theorem zbdc (a b:ByteArray):Lib.strCells (a++b)=Lib.strCells a++Lib.strCells b:=by simp[Lib.strCells]
/-- A text and parts behind it. -/
def catT (t:ByteArray) (ps:List ByteArray):ByteArray:=ps.foldl (· ++ ·) t
theorem zys (ps:List ByteArray): ∀t,Lib.strCells (catT t ps)=Lib.strCells t++ps.flatMap Lib.strCells:=by
 induction ps with
 |nil=>intro t;simp[catT]
 |cons p ps ih=>
  intro t
  have:=ih (t++p)
  simp only[catT,List.foldl_cons] at this ⊢
  rw[this,zbdc,List.flatMap_cons,List.append_assoc]
/-- The printer: where it is, what it prints, what it has written. -/
structure PC where
 B:Nat
 b:Nat
 gp:Nat
 base:Nat
 S:Sv
 m:Md
def PP (c:PC) (t:ByteArray) (w:World):Prop:=
 (Lib.IsBuilder 127 5 c.B c.b (Lib.strCells t) w∧c.B≤w.heap.size)∧OwnMd w c.base c.S c.m∧
 (w.heap[c.gp]? =some (.cells #[.slice c.S.rq.a c.m.rq.length c.S.rq.cap,.slice c.S.im.a c.m.im.length c.S.im.cap,.slice c.S.ep.a c.m.ep.length c.S.ep.cap,.slice c.S.st.a c.m.st.length c.S.st.cap,.slice c.S.ex.a c.m.ex.length c.S.ex.cap,.func (.func 91) #[] #[.pointer (some ⟨c.b,0,none⟩)]] 135 (0,0))∧c.gp≠c.b)
theorem zeb {B b:Nat} {bs:List Value} {w:World} (h:Lib.IsBuilder 127 5 B b bs w): ∃cur,w.heap[b]? =some (.cells cur 127 (0,0)):=by
 rcases h with ⟨_,v,h,_⟩|⟨_,v,h,_⟩<;>exact⟨_,h⟩
theorem OwnMd.keepT {w w':World} {base b:Nat} {S:Sv} {m:Md} {cur:Array Value} (h:OwnMd w base S m) (hb:w.heap[b]? =some (.cells cur 127 (0,0))) (hk:KeepB b w w'):OwnMd w' base S m:=by
 have kk: ∀(e:TypeId) (size n:Nat) (r:Rw) (xs:List Value),OwnR w base e size r n xs→e≠5→e≠127→OwnR w' base e size r n xs:=fun e size n r xs h he he2=>h.keep fun k hr=>by
  obtain⟨_,_,c,hc⟩:=h.typed hr
  refine hk k c e _ hc (fun eq=>?_) he
  rw[eq,hb] at hc
  simp only[Option.some.injEq,Obj.cells.injEq] at hc
  exact he2 hc.2.1.symm
 exact⟨kk _ _ _ _ _ h.rq (by decide) (by decide),kk _ _ _ _ _ h.im (by decide) (by decide),kk _ _ _ _ _ h.ep (by decide) (by decide),kk _ _ _ _ _ h.st (by decide) (by decide),kk _ _ _ _ _ h.ex (by decide) (by decide)⟩
/-- Builders keep while memory is made. -/
theorem zyt {B b:Nat} {bs:List Value} {w w':World} (h:Lib.IsBuilder 127 5 B b bs w) (hb:Below w.heap.size w w'):Lib.IsBuilder 127 5 B b bs w':=by
 have one: ∀p,Lib.BuilderAt 127 5 B b p bs w→Lib.BuilderAt 127 5 B b p bs w':=by
  rintro p ⟨hB,v,hv,hown,hne⟩
  refine⟨hB,v,(hb.block _ (Array.getElem?_eq_some_iff.1 hv).1).trans hv,?_,hne⟩
  refine hown.kept (row:=none) ⟨hb.os,hb.tape,hb.output,hb.size,fun k hk _=>hb.block k hk⟩ ?_
  cases hv2:v.ownBlock with
  |none=>exact .inl rfl
  |some k=>exact .inr (by simp)
 exact h.elim (fun h=>.inl (one _ h)) fun h=>.inr (one _ h)
theorem PP.later {c:PC} {t:ByteArray} {w w':World} (h:PP c t w) (hb:Below w.heap.size w w'):PP c t w':=
 ⟨⟨zyt h.1.1 hb,Nat.le_trans h.1.2 hb.size⟩,h.2.1.later hb,(hb.block _ (Array.getElem?_eq_some_iff.1 h.2.2.1).1).trans h.2.2.1,h.2.2.2⟩
theorem KeepB.of_below {b:Nat} {w w':World} (h:Below w.heap.size w w'):KeepB b w w':=fun k _ _ _ hk _ _=>h.block k (Array.getElem?_eq_some_iff.1 hk).1
/-- What a method of the printer leaves. -/
def PO (c:PC) (t:ByteArray) (w:World) (e:Ending) (w':World):Prop:=e= .returned (.tuple #[])∧PP c t w'∧Below c.B w w'∧KeepB c.b w w'
theorem putP (c:PC) (t:ByteArray) (ps:List ByteArray) (gq:Nat) (w:World) (h:PP c t w) (hq:w.heap[gq]? =some (.cells (ps.map Value.string).toArray 9 (0,0))) (hlen:(catT t ps).size≤140737488355328) (hn:ps.length≤4294967296):
  Calls Tryz.prog 91 #[.slice (some ⟨gq,0,none⟩) ps.length ps.length,.pointer (some ⟨c.b,0,none⟩)] w (PO c (catT t ps) w):=by
 obtain⟨cur,hcur⟩:=zeb h.1.1
 have hne:gq≠c.b:=fun e=>by
  rw[e,hcur] at hq
  simp only[Option.some.injEq,Obj.cells.injEq] at hq
  exact absurd hq.2.1 (by decide)
 refine (zbtw c.B c.b gq (Lib.strCells t) ps w h.1.1 hq (by rw[←List.length_append,←zys,Lib.strCells_length];exact hlen) hn h.1.2 hne).mono ?_
 rintro e w' ⟨rfl,h1,h2,h3⟩
 rw[←zys] at h1
 exact⟨rfl,⟨⟨h1,Nat.le_trans h.1.2 h2.size⟩,h.2.1.keepT hcur h3,(h3 _ _ _ _ h.2.2.1 h.2.2.2 (by decide)).trans h.2.2.1,h.2.2.2⟩,h2,h3⟩
theorem putA (c:PC) (t:ByteArray) (ps:List ByteArray) (w:World) (h:PP c t w) (hlen:(catT t ps).size≤140737488355328) (hn:ps.length≤4294967296):
  Calls Tryz.prog 91 #[.slice (some ⟨w.heap.size,0,none⟩) ps.length ps.length,.pointer (some ⟨c.b,0,none⟩)] (w.alloc (.cells (ps.map Value.string).toArray 9)) (PO c (catT t ps) w):=by
 have hw:Below w.heap.size w (w.alloc (.cells (ps.map Value.string).toArray 9)):=(Below.refl _ _).alloc (Nat.le_refl _) _
 refine (putP c t ps w.heap.size _ (h.later hw) (heap_alloc_new w _) hlen hn).mono ?_
 rintro e w' ⟨he,h1,h2,h3⟩
 exact⟨he,h1,(hw.mono h.1.2).trans h2,(KeepB.of_below hw).trans h3⟩
theorem zna (s:ByteArray) (w:World) (hs:s.size≤1099511627776):Calls Tryz.prog 162 #[.string s] w fun e w'=>e= .returned (.string (zda s))∧w'=w:=by
 have HV:Hid (zda s=({data:=#[34]}:ByteArray)++s++({data:=#[34]}:ByteArray)):=rfl
 go_enter Tryz.func162,Tryz.ntmps162
 go_wp2
 go_ret
 exact⟨by rw[HV.out];rfl,rfl⟩
/-- A list of one name. -/
def zho (a b:ByteArray):ByteArray:=({data:=#[123,32]}:ByteArray)++asT a b++({data:=#[32,125]}:ByteArray)
theorem zuw (c:PC) (t a b:ByteArray) (w:World) (h:PP c t w) (hlen:(t++zho a b).size≤140737488355328):
  Calls Tryz.prog 248 #[.pointer (some ⟨c.gp,0,none⟩),.string a,.string b] w (PO c (t++zho a b) w):=by
 have HP:=hidI h
 have HL:=hidI hlen
 clear h hlen
 obtain⟨p0,p1,p2,p3,p4,p5,pf⟩:=zx HP.out.2.2.1
 go_enter Tryz.func248,Tryz.ntmps248
 have z1:(({data:=#[123,32]}:ByteArray)).size=2:=rfl
 have z2:(({data:=#[32,125]}:ByteArray)).size=2:=rfl
 have z3:(({data:=#[32,97,115,32]}:ByteArray)).size=4:=rfl
 have hlen:=HL.out
 simp only[zho,ByteArray.size_append,z1,z2] at hlen
 have HZ:=hidI hlen
 clear hlen
 cases hab:(b.toList==a.toList) with
 |true=>
  have hab2:(a.toList==b.toList)=true:=by rw[BEq.comm];exact hab
  have HA:Hid (asT a b=a):=by show _=_;rw[asT,hab2];rfl
  go_wp2_with fail
  refine (putA c t [{data:=#[123,32]},a] w HP.out (by have:=HZ.out;rw[HA.out] at this;simp only[catT,List.foldl_cons,List.foldl_nil,ByteArray.size_append,z1];omega) (by simp)).mono ?_
  rintro e w1 ⟨rfl,hp1,hb1,hk1⟩
  have HP1:=hidI hp1
  have HB1:=hidI hb1
  have HK1:=hidI hk1
  clear hp1 hb1 hk1 p0 p1 p2 p3 p4 p5 pf
  obtain⟨p0,p1,p2,p3,p4,p5,pf⟩:=zx HP1.out.2.2.1
  go_wp2_with fail
  refine (putA c _ [{data:=#[32,125]}] w1 HP1.out (by have:=HZ.out;rw[HA.out] at this;simp only[catT,List.foldl_cons,List.foldl_nil,ByteArray.size_append,z1,z2];omega) (by simp)).mono ?_
  rintro e w2 ⟨rfl,hp2,hb2,hk2⟩
  have HP2:=hidI hp2
  have HB2:=hidI (HB1.out.trans hb2)
  have HK2:=hidI (HK1.out.trans hk2)
  clear hp2 hb2 hk2 p0 p1 p2 p3 p4 p5 pf
  go_wp2
  go_end0
  refine⟨rfl,?_,HB2.out,HK2.out⟩
  have:=HP2.out
  simp only[catT,List.foldl_cons,List.foldl_nil] at this
  rw[zho,HA.out,←ByteArray.append_assoc,←ByteArray.append_assoc]
  exact this
 |false=>
  have hab2:(a.toList==b.toList)=false:=by rw[BEq.comm];exact hab
  have HA:Hid (asT a b=a++({data:=#[32,97,115,32]}:ByteArray)++b):=by show _=_;rw[asT,hab2];rfl
  go_wp2_with fail
  refine (putA c t [{data:=#[123,32]},a] w HP.out (by have:=HZ.out;rw[HA.out] at this;simp only[catT,List.foldl_cons,List.foldl_nil,ByteArray.size_append,z1,z3] at this ⊢;omega) (by simp)).mono ?_
  rintro e w1 ⟨rfl,hp1,hb1,hk1⟩
  have HP1:=hidI hp1
  have HB1:=hidI hb1
  have HK1:=hidI hk1
  clear hp1 hb1 hk1 p0 p1 p2 p3 p4 p5 pf
  obtain⟨p0,p1,p2,p3,p4,p5,pf⟩:=zx HP1.out.2.2.1
  go_wp2_with fail
  refine (putA c _ [{data:=#[32,97,115,32]},b] w1 HP1.out (by have:=HZ.out;rw[HA.out] at this;simp only[catT,List.foldl_cons,List.foldl_nil,ByteArray.size_append,z1,z3] at this ⊢;omega) (by simp)).mono ?_
  rintro e w2 ⟨rfl,hp2,hb2,hk2⟩
  have HP2:=hidI hp2
  have HB2:=hidI (HB1.out.trans hb2)
  have HK2:=hidI (HK1.out.trans hk2)
  clear hp2 hb2 hk2 p0 p1 p2 p3 p4 p5 pf
  obtain⟨p0,p1,p2,p3,p4,p5,pf⟩:=zx HP2.out.2.2.1
  go_wp2_with fail
  refine (putA c _ [{data:=#[32,125]}] w2 HP2.out (by have:=HZ.out;rw[HA.out] at this;simp only[catT,List.foldl_cons,List.foldl_nil,ByteArray.size_append,z1,z2,z3] at this ⊢;omega) (by simp)).mono ?_
  rintro e w3 ⟨rfl,hp3,hb3,hk3⟩
  have HP3:=hidI hp3
  have HB3:=hidI (HB2.out.trans hb3)
  have HK3:=hidI (HK2.out.trans hk3)
  clear hp3 hb3 hk3 p0 p1 p2 p3 p4 p5 pf
  go_wp2
  go_end0
  refine⟨rfl,?_,HB3.out,HK3.out⟩
  have:=HP3.out
  simp only[catT,List.foldl_cons,List.foldl_nil] at this
  rw[zho,HA.out]
  simp only[←ByteArray.append_assoc] at this ⊢
  exact this
end Go.Proofs.YtlnohpdiiileeaaGreat
