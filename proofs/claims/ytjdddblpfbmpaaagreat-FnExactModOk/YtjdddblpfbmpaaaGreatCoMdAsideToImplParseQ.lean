/-
  A program in memory beside a block that is written. No program is spoken of but for the numbers of its types.
  How often expressions are used,counted in a row of numbers. No program is spoken of.
  What impl.Dec and spec.Dec answer,at every number: the walks.
  What l5Two,l5Sum,l5Side and l5Expr of the specification answer: the walks.
  What importedName and importList of impl's parser answer: the walks.
-/
import Derived.Laws.OwnMore
import Derived.Test.YtjdddblpfbmpaaaGreatCoImplParseJToEqRow
namespace Go.Proofs.YtjdddblpfbmpaaaGreat
set_option maxRecDepth 100000
set_option maxHeartbeats 12800000
open Go.RowKit Go.PlainAid Go.Sort
theorem OwnMd.low {w:World} {b n:Nat} {S:Sv} {m:Md} (h:OwnMd w b S m) (j:n≤b):OwnMd w n S m:=⟨h.rq.low j,h.im.low j,h.ep.low j,h.st.low j,h.ex.low j⟩
theorem OwnR.aside {w:World} {j size n c i:Nat} {e t:TypeId} {r:Rw} {xs:List Value} {u:Value} {E:Array Value} (h:OwnR w j e size r n xs) (H:w.heap[c]? =some (.cells E t (0,0))) (D:e≠t):OwnR (w.setCell ⟨c,i,none⟩ u) j e size r n xs:=
 h.keep fun k g=>heap_setCell_other w ⟨c,i,none⟩ k u fun z=>by
  obtain⟨_,_,A,q⟩:=h.typed g
  simp only at z
  rw[z,H] at q
  simp only[Option.some.injEq,Obj.cells.injEq] at q
  exact D q.2.1.symm
theorem OwnMd.aside {w:World} {b c i:Nat} {S:Sv} {m:Md} {t:TypeId} {u:Value} {q:Array Value} (h:OwnMd w b S m) (n:w.heap[c]? =some (.cells q t (0,0))) (j:t≠9∧t≠84∧t≠86∧t≠107∧t≠109):OwnMd (w.setCell ⟨c,i,none⟩ u) b S m:=
 ⟨h.rq.aside n j.1.symm,h.im.aside n j.2.1.symm,h.ep.aside n j.2.2.1.symm,h.st.aside n j.2.2.2.1.symm,h.ex.aside n j.2.2.2.2.symm⟩
theorem zhG {w:World} {b g o:Nat} {S:Sv} {m:Md} {q I J H L:Value} (h:OwnMd w b S m) (M: ∃j,w.heap[g]? =some (.cells j 36 (0,0))):
  OwnMd (((((w.setCell ⟨g,o,none⟩ q).setCell ⟨g,o+1,none⟩ I).setCell ⟨g,o+2,none⟩ J).setCell ⟨g,o+3,none⟩ H).setCell ⟨g,o+4,none⟩ L) b S m:=by
 obtain⟨j,D⟩:=M
 have A:=zag (i:=o) (u:=q) D
 have z:=zag (i:=o+1) (u:=I) A
 have E:=zag (i:=o+2) (u:=J) z
 have K:=zag (i:=o+3) (u:=H) E
 have n:(36:TypeId)≠9∧(36:TypeId)≠84∧(36:TypeId)≠86∧(36:TypeId)≠107∧(36:TypeId)≠109:=by decide
 exact ((((h.aside D n).aside A n).aside z n).aside E n).aside K n
theorem OwnR.put {w:World} {q size n g:Nat} {e:TypeId} {r:Rw} {xs:List Value} (h:OwnR w q e size r n xs) (z:r.a=some ⟨g,0,none⟩) (j:Nat) (u:Value):OwnR (w.setCell ⟨g,j,none⟩ u) q e size r n (xs.set j u):=by
 obtain⟨a,A⟩:=r
 simp only at z
 subst z
 exact (World.ownsRow.stored h j u).1
theorem OwnR.blkOf {r:Rw} {g:Nat} (h:r.a=some ⟨g,0,none⟩):r.blk=some g:=by rw[Rw.blk,h];rfl
theorem OwnR.free {w:World} {q size n g:Nat} {e:TypeId} {r:Rw} {xs:List Value} (h:OwnR w q e size r n xs) (A:r.a=some ⟨g,0,none⟩) (j:Nat):w.frozen? ⟨g,j,none⟩=false:=by
 obtain⟨_,_,z,D⟩:=h.typed (OwnR.blkOf A)
 simp[World.frozen?,D]
theorem zhH (a b:List Ex) (k:Int):zai (a++b) k=zai a k+zai b k:=by simp[zai]
theorem zhI (a b:List Sm) (k:Int):za9 (a++b) k=za9 a k+za9 b k:=by simp[za9]
theorem zhJ {ex:List Ex} {i:Nat} (h:i<ex.length) (k:Int):zai (ex.take (i+1)) k=zai (ex.take i) k+u1 ex[i] k:=by
 rw[List.take_succ_eq_append_getElem h,zhH]
 simp[zai,u1]
theorem zlN {h:List Sm} {i:Nat} (j:i<h.length) (k:Int):za9 (h.take (i+1)) k=za9 (h.take i) k+if h[i].expr==k then 1 else 0:=by
 rw[List.take_succ_eq_append_getElem j,zhI]
 simp[za9]
theorem zfe (ex:List Ex) (k:Int):zai ex k≤2*ex.length:=by
 induction ex with
 |nil=>simp[zai]
 |cons x l h=>
  rw[show x::l=[x]++l from rfl,zhH]
  have:zai [x] k≤2:=by
   simp only[zai,List.map_cons,List.map_nil,List.sum_cons,List.sum_nil]
   split
   ·split<;>split<;>omega
   ·omega
  simp only[List.length_append,List.length_cons,List.length_nil]
  omega
theorem zhK (h:List Sm) (k:Int):za9 h k≤h.length:=by
 induction h with
 |nil=>simp[za9]
 |cons x l j=>
  rw[show x::l=[x]++l from rfl,zhI]
  have:za9 [x] k≤1:=by
   simp only[za9,List.map_cons,List.map_nil,List.sum_cons,List.sum_nil]
   split<;>omega
  simp only[List.length_append,List.length_cons,List.length_nil]
  omega
def zah (n:Nat) (f:Nat→Nat):List Value:=(List.range n).map fun k=>.int .i64 (f k:Int)
theorem zfX (n:Nat) (f:Nat→Nat):(zah n f).length=n:=by simp[zah]
theorem zff {n:Nat} (f:Nat→Nat) {k:Nat} (h:k<n):(zah n f)[k]? =some (.int .i64 (f k:Int)):=by
 unfold zah
 rw[List.getElem?_map,List.getElem?_range h]
 rfl
theorem zlO {n l:Nat} (f g:Nat→Nat) (v:Nat) (q:g l=v) (h: ∀k,k≠l→g k=f k):(zah n f).set l (.int .i64 (v:Int))=zah n g:=by
 apply List.ext_getElem?
 intro k
 by_cases j:k<n
 ·by_cases e:k=l
  ·subst e
   rw[List.getElem?_set_self (by rw[zfX];exact j),zff g j,q]
  ·rw[List.getElem?_set_ne (fun x=>e x.symm),zff f j,zff g j,h k e]
 ·rw[List.getElem?_eq_none (by rw[List.length_set,zfX];omega),List.getElem?_eq_none (by rw[zfX];omega)]
theorem zdo {n:Nat} {f g:Nat→Nat} (h: ∀k,k<n→f k=g k):zah n f=zah n g:=by
 unfold zah
 refine List.map_congr_left fun k j=>?_
 rw[h k (List.mem_range.1 j)]
def za7 (f:Nat→Nat) (l:Nat):Nat→Nat:=fun k=>f k+if k=l then 1 else 0
theorem zlP (f:Nat→Nat) (l:Nat):za7 f l l=f l+1:=by simp[za7]
theorem zlQ (f:Nat→Nat) {l k:Nat} (h:k≠l):za7 f l k=f k:=by simp[za7,h]
theorem zhL {ex:List Ex} {i:Nat} (q:i<ex.length) (n:zR ex[i].kind=true) (z:0≤ex[i].l) (w:0≤ex[i].r) (k:Nat):za7 (za7 (fun k=>zai (ex.take i) (k:Int)) ex[i].l.toNat) ex[i].r.toNat k=zai (ex.take (i+1)) (k:Int):=by
 rw[zhJ q,u1,if_pos n]
 unfold za7
 have h:(ex[i].l==(k:Int))=decide (k=ex[i].l.toNat):=by
  rw[Bool.eq_iff_iff,beq_iff_eq,decide_eq_true_iff];omega
 have j:(ex[i].r==(k:Int))=decide (k=ex[i].r.toNat):=by
  rw[Bool.eq_iff_iff,beq_iff_eq,decide_eq_true_iff];omega
 rw[h,j]
 simp only[decide_eq_true_eq]
 omega
theorem zhM {ex:List Ex} {i:Nat} (h:i<ex.length) (j:zR ex[i].kind=false) (k:Nat):zai (ex.take i) (k:Int)=zai (ex.take (i+1)) (k:Int):=by
 rw[zhJ h,u1,if_neg (by rw[j];decide),Nat.add_zero]
theorem zhN {h:List Sm} {ex:List Ex} {i:Nat} (j:i<h.length) (q:0≤h[i].expr) (k:Nat):za7 (fun k=>zai ex (k:Int)+za9 (h.take i) (k:Int)) h[i].expr.toNat k=zai ex (k:Int)+za9 (h.take (i+1)) (k:Int):=by
 rw[zlN j]
 unfold za7
 have n:(h[i].expr==(k:Int))=decide (k=h[i].expr.toNat):=by
  rw[Bool.eq_iff_iff,beq_iff_eq,decide_eq_true_iff];omega
 rw[n]
 simp only[decide_eq_true_eq]
 omega
def AheadTo (ex:List Ex) (n:Nat):Prop:=∀(i:Nat) (x:Ex),i<n→ex[i]? =some x→zR x.kind=true→0≤x.l∧x.l<(i:Int)∧0≤x.r∧x.r<(i:Int)
theorem AheadTo.all {ex:List Ex} (h:AheadTo ex ex.length):zbd ex:=fun i x j=>h i x (List.getElem?_eq_some_iff.1 j).1 j
theorem AheadTo.next {ex:List Ex} {i:Nat} (h:AheadTo ex i) (A:i<ex.length) (w:zR ex[i].kind=true→0≤ex[i].l∧ex[i].l<(i:Int)∧0≤ex[i].r∧ex[i].r<(i:Int)):AheadTo ex (i+1):=by
 intro j x z n q
 by_cases e:j=i
 ·subst e
  obtain⟨_,rfl⟩:=List.getElem?_eq_some_iff.1 n
  exact w q
 ·exact h j x (by omega) n q
theorem AheadTo.not {ex:List Ex} {i:Nat} (j:i<ex.length) (n:zR ex[i].kind=true) (q: ¬(0≤ex[i].l∧ex[i].l<(i:Int)∧0≤ex[i].r∧ex[i].r<(i:Int))): ¬zbd ex:=fun h=>q (h i _ (List.getElem?_eq_getElem j) n)
theorem Tryz.infoByte:(Tryz.prog.info? 5).map (fun i=>(i.zero,i.size,i.bytes))=some (some (.int .u8 0),1,1):=by kernel_rfl
theorem zhO (m:Int) (w:World) (D:0≤m) (E:m≤18446744073709551615):
  Calls Tryz.prog 233 #[.int .u64 m] w fun e I=>e= .returned (.int .i64 (dcn m))∧I=w:=by
 have q:=zcG m D E
 have H:dcn m≤20:=q.2.1
 have A:1≤dcn m:=q.1
 clear q
 go_enter Tryz.func233,Tryz.ntmps233
 go_wp2
 go_loop [0,3] (fun a c=>∃k:Nat,k+1≤dcn m∧a= .int .u64 (m/10^k)∧c= .int .i64 ((k:Int)+1)) (fun a _=>(intOf a).toNat)
 case atStart=>exact⟨0,A,by simp,rfl⟩
 case round=>
  obtain⟨k,J,rfl,rfl⟩:=hrel
  have K:=zd7 m k D
  have n:=zjL m D E k
  by_cases j:10≤m/10^k
  ·have z:=n.1 j
   clear n
   go_wp2
   go_round
   case rel=>exact⟨k+1,by omega,by rw[zd6],by go_num⟩
   case measure=>simp[intOf];omega
  ·have z: ¬(k+1<dcn m):=fun h=>j (n.2 h)
   clear n
   go_wp2
   go_ret
   exact⟨zeD (by omega),rfl⟩
theorem zlR (n:Int) (w:World) (N:0≤n) (h1:n≤9223372036854775807):
  Calls Tryz.prog 219 #[.int .i64 n] w fun e A=>e= .returned (.string (strOfNums (dgk n (dcn n))))∧Below w.heap.size w A:=by
 obtain⟨X,Z,I,K,L⟩:=info_parts Tryz.infoByte
 have H:=zcG n N (by omega)
 have Y:dcn n≤20:=H.2.1
 have aa:1≤dcn n:=H.1
 clear H
 go_enter Tryz.func219,Tryz.ntmps219
 go_wp2_with (first|(go_at_call 233;refine (zhO _ _ (by omega) (by omega)).mono ?_;rintro e A ⟨rfl,rfl⟩)|(at_make;refine wpList_make_full _ rfl _ _ 50 rfl A.heap.size 5 X (.int .u8 0) 1 Tryz.underlying50 Z I K _ _ _ _ (dcn n) rfl rfl (by omega) (by omega) ?b2 ?b3 ?b4 ?_))
 case b2=>rw[L];omega
 case b3=>unfold maxLen;omega
 case b4=>exact Nat.le_refl _
 intro w1 j q
 have D:=(Below.refl A.heap.size A).grown q (Nat.le_refl _) (by intro k O;cases O)
 rw[toList_madeCells_one] at j
 clear q
 go_wp2
 go_loopw [3,7,21] (fun r _ i wr=>∃k:Nat,k≤dcn n∧i= .int .i64 k∧r= .int .u64 (n/10^k)∧zce wr A.heap.size 5 (.slice (some ⟨A.heap.size,0,none⟩) (dcn n) (dcn n)) (dcn n) (zcf (dgk n (dcn n)) k)∧Below A.heap.size A wr) (fun _ _ i _=>dcn n-(intOf i).toNat)
 case atStart=>exact⟨0,by omega,rfl,by simp,by unfold zce;rw[zg6,zbZ,List.map_replicate];exact j,D⟩
 case round=>
  obtain⟨k,O,rfl,rfl,h,z⟩:=hrel
  clear j D
  have hb:=zd7 n k N
  by_cases E:k<dcn n
  ·obtain⟨v,hv⟩:=zf4 h (dcn n-1-k) (by omega)
   have hf:=zf5 h (dcn n-1-k)
   have U:=zf3 h (dcn n-1-k) (48+n/10^k%10)
   have M:=zg7 (dgk n (dcn n)) k (48+n/10^k%10) (by rw[zbZ];exact E) (by rw[zbZ];exact zgH n _ k E)
   rw[zbZ] at M
   rw[M] at U
   clear M h
   go_wp2
   go_roundw
   case rel=>exact⟨k+1,by omega,by go_num,by rw[zd6],U,z.setCell (Nat.le_refl _) _⟩
   case measure=>simp[intOf];omega
  ·have J:=zjM (dgk n (dcn n))
   rw[zbZ] at J
   rw[show k=dcn n from by omega,J] at h
   clear J
   have V:=zg4 (P:=Tryz.prog) (src:=50) (dst:=9) Tryz.underlying50 Tryz.underlying5 Tryz.underlying9 h
   go_wp2
   go_ret
   exact⟨rfl,z⟩
theorem zlS (m:Int) (j:0<m) (h:m≤9223372036854775808):IntKind.u64.wrap (-IntKind.u64.wrap (-m))=m:=by
 rw[IntKind.wrap_u64,IntKind.wrap_u64];omega
theorem zlT (m:Int) (w:World) (V:0<m) (Y:m≤9223372036854775808):
  Calls Tryz.prog 219 #[.int .i64 (-m)] w fun e z=>e= .returned (.string (strOfNums (45::dgk m (dcn m))))∧Below w.heap.size w z:=by
 obtain⟨Z,hi,J,L,M⟩:=info_parts Tryz.infoByte
 have H:=zcG m (by omega) (by omega)
 have aa:dcn m≤20:=H.2.1
 have ab:1≤dcn m:=H.1
 clear H
 have hu:=zlS m V Y
 go_enter Tryz.func219,Tryz.ntmps219
 go_wp2_with (first|(go_at_call 233;refine (zhO _ _ (by omega) (by omega)).mono ?_;rintro e z ⟨rfl,rfl⟩)|(at_make;refine wpList_make_full _ rfl _ _ 50 rfl z.heap.size 5 Z (.int .u8 0) 1 Tryz.underlying50 hi J L _ _ _ _ (dcn m+1) rfl rfl (by omega) (by omega) ?b2 ?b3 ?b4 ?_))
 case b2=>rw[M];omega
 case b3=>unfold maxLen;omega
 case b4=>exact Nat.le_refl _
 intro w1 j n
 have D:=(Below.refl z.heap.size z).grown n (Nat.le_refl _) (by intro k U;cases U)
 rw[toList_madeCells_one] at j
 clear n
 have A:(45::dgk m (dcn m)).length=dcn m+1:=by rw[List.length_cons,zbZ]
 have N:Hid ((45::dgk m (dcn m)).length=dcn m+1):=A
 clear A
 go_wp2
 go_loopw [3,7,21] (fun r _ i wr=>∃k:Nat,k≤dcn m∧i= .int .i64 k∧r= .int .u64 (m/10^k)∧zce wr z.heap.size 5 (.slice (some ⟨z.heap.size,0,none⟩) (dcn m+1) (dcn m+1)) (dcn m+1) (zcf (45::dgk m (dcn m)) k)∧Below z.heap.size z wr) (fun _ _ i _=>dcn m-(intOf i).toNat)
 case atStart=>exact⟨0,by omega,rfl,by simp,by unfold zce;rw[zg6,N.out,List.map_replicate];exact j,D⟩
 case round=>
  obtain⟨k,U,rfl,rfl,h,q⟩:=hrel
  clear j D hu
  have hb:=zd7 m k (by omega)
  by_cases I:k<dcn m
  ·obtain⟨v,hv⟩:=zf4 h (dcn m-k) (by omega)
   have hf:=zf5 h (dcn m-k)
   have E:=zf3 h (dcn m-k) (48+m/10^k%10)
   have O:=zg7 (45::dgk m (dcn m)) k (48+m/10^k%10) (by rw[N.out];omega) (zjO [45] m (dcn m) k I)
   rw[N.out,show dcn m+1-1-k=dcn m-k from by omega] at O
   rw[O] at E
   clear O h
   go_wp2
   go_roundw
   case rel=>exact⟨k+1,by omega,by go_num,by rw[zd6],E,q.setCell (Nat.le_refl _) _⟩
   case measure=>simp[intOf];omega
  ·have K:=zjN 45 (dgk m (dcn m))
   rw[zbZ] at K
   rw[show k=dcn m from by omega] at h
   obtain⟨v,hv⟩:=zf4 h 0 (by omega)
   have hf:=zf5 h 0
   have E:=zf3 h 0 45
   rw[K] at E
   clear K h
   have X:=zg4 (P:=Tryz.prog) (src:=50) (dst:=9) Tryz.underlying50 Tryz.underlying5 Tryz.underlying9 E
   go_wp2
   go_ret
   exact⟨rfl,q.setCell (Nat.le_refl _) _⟩
theorem zlU (n:Int) (w:World) (q: -9223372036854775808≤n∧n≤9223372036854775807):
  Calls Tryz.prog 219 #[.int .i64 n] w fun e j=>e= .returned (.string (strOfNums (zbz n)))∧Below w.heap.size w j:=by
 by_cases h:0≤n
 ·rw[zf8 h]
  exact zlR n w h q.2
 ·obtain⟨m,rfl⟩: ∃m,n= -m:=⟨-n,by omega⟩
  rw[zf7 (by omega),Int.neg_neg]
  exact zlT m w (by omega) (by omega)
theorem neg_tmod (q:Int) (h:0≤q):(-q).tmod 10= -(q%10):=by rw[Int.neg_tmod,Int.tmod_eq_emod_of_nonneg h]
theorem neg_tdiv (q:Int) (h:0≤q):(-q).tdiv 10= -(q/10):=by rw[Int.neg_tdiv,Int.tdiv_eq_ediv_of_nonneg h]
theorem zlV (n:Int) (w:World) (V:0<n) (Z:n≤9223372036854775807):
  Calls Tryz.prog 153 #[.int .i64 n] w fun e K=>e= .returned (.string (strOfNums (dgk n (dcn n))))∧Below w.heap.size w K:=by
 have A:=zcG n (by omega) (by omega)
 have O:dcn n≤20:=A.2.1
 have U:1≤dcn n:=A.1
 have J:(n==0)=false:=by simp;omega
 have I: ¬n<0:=by omega
 clear A
 go_enter Tryz.func153,Tryz.ntmps153
 go_wp2
 go_loopw [0,3,5] (fun a o _ wr=>∃k:Nat,k≤dcn n∧a= .int .i64 (n/10^k)∧o= .string (strOfNums (dgk n k))∧Below w.heap.size w wr) (fun a _ _ _=>(intOf a).toNat)
 case atStart=>exact⟨0,by omega,by simp,rfl,Below.refl _ _⟩
 case round=>
  obtain⟨k,Y,rfl,rfl,j⟩:=hrel
  have X:=zd7 n k (by omega)
  have z:=zgG n (by omega) (by omega) k
  have N:(strOfNums (dgk n k)).size≤20:=by rw[strOfNums_size,zbZ];omega
  by_cases q:n/10^k=0
  ·have D: ¬(k<dcn n):=fun h=>z.2 h q
   have E:(n/10^k !=0)=false:=by simpa using q
   clear z q
   go_wp2
   go_ret
   exact⟨zaD (by rw[show dcn n=k from by omega]),j⟩
  ·have D:=z.1 q
   have E:(n/10^k !=0)=true:=by simpa using q
   have M:0<n/10^k:=by omega
   clear z q
   have L:=fun (w:World) (x:Int)=>zg5 (P:=Tryz.prog) (src:=50) (dst:=9) Tryz.underlying50 Tryz.underlying5 Tryz.underlying9 w x
   have H:=fun x=>strOfNums_size [x]
   go_wp2
   go_roundw
   case rel=>exact⟨k+1,by omega,by rw[zd6],by rw[zeE];rfl,j.alloc j.size _⟩
   case measure=>simp[intOf];omega
theorem zlW (m:Int) (w:World) (V:0<m) (Y:m≤9223372036854775808):
  Calls Tryz.prog 153 #[.int .i64 (-m)] w fun e K=>e= .returned (.string (strOfNums (45::dgk m (dcn m))))∧Below w.heap.size w K:=by
 have q:=zcG m (by omega) (by omega)
 have O:dcn m≤20:=q.2.1
 have U:1≤dcn m:=q.1
 have J:(-m==0)=false:=by simp;omega
 clear q
 go_enter Tryz.func153,Tryz.ntmps153
 go_wp2
 go_loopw [0,3,5] (fun a o _ wr=>∃k:Nat,k≤dcn m∧a= .int .i64 (-(m/10^k))∧o= .string (strOfNums (dgk m k))∧Below w.heap.size w wr) (fun a _ _ _=>(-(intOf a)).toNat)
 case atStart=>exact⟨0,by omega,by simp,rfl,Below.refl _ _⟩
 case round=>
  obtain⟨k,X,rfl,rfl,j⟩:=hrel
  have E:=zd7 m k (by omega)
  have z:=zgG m (by omega) (by omega) k
  have N:(strOfNums (dgk m k)).size≤20:=by rw[strOfNums_size,zbZ];omega
  by_cases n:m/10^k=0
  ·have A: ¬(k<dcn m):=fun h=>z.2 h n
   have D:(-(m/10^k) !=0)=false:=by simpa using n
   have H:(strOfNums [45]).size=1:=strOfNums_size [45]
   clear z n
   go_wp2
   go_ret
   exact⟨zaD (by rw[show dcn m=k from by omega];exact zeE 45 _),j⟩
  ·have A:=z.1 n
   have D:(-(m/10^k) !=0)=true:=by simpa using n
   have M:0<m/10^k:=by omega
   clear z n
   have e1:=neg_tmod (m/10^k) E.1
   have Z:=neg_tdiv (m/10^k) E.1
   have L:=fun (w:World) (x:Int)=>zg5 (P:=Tryz.prog) (src:=50) (dst:=9) Tryz.underlying50 Tryz.underlying5 Tryz.underlying9 w x
   have I:=fun x=>strOfNums_size [x]
   by_cases q:0<m/10^k%10
   ·go_wp2
    go_roundw
    case rel=>exact⟨k+1,by omega,by rw[zd6],by rw[zeE];rfl,j.alloc j.size _⟩
    case measure=>simp[intOf];omega
   ·go_wp2
    go_roundw
    case rel=>exact⟨k+1,by omega,by rw[zd6],by rw[zeE,show 48+ -(m/10^k%10)=48+m/10^k%10 from by omega];rfl,j.alloc j.size _⟩
    case measure=>simp[intOf];omega
theorem zlX (n:Int) (w:World) (z: -9223372036854775808≤n∧n≤9223372036854775807):
  Calls Tryz.prog 153 #[.int .i64 n] w fun e j=>e= .returned (.string (strOfNums (zbz n)))∧Below w.heap.size w j:=by
 by_cases h:0<n
 ·rw[zf8 (by omega)]
  exact zlV n w h z.2
 ·by_cases A:n=0
  ·subst A
   have q:Hid (zbz 0=[48]):=by show zbz 0=[48];decide
   go_enter Tryz.func153,Tryz.ntmps153
   go_wp2
   go_ret
   exact⟨zaD (by rw[q.out];rfl),Below.refl _ _⟩
  ·obtain⟨m,rfl⟩: ∃m,n= -m:=⟨-n,by omega⟩
   rw[zf7 (by omega),Int.neg_neg]
   exact zlW m w (by omega) (by omega)
theorem zhP (k:Int) (w:World):Calls Tryz.prog 115 #[.int .i64 k] w fun e q=>e= .returned (.bool (zR k))∧q=w:=by
 cases j:(k==6) with
 |true=>
  have h:Hid (zR k=true):=by show _=_;rw[zR,j];rfl
  go_enter Tryz.func115,Tryz.ntmps115
  go_wp2
  go_ret
  exact⟨zl h.out.symm,rfl⟩
 |false=>
  cases n:(k==7) with
  |true=>
   have h:Hid (zR k=true):=by show _=_;rw[zR,j,n];rfl
   go_enter Tryz.func115,Tryz.ntmps115
   go_wp2
   go_ret
   exact⟨zl h.out.symm,rfl⟩
  |false=>
   have h:Hid (zR k=(k==8)):=by show _=_;rw[zR,j,n];simp
   go_enter Tryz.func115,Tryz.ntmps115
   go_wp2
   go_ret
   exact⟨zl h.out.symm,rfl⟩
theorem zfY (j:Nat) (S:Sv) (m:Md) (i:Nat) (w:World) (h:OwnMd w j S m) (D:i<m.ex.length):
  Calls Tryz.prog 155 #[zq S m,.int .i64 i] w fun e z=>e= .returned (.bool (zK (m.ex.getD i zf).kind))∧Below w.heap.size w z:=by
 obtain⟨g,hg,hlt,c0,-,-,-,-,-⟩:=h.expr D
 have A:(i:Int)<(m.ex.length:Int):=by omega
 unfold zq
 rw[hg]
 generalize (m.ex.getD i zf).kind=k at c0 ⊢
 clear h hg
 cases q:(k==6) with
 |true=>
  have n:Hid (zK k=true):=by show _=_;rw[zK,q];rfl
  go_enter Tryz.func155,Tryz.ntmps155
  go_wp2
  go_ret
  exact⟨zl n.out.symm,(Below.refl _ _).alloc (Nat.le_refl _) _⟩
 |false=>
  have n:Hid (zK k=(k==7)):=by show _=_;rw[zK,q];simp
  go_enter Tryz.func155,Tryz.ntmps155
  go_wp2
  go_ret
  exact⟨zl n.out.symm,(Below.refl _ _).alloc (Nat.le_refl _) _⟩
def zdL (base:Nat) (S:Sv) (m:Md) (n:Nat):Prop:=∀(i:Nat) (w:World),i<n→i<m.ex.length→OwnMd w base S m→wt m.ex i≤1099511627776→
 Calls Tryz.prog 117 #[zq S m,.int .i64 i] w fun e w'=>e= .returned (.string (prX m.ex i))∧Below w.heap.size w w'
theorem zfg (j:Nat) (S:Sv) (m:Md) (n i:Nat) (b:Bool) (w:World) (H:zdL j S m n) (J:i<n) (M:i<m.ex.length) (h:OwnMd w j S m) (A:wt m.ex i≤1099511627776):
  Calls Tryz.prog 154 #[zq S m,.int .i64 i,.bool b] w fun e O=>e= .returned (.string (zC b (prX m.ex i)))∧Below w.heap.size w O:=by
 have L:=zc H
 have I:=zc h
 have N:=zc A
 unfold wt at A
 clear H h
 unfold zq
 cases b with
 |true=>
  have z:Hid (zC true (prX m.ex i)=zm++prX m.ex i++zaw):=rfl
  go_enter Tryz.func154,Tryz.ntmps154
  go_wp2_with fail
  refine (L.out i _ J M (I.out.alloc _) N.out).mono ?_
  rintro e D ⟨rfl,q⟩
  have E:Hid (Below w.heap.size w D):=((Below.refl _ _).alloc (Nat.le_refl _) _).trans (q.mono (by rw[zk];omega))
  clear q
  generalize K:prX m.ex i=t at A z ⊢
  have U:=zc K
  clear K
  go_wp2
  go_ret
  exact⟨zaD (by rw[U.out];exact z.out.symm),E.out⟩
 |false=>
  have z:Hid (zC false (prX m.ex i)=prX m.ex i):=rfl
  go_enter Tryz.func154,Tryz.ntmps154
  go_wp2_with fail
  refine (L.out i _ J M (I.out.alloc _) N.out).mono ?_
  rintro e D ⟨rfl,q⟩
  have E:Hid (Below w.heap.size w D):=((Below.refl _ _).alloc (Nat.le_refl _) _).trans (q.mono (by rw[zk];omega))
  clear q
  go_wp2
  go_ret
  exact⟨zaD z.out.symm,E.out⟩
theorem zlY (g:Nat) (S:Sv) (m:Md) (i:Nat) (k h l r:Int) (D J:ByteArray) (w:World) (j:S.ex.a=some ⟨g,0,none⟩) (M:i<m.ex.length) (A:g<w.heap.size) (N:w.cell? ⟨g,i*6,none⟩=some (.int .i64 k)) (O:w.cell? ⟨g,i*6+1,none⟩=some (.int .i64 h)) (L:w.cell? ⟨g,i*6+2,none⟩=some (.string D)) (c3:w.cell? ⟨g,i*6+3,none⟩=some (.string J)) (c4:w.cell? ⟨g,i*6+4,none⟩=some (.int .i64 l)) (c5:w.cell? ⟨g,i*6+5,none⟩=some (.int .i64 r)) (K:(k==1)=true) (n: -9223372036854775808≤h∧h≤9223372036854775807):
  Calls Tryz.prog 117 #[zq S m,.int .i64 i] w fun e E=>e= .returned (.string (strOfNums (zbz h)))∧Below w.heap.size w E:=by
 have I:(i:Int)<(m.ex.length:Int):=by omega
 unfold zq
 rw[j]
 clear j
 go_enter Tryz.func117,Tryz.ntmps117
 go_wp2_with fail
 refine (zlX h _ n).mono ?_
 rintro e z ⟨rfl,q⟩
 have H:Hid (Below w.heap.size w z):=(zaJ w _ _).trans (q.mono (by rw[zk,zk];omega))
 clear q
 go_wp2
 go_ret
 exact⟨rfl,H.out⟩
theorem zlZ (g:Nat) (S:Sv) (m:Md) (i:Nat) (k z l r:Int) (j D:ByteArray) (w:World) (h:S.ex.a=some ⟨g,0,none⟩) (J:i<m.ex.length) (n:g<w.heap.size) (K:w.cell? ⟨g,i*6,none⟩=some (.int .i64 k)) (L:w.cell? ⟨g,i*6+1,none⟩=some (.int .i64 z)) (H:w.cell? ⟨g,i*6+2,none⟩=some (.string j)) (c3:w.cell? ⟨g,i*6+3,none⟩=some (.string D)) (c4:w.cell? ⟨g,i*6+4,none⟩=some (.int .i64 l)) (c5:w.cell? ⟨g,i*6+5,none⟩=some (.int .i64 r)) (E:(k==1)=false) (I:(k==2)=true):
  Calls Tryz.prog 117 #[zq S m,.int .i64 i] w fun e q=>e= .returned (.string (j))∧Below w.heap.size w q:=by
 have A:(i:Int)<(m.ex.length:Int):=by omega
 unfold zq
 rw[h]
 clear h
 go_enter Tryz.func117,Tryz.ntmps117
 go_wp2
 go_ret
 exact⟨rfl,((Below.refl _ _).alloc (Nat.le_refl _) _).alloc (by show _≤(w.heap.push _).size;simp) _⟩
theorem zma (g:Nat) (S:Sv) (m:Md) (i:Nat) (k E l r:Int) (n A:ByteArray) (w:World) (h:S.ex.a=some ⟨g,0,none⟩) (N:i<m.ex.length) (z:g<w.heap.size) (U:w.cell? ⟨g,i*6,none⟩=some (.int .i64 k)) (O:w.cell? ⟨g,i*6+1,none⟩=some (.int .i64 E)) (K:w.cell? ⟨g,i*6+2,none⟩=some (.string n)) (c3:w.cell? ⟨g,i*6+3,none⟩=some (.string A)) (c4:w.cell? ⟨g,i*6+4,none⟩=some (.int .i64 l)) (c5:w.cell? ⟨g,i*6+5,none⟩=some (.int .i64 r)) (J:(k==1)=false) (L:(k==2)=false) (M:(k==3)=true) (j:(n++cParens).size≤1099511627776):
  Calls Tryz.prog 117 #[zq S m,.int .i64 i] w fun e D=>e= .returned (.string (n++cParens))∧Below w.heap.size w D:=by
 have H:(i:Int)<(m.ex.length:Int):=by omega
 unfold zq
 rw[h]
 clear h
 simp only[ByteArray.size_append] at j
 have q:cParens.size=2:=rfl
 have I:n.size≤1099511627776:=by omega
 clear j q
 go_enter Tryz.func117,Tryz.ntmps117
 go_wp2
 go_ret
 exact⟨rfl,((Below.refl _ _).alloc (Nat.le_refl _) _).alloc (by show _≤(w.heap.push _).size;simp) _⟩
theorem zmb (g:Nat) (S:Sv) (m:Md) (i:Nat) (k E l r:Int) (n q:ByteArray) (w:World) (j:S.ex.a=some ⟨g,0,none⟩) (O:i<m.ex.length) (A:g<w.heap.size) (X:w.cell? ⟨g,i*6,none⟩=some (.int .i64 k)) (M:w.cell? ⟨g,i*6+1,none⟩=some (.int .i64 E)) (N:w.cell? ⟨g,i*6+2,none⟩=some (.string n)) (c3:w.cell? ⟨g,i*6+3,none⟩=some (.string q)) (c4:w.cell? ⟨g,i*6+4,none⟩=some (.int .i64 l)) (c5:w.cell? ⟨g,i*6+5,none⟩=some (.int .i64 r)) (K:(k==1)=false) (U:(k==2)=false) (L:(k==3)=false) (V:(k==4)=true) (h:(n++cPoint++q).size≤1099511627776):
  Calls Tryz.prog 117 #[zq S m,.int .i64 i] w fun e D=>e= .returned (.string (n++cPoint++q))∧Below w.heap.size w D:=by
 have H:(i:Int)<(m.ex.length:Int):=by omega
 unfold zq
 rw[j]
 clear j
 simp only[ByteArray.size_append] at h
 have z:cPoint.size=1:=rfl
 have I:n.size≤1099511627776:=by omega
 have J:q.size≤1099511627776:=by omega
 clear h z
 go_enter Tryz.func117,Tryz.ntmps117
 go_wp2
 go_ret
 exact⟨rfl,((Below.refl _ _).alloc (Nat.le_refl _) _).alloc (by show _≤(w.heap.push _).size;simp) _⟩
theorem zmc (g:Nat) (S:Sv) (m:Md) (i:Nat) (k H l r:Int) (n q:ByteArray) (w:World) (j:S.ex.a=some ⟨g,0,none⟩) (V:i<m.ex.length) (D:g<w.heap.size) (Z:w.cell? ⟨g,i*6,none⟩=some (.int .i64 k)) (O:w.cell? ⟨g,i*6+1,none⟩=some (.int .i64 H)) (U:w.cell? ⟨g,i*6+2,none⟩=some (.string n)) (c3:w.cell? ⟨g,i*6+3,none⟩=some (.string q)) (c4:w.cell? ⟨g,i*6+4,none⟩=some (.int .i64 l)) (c5:w.cell? ⟨g,i*6+5,none⟩=some (.int .i64 r)) (L:(k==1)=false) (X:(k==2)=false) (M:(k==3)=false) (Y:(k==4)=false) (N:(k==5)=true) (h:(n++cPoint++q++cParens).size≤1099511627776):
  Calls Tryz.prog 117 #[zq S m,.int .i64 i] w fun e E=>e= .returned (.string (n++cPoint++q++cParens))∧Below w.heap.size w E:=by
 have I:(i:Int)<(m.ex.length:Int):=by omega
 unfold zq
 rw[j]
 clear j
 simp only[ByteArray.size_append] at h
 have A:cParens.size=2:=rfl
 have z:cPoint.size=1:=rfl
 have J:n.size≤1099511627776:=by omega
 have K:q.size≤1099511627776:=by omega
 clear h A z
 go_enter Tryz.func117,Tryz.ntmps117
 go_wp2
 go_ret
 exact⟨rfl,((Below.refl _ _).alloc (Nat.le_refl _) _).alloc (by show _≤(w.heap.push _).size;simp) _⟩
theorem zmd (g:Nat) (S:Sv) (m:Md) (i:Nat) (k z l r:Int) (n D:ByteArray) (w:World) (h:S.ex.a=some ⟨g,0,none⟩) (O:i<m.ex.length) (j:g<w.heap.size) (X:w.cell? ⟨g,i*6,none⟩=some (.int .i64 k)) (L:w.cell? ⟨g,i*6+1,none⟩=some (.int .i64 z)) (M:w.cell? ⟨g,i*6+2,none⟩=some (.string n)) (c3:w.cell? ⟨g,i*6+3,none⟩=some (.string D)) (c4:w.cell? ⟨g,i*6+4,none⟩=some (.int .i64 l)) (c5:w.cell? ⟨g,i*6+5,none⟩=some (.int .i64 r)) (E:(k==1)=false) (U:(k==2)=false) (J:(k==3)=false) (V:(k==4)=false) (K:(k==5)=false) (N:(k==6)=false) (I:(k==7)=false) (H:(k==8)=false):
  Calls Tryz.prog 117 #[zq S m,.int .i64 i] w fun e q=>e= .returned (.string (sNone))∧Below w.heap.size w q:=by
 have A:(i:Int)<(m.ex.length:Int):=by omega
 unfold zq
 rw[h]
 clear h
 go_enter Tryz.func117,Tryz.ntmps117
 go_wp2
 go_ret
 exact⟨rfl,((Below.refl _ _).alloc (Nat.le_refl _) _).alloc (by show _≤(w.heap.push _).size;simp) _⟩
theorem zme (q g:Nat) (S:Sv) (m:Md) (i n j:Nat) (k A:Int) (z D:ByteArray) (w:World) (J:S.ex.a=some ⟨g,0,none⟩) (h:OwnMd w q S m) (hi:i<m.ex.length) (aa:g<w.heap.size) (c0:w.cell? ⟨g,i*6,none⟩=some (.int .i64 k)) (c1:w.cell? ⟨g,i*6+1,none⟩=some (.int .i64 A)) (c2:w.cell? ⟨g,i*6+2,none⟩=some (.string z)) (c3:w.cell? ⟨g,i*6+3,none⟩=some (.string D)) (c4:w.cell? ⟨g,i*6+4,none⟩=some (.int .i64 (n:Int))) (c5:w.cell? ⟨g,i*6+5,none⟩=some (.int .i64 (j:Int))) (k1:(k==1)=false) (k2:(k==2)=false) (k3:(k==3)=false) (k4:(k==4)=false) (k5:(k==5)=false) (k6:(k==6)=true) (O:(prX m.ex n++tPlus++zC (zK (m.ex.getD j zf).kind) (prX m.ex j)).size≤1099511627776) (he:zdL q S m i) (hl:n<i) (hr:j<i) (ac:wt m.ex n≤1099511627776) (af:wt m.ex j≤1099511627776):
  Calls Tryz.prog 117 #[zq S m,.int .i64 i] w fun e w'=>e= .returned (.string (prX m.ex n++tPlus++zC (zK (m.ex.getD j zf).kind) (prX m.ex j)))∧Below w.heap.size w w':=by
 have aj:(i:Int)<(m.ex.length:Int):=by omega
 have HA:Hid (OwnMd ((w.alloc (.cells #[.slice S.rq.a m.rq.length S.rq.cap,.slice S.im.a m.im.length S.im.cap,.slice S.ep.a m.ep.length S.ep.cap,.slice S.st.a m.st.length S.st.cap,.slice (some ⟨g,0,none⟩) m.ex.length S.ex.cap] 36)).alloc (.cells #[.int .i64 k,.int .i64 A,.string z,.string D,.int .i64 (n:Int),.int .i64 (j:Int)] 109)) q S m):=(h.alloc _).alloc _
 have HE:=zc he
 have I:Hid (zq S m= .agg #[.slice S.rq.a m.rq.length S.rq.cap,.slice S.im.a m.im.length S.im.cap,.slice S.ep.a m.ep.length S.ep.cap,.slice S.st.a m.st.length S.st.cap,.slice (some ⟨g,0,none⟩) m.ex.length S.ex.cap]):=by show _=_;rw[zq,J]
 have ak:(n:Int)<(m.ex.length:Int):=by omega
 have al:(j:Int)<(m.ex.length:Int):=by omega
 obtain⟨g2,hg2,-,d0,-,-,-,-,-⟩:=h.expr (i:=j) (by omega)
 have eg:g2=g:=by have:=hg2.symm.trans J;simpa using this
 rw[eg] at d0
 obtain⟨kr,M⟩: ∃kr,(m.ex.getD j zf).kind=kr:=⟨_,rfl⟩
 rw[M] at d0
 have L:=zc M
 obtain⟨tl,N⟩: ∃tl,prX m.ex n=tl:=⟨_,rfl⟩
 obtain⟨tr,V⟩: ∃tr,zC (zK (m.ex.getD j zf).kind) (prX m.ex j)=tr:=⟨_,rfl⟩
 rw[N,V] at O
 have Z:=zc N
 have U:=zc V
 have cL: ∀d E,Calls Tryz.prog 117 #[.agg #[.slice S.rq.a m.rq.length S.rq.cap,.slice S.im.a m.im.length S.im.cap,.slice S.ep.a m.ep.length S.ep.cap,.slice S.st.a m.st.length S.st.cap,.slice (some ⟨g,0,none⟩) m.ex.length S.ex.cap],.int .i64 (n:Int)] (grow (redrawn ((w.alloc (.cells #[.slice S.rq.a m.rq.length S.rq.cap,.slice S.im.a m.im.length S.im.cap,.slice S.ep.a m.ep.length S.ep.cap,.slice S.st.a m.st.length S.st.cap,.slice (some ⟨g,0,none⟩) m.ex.length S.ex.cap] 36)).alloc (.cells #[.int .i64 k,.int .i64 A,.string z,.string D,.int .i64 (n:Int),.int .i64 (j:Int)] 109)) d) E) fun e H=>e= .returned (.string tl)∧∃p:Regrown,H=grow (redrawn ((w.alloc (.cells #[.slice S.rq.a m.rq.length S.rq.cap,.slice S.im.a m.im.length S.im.cap,.slice S.ep.a m.ep.length S.ep.cap,.slice S.st.a m.st.length S.st.cap,.slice (some ⟨g,0,none⟩) m.ex.length S.ex.cap] 36)).alloc (.cells #[.int .i64 k,.int .i64 A,.string z,.string D,.int .i64 (n:Int),.int .i64 (j:Int)] 109)) p.d) p.os:=fun d E=>Calls.regrown_of (by rw[←I.out,←Z.out];exact HE.out n _ (by omega) (by omega) (HA.out.later (below_regrown _ d E)) ac)
 have cS: ∀d E,Calls Tryz.prog 155 #[.agg #[.slice S.rq.a m.rq.length S.rq.cap,.slice S.im.a m.im.length S.im.cap,.slice S.ep.a m.ep.length S.ep.cap,.slice S.st.a m.st.length S.st.cap,.slice (some ⟨g,0,none⟩) m.ex.length S.ex.cap],.int .i64 (j:Int)] (grow (redrawn ((w.alloc (.cells #[.slice S.rq.a m.rq.length S.rq.cap,.slice S.im.a m.im.length S.im.cap,.slice S.ep.a m.ep.length S.ep.cap,.slice S.st.a m.st.length S.st.cap,.slice (some ⟨g,0,none⟩) m.ex.length S.ex.cap] 36)).alloc (.cells #[.int .i64 k,.int .i64 A,.string z,.string D,.int .i64 (n:Int),.int .i64 (j:Int)] 109)) d) E) fun e H=>e= .returned (.bool (zK kr))∧∃p:Regrown,H=grow (redrawn ((w.alloc (.cells #[.slice S.rq.a m.rq.length S.rq.cap,.slice S.im.a m.im.length S.im.cap,.slice S.ep.a m.ep.length S.ep.cap,.slice S.st.a m.st.length S.st.cap,.slice (some ⟨g,0,none⟩) m.ex.length S.ex.cap] 36)).alloc (.cells #[.int .i64 k,.int .i64 A,.string z,.string D,.int .i64 (n:Int),.int .i64 (j:Int)] 109)) p.d) p.os:=fun d E=>Calls.regrown_of (by rw[←I.out,←L.out];exact zfY q S m j _ (HA.out.later (below_regrown _ d E)) (by omega))
 have cR: ∀d E,Calls Tryz.prog 154 #[.agg #[.slice S.rq.a m.rq.length S.rq.cap,.slice S.im.a m.im.length S.im.cap,.slice S.ep.a m.ep.length S.ep.cap,.slice S.st.a m.st.length S.st.cap,.slice (some ⟨g,0,none⟩) m.ex.length S.ex.cap],.int .i64 (j:Int),.bool (zK kr)] (grow (redrawn ((w.alloc (.cells #[.slice S.rq.a m.rq.length S.rq.cap,.slice S.im.a m.im.length S.im.cap,.slice S.ep.a m.ep.length S.ep.cap,.slice S.st.a m.st.length S.st.cap,.slice (some ⟨g,0,none⟩) m.ex.length S.ex.cap] 36)).alloc (.cells #[.int .i64 k,.int .i64 A,.string z,.string D,.int .i64 (n:Int),.int .i64 (j:Int)] 109)) d) E) fun e H=>e= .returned (.string tr)∧∃p:Regrown,H=grow (redrawn ((w.alloc (.cells #[.slice S.rq.a m.rq.length S.rq.cap,.slice S.im.a m.im.length S.im.cap,.slice S.ep.a m.ep.length S.ep.cap,.slice S.st.a m.st.length S.st.cap,.slice (some ⟨g,0,none⟩) m.ex.length S.ex.cap] 36)).alloc (.cells #[.int .i64 k,.int .i64 A,.string z,.string D,.int .i64 (n:Int),.int .i64 (j:Int)] 109)) p.d) p.os:=fun d E=>Calls.regrown_of (by rw[←I.out,←U.out,L.out];exact zfg q S m i j _ _ HE.out (by omega) (by omega) (HA.out.later (below_regrown _ d E)) af)
 have X:Hid (Six ((w.alloc (.cells #[.slice S.rq.a m.rq.length S.rq.cap,.slice S.im.a m.im.length S.im.cap,.slice S.ep.a m.ep.length S.ep.cap,.slice S.st.a m.st.length S.st.cap,.slice (some ⟨g,0,none⟩) m.ex.length S.ex.cap] 36)).alloc (.cells #[.int .i64 k,.int .i64 A,.string z,.string D,.int .i64 (n:Int),.int .i64 (j:Int)] 109)) (w.heap.size+1) (.int .i64 k) (.int .i64 A) (.string z) (.string D) (.int .i64 (n:Int)) (.int .i64 (j:Int))):=zu (new2 w _ _)
 have Y:=zc (zi (zca (o':=.cells #[.int .i64 k,.int .i64 A,.string z,.string D,.int .i64 (n:Int),.int .i64 (j:Int)] 109) (heap_alloc_new w (.cells #[.slice S.rq.a m.rq.length S.rq.cap,.slice S.im.a m.im.length S.im.cap,.slice S.ep.a m.ep.length S.ep.cap,.slice S.st.a m.st.length S.st.cap,.slice (some ⟨g,0,none⟩) m.ex.length S.ex.cap] 36))))
 have D0:Hid (((w.alloc (.cells #[.slice S.rq.a m.rq.length S.rq.cap,.slice S.im.a m.im.length S.im.cap,.slice S.ep.a m.ep.length S.ep.cap,.slice S.st.a m.st.length S.st.cap,.slice (some ⟨g,0,none⟩) m.ex.length S.ex.cap] 36)).alloc (.cells #[.int .i64 k,.int .i64 A,.string z,.string D,.int .i64 (n:Int),.int .i64 (j:Int)] 109)).cell? ⟨g,j*6,none⟩=some (.int .i64 kr)):=by show _=_;rw[World.cell?_alloc_past _ _ _ (by rw[zk];omega),World.cell?_alloc_past _ _ _ aa];exact d0
 simp only[ByteArray.size_append] at O
 have ad:tPlus.size=3:=rfl
 have ah:tl.size≤1099511627776:=by omega
 have ai:tr.size≤1099511627776:=by omega
 have HV:Hid ((prX m.ex n++tPlus++zC (zK (m.ex.getD j zf).kind) (prX m.ex j))=tl++tPlus++tr):=by show _=_;rw[Z.out,U.out]
 unfold zq
 rw[J]
 clear J h HA HE I Z U N V M L hg2 he O ad d0 eg
 go_enter Tryz.func117,Tryz.ntmps117
 go_wp2_with fail
 have x0:=cell_regrown X.out.c0
 have x4:=cell_regrown X.out.c4
 have x5:=cell_regrown X.out.c5
 have y0:=cell_regrown Y.out.1
 have y1:=cell_regrown Y.out.2.1
 have y2:=cell_regrown Y.out.2.2.1
 have y3:=cell_regrown Y.out.2.2.2.1
 have y4:=cell_regrown Y.out.2.2.2.2.1
 have e0:=cell_regrown D0.out
 refine wp_region_quiet_below (by kernel_rfl) (by kernel_rfl) ?_
 repeat (go_big_quiet_step (first|with_reducible exact cL _ _|with_reducible exact cS _ _|with_reducible exact cR _ _))
 refine wpQuiet_nil ?_
 intro w1 ab
 obtain⟨⟨dq,ag⟩,K⟩:=ab
 have ae:Hid (Below w.heap.size w w1):=by show Below _ _ _;rw[K];exact (zaJ w _ _).trans ((below_regrown _ _ _).mono (by rw[zk,zk];omega))
 clear K
 go_wp2
 go_ret
 exact⟨zaD HV.out.symm,ae.out⟩
theorem zmf (q g:Nat) (S:Sv) (m:Md) (i n j:Nat) (k A:Int) (z D:ByteArray) (w:World) (J:S.ex.a=some ⟨g,0,none⟩) (h:OwnMd w q S m) (hi:i<m.ex.length) (aa:g<w.heap.size) (c0:w.cell? ⟨g,i*6,none⟩=some (.int .i64 k)) (c1:w.cell? ⟨g,i*6+1,none⟩=some (.int .i64 A)) (c2:w.cell? ⟨g,i*6+2,none⟩=some (.string z)) (c3:w.cell? ⟨g,i*6+3,none⟩=some (.string D)) (c4:w.cell? ⟨g,i*6+4,none⟩=some (.int .i64 (n:Int))) (c5:w.cell? ⟨g,i*6+5,none⟩=some (.int .i64 (j:Int))) (k1:(k==1)=false) (k2:(k==2)=false) (k3:(k==3)=false) (k4:(k==4)=false) (k5:(k==5)=false) (k6:(k==6)=false) (k7:(k==7)=true) (O:(prX m.ex n++tMinus++zC (zK (m.ex.getD j zf).kind) (prX m.ex j)).size≤1099511627776) (he:zdL q S m i) (hl:n<i) (hr:j<i) (ac:wt m.ex n≤1099511627776) (af:wt m.ex j≤1099511627776):
  Calls Tryz.prog 117 #[zq S m,.int .i64 i] w fun e w'=>e= .returned (.string (prX m.ex n++tMinus++zC (zK (m.ex.getD j zf).kind) (prX m.ex j)))∧Below w.heap.size w w':=by
 have aj:(i:Int)<(m.ex.length:Int):=by omega
 have HA:Hid (OwnMd ((w.alloc (.cells #[.slice S.rq.a m.rq.length S.rq.cap,.slice S.im.a m.im.length S.im.cap,.slice S.ep.a m.ep.length S.ep.cap,.slice S.st.a m.st.length S.st.cap,.slice (some ⟨g,0,none⟩) m.ex.length S.ex.cap] 36)).alloc (.cells #[.int .i64 k,.int .i64 A,.string z,.string D,.int .i64 (n:Int),.int .i64 (j:Int)] 109)) q S m):=(h.alloc _).alloc _
 have HE:=zc he
 have I:Hid (zq S m= .agg #[.slice S.rq.a m.rq.length S.rq.cap,.slice S.im.a m.im.length S.im.cap,.slice S.ep.a m.ep.length S.ep.cap,.slice S.st.a m.st.length S.st.cap,.slice (some ⟨g,0,none⟩) m.ex.length S.ex.cap]):=by show _=_;rw[zq,J]
 have ak:(n:Int)<(m.ex.length:Int):=by omega
 have al:(j:Int)<(m.ex.length:Int):=by omega
 obtain⟨g2,hg2,-,d0,-,-,-,-,-⟩:=h.expr (i:=j) (by omega)
 have eg:g2=g:=by have:=hg2.symm.trans J;simpa using this
 rw[eg] at d0
 obtain⟨kr,M⟩: ∃kr,(m.ex.getD j zf).kind=kr:=⟨_,rfl⟩
 rw[M] at d0
 have L:=zc M
 obtain⟨tl,N⟩: ∃tl,prX m.ex n=tl:=⟨_,rfl⟩
 obtain⟨tr,V⟩: ∃tr,zC (zK (m.ex.getD j zf).kind) (prX m.ex j)=tr:=⟨_,rfl⟩
 rw[N,V] at O
 have Z:=zc N
 have U:=zc V
 have cL: ∀d E,Calls Tryz.prog 117 #[.agg #[.slice S.rq.a m.rq.length S.rq.cap,.slice S.im.a m.im.length S.im.cap,.slice S.ep.a m.ep.length S.ep.cap,.slice S.st.a m.st.length S.st.cap,.slice (some ⟨g,0,none⟩) m.ex.length S.ex.cap],.int .i64 (n:Int)] (grow (redrawn ((w.alloc (.cells #[.slice S.rq.a m.rq.length S.rq.cap,.slice S.im.a m.im.length S.im.cap,.slice S.ep.a m.ep.length S.ep.cap,.slice S.st.a m.st.length S.st.cap,.slice (some ⟨g,0,none⟩) m.ex.length S.ex.cap] 36)).alloc (.cells #[.int .i64 k,.int .i64 A,.string z,.string D,.int .i64 (n:Int),.int .i64 (j:Int)] 109)) d) E) fun e H=>e= .returned (.string tl)∧∃p:Regrown,H=grow (redrawn ((w.alloc (.cells #[.slice S.rq.a m.rq.length S.rq.cap,.slice S.im.a m.im.length S.im.cap,.slice S.ep.a m.ep.length S.ep.cap,.slice S.st.a m.st.length S.st.cap,.slice (some ⟨g,0,none⟩) m.ex.length S.ex.cap] 36)).alloc (.cells #[.int .i64 k,.int .i64 A,.string z,.string D,.int .i64 (n:Int),.int .i64 (j:Int)] 109)) p.d) p.os:=fun d E=>Calls.regrown_of (by rw[←I.out,←Z.out];exact HE.out n _ (by omega) (by omega) (HA.out.later (below_regrown _ d E)) ac)
 have cS: ∀d E,Calls Tryz.prog 155 #[.agg #[.slice S.rq.a m.rq.length S.rq.cap,.slice S.im.a m.im.length S.im.cap,.slice S.ep.a m.ep.length S.ep.cap,.slice S.st.a m.st.length S.st.cap,.slice (some ⟨g,0,none⟩) m.ex.length S.ex.cap],.int .i64 (j:Int)] (grow (redrawn ((w.alloc (.cells #[.slice S.rq.a m.rq.length S.rq.cap,.slice S.im.a m.im.length S.im.cap,.slice S.ep.a m.ep.length S.ep.cap,.slice S.st.a m.st.length S.st.cap,.slice (some ⟨g,0,none⟩) m.ex.length S.ex.cap] 36)).alloc (.cells #[.int .i64 k,.int .i64 A,.string z,.string D,.int .i64 (n:Int),.int .i64 (j:Int)] 109)) d) E) fun e H=>e= .returned (.bool (zK kr))∧∃p:Regrown,H=grow (redrawn ((w.alloc (.cells #[.slice S.rq.a m.rq.length S.rq.cap,.slice S.im.a m.im.length S.im.cap,.slice S.ep.a m.ep.length S.ep.cap,.slice S.st.a m.st.length S.st.cap,.slice (some ⟨g,0,none⟩) m.ex.length S.ex.cap] 36)).alloc (.cells #[.int .i64 k,.int .i64 A,.string z,.string D,.int .i64 (n:Int),.int .i64 (j:Int)] 109)) p.d) p.os:=fun d E=>Calls.regrown_of (by rw[←I.out,←L.out];exact zfY q S m j _ (HA.out.later (below_regrown _ d E)) (by omega))
 have cR: ∀d E,Calls Tryz.prog 154 #[.agg #[.slice S.rq.a m.rq.length S.rq.cap,.slice S.im.a m.im.length S.im.cap,.slice S.ep.a m.ep.length S.ep.cap,.slice S.st.a m.st.length S.st.cap,.slice (some ⟨g,0,none⟩) m.ex.length S.ex.cap],.int .i64 (j:Int),.bool (zK kr)] (grow (redrawn ((w.alloc (.cells #[.slice S.rq.a m.rq.length S.rq.cap,.slice S.im.a m.im.length S.im.cap,.slice S.ep.a m.ep.length S.ep.cap,.slice S.st.a m.st.length S.st.cap,.slice (some ⟨g,0,none⟩) m.ex.length S.ex.cap] 36)).alloc (.cells #[.int .i64 k,.int .i64 A,.string z,.string D,.int .i64 (n:Int),.int .i64 (j:Int)] 109)) d) E) fun e H=>e= .returned (.string tr)∧∃p:Regrown,H=grow (redrawn ((w.alloc (.cells #[.slice S.rq.a m.rq.length S.rq.cap,.slice S.im.a m.im.length S.im.cap,.slice S.ep.a m.ep.length S.ep.cap,.slice S.st.a m.st.length S.st.cap,.slice (some ⟨g,0,none⟩) m.ex.length S.ex.cap] 36)).alloc (.cells #[.int .i64 k,.int .i64 A,.string z,.string D,.int .i64 (n:Int),.int .i64 (j:Int)] 109)) p.d) p.os:=fun d E=>Calls.regrown_of (by rw[←I.out,←U.out,L.out];exact zfg q S m i j _ _ HE.out (by omega) (by omega) (HA.out.later (below_regrown _ d E)) af)
 have X:Hid (Six ((w.alloc (.cells #[.slice S.rq.a m.rq.length S.rq.cap,.slice S.im.a m.im.length S.im.cap,.slice S.ep.a m.ep.length S.ep.cap,.slice S.st.a m.st.length S.st.cap,.slice (some ⟨g,0,none⟩) m.ex.length S.ex.cap] 36)).alloc (.cells #[.int .i64 k,.int .i64 A,.string z,.string D,.int .i64 (n:Int),.int .i64 (j:Int)] 109)) (w.heap.size+1) (.int .i64 k) (.int .i64 A) (.string z) (.string D) (.int .i64 (n:Int)) (.int .i64 (j:Int))):=zu (new2 w _ _)
 have Y:=zc (zi (zca (o':=.cells #[.int .i64 k,.int .i64 A,.string z,.string D,.int .i64 (n:Int),.int .i64 (j:Int)] 109) (heap_alloc_new w (.cells #[.slice S.rq.a m.rq.length S.rq.cap,.slice S.im.a m.im.length S.im.cap,.slice S.ep.a m.ep.length S.ep.cap,.slice S.st.a m.st.length S.st.cap,.slice (some ⟨g,0,none⟩) m.ex.length S.ex.cap] 36))))
 have D0:Hid (((w.alloc (.cells #[.slice S.rq.a m.rq.length S.rq.cap,.slice S.im.a m.im.length S.im.cap,.slice S.ep.a m.ep.length S.ep.cap,.slice S.st.a m.st.length S.st.cap,.slice (some ⟨g,0,none⟩) m.ex.length S.ex.cap] 36)).alloc (.cells #[.int .i64 k,.int .i64 A,.string z,.string D,.int .i64 (n:Int),.int .i64 (j:Int)] 109)).cell? ⟨g,j*6,none⟩=some (.int .i64 kr)):=by show _=_;rw[World.cell?_alloc_past _ _ _ (by rw[zk];omega),World.cell?_alloc_past _ _ _ aa];exact d0
 simp only[ByteArray.size_append] at O
 have ad:tMinus.size=3:=rfl
 have ah:tl.size≤1099511627776:=by omega
 have ai:tr.size≤1099511627776:=by omega
 have HV:Hid ((prX m.ex n++tMinus++zC (zK (m.ex.getD j zf).kind) (prX m.ex j))=tl++tMinus++tr):=by show _=_;rw[Z.out,U.out]
 unfold zq
 rw[J]
 clear J h HA HE I Z U N V M L hg2 he O ad d0 eg
 go_enter Tryz.func117,Tryz.ntmps117
 go_wp2_with fail
 have x0:=cell_regrown X.out.c0
 have x4:=cell_regrown X.out.c4
 have x5:=cell_regrown X.out.c5
 have y0:=cell_regrown Y.out.1
 have y1:=cell_regrown Y.out.2.1
 have y2:=cell_regrown Y.out.2.2.1
 have y3:=cell_regrown Y.out.2.2.2.1
 have y4:=cell_regrown Y.out.2.2.2.2.1
 have e0:=cell_regrown D0.out
 refine wp_region_quiet_below (by kernel_rfl) (by kernel_rfl) ?_
 repeat (go_big_quiet_step (first|with_reducible exact cL _ _|with_reducible exact cS _ _|with_reducible exact cR _ _))
 refine wpQuiet_nil ?_
 intro w1 ab
 obtain⟨⟨dq,ag⟩,K⟩:=ab
 have ae:Hid (Below w.heap.size w w1):=by show Below _ _ _;rw[K];exact (zaJ w _ _).trans ((below_regrown _ _ _).mono (by rw[zk,zk];omega))
 clear K
 go_wp2
 go_ret
 exact⟨zaD HV.out.symm,ae.out⟩
def zaK (e:Ep):Im:=⟨sNone,e.loc,e.name⟩
def zbh (C:Cx) (exp:Bool) (q:PS):Except Nat (PS×Ep):=bd (zh C true q) fun a=>bd (asP C exp a) fun b=>.ok (b.1,⟨0,b.2,a.2,sNone⟩)
theorem zhQ (C:Cx) (h:Bool) (q:PS) (acc:List Ep):zat C h q acc=bd (zbh C h q) fun x=>
  if isT C x.1.pos 4 zbl then zat C h (adv x.1) (acc++[x.2]) else bd (zd C 4 zbb x.1) fun q'=>.ok (q',acc++[x.2]):=by
 rw[zeL,zbh,zJ]
 refine zX fun a _=>?_
 rw[zJ]
 rfl
theorem zmg {C:Cx} {q:PS} {a:PS×ByteArray} (j:zh C true q= .ok a) (h:isT C a.1.pos 1 sAs=true):zbh C false q=bd (zh C false (adv a.1)) fun b=>.ok (b.1,⟨0,b.2,a.2,sNone⟩):=by
 rw[zbh,j,zx,asP,if_pos h]
theorem zmh {C:Cx} {q:PS} {a:PS×ByteArray} (n:zh C true q= .ok a) (h:isT C a.1.pos 1 sAs=false) (j:(a.2.toList==[100,101,102,97,117,108,116])=true):zbh C false q= .error (zp C a.1.pos):=by
 rw[zbh,n,zx,asP,if_neg (by rw[h];decide),if_pos (by rw[j];rfl)]
 rfl
theorem zmi {C:Cx} {q:PS} {a:PS×ByteArray} (n:zh C true q= .ok a) (h:isT C a.1.pos 1 sAs=false) (j:(a.2.toList==[100,101,102,97,117,108,116])=false):zbh C false q= .ok (a.1,⟨0,a.2,a.2,sNone⟩):=by
 rw[zbh,n,zx,asP,if_neg (by rw[h];decide),if_neg (by rw[j];decide)]
 rfl
theorem zbq {w:World} {b:Nat} {t:TypeId} {v0 v1 v2:Value} (h:w.heap[b]? =some (.cells #[v0,v1,v2] t (0,0))):
  w.cell? ⟨b,0,none⟩=some v0∧w.cell? ⟨b,1,none⟩=some v1∧w.cell? ⟨b,2,none⟩=some v2∧∀i,w.frozen? ⟨b,i,none⟩=false:=by
 refine⟨?_,?_,?_,fun i=>?_⟩<;>simp[World.cell?,World.frozen?,h]
theorem put3 {w:World} {b:Nat} {v0 v1 v2 j q n:Value} {t:TypeId} (h:w.heap[b]? =some (.cells #[v0,v1,v2] t (0,0))):
  (((w.setCell ⟨b,0,none⟩ j).setCell ⟨b,1,none⟩ q).setCell ⟨b,2,none⟩ n).heap[b]? =some (.cells #[j,q,n] t (0,0)):=by
 have e:=zag (i:=2) (u:=n) (zag (i:=1) (u:=q) (zag (i:=0) (u:=j) h))
 rw[e]
 simp
theorem zmj (C:Cx) (J z j H:Nat) (S:Sv) (q:PS) (w:World) (h:IM C J z j H S q w):
  Calls Tryz.prog 227 #[.pointer (some ⟨H,0,none⟩)] w (zM C J z j H (zbh C false q) (·.1) (fun a=>imV (zaK a.2)) S w):=by
 have E:w.heap.size≠H:=by have:=h.lt;omega
 have D:w.heap.size≠J:=by have:=(zaj h.mem.tok).1;omega
 go_enter Tryz.func227,Tryz.ntmps227
 go_wp2_with fail
 refine (zem C J z j H S q _ (h.alloc _)).mono ?_
 cases I:zh C true q with
 |error p=>
  rintro e w1 ⟨rfl,X⟩
  have Z:Below j w w1:=(h.back ((IS.refl _ _ _).alloc _)).trans X
  have U:Hid (zbh C false q= .error p):=by show _=_;rw[zbh,I];rfl
  unfold Pan
  go_wp2
  refine⟨rfl,?_⟩
  rw[U.out]
  exact⟨rfl,Z⟩
 |ok a=>
  rintro e w1 ⟨rfl,N,M,L⟩
  cases V:isT C a.1.pos 1 sAs with
  |true=>
   have HY:=zc (zmg I V)
   go_wp2_with fail
   refine (zH C J z j H N a.1 1 sAs _ M (by decide)).mono ?_
   rintro e w2 ⟨rfl,n,s⟩
   rw[V] at n ⊢
   have A:=L.trans s
   clear s
   go_wp2_with fail
   refine (zcL C J z j H N (adv a.1) _ n).mono ?_
   cases aa:zh C false (adv a.1) with
   |error p=>
    rintro e w3 ⟨rfl,X⟩
    have Z:=(h.back A.from).trans X
    have U:Hid (zbh C false q= .error p):=bdE HY.out aa
    unfold Pan
    go_wp2
    refine⟨rfl,?_⟩
    rw[U.out]
    exact⟨rfl,Z⟩
   |ok c=>
    rintro e w3 ⟨rfl,S3,ab,s⟩
    have O:=A.trans s
    clear s
    have U:=zc (bdO HY.out aa)
    have Y:Hid (w3.heap[w.heap.size]? =some (.cells #[.string sNone,.string sNone,.string sNone] 84 (0,0))):=IS.kept h O rfl
    have K:Hid (¬S3.has w.heap.size):=IS.free h O
    obtain⟨b0,b1,b2,bf⟩:=zbq Y.out
    go_wp2
    refine bodyPost_ret (results_cell_row rfl _ _ w.heap.size 84 _ (0,0) _ rfl (put3 Y.out) Tryz.underlying84 rfl (by kernel_rfl)) rfl ?_
    rw[U.out]
    exact⟨rfl,S3,((ab.set E D K.out _ _).set E D K.out _ _).set E D K.out _ _,((O.from.new (Nat.le_refl _) _ _).new (Nat.le_refl _) _ _).new (Nat.le_refl _) _ _⟩
  |false=>
   cases hd:(a.2.toList==[100,101,102,97,117,108,116]) with
   |true=>
    have HY:=zc (zmh I V hd)
    go_wp2_with fail
    refine (zH C J z j H N a.1 1 sAs _ M (by decide)).mono ?_
    rintro e w2 ⟨rfl,n,s⟩
    rw[V] at n ⊢
    have A:=L.trans s
    clear s
    go_wp2_with fail
    refine (zdD C J z j H N a.1 _ n).mono ?_
    rintro e w3 ⟨rfl,X⟩
    have Z:=(h.back A.from).trans (X.mono n.mem.base)
    unfold Pan
    go_wp2
    refine⟨rfl,?_⟩
    rw[HY.out]
    exact⟨rfl,Z⟩
   |false=>
    have U:=zc (zmi I V hd)
    go_wp2_with fail
    refine (zH C J z j H N a.1 1 sAs _ M (by decide)).mono ?_
    rintro e w2 ⟨rfl,n,s⟩
    rw[V] at n ⊢
    have A:=L.trans s
    clear s
    have Y:Hid (w2.heap[w.heap.size]? =some (.cells #[.string sNone,.string sNone,.string sNone] 84 (0,0))):=IS.kept h A rfl
    have K:Hid (¬N.has w.heap.size):=IS.free h A
    obtain⟨b0,b1,b2,bf⟩:=zbq Y.out
    go_wp2
    refine bodyPost_ret (results_cell_row rfl _ _ w.heap.size 84 _ (0,0) _ rfl (put3 Y.out) Tryz.underlying84 rfl (by kernel_rfl)) rfl ?_
    rw[U.out]
    exact⟨rfl,N,((n.set E D K.out _ _).set E D K.out _ _).set E D K.out _ _,((A.from.new (Nat.le_refl _) _ _).new (Nat.le_refl _) _ _).new (Nat.le_refl _) _ _⟩
end Go.Proofs.YtjdddblpfbmpaaaGreat
