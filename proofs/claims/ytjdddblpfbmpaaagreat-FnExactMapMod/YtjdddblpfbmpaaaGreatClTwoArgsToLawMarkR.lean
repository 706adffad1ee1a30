/-
  A call whose arguments are made by two calls and whose first result is laid into a box,in whatever order. No program is spoken of but for the numbers of its types.
  The row of the type byte.
  What spec.l1In answers.
  What spec.l2Path and spec.Clean answer,at every text: the walks.
  What the helpers of the laws over rules answer: the walks.
  Rows of texts of the call's own,one beside another; whether a text is in a row. No program is spoken of.
  Rows of files of the call's own that grow. No program is spoken of.
  Rows of texts of the call's own that are marked cell by cell,without a program's rows. No program is spoken of but for markText.
  What the laws' sizer and marker of lists of rules answer: the walks.
-/
import Derived.Test.YtjdddblpfbmpaaaGreatClSpecCopyI
import Derived.Test.YtjdddblpfbmpaaaGreatClSrcFile
namespace Go.Proofs.YtjdddblpfbmpaaaGreat
set_option maxRecDepth 100000
set_option maxHeartbeats 3200000
open Go.RowKit Go.PlainAid Go.Sort
theorem zeC {P:Program} {o:Oper} {a:Act} {w:World} {f:FuncId} {args:Array Value} {K:Act→World→Prop} {Q:Exit→Act→World→Prop} (z:(execOp a.eval o).run P w= .ok (.enter f args) w) (h:Calls P f args w fun e w'=>∃v,e= .returned v∧K (a.put o.dst v) w'):o.wp P a w K Q:=by
 unfold Oper.wp
 rw[z]
 refine Calls.mono h ?_
 rintro e w' ⟨v,rfl,j⟩
 exact j
theorem zjA {P:Program} {o:Oper} {a:Act} {w w':World} {K:Act→World→Prop} {Q:Exit→Act→World→Prop} (j:o.dst=none) (z:(execOp a.eval o).run P w= .ok .skip w') (h:K a w'):o.wp P a w K Q:=by
 unfold Oper.wp
 rw[z]
 show K (a.put o.dst undef) w'
 rw[j]
 exact h
theorem zh3 (a:Act): ∀(L:List Nat) (b:Act),b.tmps.size=a.tmps.size→b.defers=a.defers→(∀k,k∉L→a.tmps[k]? =b.tmps[k]?)→a=L.foldl (fun b k=>b.put (some k) (a.tmps.getD k undef)) b
 |[],b,hs,hd,h=>by
  obtain⟨I,A⟩:=a
  obtain⟨z,H⟩:=b
  simp only at hs hd h
  subst hd
  rw[List.foldl_nil,Array.ext_getElem? fun i=>h i (by simp)]
 |x::L,b,hs,hd,h=>by
  rw[List.foldl_cons]
  refine zh3 a L _ ?_ hd fun k j=>?_
  ·show (b.tmps.setIfInBounds _ _).size=_
   rw[Array.size_setIfInBounds];exact hs
  ·by_cases e:k=x
   ·subst e
    show _=(b.tmps.setIfInBounds _ _)[k]?
    by_cases w:k<a.tmps.size
    ·rw[Array.getElem?_setIfInBounds_self_of_lt (by omega),Array.getD_eq_getD_getElem?,Array.getElem?_eq_getElem w]
     rfl
    ·rw[Array.getElem?_eq_none (by omega),Array.getElem?_eq_none (by rw[Array.size_setIfInBounds];omega)]
   ·rw[zi b _ e]
    exact h k (by simp[e,j])
theorem or_true {D:Nat→Bool} {i j:Nat} (h:D j=true):(D j||decide (j=i))=true:=by rw[h];rfl
theorem zd {D:Nat→Bool} {i j:Nat} (h:j≠i) (k:(D j||decide (j=i))=true):D j=true:=(zm j h).symm.trans k
theorem zM {D:Nat→Bool} {i j:Nat} (k:(D j||decide (j=i))=false):D j=false:=by
 cases h:D j with
 |false=>rfl
 |true=>rw[h] at k;cases k
def NtM (F:ByteArray→ByteArray) (m:Md) (t:Bool):Md:=if t=true then zaM F m else md0
structure TwA (a0:Act) (w0:World) (n:Nat) (ra:Option Addr) (len cap:Nat) (Pt Tx:Nat→ByteArray) (F:ByteArray→ByteArray) (A:MA) (m:Md) (t:Bool) (S:Sv) (D:Nat→Bool) (a:Act) (W:World):Prop where
 sz:a.tmps.size=n
 df:a.defers=a0.defers
 oth: ∀k,k∉[28,29,30,31,32,27,33,34,6,7]→a.tmps[k]? =a0.tmps[k]?
 bel:Below w0.heap.size w0 W
 e0:D 0=true→a.tmps[28]? =some (.slice ra len cap)
 e1:D 1=true→∃g,a.tmps[29]? =some (.slice (some ⟨g,0,none⟩) len len)∧(D 9=false→FilesAt W (some ⟨g,0,none⟩) g 0 len Pt Tx)
 e2:D 2=true→a.tmps[30]? =some (zaW A m)
 e3:D 3=true→∃S',a.tmps[31]? =some (zh S' m)∧(D 9=false→OwnMd W 0 S' m)
 e4:D 4=true→a.tmps[32]? =some (.tuple #[zh S (NtM F m t),.bool t])∧(t=true↔MOk m∧MOk (zaM F m))∧OwnMd W w0.heap.size S (NtM F m t)
 e5:D 5=true→D 4=true∧a.tmps[27]? =some (.tuple #[zh S (NtM F m t),.bool t])
 e6:D 6=true→D 5=true∧a.tmps[33]? =some (zh S (NtM F m t))
 e7:D 7=true→D 5=true∧a.tmps[34]? =some (.bool t)
 e8:D 8=true→∃g,a.tmps[6]? =some (.pointer (some ⟨g,0,none⟩))∧w0.heap.size≤g∧(D 9=false→W.heap[g]? =some zcF)∧(D 9=true→W.heap[g]? =some (zcE S (NtM F m t)))
 e9:D 9=true→D 0=true∧D 1=true∧D 2=true∧D 3=true∧D 4=true∧D 5=true∧D 6=true∧D 8=true
 e10:D 10=true→D 7=true∧a.tmps[7]? =some (.bool t)
section
variable {a0 a:Act} {w0 W W':World} {n:Nat} {ra:Option Addr} {len cap:Nat} {Pt Tx:Nat→ByteArray} {F:ByteArray→ByteArray} {A:MA} {m:Md} {t:Bool} {S:Sv} {D:Nat→Bool}
theorem TwA.start {w:List Deferred} {j:Array Value} (H:j.size=n) (z:Below w0.heap.size w0 W):TwA ⟨j,w⟩ w0 n ra len cap Pt Tx F A m false S0 (fun _=>false) ⟨j,w⟩ W:=by
 have h: ∀{p:Prop},(false=true)→p:=fun k=>by cases k
 exact⟨H,rfl,fun _ _=>rfl,z,fun k=>h k,fun k=>h k,fun k=>h k,fun k=>h k,fun k=>h k,fun k=>h k,fun k=>h k,fun k=>h k,fun k=>h k,fun k=>h k,fun k=>h k⟩
theorem TwA.s0 (h:TwA a0 w0 n ra len cap Pt Tx F A m t S D a W) (Y:28<n):TwA a0 w0 n ra len cap Pt Tx F A m t S (fun j=>D j||decide (j=0)) (a.put (some 28) (.slice ra len cap)) W:=by
 have p: ∀{k:Nat},k≠28→(a.put (some 28) (.slice ra len cap)).tmps[k]? =a.tmps[k]?:=fun J=>zi a _ J
 have O:(a.put (some 28) (.slice ra len cap)).tmps[28]? =some (.slice ra len cap):=zaj _ (by rw[h.sz];exact Y)
 refine⟨?_,h.df,fun k J=>(p (fun e=>J (by rw[e];decide))).trans (h.oth k J),h.bel,?_,?_,?_,?_,?_,?_,?_,?_,?_,?_,?_⟩
 ·show (a.tmps.setIfInBounds _ _).size=n
  rw[Array.size_setIfInBounds];exact h.sz
 ·exact fun _=>O
 ·exact fun k=>by obtain⟨g,z,w⟩:=h.e1 (zd (by decide) k);exact⟨g,(p (by decide)).trans z,fun H=>w (zM H)⟩
 ·exact fun k=>(p (by decide)).trans (h.e2 (zd (by decide) k))
 ·exact fun k=>by obtain⟨M,z,w⟩:=h.e3 (zd (by decide) k);exact⟨M,(p (by decide)).trans z,fun H=>w (zM H)⟩
 ·exact fun k=>by obtain⟨z,w,I⟩:=h.e4 (zd (by decide) k);exact⟨(p (by decide)).trans z,w,I⟩
 ·exact fun k=>by obtain⟨z,w⟩:=h.e5 (zd (by decide) k);exact⟨or_true z,(p (by decide)).trans w⟩
 ·exact fun k=>by obtain⟨z,w⟩:=h.e6 (zd (by decide) k);exact⟨or_true z,(p (by decide)).trans w⟩
 ·exact fun k=>by obtain⟨z,w⟩:=h.e7 (zd (by decide) k);exact⟨or_true z,(p (by decide)).trans w⟩
 ·exact fun k=>by obtain⟨g,z,w,I,L⟩:=h.e8 (zd (by decide) k);exact⟨g,(p (by decide)).trans z,w,fun H=>I (zM H),fun H=>L (zd (by decide) H)⟩
 ·exact fun k=>by obtain⟨X,z,w,I,L,V,N,U⟩:=h.e9 (zd (by decide) k);exact⟨or_true X,or_true z,or_true w,or_true I,or_true L,or_true V,or_true N,or_true U⟩
 ·exact fun k=>by obtain⟨z,w⟩:=h.e10 (zd (by decide) k);exact⟨or_true z,(p (by decide)).trans w⟩
theorem TwA.s1 (h:TwA a0 w0 n ra len cap Pt Tx F A m t S D a W) (hn:29<n) {g:Nat} (O:FilesAt W' (some ⟨g,0,none⟩) g 0 len Pt Tx) (J:Below W.heap.size W W'):TwA a0 w0 n ra len cap Pt Tx F A m t S (fun j=>D j||decide (j=1)) (a.put (some 29) (.slice (some ⟨g,0,none⟩) len len)) W':=by
 have p: ∀{k:Nat},k≠29→(a.put (some 29) (.slice (some ⟨g,0,none⟩) len len)).tmps[k]? =a.tmps[k]?:=fun L=>zi a _ L
 have V:(a.put (some 29) (.slice (some ⟨g,0,none⟩) len len)).tmps[29]? =some (.slice (some ⟨g,0,none⟩) len len):=zaj _ (by rw[h.sz];exact hn)
 refine⟨?_,h.df,fun k L=>(p (fun e=>L (by rw[e];decide))).trans (h.oth k L),h.bel.trans (J.mono h.bel.size),?_,?_,?_,?_,?_,?_,?_,?_,?_,?_,?_⟩
 ·show (a.tmps.setIfInBounds _ _).size=n
  rw[Array.size_setIfInBounds];exact h.sz
 ·exact fun k=>(p (by decide)).trans (h.e0 (zd (by decide) k))
 ·exact fun _=>⟨g,V,fun _=>O⟩
 ·exact fun k=>(p (by decide)).trans (h.e2 (zd (by decide) k))
 ·exact fun k=>by obtain⟨N,z,w⟩:=h.e3 (zd (by decide) k);exact⟨N,(p (by decide)).trans z,fun H=>(w (zM H)).later J⟩
 ·exact fun k=>by obtain⟨z,w,I⟩:=h.e4 (zd (by decide) k);exact⟨(p (by decide)).trans z,w,I.later J⟩
 ·exact fun k=>by obtain⟨z,w⟩:=h.e5 (zd (by decide) k);exact⟨or_true z,(p (by decide)).trans w⟩
 ·exact fun k=>by obtain⟨z,w⟩:=h.e6 (zd (by decide) k);exact⟨or_true z,(p (by decide)).trans w⟩
 ·exact fun k=>by obtain⟨z,w⟩:=h.e7 (zd (by decide) k);exact⟨or_true z,(p (by decide)).trans w⟩
 ·exact fun k=>by obtain⟨g,z,w,I,M⟩:=h.e8 (zd (by decide) k);exact⟨g,(p (by decide)).trans z,w,fun H=>zbd (I (zM H)) J,fun H=>zbd (M (zd (by decide) H)) J⟩
 ·exact fun k=>by obtain⟨Z,z,w,I,M,Y,U,X⟩:=h.e9 (zd (by decide) k);exact⟨or_true Z,or_true z,or_true w,or_true I,or_true M,or_true Y,or_true U,or_true X⟩
 ·exact fun k=>by obtain⟨z,w⟩:=h.e10 (zd (by decide) k);exact⟨or_true z,(p (by decide)).trans w⟩
theorem TwA.s2 (h:TwA a0 w0 n ra len cap Pt Tx F A m t S D a W) (Y:30<n):TwA a0 w0 n ra len cap Pt Tx F A m t S (fun j=>D j||decide (j=2)) (a.put (some 30) (zaW A m)) W:=by
 have p: ∀{k:Nat},k≠30→(a.put (some 30) (zaW A m)).tmps[k]? =a.tmps[k]?:=fun J=>zi a _ J
 have O:(a.put (some 30) (zaW A m)).tmps[30]? =some (zaW A m):=zaj _ (by rw[h.sz];exact Y)
 refine⟨?_,h.df,fun k J=>(p (fun e=>J (by rw[e];decide))).trans (h.oth k J),h.bel,?_,?_,?_,?_,?_,?_,?_,?_,?_,?_,?_⟩
 ·show (a.tmps.setIfInBounds _ _).size=n
  rw[Array.size_setIfInBounds];exact h.sz
 ·exact fun k=>(p (by decide)).trans (h.e0 (zd (by decide) k))
 ·exact fun k=>by obtain⟨g,z,w⟩:=h.e1 (zd (by decide) k);exact⟨g,(p (by decide)).trans z,fun H=>w (zM H)⟩
 ·exact fun _=>O
 ·exact fun k=>by obtain⟨M,z,w⟩:=h.e3 (zd (by decide) k);exact⟨M,(p (by decide)).trans z,fun H=>w (zM H)⟩
 ·exact fun k=>by obtain⟨z,w,I⟩:=h.e4 (zd (by decide) k);exact⟨(p (by decide)).trans z,w,I⟩
 ·exact fun k=>by obtain⟨z,w⟩:=h.e5 (zd (by decide) k);exact⟨or_true z,(p (by decide)).trans w⟩
 ·exact fun k=>by obtain⟨z,w⟩:=h.e6 (zd (by decide) k);exact⟨or_true z,(p (by decide)).trans w⟩
 ·exact fun k=>by obtain⟨z,w⟩:=h.e7 (zd (by decide) k);exact⟨or_true z,(p (by decide)).trans w⟩
 ·exact fun k=>by obtain⟨g,z,w,I,L⟩:=h.e8 (zd (by decide) k);exact⟨g,(p (by decide)).trans z,w,fun H=>I (zM H),fun H=>L (zd (by decide) H)⟩
 ·exact fun k=>by obtain⟨X,z,w,I,L,V,N,U⟩:=h.e9 (zd (by decide) k);exact⟨or_true X,or_true z,or_true w,or_true I,or_true L,or_true V,or_true N,or_true U⟩
 ·exact fun k=>by obtain⟨z,w⟩:=h.e10 (zd (by decide) k);exact⟨or_true z,(p (by decide)).trans w⟩
theorem TwA.s3 (h:TwA a0 w0 n ra len cap Pt Tx F A m t S D a W) (Z:31<n) {S':Sv} (U:OwnMd W' 0 S' m) (J:Below W.heap.size W W'):TwA a0 w0 n ra len cap Pt Tx F A m t S (fun j=>D j||decide (j=3)) (a.put (some 31) (zh S' m)) W':=by
 have p: ∀{k:Nat},k≠31→(a.put (some 31) (zh S' m)).tmps[k]? =a.tmps[k]?:=fun L=>zi a _ L
 have O:(a.put (some 31) (zh S' m)).tmps[31]? =some (zh S' m):=zaj _ (by rw[h.sz];exact Z)
 refine⟨?_,h.df,fun k L=>(p (fun e=>L (by rw[e];decide))).trans (h.oth k L),h.bel.trans (J.mono h.bel.size),?_,?_,?_,?_,?_,?_,?_,?_,?_,?_,?_⟩
 ·show (a.tmps.setIfInBounds _ _).size=n
  rw[Array.size_setIfInBounds];exact h.sz
 ·exact fun k=>(p (by decide)).trans (h.e0 (zd (by decide) k))
 ·exact fun k=>by obtain⟨g,z,w⟩:=h.e1 (zd (by decide) k);exact⟨g,(p (by decide)).trans z,fun H=>(w (zM H)).later J⟩
 ·exact fun k=>(p (by decide)).trans (h.e2 (zd (by decide) k))
 ·exact fun _=>⟨S',O,fun _=>U⟩
 ·exact fun k=>by obtain⟨z,w,I⟩:=h.e4 (zd (by decide) k);exact⟨(p (by decide)).trans z,w,I.later J⟩
 ·exact fun k=>by obtain⟨z,w⟩:=h.e5 (zd (by decide) k);exact⟨or_true z,(p (by decide)).trans w⟩
 ·exact fun k=>by obtain⟨z,w⟩:=h.e6 (zd (by decide) k);exact⟨or_true z,(p (by decide)).trans w⟩
 ·exact fun k=>by obtain⟨z,w⟩:=h.e7 (zd (by decide) k);exact⟨or_true z,(p (by decide)).trans w⟩
 ·exact fun k=>by obtain⟨g,z,w,I,M⟩:=h.e8 (zd (by decide) k);exact⟨g,(p (by decide)).trans z,w,fun H=>zbd (I (zM H)) J,fun H=>zbd (M (zd (by decide) H)) J⟩
 ·exact fun k=>by obtain⟨Y,z,w,I,M,X,N,V⟩:=h.e9 (zd (by decide) k);exact⟨or_true Y,or_true z,or_true w,or_true I,or_true M,or_true X,or_true N,or_true V⟩
 ·exact fun k=>by obtain⟨z,w⟩:=h.e10 (zd (by decide) k);exact⟨or_true z,(p (by decide)).trans w⟩
theorem TwA.s4 (h:TwA a0 w0 n ra len cap Pt Tx F A m t S D a W) (hn:32<n) (J:D 4=false) {w:Bool} {S':Sv} (hi:w=true↔MOk m∧MOk (zaM F m)) (X:OwnMd W' w0.heap.size S' (NtM F m w)) (M:Below W.heap.size W W'):TwA a0 w0 n ra len cap Pt Tx F A m w S' (fun j=>D j||decide (j=4)) (a.put (some 32) (.tuple #[zh S' (NtM F m w),.bool w])) W':=by
 have p: ∀{k:Nat},k≠32→(a.put (some 32) (.tuple #[zh S' (NtM F m w),.bool w])).tmps[k]? =a.tmps[k]?:=fun L=>zi a _ L
 have V:(a.put (some 32) (.tuple #[zh S' (NtM F m w),.bool w])).tmps[32]? =some (.tuple #[zh S' (NtM F m w),.bool w]):=zaj _ (by rw[h.sz];exact hn)
 refine⟨?_,h.df,fun k L=>(p (fun e=>L (by rw[e];decide))).trans (h.oth k L),h.bel.trans (M.mono h.bel.size),?_,?_,?_,?_,?_,?_,?_,?_,?_,?_,?_⟩
 ·show (a.tmps.setIfInBounds _ _).size=n
  rw[Array.size_setIfInBounds];exact h.sz
 ·exact fun k=>(p (by decide)).trans (h.e0 (zd (by decide) k))
 ·exact fun k=>by obtain⟨g,I,H⟩:=h.e1 (zd (by decide) k);exact⟨g,(p (by decide)).trans I,fun z=>(H (zM z)).later M⟩
 ·exact fun k=>(p (by decide)).trans (h.e2 (zd (by decide) k))
 ·exact fun k=>by obtain⟨S',I,H⟩:=h.e3 (zd (by decide) k);exact⟨S',(p (by decide)).trans I,fun z=>(H (zM z)).later M⟩
 ·exact fun _=>⟨V,hi,X⟩
 ·exact fun k=>absurd (h.e5 (zd (by decide) k)).1 (by rw[J];decide)
 ·exact fun k=>absurd (h.e5 (h.e6 (zd (by decide) k)).1).1 (by rw[J];decide)
 ·exact fun k=>absurd (h.e5 (h.e7 (zd (by decide) k)).1).1 (by rw[J];decide)
 ·exact fun k=>by obtain⟨g,I,H,N,O⟩:=h.e8 (zd (by decide) k);exact⟨g,(p (by decide)).trans I,H,fun z=>zbd (N (zM z)) M,fun z=>absurd (h.e9 (zd (by decide) z)).2.2.2.2.1 (by rw[J];decide)⟩
 ·exact fun k=>by obtain⟨h0,I,H,N,O,Z,U,Y⟩:=h.e9 (zd (by decide) k);exact⟨or_true h0,or_true I,or_true H,or_true N,or_true O,or_true Z,or_true U,or_true Y⟩
 ·exact fun k=>absurd (h.e5 (h.e7 (h.e10 (zd (by decide) k)).1).1).1 (by rw[J];decide)
theorem TwA.s5 (h:TwA a0 w0 n ra len cap Pt Tx F A m t S D a W) (Y:27<n) (I:D 4=true):TwA a0 w0 n ra len cap Pt Tx F A m t S (fun j=>D j||decide (j=5)) (a.put (some 27) (.tuple #[zh S (NtM F m t),.bool t])) W:=by
 have p: ∀{k:Nat},k≠27→(a.put (some 27) (.tuple #[zh S (NtM F m t),.bool t])).tmps[k]? =a.tmps[k]?:=fun L=>zi a _ L
 have O:(a.put (some 27) (.tuple #[zh S (NtM F m t),.bool t])).tmps[27]? =some (.tuple #[zh S (NtM F m t),.bool t]):=zaj _ (by rw[h.sz];exact Y)
 refine⟨?_,h.df,fun k L=>(p (fun e=>L (by rw[e];decide))).trans (h.oth k L),h.bel,?_,?_,?_,?_,?_,?_,?_,?_,?_,?_,?_⟩
 ·show (a.tmps.setIfInBounds _ _).size=n
  rw[Array.size_setIfInBounds];exact h.sz
 ·exact fun k=>(p (by decide)).trans (h.e0 (zd (by decide) k))
 ·exact fun k=>by obtain⟨g,z,w⟩:=h.e1 (zd (by decide) k);exact⟨g,(p (by decide)).trans z,fun H=>w (zM H)⟩
 ·exact fun k=>(p (by decide)).trans (h.e2 (zd (by decide) k))
 ·exact fun k=>by obtain⟨M,z,w⟩:=h.e3 (zd (by decide) k);exact⟨M,(p (by decide)).trans z,fun H=>w (zM H)⟩
 ·exact fun k=>by obtain⟨z,w,J⟩:=h.e4 (zd (by decide) k);exact⟨(p (by decide)).trans z,w,J⟩
 ·exact fun _=>⟨or_true I,O⟩
 ·exact fun k=>by obtain⟨z,w⟩:=h.e6 (zd (by decide) k);exact⟨or_true z,(p (by decide)).trans w⟩
 ·exact fun k=>by obtain⟨z,w⟩:=h.e7 (zd (by decide) k);exact⟨or_true z,(p (by decide)).trans w⟩
 ·exact fun k=>by obtain⟨g,z,w,J,I⟩:=h.e8 (zd (by decide) k);exact⟨g,(p (by decide)).trans z,w,fun H=>J (zM H),fun H=>I (zd (by decide) H)⟩
 ·exact fun k=>by obtain⟨X,z,w,J,I,V,N,U⟩:=h.e9 (zd (by decide) k);exact⟨or_true X,or_true z,or_true w,or_true J,or_true I,or_true V,or_true N,or_true U⟩
 ·exact fun k=>by obtain⟨z,w⟩:=h.e10 (zd (by decide) k);exact⟨or_true z,(p (by decide)).trans w⟩
theorem TwA.s6 (h:TwA a0 w0 n ra len cap Pt Tx F A m t S D a W) (Y:33<n) (M:D 5=true):TwA a0 w0 n ra len cap Pt Tx F A m t S (fun j=>D j||decide (j=6)) (a.put (some 33) (zh S (NtM F m t))) W:=by
 have p: ∀{k:Nat},k≠33→(a.put (some 33) (zh S (NtM F m t))).tmps[k]? =a.tmps[k]?:=fun J=>zi a _ J
 have U:(a.put (some 33) (zh S (NtM F m t))).tmps[33]? =some (zh S (NtM F m t)):=zaj _ (by rw[h.sz];exact Y)
 refine⟨?_,h.df,fun k J=>(p (fun e=>J (by rw[e];decide))).trans (h.oth k J),h.bel,?_,?_,?_,?_,?_,?_,?_,?_,?_,?_,?_⟩
 ·show (a.tmps.setIfInBounds _ _).size=n
  rw[Array.size_setIfInBounds];exact h.sz
 ·exact fun k=>(p (by decide)).trans (h.e0 (zd (by decide) k))
 ·exact fun k=>by obtain⟨g,z,w⟩:=h.e1 (zd (by decide) k);exact⟨g,(p (by decide)).trans z,fun H=>w (zM H)⟩
 ·exact fun k=>(p (by decide)).trans (h.e2 (zd (by decide) k))
 ·exact fun k=>by obtain⟨N,z,w⟩:=h.e3 (zd (by decide) k);exact⟨N,(p (by decide)).trans z,fun H=>w (zM H)⟩
 ·exact fun k=>by obtain⟨z,w,I⟩:=h.e4 (zd (by decide) k);exact⟨(p (by decide)).trans z,w,I⟩
 ·exact fun k=>by obtain⟨z,w⟩:=h.e5 (zd (by decide) k);exact⟨or_true z,(p (by decide)).trans w⟩
 ·exact fun _=>⟨or_true M,U⟩
 ·exact fun k=>by obtain⟨z,w⟩:=h.e7 (zd (by decide) k);exact⟨or_true z,(p (by decide)).trans w⟩
 ·exact fun k=>by obtain⟨g,z,w,I,L⟩:=h.e8 (zd (by decide) k);exact⟨g,(p (by decide)).trans z,w,fun H=>I (zM H),fun H=>L (zd (by decide) H)⟩
 ·exact fun k=>by obtain⟨X,z,w,I,L,M,O,V⟩:=h.e9 (zd (by decide) k);exact⟨or_true X,or_true z,or_true w,or_true I,or_true L,or_true M,or_true O,or_true V⟩
 ·exact fun k=>by obtain⟨z,w⟩:=h.e10 (zd (by decide) k);exact⟨or_true z,(p (by decide)).trans w⟩
theorem TwA.s7 (h:TwA a0 w0 n ra len cap Pt Tx F A m t S D a W) (Y:34<n) (M:D 5=true):TwA a0 w0 n ra len cap Pt Tx F A m t S (fun j=>D j||decide (j=7)) (a.put (some 34) (.bool t)) W:=by
 have p: ∀{k:Nat},k≠34→(a.put (some 34) (.bool t)).tmps[k]? =a.tmps[k]?:=fun J=>zi a _ J
 have U:(a.put (some 34) (.bool t)).tmps[34]? =some (.bool t):=zaj _ (by rw[h.sz];exact Y)
 refine⟨?_,h.df,fun k J=>(p (fun e=>J (by rw[e];decide))).trans (h.oth k J),h.bel,?_,?_,?_,?_,?_,?_,?_,?_,?_,?_,?_⟩
 ·show (a.tmps.setIfInBounds _ _).size=n
  rw[Array.size_setIfInBounds];exact h.sz
 ·exact fun k=>(p (by decide)).trans (h.e0 (zd (by decide) k))
 ·exact fun k=>by obtain⟨g,z,w⟩:=h.e1 (zd (by decide) k);exact⟨g,(p (by decide)).trans z,fun H=>w (zM H)⟩
 ·exact fun k=>(p (by decide)).trans (h.e2 (zd (by decide) k))
 ·exact fun k=>by obtain⟨N,z,w⟩:=h.e3 (zd (by decide) k);exact⟨N,(p (by decide)).trans z,fun H=>w (zM H)⟩
 ·exact fun k=>by obtain⟨z,w,I⟩:=h.e4 (zd (by decide) k);exact⟨(p (by decide)).trans z,w,I⟩
 ·exact fun k=>by obtain⟨z,w⟩:=h.e5 (zd (by decide) k);exact⟨or_true z,(p (by decide)).trans w⟩
 ·exact fun k=>by obtain⟨z,w⟩:=h.e6 (zd (by decide) k);exact⟨or_true z,(p (by decide)).trans w⟩
 ·exact fun _=>⟨or_true M,U⟩
 ·exact fun k=>by obtain⟨g,z,w,I,L⟩:=h.e8 (zd (by decide) k);exact⟨g,(p (by decide)).trans z,w,fun H=>I (zM H),fun H=>L (zd (by decide) H)⟩
 ·exact fun k=>by obtain⟨X,z,w,I,L,M,O,V⟩:=h.e9 (zd (by decide) k);exact⟨or_true X,or_true z,or_true w,or_true I,or_true L,or_true M,or_true O,or_true V⟩
 ·exact fun k=>by obtain⟨z,w⟩:=h.e10 (zd (by decide) k);exact⟨or_true z,(p (by decide)).trans w⟩
theorem TwA.s8 (h:TwA a0 w0 n ra len cap Pt Tx F A m t S D a W) (hn:6<n) (M:D 8=false):TwA a0 w0 n ra len cap Pt Tx F A m t S (fun j=>D j||decide (j=8)) (a.put (some 6) (.pointer (some ⟨W.heap.size,0,none⟩))) (W.alloc zcF):=by
 have J:Below W.heap.size W (W.alloc zcF):=(Below.refl _ _).alloc (Nat.le_refl _) _
 have p: ∀{k:Nat},k≠6→(a.put (some 6) (.pointer (some ⟨W.heap.size,0,none⟩))).tmps[k]? =a.tmps[k]?:=fun I=>zi a _ I
 have U:(a.put (some 6) (.pointer (some ⟨W.heap.size,0,none⟩))).tmps[6]? =some (.pointer (some ⟨W.heap.size,0,none⟩)):=zaj _ (by rw[h.sz];exact hn)
 refine⟨?_,h.df,fun k I=>(p (fun e=>I (by rw[e];decide))).trans (h.oth k I),h.bel.trans (J.mono h.bel.size),?_,?_,?_,?_,?_,?_,?_,?_,?_,?_,?_⟩
 ·show (a.tmps.setIfInBounds _ _).size=n
  rw[Array.size_setIfInBounds];exact h.sz
 ·exact fun k=>(p (by decide)).trans (h.e0 (zd (by decide) k))
 ·exact fun k=>by obtain⟨g,z,w⟩:=h.e1 (zd (by decide) k);exact⟨g,(p (by decide)).trans z,fun H=>(w (zM H)).later J⟩
 ·exact fun k=>(p (by decide)).trans (h.e2 (zd (by decide) k))
 ·exact fun k=>by obtain⟨N,z,w⟩:=h.e3 (zd (by decide) k);exact⟨N,(p (by decide)).trans z,fun H=>(w (zM H)).later J⟩
 ·exact fun k=>by obtain⟨z,w,L⟩:=h.e4 (zd (by decide) k);exact⟨(p (by decide)).trans z,w,L.later J⟩
 ·exact fun k=>by obtain⟨z,w⟩:=h.e5 (zd (by decide) k);exact⟨or_true z,(p (by decide)).trans w⟩
 ·exact fun k=>by obtain⟨z,w⟩:=h.e6 (zd (by decide) k);exact⟨or_true z,(p (by decide)).trans w⟩
 ·exact fun k=>by obtain⟨z,w⟩:=h.e7 (zd (by decide) k);exact⟨or_true z,(p (by decide)).trans w⟩
 ·exact fun _=>⟨_,U,h.bel.size,fun _=>heap_alloc_new W _,fun H=>absurd (h.e9 (zd (by decide) H)).2.2.2.2.2.2.2 (by rw[M];decide)⟩
 ·exact fun k=>by obtain⟨Z,z,w,L,X,Y,O,V⟩:=h.e9 (zd (by decide) k);exact⟨or_true Z,or_true z,or_true w,or_true L,or_true X,or_true Y,or_true O,or_true V⟩
 ·exact fun k=>by obtain⟨z,w⟩:=h.e10 (zd (by decide) k);exact⟨or_true z,(p (by decide)).trans w⟩
theorem TwA.s10 (h:TwA a0 w0 n ra len cap Pt Tx F A m t S D a W) (Z:7<n) (V:D 7=true):TwA a0 w0 n ra len cap Pt Tx F A m t S (fun j=>D j||decide (j=10)) (a.put (some 7) (.bool t)) W:=by
 have p: ∀{k:Nat},k≠7→(a.put (some 7) (.bool t)).tmps[k]? =a.tmps[k]?:=fun J=>zi a _ J
 have O:(a.put (some 7) (.bool t)).tmps[7]? =some (.bool t):=zaj _ (by rw[h.sz];exact Z)
 refine⟨?_,h.df,fun k J=>(p (fun e=>J (by rw[e];decide))).trans (h.oth k J),h.bel,?_,?_,?_,?_,?_,?_,?_,?_,?_,?_,?_⟩
 ·show (a.tmps.setIfInBounds _ _).size=n
  rw[Array.size_setIfInBounds];exact h.sz
 ·exact fun k=>(p (by decide)).trans (h.e0 (zd (by decide) k))
 ·exact fun k=>by obtain⟨g,z,w⟩:=h.e1 (zd (by decide) k);exact⟨g,(p (by decide)).trans z,fun H=>w (zM H)⟩
 ·exact fun k=>(p (by decide)).trans (h.e2 (zd (by decide) k))
 ·exact fun k=>by obtain⟨M,z,w⟩:=h.e3 (zd (by decide) k);exact⟨M,(p (by decide)).trans z,fun H=>w (zM H)⟩
 ·exact fun k=>by obtain⟨z,w,I⟩:=h.e4 (zd (by decide) k);exact⟨(p (by decide)).trans z,w,I⟩
 ·exact fun k=>by obtain⟨z,w⟩:=h.e5 (zd (by decide) k);exact⟨or_true z,(p (by decide)).trans w⟩
 ·exact fun k=>by obtain⟨z,w⟩:=h.e6 (zd (by decide) k);exact⟨or_true z,(p (by decide)).trans w⟩
 ·exact fun k=>by obtain⟨z,w⟩:=h.e7 (zd (by decide) k);exact⟨or_true z,(p (by decide)).trans w⟩
 ·exact fun k=>by obtain⟨g,z,w,I,L⟩:=h.e8 (zd (by decide) k);exact⟨g,(p (by decide)).trans z,w,fun H=>I (zM H),fun H=>L (zd (by decide) H)⟩
 ·exact fun k=>by obtain⟨Y,z,w,I,L,X,N,U⟩:=h.e9 (zd (by decide) k);exact⟨or_true Y,or_true z,or_true w,or_true I,or_true L,or_true X,or_true N,or_true U⟩
 ·exact fun _=>⟨or_true V,O⟩
theorem TwA.s9 (h:TwA a0 w0 n ra len cap Pt Tx F A m t S D a W) {g:Nat} (O:a.tmps[6]? =some (.pointer (some ⟨g,0,none⟩))) (M:w0.heap.size≤g) (N:W.heap[g]? =some zcF) (I:D 0=true∧D 1=true∧D 2=true∧D 3=true∧D 4=true∧D 5=true∧D 6=true∧D 8=true):TwA a0 w0 n ra len cap Pt Tx F A m t S (fun j=>D j||decide (j=9)) a (((((W.setCell ⟨g,0,none⟩ (.slice S.rq.a (NtM F m t).rq.length S.rq.cap)).setCell ⟨g,1,none⟩ (.slice S.im.a (NtM F m t).im.length S.im.cap)).setCell ⟨g,2,none⟩ (.slice S.ep.a (NtM F m t).ep.length S.ep.cap)).setCell ⟨g,3,none⟩ (.slice S.st.a (NtM F m t).st.length S.st.cap)).setCell ⟨g,4,none⟩ (.slice S.ex.a (NtM F m t).ex.length S.ex.cap)):=by
 have J: ∀{p:Prop},(D 9||decide (9=9))=false→p:=fun k=>by simp at k
 refine⟨h.sz,h.df,h.oth,zbN h.bel M _ _ _ _ _,fun k=>h.e0 (zd (by decide) k),?_,fun k=>h.e2 (zd (by decide) k),?_,?_,?_,?_,?_,?_,?_,?_⟩
 ·exact fun k=>by obtain⟨g,w,_⟩:=h.e1 (zd (by decide) k);exact⟨g,w,fun H=>J H⟩
 ·exact fun k=>by obtain⟨g,w,_⟩:=h.e3 (zd (by decide) k);exact⟨g,w,fun H=>J H⟩
 ·exact fun k=>by obtain⟨w,z,L⟩:=h.e4 (zd (by decide) k);exact⟨w,z,zdZ (o:=0) L ⟨_,N⟩⟩
 ·exact fun k=>by obtain⟨w,z⟩:=h.e5 (zd (by decide) k);exact⟨or_true w,z⟩
 ·exact fun k=>by obtain⟨w,z⟩:=h.e6 (zd (by decide) k);exact⟨or_true w,z⟩
 ·exact fun k=>by obtain⟨w,z⟩:=h.e7 (zd (by decide) k);exact⟨or_true w,z⟩
 ·exact fun _=>⟨g,O,M,fun H=>J H,fun _=>zbH N⟩
 ·exact fun _=>by obtain⟨Z,w,z,L,X,Y,U,V⟩:=I;exact⟨or_true Z,or_true w,or_true z,or_true L,or_true X,or_true Y,or_true U,or_true V⟩
 ·exact fun k=>by obtain⟨w,z⟩:=h.e10 (zd (by decide) k);exact⟨or_true w,z⟩
theorem TwA.res (w:a0.tmps.size=n) (h:TwA a0 w0 n ra len cap Pt Tx F A m t S D a W) (j: ∀i,i<11→D i=true): ∃g,a.tmps.getD 6 undef= .pointer (some ⟨g,0,none⟩)∧a.tmps.getD 7 undef= .bool t∧Res F m w0 g S (NtM F m t) t W∧a=[28,29,30,31,32,27,33,34,6,7].foldl (fun b k=>b.put (some k) (a.tmps.getD k undef)) a0:=by
 obtain⟨g,L,H,_,I⟩:=h.e8 (j 8 (by decide))
 obtain⟨_,M,z⟩:=h.e4 (j 4 (by decide))
 have J:=(h.e10 (j 10 (by decide))).2
 exact⟨g,by rw[Array.getD_eq_getD_getElem?,L];rfl,by rw[Array.getD_eq_getD_getElem?,J];rfl,⟨rfl,M,I (j 9 (by decide)),z,h.bel,H⟩,zh3 a _ _ (by rw[w,h.sz]) h.df.symm h.oth⟩
end
structure TwB (a0:Act) (w0:World) (n:Nat) (ra:Option Addr) (len cap:Nat) (Pt Tx:Nat→ByteArray) (F:ByteArray→ByteArray) (A:MA) (m:Md) (t:Bool) (S:Sv) (D:Nat→Bool) (a:Act) (W:World):Prop where
 sz:a.tmps.size=n
 df:a.defers=a0.defers
 oth: ∀k,k∉[95,96,97,98,99,94,100,101,15,16]→a.tmps[k]? =a0.tmps[k]?
 bel:Below w0.heap.size w0 W
 e0:D 0=true→a.tmps[95]? =some (.slice ra len cap)
 e1:D 1=true→∃g,a.tmps[96]? =some (.slice (some ⟨g,0,none⟩) len len)∧(D 9=false→FilesAt W (some ⟨g,0,none⟩) g 0 len Pt Tx)
 e2:D 2=true→a.tmps[97]? =some (zaW A m)
 e3:D 3=true→∃S',a.tmps[98]? =some (zh S' m)∧(D 9=false→OwnMd W 0 S' m)
 e4:D 4=true→a.tmps[99]? =some (.tuple #[zh S (NtM F m t),.bool t])∧(t=true↔MOk m∧MOk (zaM F m))∧OwnMd W w0.heap.size S (NtM F m t)
 e5:D 5=true→D 4=true∧a.tmps[94]? =some (.tuple #[zh S (NtM F m t),.bool t])
 e6:D 6=true→D 5=true∧a.tmps[100]? =some (zh S (NtM F m t))
 e7:D 7=true→D 5=true∧a.tmps[101]? =some (.bool t)
 e8:D 8=true→∃g,a.tmps[15]? =some (.pointer (some ⟨g,0,none⟩))∧w0.heap.size≤g∧(D 9=false→W.heap[g]? =some zcF)∧(D 9=true→W.heap[g]? =some (zcE S (NtM F m t)))
 e9:D 9=true→D 0=true∧D 1=true∧D 2=true∧D 3=true∧D 4=true∧D 5=true∧D 6=true∧D 8=true
 e10:D 10=true→D 7=true∧a.tmps[16]? =some (.bool t)
section
variable {a0 a:Act} {w0 W W':World} {n:Nat} {ra:Option Addr} {len cap:Nat} {Pt Tx:Nat→ByteArray} {F:ByteArray→ByteArray} {A:MA} {m:Md} {t:Bool} {S:Sv} {D:Nat→Bool}
theorem TwB.start {w:List Deferred} {j:Array Value} (H:j.size=n) (z:Below w0.heap.size w0 W):TwB ⟨j,w⟩ w0 n ra len cap Pt Tx F A m false S0 (fun _=>false) ⟨j,w⟩ W:=by
 have h: ∀{p:Prop},(false=true)→p:=fun k=>by cases k
 exact⟨H,rfl,fun _ _=>rfl,z,fun k=>h k,fun k=>h k,fun k=>h k,fun k=>h k,fun k=>h k,fun k=>h k,fun k=>h k,fun k=>h k,fun k=>h k,fun k=>h k,fun k=>h k⟩
theorem TwB.s0 (h:TwB a0 w0 n ra len cap Pt Tx F A m t S D a W) (Y:95<n):TwB a0 w0 n ra len cap Pt Tx F A m t S (fun j=>D j||decide (j=0)) (a.put (some 95) (.slice ra len cap)) W:=by
 have p: ∀{k:Nat},k≠95→(a.put (some 95) (.slice ra len cap)).tmps[k]? =a.tmps[k]?:=fun J=>zi a _ J
 have O:(a.put (some 95) (.slice ra len cap)).tmps[95]? =some (.slice ra len cap):=zaj _ (by rw[h.sz];exact Y)
 refine⟨?_,h.df,fun k J=>(p (fun e=>J (by rw[e];decide))).trans (h.oth k J),h.bel,?_,?_,?_,?_,?_,?_,?_,?_,?_,?_,?_⟩
 ·show (a.tmps.setIfInBounds _ _).size=n
  rw[Array.size_setIfInBounds];exact h.sz
 ·exact fun _=>O
 ·exact fun k=>by obtain⟨g,z,w⟩:=h.e1 (zd (by decide) k);exact⟨g,(p (by decide)).trans z,fun H=>w (zM H)⟩
 ·exact fun k=>(p (by decide)).trans (h.e2 (zd (by decide) k))
 ·exact fun k=>by obtain⟨M,z,w⟩:=h.e3 (zd (by decide) k);exact⟨M,(p (by decide)).trans z,fun H=>w (zM H)⟩
 ·exact fun k=>by obtain⟨z,w,I⟩:=h.e4 (zd (by decide) k);exact⟨(p (by decide)).trans z,w,I⟩
 ·exact fun k=>by obtain⟨z,w⟩:=h.e5 (zd (by decide) k);exact⟨or_true z,(p (by decide)).trans w⟩
 ·exact fun k=>by obtain⟨z,w⟩:=h.e6 (zd (by decide) k);exact⟨or_true z,(p (by decide)).trans w⟩
 ·exact fun k=>by obtain⟨z,w⟩:=h.e7 (zd (by decide) k);exact⟨or_true z,(p (by decide)).trans w⟩
 ·exact fun k=>by obtain⟨g,z,w,I,L⟩:=h.e8 (zd (by decide) k);exact⟨g,(p (by decide)).trans z,w,fun H=>I (zM H),fun H=>L (zd (by decide) H)⟩
 ·exact fun k=>by obtain⟨X,z,w,I,L,V,N,U⟩:=h.e9 (zd (by decide) k);exact⟨or_true X,or_true z,or_true w,or_true I,or_true L,or_true V,or_true N,or_true U⟩
 ·exact fun k=>by obtain⟨z,w⟩:=h.e10 (zd (by decide) k);exact⟨or_true z,(p (by decide)).trans w⟩
theorem TwB.s1 (h:TwB a0 w0 n ra len cap Pt Tx F A m t S D a W) (hn:96<n) {g:Nat} (O:FilesAt W' (some ⟨g,0,none⟩) g 0 len Pt Tx) (J:Below W.heap.size W W'):TwB a0 w0 n ra len cap Pt Tx F A m t S (fun j=>D j||decide (j=1)) (a.put (some 96) (.slice (some ⟨g,0,none⟩) len len)) W':=by
 have p: ∀{k:Nat},k≠96→(a.put (some 96) (.slice (some ⟨g,0,none⟩) len len)).tmps[k]? =a.tmps[k]?:=fun L=>zi a _ L
 have V:(a.put (some 96) (.slice (some ⟨g,0,none⟩) len len)).tmps[96]? =some (.slice (some ⟨g,0,none⟩) len len):=zaj _ (by rw[h.sz];exact hn)
 refine⟨?_,h.df,fun k L=>(p (fun e=>L (by rw[e];decide))).trans (h.oth k L),h.bel.trans (J.mono h.bel.size),?_,?_,?_,?_,?_,?_,?_,?_,?_,?_,?_⟩
 ·show (a.tmps.setIfInBounds _ _).size=n
  rw[Array.size_setIfInBounds];exact h.sz
 ·exact fun k=>(p (by decide)).trans (h.e0 (zd (by decide) k))
 ·exact fun _=>⟨g,V,fun _=>O⟩
 ·exact fun k=>(p (by decide)).trans (h.e2 (zd (by decide) k))
 ·exact fun k=>by obtain⟨N,z,w⟩:=h.e3 (zd (by decide) k);exact⟨N,(p (by decide)).trans z,fun H=>(w (zM H)).later J⟩
 ·exact fun k=>by obtain⟨z,w,I⟩:=h.e4 (zd (by decide) k);exact⟨(p (by decide)).trans z,w,I.later J⟩
 ·exact fun k=>by obtain⟨z,w⟩:=h.e5 (zd (by decide) k);exact⟨or_true z,(p (by decide)).trans w⟩
 ·exact fun k=>by obtain⟨z,w⟩:=h.e6 (zd (by decide) k);exact⟨or_true z,(p (by decide)).trans w⟩
 ·exact fun k=>by obtain⟨z,w⟩:=h.e7 (zd (by decide) k);exact⟨or_true z,(p (by decide)).trans w⟩
 ·exact fun k=>by obtain⟨g,z,w,I,M⟩:=h.e8 (zd (by decide) k);exact⟨g,(p (by decide)).trans z,w,fun H=>zbd (I (zM H)) J,fun H=>zbd (M (zd (by decide) H)) J⟩
 ·exact fun k=>by obtain⟨Z,z,w,I,M,Y,U,X⟩:=h.e9 (zd (by decide) k);exact⟨or_true Z,or_true z,or_true w,or_true I,or_true M,or_true Y,or_true U,or_true X⟩
 ·exact fun k=>by obtain⟨z,w⟩:=h.e10 (zd (by decide) k);exact⟨or_true z,(p (by decide)).trans w⟩
theorem TwB.s2 (h:TwB a0 w0 n ra len cap Pt Tx F A m t S D a W) (Y:97<n):TwB a0 w0 n ra len cap Pt Tx F A m t S (fun j=>D j||decide (j=2)) (a.put (some 97) (zaW A m)) W:=by
 have p: ∀{k:Nat},k≠97→(a.put (some 97) (zaW A m)).tmps[k]? =a.tmps[k]?:=fun J=>zi a _ J
 have O:(a.put (some 97) (zaW A m)).tmps[97]? =some (zaW A m):=zaj _ (by rw[h.sz];exact Y)
 refine⟨?_,h.df,fun k J=>(p (fun e=>J (by rw[e];decide))).trans (h.oth k J),h.bel,?_,?_,?_,?_,?_,?_,?_,?_,?_,?_,?_⟩
 ·show (a.tmps.setIfInBounds _ _).size=n
  rw[Array.size_setIfInBounds];exact h.sz
 ·exact fun k=>(p (by decide)).trans (h.e0 (zd (by decide) k))
 ·exact fun k=>by obtain⟨g,z,w⟩:=h.e1 (zd (by decide) k);exact⟨g,(p (by decide)).trans z,fun H=>w (zM H)⟩
 ·exact fun _=>O
 ·exact fun k=>by obtain⟨M,z,w⟩:=h.e3 (zd (by decide) k);exact⟨M,(p (by decide)).trans z,fun H=>w (zM H)⟩
 ·exact fun k=>by obtain⟨z,w,I⟩:=h.e4 (zd (by decide) k);exact⟨(p (by decide)).trans z,w,I⟩
 ·exact fun k=>by obtain⟨z,w⟩:=h.e5 (zd (by decide) k);exact⟨or_true z,(p (by decide)).trans w⟩
 ·exact fun k=>by obtain⟨z,w⟩:=h.e6 (zd (by decide) k);exact⟨or_true z,(p (by decide)).trans w⟩
 ·exact fun k=>by obtain⟨z,w⟩:=h.e7 (zd (by decide) k);exact⟨or_true z,(p (by decide)).trans w⟩
 ·exact fun k=>by obtain⟨g,z,w,I,L⟩:=h.e8 (zd (by decide) k);exact⟨g,(p (by decide)).trans z,w,fun H=>I (zM H),fun H=>L (zd (by decide) H)⟩
 ·exact fun k=>by obtain⟨X,z,w,I,L,V,N,U⟩:=h.e9 (zd (by decide) k);exact⟨or_true X,or_true z,or_true w,or_true I,or_true L,or_true V,or_true N,or_true U⟩
 ·exact fun k=>by obtain⟨z,w⟩:=h.e10 (zd (by decide) k);exact⟨or_true z,(p (by decide)).trans w⟩
theorem TwB.s3 (h:TwB a0 w0 n ra len cap Pt Tx F A m t S D a W) (Z:98<n) {S':Sv} (U:OwnMd W' 0 S' m) (J:Below W.heap.size W W'):TwB a0 w0 n ra len cap Pt Tx F A m t S (fun j=>D j||decide (j=3)) (a.put (some 98) (zh S' m)) W':=by
 have p: ∀{k:Nat},k≠98→(a.put (some 98) (zh S' m)).tmps[k]? =a.tmps[k]?:=fun L=>zi a _ L
 have O:(a.put (some 98) (zh S' m)).tmps[98]? =some (zh S' m):=zaj _ (by rw[h.sz];exact Z)
 refine⟨?_,h.df,fun k L=>(p (fun e=>L (by rw[e];decide))).trans (h.oth k L),h.bel.trans (J.mono h.bel.size),?_,?_,?_,?_,?_,?_,?_,?_,?_,?_,?_⟩
 ·show (a.tmps.setIfInBounds _ _).size=n
  rw[Array.size_setIfInBounds];exact h.sz
 ·exact fun k=>(p (by decide)).trans (h.e0 (zd (by decide) k))
 ·exact fun k=>by obtain⟨g,z,w⟩:=h.e1 (zd (by decide) k);exact⟨g,(p (by decide)).trans z,fun H=>(w (zM H)).later J⟩
 ·exact fun k=>(p (by decide)).trans (h.e2 (zd (by decide) k))
 ·exact fun _=>⟨S',O,fun _=>U⟩
 ·exact fun k=>by obtain⟨z,w,I⟩:=h.e4 (zd (by decide) k);exact⟨(p (by decide)).trans z,w,I.later J⟩
 ·exact fun k=>by obtain⟨z,w⟩:=h.e5 (zd (by decide) k);exact⟨or_true z,(p (by decide)).trans w⟩
 ·exact fun k=>by obtain⟨z,w⟩:=h.e6 (zd (by decide) k);exact⟨or_true z,(p (by decide)).trans w⟩
 ·exact fun k=>by obtain⟨z,w⟩:=h.e7 (zd (by decide) k);exact⟨or_true z,(p (by decide)).trans w⟩
 ·exact fun k=>by obtain⟨g,z,w,I,M⟩:=h.e8 (zd (by decide) k);exact⟨g,(p (by decide)).trans z,w,fun H=>zbd (I (zM H)) J,fun H=>zbd (M (zd (by decide) H)) J⟩
 ·exact fun k=>by obtain⟨Y,z,w,I,M,X,N,V⟩:=h.e9 (zd (by decide) k);exact⟨or_true Y,or_true z,or_true w,or_true I,or_true M,or_true X,or_true N,or_true V⟩
 ·exact fun k=>by obtain⟨z,w⟩:=h.e10 (zd (by decide) k);exact⟨or_true z,(p (by decide)).trans w⟩
theorem TwB.s4 (h:TwB a0 w0 n ra len cap Pt Tx F A m t S D a W) (hn:99<n) (J:D 4=false) {w:Bool} {S':Sv} (hi:w=true↔MOk m∧MOk (zaM F m)) (X:OwnMd W' w0.heap.size S' (NtM F m w)) (M:Below W.heap.size W W'):TwB a0 w0 n ra len cap Pt Tx F A m w S' (fun j=>D j||decide (j=4)) (a.put (some 99) (.tuple #[zh S' (NtM F m w),.bool w])) W':=by
 have p: ∀{k:Nat},k≠99→(a.put (some 99) (.tuple #[zh S' (NtM F m w),.bool w])).tmps[k]? =a.tmps[k]?:=fun L=>zi a _ L
 have V:(a.put (some 99) (.tuple #[zh S' (NtM F m w),.bool w])).tmps[99]? =some (.tuple #[zh S' (NtM F m w),.bool w]):=zaj _ (by rw[h.sz];exact hn)
 refine⟨?_,h.df,fun k L=>(p (fun e=>L (by rw[e];decide))).trans (h.oth k L),h.bel.trans (M.mono h.bel.size),?_,?_,?_,?_,?_,?_,?_,?_,?_,?_,?_⟩
 ·show (a.tmps.setIfInBounds _ _).size=n
  rw[Array.size_setIfInBounds];exact h.sz
 ·exact fun k=>(p (by decide)).trans (h.e0 (zd (by decide) k))
 ·exact fun k=>by obtain⟨g,I,H⟩:=h.e1 (zd (by decide) k);exact⟨g,(p (by decide)).trans I,fun z=>(H (zM z)).later M⟩
 ·exact fun k=>(p (by decide)).trans (h.e2 (zd (by decide) k))
 ·exact fun k=>by obtain⟨S',I,H⟩:=h.e3 (zd (by decide) k);exact⟨S',(p (by decide)).trans I,fun z=>(H (zM z)).later M⟩
 ·exact fun _=>⟨V,hi,X⟩
 ·exact fun k=>absurd (h.e5 (zd (by decide) k)).1 (by rw[J];decide)
 ·exact fun k=>absurd (h.e5 (h.e6 (zd (by decide) k)).1).1 (by rw[J];decide)
 ·exact fun k=>absurd (h.e5 (h.e7 (zd (by decide) k)).1).1 (by rw[J];decide)
 ·exact fun k=>by obtain⟨g,I,H,N,O⟩:=h.e8 (zd (by decide) k);exact⟨g,(p (by decide)).trans I,H,fun z=>zbd (N (zM z)) M,fun z=>absurd (h.e9 (zd (by decide) z)).2.2.2.2.1 (by rw[J];decide)⟩
 ·exact fun k=>by obtain⟨h0,I,H,N,O,Z,U,Y⟩:=h.e9 (zd (by decide) k);exact⟨or_true h0,or_true I,or_true H,or_true N,or_true O,or_true Z,or_true U,or_true Y⟩
 ·exact fun k=>absurd (h.e5 (h.e7 (h.e10 (zd (by decide) k)).1).1).1 (by rw[J];decide)
theorem TwB.s5 (h:TwB a0 w0 n ra len cap Pt Tx F A m t S D a W) (Y:94<n) (I:D 4=true):TwB a0 w0 n ra len cap Pt Tx F A m t S (fun j=>D j||decide (j=5)) (a.put (some 94) (.tuple #[zh S (NtM F m t),.bool t])) W:=by
 have p: ∀{k:Nat},k≠94→(a.put (some 94) (.tuple #[zh S (NtM F m t),.bool t])).tmps[k]? =a.tmps[k]?:=fun L=>zi a _ L
 have O:(a.put (some 94) (.tuple #[zh S (NtM F m t),.bool t])).tmps[94]? =some (.tuple #[zh S (NtM F m t),.bool t]):=zaj _ (by rw[h.sz];exact Y)
 refine⟨?_,h.df,fun k L=>(p (fun e=>L (by rw[e];decide))).trans (h.oth k L),h.bel,?_,?_,?_,?_,?_,?_,?_,?_,?_,?_,?_⟩
 ·show (a.tmps.setIfInBounds _ _).size=n
  rw[Array.size_setIfInBounds];exact h.sz
 ·exact fun k=>(p (by decide)).trans (h.e0 (zd (by decide) k))
 ·exact fun k=>by obtain⟨g,z,w⟩:=h.e1 (zd (by decide) k);exact⟨g,(p (by decide)).trans z,fun H=>w (zM H)⟩
 ·exact fun k=>(p (by decide)).trans (h.e2 (zd (by decide) k))
 ·exact fun k=>by obtain⟨M,z,w⟩:=h.e3 (zd (by decide) k);exact⟨M,(p (by decide)).trans z,fun H=>w (zM H)⟩
 ·exact fun k=>by obtain⟨z,w,J⟩:=h.e4 (zd (by decide) k);exact⟨(p (by decide)).trans z,w,J⟩
 ·exact fun _=>⟨or_true I,O⟩
 ·exact fun k=>by obtain⟨z,w⟩:=h.e6 (zd (by decide) k);exact⟨or_true z,(p (by decide)).trans w⟩
 ·exact fun k=>by obtain⟨z,w⟩:=h.e7 (zd (by decide) k);exact⟨or_true z,(p (by decide)).trans w⟩
 ·exact fun k=>by obtain⟨g,z,w,J,I⟩:=h.e8 (zd (by decide) k);exact⟨g,(p (by decide)).trans z,w,fun H=>J (zM H),fun H=>I (zd (by decide) H)⟩
 ·exact fun k=>by obtain⟨X,z,w,J,I,V,N,U⟩:=h.e9 (zd (by decide) k);exact⟨or_true X,or_true z,or_true w,or_true J,or_true I,or_true V,or_true N,or_true U⟩
 ·exact fun k=>by obtain⟨z,w⟩:=h.e10 (zd (by decide) k);exact⟨or_true z,(p (by decide)).trans w⟩
theorem TwB.s6 (h:TwB a0 w0 n ra len cap Pt Tx F A m t S D a W) (Y:100<n) (M:D 5=true):TwB a0 w0 n ra len cap Pt Tx F A m t S (fun j=>D j||decide (j=6)) (a.put (some 100) (zh S (NtM F m t))) W:=by
 have p: ∀{k:Nat},k≠100→(a.put (some 100) (zh S (NtM F m t))).tmps[k]? =a.tmps[k]?:=fun J=>zi a _ J
 have U:(a.put (some 100) (zh S (NtM F m t))).tmps[100]? =some (zh S (NtM F m t)):=zaj _ (by rw[h.sz];exact Y)
 refine⟨?_,h.df,fun k J=>(p (fun e=>J (by rw[e];decide))).trans (h.oth k J),h.bel,?_,?_,?_,?_,?_,?_,?_,?_,?_,?_,?_⟩
 ·show (a.tmps.setIfInBounds _ _).size=n
  rw[Array.size_setIfInBounds];exact h.sz
 ·exact fun k=>(p (by decide)).trans (h.e0 (zd (by decide) k))
 ·exact fun k=>by obtain⟨g,z,w⟩:=h.e1 (zd (by decide) k);exact⟨g,(p (by decide)).trans z,fun H=>w (zM H)⟩
 ·exact fun k=>(p (by decide)).trans (h.e2 (zd (by decide) k))
 ·exact fun k=>by obtain⟨N,z,w⟩:=h.e3 (zd (by decide) k);exact⟨N,(p (by decide)).trans z,fun H=>w (zM H)⟩
 ·exact fun k=>by obtain⟨z,w,I⟩:=h.e4 (zd (by decide) k);exact⟨(p (by decide)).trans z,w,I⟩
 ·exact fun k=>by obtain⟨z,w⟩:=h.e5 (zd (by decide) k);exact⟨or_true z,(p (by decide)).trans w⟩
 ·exact fun _=>⟨or_true M,U⟩
 ·exact fun k=>by obtain⟨z,w⟩:=h.e7 (zd (by decide) k);exact⟨or_true z,(p (by decide)).trans w⟩
 ·exact fun k=>by obtain⟨g,z,w,I,L⟩:=h.e8 (zd (by decide) k);exact⟨g,(p (by decide)).trans z,w,fun H=>I (zM H),fun H=>L (zd (by decide) H)⟩
 ·exact fun k=>by obtain⟨X,z,w,I,L,M,O,V⟩:=h.e9 (zd (by decide) k);exact⟨or_true X,or_true z,or_true w,or_true I,or_true L,or_true M,or_true O,or_true V⟩
 ·exact fun k=>by obtain⟨z,w⟩:=h.e10 (zd (by decide) k);exact⟨or_true z,(p (by decide)).trans w⟩
theorem TwB.s7 (h:TwB a0 w0 n ra len cap Pt Tx F A m t S D a W) (Y:101<n) (M:D 5=true):TwB a0 w0 n ra len cap Pt Tx F A m t S (fun j=>D j||decide (j=7)) (a.put (some 101) (.bool t)) W:=by
 have p: ∀{k:Nat},k≠101→(a.put (some 101) (.bool t)).tmps[k]? =a.tmps[k]?:=fun J=>zi a _ J
 have U:(a.put (some 101) (.bool t)).tmps[101]? =some (.bool t):=zaj _ (by rw[h.sz];exact Y)
 refine⟨?_,h.df,fun k J=>(p (fun e=>J (by rw[e];decide))).trans (h.oth k J),h.bel,?_,?_,?_,?_,?_,?_,?_,?_,?_,?_,?_⟩
 ·show (a.tmps.setIfInBounds _ _).size=n
  rw[Array.size_setIfInBounds];exact h.sz
 ·exact fun k=>(p (by decide)).trans (h.e0 (zd (by decide) k))
 ·exact fun k=>by obtain⟨g,z,w⟩:=h.e1 (zd (by decide) k);exact⟨g,(p (by decide)).trans z,fun H=>w (zM H)⟩
 ·exact fun k=>(p (by decide)).trans (h.e2 (zd (by decide) k))
 ·exact fun k=>by obtain⟨N,z,w⟩:=h.e3 (zd (by decide) k);exact⟨N,(p (by decide)).trans z,fun H=>w (zM H)⟩
 ·exact fun k=>by obtain⟨z,w,I⟩:=h.e4 (zd (by decide) k);exact⟨(p (by decide)).trans z,w,I⟩
 ·exact fun k=>by obtain⟨z,w⟩:=h.e5 (zd (by decide) k);exact⟨or_true z,(p (by decide)).trans w⟩
 ·exact fun k=>by obtain⟨z,w⟩:=h.e6 (zd (by decide) k);exact⟨or_true z,(p (by decide)).trans w⟩
 ·exact fun _=>⟨or_true M,U⟩
 ·exact fun k=>by obtain⟨g,z,w,I,L⟩:=h.e8 (zd (by decide) k);exact⟨g,(p (by decide)).trans z,w,fun H=>I (zM H),fun H=>L (zd (by decide) H)⟩
 ·exact fun k=>by obtain⟨X,z,w,I,L,M,O,V⟩:=h.e9 (zd (by decide) k);exact⟨or_true X,or_true z,or_true w,or_true I,or_true L,or_true M,or_true O,or_true V⟩
 ·exact fun k=>by obtain⟨z,w⟩:=h.e10 (zd (by decide) k);exact⟨or_true z,(p (by decide)).trans w⟩
theorem TwB.s8 (h:TwB a0 w0 n ra len cap Pt Tx F A m t S D a W) (hn:15<n) (M:D 8=false):TwB a0 w0 n ra len cap Pt Tx F A m t S (fun j=>D j||decide (j=8)) (a.put (some 15) (.pointer (some ⟨W.heap.size,0,none⟩))) (W.alloc zcF):=by
 have J:Below W.heap.size W (W.alloc zcF):=(Below.refl _ _).alloc (Nat.le_refl _) _
 have p: ∀{k:Nat},k≠15→(a.put (some 15) (.pointer (some ⟨W.heap.size,0,none⟩))).tmps[k]? =a.tmps[k]?:=fun I=>zi a _ I
 have U:(a.put (some 15) (.pointer (some ⟨W.heap.size,0,none⟩))).tmps[15]? =some (.pointer (some ⟨W.heap.size,0,none⟩)):=zaj _ (by rw[h.sz];exact hn)
 refine⟨?_,h.df,fun k I=>(p (fun e=>I (by rw[e];decide))).trans (h.oth k I),h.bel.trans (J.mono h.bel.size),?_,?_,?_,?_,?_,?_,?_,?_,?_,?_,?_⟩
 ·show (a.tmps.setIfInBounds _ _).size=n
  rw[Array.size_setIfInBounds];exact h.sz
 ·exact fun k=>(p (by decide)).trans (h.e0 (zd (by decide) k))
 ·exact fun k=>by obtain⟨g,z,w⟩:=h.e1 (zd (by decide) k);exact⟨g,(p (by decide)).trans z,fun H=>(w (zM H)).later J⟩
 ·exact fun k=>(p (by decide)).trans (h.e2 (zd (by decide) k))
 ·exact fun k=>by obtain⟨N,z,w⟩:=h.e3 (zd (by decide) k);exact⟨N,(p (by decide)).trans z,fun H=>(w (zM H)).later J⟩
 ·exact fun k=>by obtain⟨z,w,L⟩:=h.e4 (zd (by decide) k);exact⟨(p (by decide)).trans z,w,L.later J⟩
 ·exact fun k=>by obtain⟨z,w⟩:=h.e5 (zd (by decide) k);exact⟨or_true z,(p (by decide)).trans w⟩
 ·exact fun k=>by obtain⟨z,w⟩:=h.e6 (zd (by decide) k);exact⟨or_true z,(p (by decide)).trans w⟩
 ·exact fun k=>by obtain⟨z,w⟩:=h.e7 (zd (by decide) k);exact⟨or_true z,(p (by decide)).trans w⟩
 ·exact fun _=>⟨_,U,h.bel.size,fun _=>heap_alloc_new W _,fun H=>absurd (h.e9 (zd (by decide) H)).2.2.2.2.2.2.2 (by rw[M];decide)⟩
 ·exact fun k=>by obtain⟨Z,z,w,L,X,Y,O,V⟩:=h.e9 (zd (by decide) k);exact⟨or_true Z,or_true z,or_true w,or_true L,or_true X,or_true Y,or_true O,or_true V⟩
 ·exact fun k=>by obtain⟨z,w⟩:=h.e10 (zd (by decide) k);exact⟨or_true z,(p (by decide)).trans w⟩
theorem TwB.s10 (h:TwB a0 w0 n ra len cap Pt Tx F A m t S D a W) (Z:16<n) (V:D 7=true):TwB a0 w0 n ra len cap Pt Tx F A m t S (fun j=>D j||decide (j=10)) (a.put (some 16) (.bool t)) W:=by
 have p: ∀{k:Nat},k≠16→(a.put (some 16) (.bool t)).tmps[k]? =a.tmps[k]?:=fun J=>zi a _ J
 have O:(a.put (some 16) (.bool t)).tmps[16]? =some (.bool t):=zaj _ (by rw[h.sz];exact Z)
 refine⟨?_,h.df,fun k J=>(p (fun e=>J (by rw[e];decide))).trans (h.oth k J),h.bel,?_,?_,?_,?_,?_,?_,?_,?_,?_,?_,?_⟩
 ·show (a.tmps.setIfInBounds _ _).size=n
  rw[Array.size_setIfInBounds];exact h.sz
 ·exact fun k=>(p (by decide)).trans (h.e0 (zd (by decide) k))
 ·exact fun k=>by obtain⟨g,z,w⟩:=h.e1 (zd (by decide) k);exact⟨g,(p (by decide)).trans z,fun H=>w (zM H)⟩
 ·exact fun k=>(p (by decide)).trans (h.e2 (zd (by decide) k))
 ·exact fun k=>by obtain⟨M,z,w⟩:=h.e3 (zd (by decide) k);exact⟨M,(p (by decide)).trans z,fun H=>w (zM H)⟩
 ·exact fun k=>by obtain⟨z,w,I⟩:=h.e4 (zd (by decide) k);exact⟨(p (by decide)).trans z,w,I⟩
 ·exact fun k=>by obtain⟨z,w⟩:=h.e5 (zd (by decide) k);exact⟨or_true z,(p (by decide)).trans w⟩
 ·exact fun k=>by obtain⟨z,w⟩:=h.e6 (zd (by decide) k);exact⟨or_true z,(p (by decide)).trans w⟩
 ·exact fun k=>by obtain⟨z,w⟩:=h.e7 (zd (by decide) k);exact⟨or_true z,(p (by decide)).trans w⟩
 ·exact fun k=>by obtain⟨g,z,w,I,L⟩:=h.e8 (zd (by decide) k);exact⟨g,(p (by decide)).trans z,w,fun H=>I (zM H),fun H=>L (zd (by decide) H)⟩
 ·exact fun k=>by obtain⟨Y,z,w,I,L,X,N,U⟩:=h.e9 (zd (by decide) k);exact⟨or_true Y,or_true z,or_true w,or_true I,or_true L,or_true X,or_true N,or_true U⟩
 ·exact fun _=>⟨or_true V,O⟩
theorem TwB.s9 (h:TwB a0 w0 n ra len cap Pt Tx F A m t S D a W) {g:Nat} (O:a.tmps[15]? =some (.pointer (some ⟨g,0,none⟩))) (M:w0.heap.size≤g) (N:W.heap[g]? =some zcF) (I:D 0=true∧D 1=true∧D 2=true∧D 3=true∧D 4=true∧D 5=true∧D 6=true∧D 8=true):TwB a0 w0 n ra len cap Pt Tx F A m t S (fun j=>D j||decide (j=9)) a (((((W.setCell ⟨g,0,none⟩ (.slice S.rq.a (NtM F m t).rq.length S.rq.cap)).setCell ⟨g,1,none⟩ (.slice S.im.a (NtM F m t).im.length S.im.cap)).setCell ⟨g,2,none⟩ (.slice S.ep.a (NtM F m t).ep.length S.ep.cap)).setCell ⟨g,3,none⟩ (.slice S.st.a (NtM F m t).st.length S.st.cap)).setCell ⟨g,4,none⟩ (.slice S.ex.a (NtM F m t).ex.length S.ex.cap)):=by
 have J: ∀{p:Prop},(D 9||decide (9=9))=false→p:=fun k=>by simp at k
 refine⟨h.sz,h.df,h.oth,zbN h.bel M _ _ _ _ _,fun k=>h.e0 (zd (by decide) k),?_,fun k=>h.e2 (zd (by decide) k),?_,?_,?_,?_,?_,?_,?_,?_⟩
 ·exact fun k=>by obtain⟨g,w,_⟩:=h.e1 (zd (by decide) k);exact⟨g,w,fun H=>J H⟩
 ·exact fun k=>by obtain⟨g,w,_⟩:=h.e3 (zd (by decide) k);exact⟨g,w,fun H=>J H⟩
 ·exact fun k=>by obtain⟨w,z,L⟩:=h.e4 (zd (by decide) k);exact⟨w,z,zdZ (o:=0) L ⟨_,N⟩⟩
 ·exact fun k=>by obtain⟨w,z⟩:=h.e5 (zd (by decide) k);exact⟨or_true w,z⟩
 ·exact fun k=>by obtain⟨w,z⟩:=h.e6 (zd (by decide) k);exact⟨or_true w,z⟩
 ·exact fun k=>by obtain⟨w,z⟩:=h.e7 (zd (by decide) k);exact⟨or_true w,z⟩
 ·exact fun _=>⟨g,O,M,fun H=>J H,fun _=>zbH N⟩
 ·exact fun _=>by obtain⟨Z,w,z,L,X,Y,U,V⟩:=I;exact⟨or_true Z,or_true w,or_true z,or_true L,or_true X,or_true Y,or_true U,or_true V⟩
 ·exact fun k=>by obtain⟨w,z⟩:=h.e10 (zd (by decide) k);exact⟨or_true w,z⟩
theorem TwB.res (w:a0.tmps.size=n) (h:TwB a0 w0 n ra len cap Pt Tx F A m t S D a W) (j: ∀i,i<11→D i=true): ∃g,a.tmps.getD 15 undef= .pointer (some ⟨g,0,none⟩)∧a.tmps.getD 16 undef= .bool t∧Res F m w0 g S (NtM F m t) t W∧a=[95,96,97,98,99,94,100,101,15,16].foldl (fun b k=>b.put (some k) (a.tmps.getD k undef)) a0:=by
 obtain⟨g,L,H,_,I⟩:=h.e8 (j 8 (by decide))
 obtain⟨_,M,z⟩:=h.e4 (j 4 (by decide))
 have J:=(h.e10 (j 10 (by decide))).2
 exact⟨g,by rw[Array.getD_eq_getD_getElem?,L];rfl,by rw[Array.getD_eq_getD_getElem?,J];rfl,⟨rfl,M,I (j 9 (by decide)),z,h.bel,H⟩,zh3 a _ _ (by rw[w,h.sz]) h.df.symm h.oth⟩
end
theorem Tryz.infoByte:(Tryz.prog.info? 5).map (fun i=>(i.zero,i.size,i.bytes))=some (some (.int .u8 0),1,1):=by kernel_rfl
theorem zpn (p t:ByteArray) (left:Int) (w:World) (_:p.size≤9223372036854775807) (_:t.size≤9223372036854775807) (_:0≤left) (_:left≤1048576):
  Calls Tryz.prog 46 #[.agg #[.string p,.string t],.int .i64 left] w fun e w'=>∃z:Int,e= .returned (.int .i64 z)∧z≤left∧ -1≤z∧(0≤z→p.size≤1048576∧t.size≤1048576)∧Below w.heap.size w w':=by
 go_enter Tryz.func46,Tryz.ntmps46
 go_wp2
 ·go_ret
  exact⟨-1,rfl,by omega,by omega,fun h=>by omega,(Below.refl _ _).alloc (Nat.le_refl _) _⟩
 ·go_ret
  exact⟨-1,rfl,by omega,by omega,fun h=>by omega,(Below.refl _ _).alloc (Nat.le_refl _) _⟩
 ·go_ret
  exact⟨_,rfl,by omega,by omega,fun h=>by omega,(Below.refl _ _).alloc (Nat.le_refl _) _⟩
theorem zpo (p t:ByteArray) (w:World):
  Calls Tryz.prog 49 #[.agg #[.string p,.string t]] w fun e w'=>e= .returned (.agg #[.string p,.string t])∧Below w.heap.size w w':=by
 go_enter Tryz.func49,Tryz.ntmps49
 go_wp2
 refine bodyPost_ret (results_cell_row rfl _ _ (w.heap.size+1) 57 #[.string p,.string t] (0,0) _ rfl ?_ Tryz.underlying57 rfl (by kernel_rfl)) rfl ?_
 ·rw[heap_alloc_old _ _ (by show _<((w.heap.push _).push _).size;simp)]
  exact heap_alloc2_new w _ _
 ·exact⟨rfl,(((Below.refl _ _).alloc (Nat.le_refl _) _).alloc (by show _≤(w.heap.push _).size;simp) _).alloc (by show _≤((w.heap.push _).push _).size;simp;omega) _⟩
theorem zpp (p t:ByteArray) (w:World):
  Calls Tryz.prog 51 #[.agg #[.string p,.string t],.agg #[.string p,.string t]] w fun e w'=>e= .returned (.bool true)∧Below w.heap.size w w':=by
 go_enter Tryz.func51,Tryz.ntmps51
 go_wp2
 go_ret
 exact⟨rfl,((Below.refl _ _).alloc (Nat.le_refl _) _).alloc (by show _≤(w.heap.push _).size;simp) _⟩
theorem Tryz.infoRule:(Tryz.prog.info? 57).map (fun i=>(i.zero,i.size,i.bytes))=some (some (.agg #[.string {data:=#[]},.string {data:=#[]}]),2,32):=by kernel_rfl
theorem zgr (a:Option Addr) (b Y len U:Nat) (Pt Tx:Nat→ByteArray) (w:World) (hf:FilesAt w a b Y len Pt Tx) (hl:len≤1048576):
  Calls Tryz.prog 13 #[.slice a len U] w fun e w'=>∃g,e= .returned (.slice (some ⟨g,0,none⟩) len len)∧OwnF w' w.heap.size 57 g len len Pt Tx∧Below w.heap.size w w':=by
 obtain⟨i0,hi,O,V,X⟩:=info_parts Tryz.infoRule
 go_enter Tryz.func13,Tryz.ntmps13
 go_wp2_with (first|(at_make;refine wpList_make_full w rfl _ _ 44 rfl w.heap.size 57 i0 _ 2 Tryz.underlying44 hi O V .i64 .i64 _ _ len (by rfl) (by rfl) rfl rfl (by rw[X];omega) (by unfold maxLen;omega) (Nat.le_refl _) ?_))
 intro w1 H I
 have Z:Below w.heap.size w w1:=(Below.refl _ _).grown I (Nat.le_refl _) (fun k h=>by cases h)
 have A:OwnF w1 w.heap.size 57 w.heap.size len 0 Pt Tx:=⟨_,H,fun j hj=>absurd hj (Nat.not_lt_zero j)⟩
 clear H I
 go_wp2
 go_loopw [4] (fun i wr=>∃k:Nat,k≤len∧i= .int .i64 k∧OwnF wr w.heap.size 57 w.heap.size len k Pt Tx∧Below w.heap.size w wr) (fun i _=>(len-intOf i).toNat)
 case atStart=>exact⟨0,by omega,rfl,A,Z⟩
 case round=>
  obtain⟨k,hk,rfl,A,N⟩:=hrel
  by_cases J:k<len
  ·obtain rfl:=hf.addr (by omega)
   have L:=hf.later N
   have c0:=L.path k J
   have c1:=L.text k J
   go_wp2_with fail
   refine (zpo _ _ _).mono ?_
   rintro e w2 ⟨rfl,M⟩
   have z:=A.later M
   obtain⟨v0,g0⟩:=z.has (k*2) (by omega)
   obtain⟨v1,g1⟩:=z.has (k*2+1) (by omega)
   have f0:=z.free (k*2)
   have f1:=z.free (k*2+1)
   have HF:=z.fill J
   have aa:=N.trans (M.mono N.size)
   clear c0 c1
   go_wp2
   go_roundw
   case rel=>exact⟨k+1,by omega,by go_num,HF,(aa.setCell (Nat.le_refl _) _).setCell (Nat.le_refl _) _⟩
   case measure=>simp[intOf];omega
  ·obtain rfl:k=len:=by omega
   go_wp2
   go_ret
   exact⟨_,rfl,A,N⟩
theorem zpq (I J len:Nat) (Pt Tx:Nat→ByteArray) (w:World) (N:FilesAt w (some ⟨I,0,none⟩) I 0 len Pt Tx) (X:FilesAt w (some ⟨J,0,none⟩) J 0 len Pt Tx) (hl:len≤1048576):
  Calls Tryz.prog 15 #[.slice (some ⟨I,0,none⟩) len len,.slice (some ⟨J,0,none⟩) len len] w fun e w'=>e= .returned (.bool true)∧Below w.heap.size w w':=by
 go_enter Tryz.func15,Tryz.ntmps15
 go_wp2
 go_loopw [5] (fun i wr=>∃k:Nat,k≤len∧i= .int .i64 k∧Below w.heap.size w wr) (fun i _=>(len-intOf i).toNat)
 case atStart=>exact⟨0,by omega,rfl,Below.refl _ _⟩
 case round=>
  obtain⟨k,Z,rfl,A⟩:=hrel
  by_cases h:k<len
  ·have j:=N.later A
   have z:=X.later A
   have O:=j.path k h
   have Y:=j.text k h
   have M:=z.path k h
   have U:=z.text k h
   rw[Nat.zero_add] at O Y M U
   clear j z
   go_wp2
   go_region_law (first|(go_simp;go_wp2_with (go_at_call 51;refine (zpp _ _ _).mono ?_;rintro e V ⟨rfl,H⟩)))
   all_goals
    have L:Below w.heap.size w V:=A.drew.trans (H.mono A.drew.size)
    go_wp2
    go_roundw
    case rel=>exact⟨k+1,by omega,by go_num,L⟩
    case measure=>simp[intOf];omega
  ·go_wp2
   go_ret
   exact⟨rfl,A⟩
def inT (l:List ByteArray) (s:ByteArray):Bool:=l.any fun y=>y.toList==s.toList
abbrev Fl:=ByteArray×ByteArray
def flL (x:Fl):List Value:=[.string x.1,.string x.2]
def zjB:Fl:=({data:=#[]},{data:=#[]})
def zuG (fs:List Fl) (j:Nat):ByteArray:=(fs.getD j zjB).1
def zuH (fs:List Fl) (j:Nat):ByteArray:=(fs.getD j zjB).2
def zuI (len:Nat) (Pt Tx:Nat→ByteArray):List Fl:=(List.range len).map fun j=>(Pt j,Tx j)
def zuJ (w:World) (base:Nat) (e:TypeId) (g n cap:Nat) (fs:List Fl):Prop:=w.ownsRow base e 2 (.slice (some ⟨g,0,none⟩) n cap) n (fs.flatMap flL)∧n=fs.length
def OwnM (w:World) (base:Nat) (e:TypeId) (size g n cap k0 c:Nat):Prop:=∃xs,w.ownsRow base e size (.slice (some ⟨g,0,none⟩) n cap) n xs∧∀i,i<c→xs[i]? =some (.string (mtS (k0+i)))
theorem OwnM.start {w:World} {j size g n z:Nat} {e:TypeId} {xs:List Value} (h:w.ownsRow j e size (.slice (some ⟨g,0,none⟩) n z) n xs) (H:Nat):OwnM w j e size g n z H 0:=⟨xs,h,fun i A=>absurd A (Nat.not_lt_zero i)⟩
theorem OwnM.blk {w:World} {j size g n A J c:Nat} {e:TypeId} (h:OwnM w j e size g n A J c):j≤g∧g<w.heap.size:=by
 obtain⟨O,L,_⟩:=h
 rcases L.2 with ⟨z,_⟩|⟨U,H,I,z,M,N,_⟩
 ·simp at z
 ·simp only[Value.slice.injEq,Option.some.injEq,Addr.mk.injEq,and_true,true_and] at z
  obtain⟨rfl,rfl⟩:=z
  exact⟨M,(Array.getElem?_eq_some_iff.1 N).1⟩
theorem OwnM.keep {w W:World} {j size g n z J c:Nat} {e:TypeId} (h:OwnM w j e size g n z J c) (N:W.heap[g]? =w.heap[g]?):OwnM W j e size g n z J c:=by
 obtain⟨V,L,O⟩:=h
 refine⟨V,⟨L.1,?_⟩,O⟩
 rcases L.2 with ⟨A,_⟩|⟨Y,M,H,A,I,X,U⟩
 ·simp at A
 ·simp only[Value.slice.injEq,Option.some.injEq,Addr.mk.injEq,and_true,true_and] at A
  obtain⟨rfl,rfl⟩:=A
  exact .inr ⟨g,z,H,rfl,I,N.trans X,U⟩
theorem OwnM.later {w W:World} {j size g n z A c:Nat} {e:TypeId} (h:OwnM w j e size g n z A c) (H:Below w.heap.size w W):OwnM W j e size g n z A c:=h.keep (H.block g h.blk.2)
theorem OwnM.has {w:World} {j size g n z I c:Nat} {e:TypeId} (h:OwnM w j e size g n z I c) (i:Nat) (H:i<n*size): ∃v,w.cell? ⟨g,i,none⟩=some v:=by
 obtain⟨J,A,_⟩:=h
 rw[A.cellAt i H]
 exact⟨_,List.getElem?_eq_getElem (by rw[A.1];exact H)⟩
theorem OwnM.cell {w:World} {j size g n z A c:Nat} {e:TypeId} (h:OwnM w j e size g n z A c) (i q:Nat) (M:i<n*size) (L:i<c) (H:q=A+i):w.cell? ⟨g,i,none⟩=some (.string (mtS q)):=by
 obtain⟨N,J,I⟩:=h
 rw[J.cellAt i M,H]
 exact I i L
theorem OwnM.free {w:World} {j size g n z A c:Nat} {e:TypeId} (h:OwnM w j e size g n z A c) (i:Nat):w.frozen? ⟨g,i,none⟩=false:=by
 obtain⟨I,H,_⟩:=h
 exact H.frozenAt i
theorem OwnM.put {w:World} {j size g n z A c q:Nat} {e:TypeId} (h:OwnM w j e size g n z A c) (N:c<n*size) (I:q=A+c):OwnM (w.setCell ⟨g,c,none⟩ (.string (mtS q))) j e size g n z A (c+1):=by
 subst I
 obtain⟨L,H,J⟩:=h
 have M:=H.1
 refine⟨L.set c (.string (mtS (A+c))),(H.stored c _).1,fun i O=>?_⟩
 by_cases e:i=c
 ·subst e
  exact List.getElem?_set_self (by omega)
 ·rw[List.getElem?_set_ne (by omega)]
  exact J i (by omega)
theorem OwnM.nil {w:World} {j size g z A c:Nat} {e:TypeId} (h:OwnM w j e size g 0 z A 0) (H:c=0):OwnM w j e size g 0 z A c:=by rw[H];exact h
theorem zpr (w:World) (b:Option Nat):w.grownBy w b:=⟨rfl,rfl,rfl,Nat.le_refl _,fun _ _ _=>rfl⟩
theorem zjC {w A H:World} {b:Option Nat} (h:w.grownBy A b) (k:A.grownBy H b):w.grownBy H b:=
 ⟨k.os.trans h.os,k.tape.trans h.tape,k.output.trans h.output,Nat.le_trans h.size k.size,fun i z j=>(k.block i (Nat.lt_of_lt_of_le z h.size) j).trans (h.block i z j)⟩
theorem zjD {w j z:World} {b:Option Nat} (h:w.grownBy j b) (k:Below j.heap.size j z):w.grownBy z b:=
 zjC h ⟨k.os,k.tape,k.output,k.size,fun i A _=>k.block i A⟩
theorem zjE {w j:World} {g i:Nat} {u:Value} (h:w.grownBy j (some g)):w.grownBy (j.setCell ⟨g,i,none⟩ u) (some g):=
 zjC h ⟨rfl,rfl,rfl,by show _≤(j.heap.modify _ _).size;simp,fun k _ z=>Below.heap_setCell j ⟨g,i,none⟩ u k (fun e=>z (by rw[e]))⟩
theorem zps (a:Option Addr) (b Y len V:Nat) (Pt Tx:Nat→ByteArray) (w:World) (hf:FilesAt w a b Y len Pt Tx) (_:len≤9223372036854775807)
  (hp: ∀j,j<len→(Pt j).size≤9223372036854775807) (ht: ∀j,j<len→(Tx j).size≤9223372036854775807):
  Calls Tryz.prog 11 #[.slice a len V,.int .i64 1048576] w fun e w'=>∃z:Int,e= .returned (.int .i64 z)∧z≤1048576∧(0≤z→z+(len:Int)≤1048576∧∀j,j<len→(Pt j).size≤1048576∧(Tx j).size≤1048576)∧Below w.heap.size w w':=by
 by_cases hl:len≤1048576
 ·go_enter Tryz.func11,Tryz.ntmps11
  go_wp2
  go_loopw [1,5] (fun l i wr=>∃(k:Nat) (z:Int),k≤len∧i= .int .i64 k∧l= .int .i64 z∧0≤z∧z+(len:Int)≤1048576∧(∀j,j<k→(Pt j).size≤1048576∧(Tx j).size≤1048576)∧Below w.heap.size w wr) (fun _ i _=>(len-intOf i).toNat)
  case atStart=>exact⟨0,_,by omega,rfl,rfl,by omega,by omega,fun j hj=>by omega,Below.refl _ _⟩
  case round=>
   obtain⟨k,z,hk,rfl,rfl,U,X,N,O⟩:=hrel
   have I:Hid (∀j,j<k→(Pt j).size≤1048576∧(Tx j).size≤1048576):=N
   clear N
   by_cases A:k<len
   ·obtain rfl:=hf.addr (by omega)
    have J:=hf.later O
    have c0:=J.path k A
    have c1:=J.text k A
    go_wp2_with fail
    refine (zpn _ _ _ _ (hp k A) (ht k A) U (by omega)).mono ?_
    rintro e w1 ⟨z1,rfl,aa,ab,H,Z⟩
    have M:=O.trans (Z.mono O.size)
    by_cases L:0≤z1
    ·have HN:Hid (∀j,j<k+1→(Pt j).size≤1048576∧(Tx j).size≤1048576):=fun j hj=>by
      by_cases e:j=k
      ·rw[e];exact H L
      ·exact I.out j (by omega)
     clear H
     go_wp2
     go_roundw
     case rel=>exact⟨k+1,z1,by omega,by go_num,rfl,L,by omega,HN.out,M⟩
     case measure=>simp[intOf];omega
    ·clear H
     go_wp2
     go_ret
     exact⟨-1,rfl,by omega,fun h=>by omega,M⟩
   ·go_wp2
    go_ret
    exact⟨z,rfl,by omega,fun _=>⟨X,fun j hj=>I.out j (by omega)⟩,O⟩
 ·go_enter Tryz.func11,Tryz.ntmps11
  go_wp2
  go_ret
  exact⟨-1,rfl,by omega,fun h=>by omega,Below.refl _ _⟩
theorem zpt (h g n H z:Nat) (w:World) (h1:OwnM w h 57 2 g n H z (0)) (hn:n≤1048576) (aF:0<z) (hk:z≤4194304):
  Calls Tryz.prog 16 #[.slice (some ⟨g,0,none⟩) n H,.int .i64 z] w fun e w'=>e= .returned (.int .i64 ((z+n*2:Nat):Int))∧OwnM w' h 57 2 g n H z (n*2)∧w.grownBy w' (some g):=by
 have H1:=zY h1
 clear h1
 go_enter Tryz.func16,Tryz.ntmps16
 go_wp2
 go_loopg [1,5] n (fun k q i wr=>∃j:Nat,i= .int .i64 j∧j+k=n∧q= .int .i64 ((z+j*2:Nat):Int)∧OwnM wr h 57 2 g n H z (j*2)∧w.grownBy wr (some g))
 case atStart=>exact⟨0,rfl,by omega,by simp,by rw[Nat.zero_mul];exact H1.out,zpr _ _⟩
 case round=>
  obtain⟨j,rfl,hj,hq,ho,hg⟩:=hrel
  have A:=zY ho
  have ad:=zY hg
  clear ho hg
  by_cases aD:j<n
  ·have ae:(j:Int)<(n:Int):=by omega
   obtain⟨I,ab⟩: ∃I:Nat,I=z+(j*2):=⟨_,rfl⟩
   rw[←ab] at hq
   subst hq
   obtain⟨J,an⟩: ∃J:Nat,J=I+1:=⟨_,rfl⟩
   have aI:(I:Int)+1=(J:Int):=by omega
   obtain⟨X,ax⟩: ∃X:Nat,X=J+1:=⟨_,rfl⟩
   have aG:(J:Int)+1=(X:Int):=by omega
   have ao:Hid (I=z+(j*2)):=by show I=_;omega
   have aw:Hid (J=z+(j*2+1)):=by show J=_;omega
   have HQ:Hid (X=z+(j*2+2)):=by show X=_;omega
   have aH:X≤7000000:=by omega
   have aB:0<I:=by omega
   have M:Hid (0<I∧I≤8000000):=⟨by omega,by omega⟩
   have N:Hid (0<J∧J≤8000000):=⟨by omega,by omega⟩
   obtain⟨Y,Z⟩: ∃Y,Y=j+1:=⟨_,rfl⟩
   have ej:(j:Int)+1=(Y:Int):=by omega
   have HJ:=zY Z
   clear Z ab an ax
   obtain⟨aJ,aC⟩:=A.out.has (j*2) (by omega)
   have az:=A.out.free (j*2)
   obtain⟨aE,aA⟩:=A.out.has (j*2+1) (by omega)
   have ay:=A.out.free (j*2+1)
   go_wp2_with fail
   refine (zc1 I _ M.out.1 M.out.2).mono ?_
   rintro e w0 ⟨rfl,O⟩
   have L:=zY (A.out.later O)
   have au:=zY (zjD ad.out O)
   clear O
   obtain⟨ar,ai⟩:=L.out.has (j*2) (by omega)
   have al:=L.out.free (j*2)
   obtain⟨aq,am⟩:=L.out.has (j*2+1) (by omega)
   have ak:=L.out.free (j*2+1)
   have ag:Hid (OwnM (w0.setCell ⟨g,j*2,none⟩ (.string (mtS I))) h 57 2 g n H z (j*2+1)):=L.out.put (by omega) ao.out
   have af:Hid (w.grownBy (w0.setCell ⟨g,j*2,none⟩ (.string (mtS I))) (some g)):=zjE au.out
   go_wp2_with fail
   refine (zc1 J _ N.out.1 N.out.2).mono ?_
   rintro e w1 ⟨rfl,V⟩
   have U:=zY (ag.out.later V)
   have av:=zY (zjD af.out V)
   clear V
   obtain⟨ap,ah⟩:=U.out.has (j*2+1) (by omega)
   have aj:=U.out.free (j*2+1)
   have ac:Hid (OwnM (w1.setCell ⟨g,j*2+1,none⟩ (.string (mtS J))) h 57 2 g n H z (j*2+1+1)):=U.out.put (by omega) aw.out
   have aa:Hid (w.grownBy (w1.setCell ⟨g,j*2+1,none⟩ (.string (mtS J))) (some g)):=zjE av.out
   go_wp2
   go_roundg (gk-1)
   case rel=>exact⟨Y,rfl,by have:=HJ.out;omega,by have:=HJ.out;have:=HQ.out;rw[show X=z+Y*2 from by omega],by have:=ac.out;rw[show Y*2=j*2+1+1 from by have:=HJ.out;omega];exact this,aa.out⟩
   case measure=>omega
  ·have ae: ¬(j:Int)<(n:Int):=by omega
   obtain rfl:j=n:=by omega
   subst hq
   go_wp2
   go_ret
   exact⟨rfl,A.out,ad.out⟩
theorem zpu (w:World) (j g len:Nat) (Pt Tx:Nat→ByteArray) (h:OwnF w j 57 g len len Pt Tx) (I:len≤1048576):
  Calls Tryz.prog 16 #[.slice (some ⟨g,0,none⟩) len len,.int .i64 1] w fun e w'=>e= .returned (.int .i64 ((1+len*2:Nat):Int))∧w.grownBy w' (some g)∧j≤g∧g<w.heap.size:=by
 obtain⟨L,z,_⟩:=h
 have H:=(OwnM.start z 1).blk
 refine (zpt j g len len 1 w (OwnM.start z 1) I (by omega) (by omega)).mono ?_
 rintro e J ⟨rfl,_,A⟩
 exact⟨rfl,A,H⟩
end Go.Proofs.YtjdddblpfbmpaaaGreat
