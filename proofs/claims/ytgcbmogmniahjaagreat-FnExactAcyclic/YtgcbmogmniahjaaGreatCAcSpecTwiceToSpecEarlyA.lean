/-
  What spec's l6In and l6Twice answer: the walks.
  What spec's l6In,l6Twice,l6Imp and l6Space answer: the walks.
-/
import Derived.Test.YtgcbmogmniahjaaGreatCAcTwoModToFileMath
import Derived.Test.YtgcbmogmniahjaaGreatCAcSrcRowToCostMath
namespace Go.Proofs.YtgcbmogmniahjaaGreat
set_option maxHeartbeats 1600000
set_option maxRecDepth 100000
open Go.RowKit Go.PlainAid Go.Sort
abbrev RowS (w:World) (a:Option Addr) (l:List ByteArray):Prop:=RowAt w a (fun x=>[Value.string x]) 1 l
theorem RowAt.take {α:Type} {f:α→List Value} {m:Nat} {w:World} {a:Option Addr} {l:List α} (h:RowAt w a f m l) (k:Nat):RowAt w a f m (l.take k):=by
 rcases h with rfl|⟨b,A,H,z,I⟩
 ·exact .inl (List.take_nil)
 ·refine .inr ⟨b,A,H,z,fun j x q=>?_⟩
  rw[List.getElem?_take] at q
  split at q
  ·exact I j x q
  ·cases q
theorem zfU (a:Option Addr) (H n:Nat) (l:List ByteArray) (s:ByteArray) (w:World) (O:n=l.length) (M:RowS w a l) (hl:n≤1048576):
  Calls Tryz.prog 27 #[.slice a n H,.string s] w fun e w'=>e= .returned (.bool (inL l s))∧w'=w:=by
 have X:=zc M
 have N:=zc O
 clear M O
 go_enter Tryz.func27,Tryz.ntmps27
 go_wp2
 go_loop [5] (fun i=>∃k:Nat,k≤n∧i= .int .i64 k∧(∀j,j<k→((l.getD j sNone).toList==s.toList)=false)) (fun i=>(n-intOf i).toNat)
 case atStart=>exact⟨0,by omega,rfl,fun j J=>absurd J (Nat.not_lt_zero j)⟩
 case round=>
  obtain⟨k,hk,rfl,z⟩:=hrel
  have A:=zc z
  clear z
  by_cases V:k<n
  ·have q:k<l.length:=by have:=N.out;omega
   obtain⟨x,I⟩: ∃x,l[k]? =some x:=⟨_,List.getElem?_eq_getElem q⟩
   obtain⟨b,Y,rfl,U⟩:=X.out.get I
   have h:l.getD k sNone=x:=by simp[List.getD,I]
   have Z:=U 0 _ rfl
   simp only[Nat.add_zero,Nat.mul_one] at Z
   clear U I
   cases L:(x.toList==s.toList) with
   |true=>
    have K:Hid (inL l s=true):=zp9 (k:=k) q (by rw[h];exact L)
    clear h q
    go_wp2
    go_ret
    exact⟨zi K.out.symm,rfl⟩
   |false=>
    have HX:Hid (∀j,j<k+1→((l.getD j sNone).toList==s.toList)=false):=fun j J=>by
     by_cases e:j=k
     ·rw[e,h];exact L
     ·exact A.out j (by omega)
    clear h q
    go_wp2
    go_round
    case rel=>exact⟨k+1,by omega,by go_num,HX.out⟩
    case measure=>simp[intOf];omega
  ·have K:Hid (inL l s=false):=zpA fun j J=>A.out j (by have:=N.out;omega)
   go_wp2
   go_ret
   exact⟨zi K.out.symm,rfl⟩
theorem zm0 (a:Option Addr) (h n:Nat) (l:List ByteArray) (w:World) (Z:n=l.length) (X:RowS w a l) (hl:n≤1048576) (U:n≤h):
  Calls Tryz.prog 58 #[.slice a n h] w fun e w'=>e= .returned (.bool (twB l))∧Below w.heap.size w w':=by
 have V:=zc X
 have Y:=zc Z
 clear X Z
 go_enter Tryz.func58,Tryz.ntmps58
 go_wp2
 go_loopg [3] n (fun k i wr=>∃j:Nat,i= .int .i64 j∧j+k=n∧(∀i,i<j→inL (l.take i) (l.getD i sNone)=false)∧Below w.heap.size w wr)
 case atStart=>exact⟨0,rfl,by omega,fun j hj=>absurd hj (Nat.not_lt_zero j),Below.refl _ _⟩
 case round=>
  obtain⟨j,rfl,hj,z,O⟩:=hrel
  have I:=zc z
  have J:=zc O
  clear z O
  by_cases aa:j<n
  ·have L:(j:Int)<(n:Int):=by omega
   have H:j<l.length:=by have:=Y.out;omega
   have ac:(j:Int)≤(h:Int):=by omega
   obtain⟨x,M⟩: ∃x,l[j]? =some x:=⟨_,List.getElem?_eq_getElem H⟩
   obtain⟨b,ab,rfl,hc⟩:=(V.out.later J.out).get M
   have A:l.getD j sNone=x:=by simp[List.getD,M]
   have c0:=hc 0 _ rfl
   simp only[Nat.add_zero,Nat.mul_one] at c0
   clear hc M
   have HT:=zc ((V.out.later J.out).take j)
   have HL:Hid (j=(l.take j).length):=by show j=_;rw[List.length_take];omega
   obtain⟨v,hv⟩: ∃v,inL (l.take j) x=v:=⟨_,rfl⟩
   have q:=zc hv
   have K:=zc A
   clear hv A
   go_wp2_with fail
   go_region_with (first|(go_at_call 27;refine (zfU _ h j (l.take j) x _ HL.out (by exact HT.out) (by omega)).mono ?_;rintro e w' ⟨rfl,rfl⟩;rw[q.out]))
   all_goals
    cases v with
    |true=>
     have N:Hid (twB l=true):=zkp H (by rw[K.out];exact q.out)
     go_wp2
     go_ret
     exact⟨zi N.out.symm,J.out.drew⟩
    |false=>
     have HX:Hid (∀i,i<j+1→inL (l.take i) (l.getD i sNone)=false):=fun i hi=>by
      by_cases e:i=j
      ·rw[e,K.out];exact q.out
      ·exact I.out i (by omega)
     go_wp2
     go_roundg (gk-1)
     case rel=>exact⟨j+1,by go_num,by omega,HX.out,J.out.drew⟩
     case measure=>omega
  ·have L: ¬(j:Int)<(n:Int):=by omega
   have N:Hid (twB l=false):=zpB fun i hi=>I.out i (by have:=Y.out;omega)
   go_wp2
   go_ret
   exact⟨zi N.out.symm,J.out⟩
theorem RowAt.of {α:Type} {f:α→List Value} {m:Nat} (z: ∀x,(f x).length=m) {w:World} {b0:Nat} {e:TypeId} {r:Rw} {l:List α} (h:OwnR w b0 e m r l.length (l.flatMap f)):RowAt w r.a f m l:=by
 cases H:l with
 |nil=>exact .inl rfl
 |cons y t=>
  rw[←H]
  obtain⟨g,A,_⟩:=OwnR.elem z h (j:=0) (x:=y) (by rw[H];rfl)
  refine .inr ⟨g,0,A,(h.typed (by rw[Rw.blk,A];rfl)).2.1,fun j x J i v I=>?_⟩
  obtain⟨M,q,K⟩:=OwnR.elem z h J
  rw[A] at q
  cases q
  obtain⟨L,_⟩:=List.getElem?_eq_some_iff.1 I
  rw[Nat.zero_add,K i (by rw[←z x];exact L)]
  exact I
theorem RowS.of {w:World} {base:Nat} {r:Rw} {l:List ByteArray} (h:OwnR w base 9 1 r l.length (l.map .string)):RowS w r.a l:=by
 refine RowAt.of (f:=fun x=>[Value.string x]) (fun _=>rfl) (b0:=base) (e:=9) ?_
 have e:(l.flatMap fun x=>[Value.string x])=l.map .string:=by
  clear h
  induction l with
  |nil=>rfl
  |cons x l q=>rw[List.flatMap_cons,List.map_cons,q];rfl
 rw[e]
 exact h
def zi9 (l:List Im) (n:ByteArray) (z:Int):Prop:=
 (z= -1∧∀(j:Nat) (y:Im),l[j]? =some y→(y.loc.toList==n.toList)=false)∨
 ∃(k:Nat) (x:Im),z=k∧l[k]? =some x∧(x.loc.toList==n.toList)=true∧∀(j:Nat) (y:Im),j<k→l[j]? =some y→(y.loc.toList==n.toList)=false
def zvf (l:List Im) (n:ByteArray) (e:Ending):Prop:=∃z,e= .returned (.int .i64 z)∧zi9 l n z
theorem zvg (V:Sv) (m:Md) (n:ByteArray) (w:World) (I:RowAt w V.im.a imL 3 m.im) (hl:m.im.length≤1048576):
  Calls Tryz.prog 88 #[zl V m,.string n] w fun e w'=>zvf m.im n e∧Below w.heap.size w w':=by
 obtain⟨a,N⟩: ∃a,V.im.a=a:=⟨_,rfl⟩
 unfold zl
 rw[N] at I ⊢
 have H:Hid (Below w.heap.size w (w.alloc (.cells #[.slice V.rq.a m.rq.length V.rq.cap,.slice a m.im.length V.im.cap,.slice V.ep.a m.ep.length V.ep.cap,.slice V.st.a m.st.length V.st.cap,.slice V.ex.a m.ex.length V.ex.cap] 54))):=(Below.refl _ _).alloc (Nat.le_refl _) _
 have X:=zc (I.later H.out)
 clear I N
 go_enter Tryz.func88,Tryz.ntmps88
 go_wp2
 go_loop [5] (fun i=>∃k:Nat,k≤m.im.length∧i= .int .i64 k∧(∀(j:Nat) (y:Im),j<k→m.im[j]? =some y→(y.loc.toList==n.toList)=false)) (fun i=>(m.im.length-intOf i).toNat)
 case atStart=>exact⟨0,by omega,rfl,fun j _ M=>absurd M (Nat.not_lt_zero j)⟩
 case round=>
  obtain⟨k,hk,rfl,z⟩:=hrel
  have h:=zc z
  clear z
  by_cases A:k<m.im.length
  ·obtain⟨x,J⟩: ∃x,m.im[k]? =some x:=⟨_,List.getElem?_eq_getElem A⟩
   obtain⟨b,Y,rfl,O⟩:=X.out.get J
   have U:=zc J
   have c0:=O 2 _ rfl
   clear O J
   cases L:(x.loc.toList==n.toList) with
   |true=>
    have K:Hid (zi9 m.im n k):=.inr ⟨k,x,rfl,U.out,L,h.out⟩
    go_wp2
    go_ret
    exact⟨⟨_,rfl,K.out⟩,H.out⟩
   |false=>
    have Z:Hid (∀(j:Nat) (y:Im),j<k+1→m.im[j]? =some y→(y.loc.toList==n.toList)=false):=fun j y M q=>by
     by_cases e:j=k
     ·rw[e,U.out] at q
      cases q
      exact L
     ·exact h.out j y (by omega) q
    go_wp2
    go_round
    case rel=>exact⟨k+1,by omega,by go_num,Z.out⟩
    case measure=>simp[intOf];omega
  ·have K:Hid (zi9 m.im n (-1)):=.inl ⟨rfl,fun j y q=>h.out j y (by have:=(List.getElem?_eq_some_iff.1 q).1;omega) q⟩
   go_wp2
   go_ret
   exact⟨⟨_,rfl,K.out⟩,H.out⟩
theorem zdV (V:Sv) (m:Md) (n:ByteArray) (w:World) (N:RowAt w V.im.a imL 3 m.im) (hl:m.im.length≤1048576):
  Calls Tryz.prog 59 #[zl V m,.string n] w fun e w'=>e= .returned (.bool (spB m.im n))∧Below w.heap.size w w':=by
 have L:=zc N
 clear N
 have K:Hid (Below w.heap.size w (w.alloc (.cells #[.slice V.rq.a m.rq.length V.rq.cap,.slice V.im.a m.im.length V.im.cap,.slice V.ep.a m.ep.length V.ep.cap,.slice V.st.a m.st.length V.st.cap,.slice V.ex.a m.ex.length V.ex.cap] 54))):=(Below.refl _ _).alloc (Nat.le_refl _) _
 unfold zl
 go_enter Tryz.func59,Tryz.ntmps59
 go_wp2_with fail
 refine (zvg V m n _ (L.out.later K.out) hl).mono ?_
 rintro e w1 ⟨⟨z,rfl,M⟩,H⟩
 have q:=zc (K.out.trans (H.mono (by rw[zg];omega)))
 obtain⟨c0,Y,c2,c3,c4,cf⟩:=zj ((H.block w.heap.size (by rw[zg];omega)).trans (heap_alloc_new w _))
 have U:=zc M
 clear M H
 rcases U.out with ⟨rfl,h⟩|⟨k,x,rfl,A,J,h⟩
 ·have I:Hid (spB m.im n=false):=zpD h
  clear h
  go_wp2
  go_ret
  exact⟨zi I.out.symm,q.out⟩
 ·have I:Hid (spB m.im n=(x.first.toList==[42])):=zpC A J h
  have hk:=(List.getElem?_eq_some_iff.1 A).1
  obtain⟨b,Z,O,X⟩:=(L.out.later q.out).get A
  have d0:=X 1 _ rfl
  rw[O] at Y
  clear X h J A O U
  go_wp2
  go_ret
  exact⟨zi I.out.symm,q.out⟩
end Go.Proofs.YtgcbmogmniahjaaGreat
