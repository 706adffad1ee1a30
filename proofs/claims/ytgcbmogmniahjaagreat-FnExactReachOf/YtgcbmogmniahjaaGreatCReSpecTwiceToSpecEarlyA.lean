/-
  What spec's l6In and l6Twice answer: the walks.
  What spec's l6In,l6Twice,l6Imp and l6Space answer: the walks.
-/
import Derived.Test.YtgcbmogmniahjaaGreatCReTwoModToFileMath
import Derived.Test.YtgcbmogmniahjaaGreatCReSrcRowToCostMath
namespace Go.Proofs.YtgcbmogmniahjaaGreat
set_option maxHeartbeats 1600000
set_option maxRecDepth 100000
open Go.RowKit Go.PlainAid Go.Sort
abbrev RowS (w:World) (a:Option Addr) (l:List ByteArray):Prop:=RowAt w a (fun x=>[Value.string x]) 1 l
theorem RowAt.take {α:Type} {f:α→List Value} {m:Nat} {w:World} {a:Option Addr} {l:List α} (h:RowAt w a f m l) (k:Nat):RowAt w a f m (l.take k):=by
 rcases h with rfl|⟨b,A,D,z,E⟩
 ·exact .inl (List.take_nil)
 ·refine .inr ⟨b,A,D,z,fun j x q=>?_⟩
  rw[List.getElem?_take] at q
  split at q
  ·exact E j x q
  ·cases q
theorem zgd (a:Option Addr) (D n:Nat) (l:List ByteArray) (s:ByteArray) (w:World) (M:n=l.length) (K:RowS w a l) (hl:n≤1048576):
  Calls Tryz.prog 27 #[.slice a n D,.string s] w fun e U=>e= .returned (.bool (inL l s))∧U=w:=by
 have V:=zc K
 have L:=zc M
 clear K M
 go_enter Tryz.func27,Tryz.ntmps27
 go_wp2
 go_loop [5] (fun i=>∃k:Nat,k≤n∧i= .int .i64 k∧(∀j,j<k→((l.getD j sNone).toList==s.toList)=false)) (fun i=>(n-intOf i).toNat)
 case atStart=>exact⟨0,by omega,rfl,fun j H=>absurd H (Nat.not_lt_zero j)⟩
 case round=>
  obtain⟨k,hk,rfl,z⟩:=hrel
  have A:=zc z
  clear z
  by_cases O:k<n
  ·have q:k<l.length:=by have:=L.out;omega
   obtain⟨x,E⟩: ∃x,l[k]? =some x:=⟨_,List.getElem?_eq_getElem q⟩
   obtain⟨b,X,rfl,N⟩:=V.out.get E
   have h:l.getD k sNone=x:=by simp[List.getD,E]
   have Y:=N 0 _ rfl
   simp only[Nat.add_zero,Nat.mul_one] at Y
   clear N E
   cases J:(x.toList==s.toList) with
   |true=>
    have I:Hid (inL l s=true):=zpV (k:=k) q (by rw[h];exact J)
    clear h q
    go_wp2
    go_ret
    exact⟨zi I.out.symm,rfl⟩
   |false=>
    have Z:Hid (∀j,j<k+1→((l.getD j sNone).toList==s.toList)=false):=fun j H=>by
     by_cases e:j=k
     ·rw[e,h];exact J
     ·exact A.out j (by omega)
    clear h q
    go_wp2
    go_round
    case rel=>exact⟨k+1,by omega,by go_num,Z.out⟩
    case measure=>simp[intOf];omega
  ·have I:Hid (inL l s=false):=zpW fun j H=>A.out j (by have:=L.out;omega)
   go_wp2
   go_ret
   exact⟨zi I.out.symm,rfl⟩
theorem zmF (a:Option Addr) (h n:Nat) (l:List ByteArray) (w:World) (Y:n=l.length) (V:RowS w a l) (hl:n≤1048576) (O:n≤h):
  Calls Tryz.prog 58 #[.slice a n h] w fun e M=>e= .returned (.bool (twB l))∧Below w.heap.size w M:=by
 have U:=zc V
 have X:=zc Y
 clear V Y
 go_enter Tryz.func58,Tryz.ntmps58
 go_wp2
 go_loopg [3] n (fun k i wr=>∃j:Nat,i= .int .i64 j∧j+k=n∧(∀i,i<j→inL (l.take i) (l.getD i sNone)=false)∧Below w.heap.size w wr)
 case atStart=>exact⟨0,rfl,by omega,fun j Z=>absurd Z (Nat.not_lt_zero j),Below.refl _ _⟩
 case round=>
  obtain⟨j,rfl,Z,z,N⟩:=hrel
  have E:=zc z
  have H:=zc N
  clear z N
  by_cases aa:j<n
  ·have J:(j:Int)<(n:Int):=by omega
   have D:j<l.length:=by have:=X.out;omega
   have ac:(j:Int)≤(h:Int):=by omega
   obtain⟨x,K⟩: ∃x,l[j]? =some x:=⟨_,List.getElem?_eq_getElem D⟩
   obtain⟨b,ab,rfl,hc⟩:=(U.out.later H.out).get K
   have A:l.getD j sNone=x:=by simp[List.getD,K]
   have c0:=hc 0 _ rfl
   simp only[Nat.add_zero,Nat.mul_one] at c0
   clear hc K
   have HT:=zc ((U.out.later H.out).take j)
   have HL:Hid (j=(l.take j).length):=by show j=_;rw[List.length_take];omega
   obtain⟨v,hv⟩: ∃v,inL (l.take j) x=v:=⟨_,rfl⟩
   have q:=zc hv
   have I:=zc A
   clear hv A
   go_wp2_with fail
   go_region_with (first|(go_at_call 27;refine (zgd _ h j (l.take j) x _ HL.out (by exact HT.out) (by omega)).mono ?_;rintro e M ⟨rfl,rfl⟩;rw[q.out]))
   all_goals
    cases v with
    |true=>
     have L:Hid (twB l=true):=zk4 D (by rw[I.out];exact q.out)
     go_wp2
     go_ret
     exact⟨zi L.out.symm,H.out.drew⟩
    |false=>
     have HX:Hid (∀i,i<j+1→inL (l.take i) (l.getD i sNone)=false):=fun i hi=>by
      by_cases e:i=j
      ·rw[e,I.out];exact q.out
      ·exact E.out i (by omega)
     go_wp2
     go_roundg (gk-1)
     case rel=>exact⟨j+1,by go_num,by omega,HX.out,H.out.drew⟩
     case measure=>omega
  ·have J: ¬(j:Int)<(n:Int):=by omega
   have L:Hid (twB l=false):=zpX fun i hi=>E.out i (by have:=X.out;omega)
   go_wp2
   go_ret
   exact⟨zi L.out.symm,H.out⟩
theorem RowAt.of {α:Type} {f:α→List Value} {m:Nat} (z: ∀x,(f x).length=m) {w:World} {b0:Nat} {e:TypeId} {r:Rw} {l:List α} (h:OwnR w b0 e m r l.length (l.flatMap f)):RowAt w r.a f m l:=by
 cases D:l with
 |nil=>exact .inl rfl
 |cons y t=>
  rw[←D]
  obtain⟨g,A,_⟩:=OwnR.elem z h (j:=0) (x:=y) (by rw[D];rfl)
  refine .inr ⟨g,0,A,(h.typed (by rw[Rw.blk,A];rfl)).2.1,fun j x H i v E=>?_⟩
  obtain⟨K,q,I⟩:=OwnR.elem z h H
  rw[A] at q
  cases q
  obtain⟨J,_⟩:=List.getElem?_eq_some_iff.1 E
  rw[Nat.zero_add,I i (by rw[←z x];exact J)]
  exact E
theorem RowS.of {w:World} {base:Nat} {r:Rw} {l:List ByteArray} (h:OwnR w base 9 1 r l.length (l.map .string)):RowS w r.a l:=by
 refine RowAt.of (f:=fun x=>[Value.string x]) (fun _=>rfl) (b0:=base) (e:=9) ?_
 have e:(l.flatMap fun x=>[Value.string x])=l.map .string:=by
  clear h
  induction l with
  |nil=>rfl
  |cons x l q=>rw[List.flatMap_cons,List.map_cons,q];rfl
 rw[e]
 exact h
def ziI (l:List Im) (n:ByteArray) (z:Int):Prop:=
 (z= -1∧∀(j:Nat) (y:Im),l[j]? =some y→(y.loc.toList==n.toList)=false)∨
 ∃(k:Nat) (x:Im),z=k∧l[k]? =some x∧(x.loc.toList==n.toList)=true∧∀(j:Nat) (y:Im),j<k→l[j]? =some y→(y.loc.toList==n.toList)=false
def zv1 (l:List Im) (n:ByteArray) (e:Ending):Prop:=∃z,e= .returned (.int .i64 z)∧ziI l n z
theorem zv2 (V:Sv) (m:Md) (n:ByteArray) (w:World) (E:RowAt w V.im.a imL 3 m.im) (hl:m.im.length≤1048576):
  Calls Tryz.prog 88 #[zl V m,.string n] w fun e O=>zv1 m.im n e∧Below w.heap.size w O:=by
 obtain⟨a,L⟩: ∃a,V.im.a=a:=⟨_,rfl⟩
 unfold zl
 rw[L] at E ⊢
 have D:Hid (Below w.heap.size w (w.alloc (.cells #[.slice V.rq.a m.rq.length V.rq.cap,.slice a m.im.length V.im.cap,.slice V.ep.a m.ep.length V.ep.cap,.slice V.st.a m.st.length V.st.cap,.slice V.ex.a m.ex.length V.ex.cap] 54))):=(Below.refl _ _).alloc (Nat.le_refl _) _
 have U:=zc (E.later D.out)
 clear E L
 go_enter Tryz.func88,Tryz.ntmps88
 go_wp2
 go_loop [5] (fun i=>∃k:Nat,k≤m.im.length∧i= .int .i64 k∧(∀(j:Nat) (y:Im),j<k→m.im[j]? =some y→(y.loc.toList==n.toList)=false)) (fun i=>(m.im.length-intOf i).toNat)
 case atStart=>exact⟨0,by omega,rfl,fun j _ K=>absurd K (Nat.not_lt_zero j)⟩
 case round=>
  obtain⟨k,Z,rfl,z⟩:=hrel
  have h:=zc z
  clear z
  by_cases A:k<m.im.length
  ·obtain⟨x,H⟩: ∃x,m.im[k]? =some x:=⟨_,List.getElem?_eq_getElem A⟩
   obtain⟨b,X,rfl,M⟩:=U.out.get H
   have N:=zc H
   have c0:=M 2 _ rfl
   clear M H
   cases J:(x.loc.toList==n.toList) with
   |true=>
    have I:Hid (ziI m.im n k):=.inr ⟨k,x,rfl,N.out,J,h.out⟩
    go_wp2
    go_ret
    exact⟨⟨_,rfl,I.out⟩,D.out⟩
   |false=>
    have Y:Hid (∀(j:Nat) (y:Im),j<k+1→m.im[j]? =some y→(y.loc.toList==n.toList)=false):=fun j y K q=>by
     by_cases e:j=k
     ·rw[e,N.out] at q
      cases q
      exact J
     ·exact h.out j y (by omega) q
    go_wp2
    go_round
    case rel=>exact⟨k+1,by omega,by go_num,Y.out⟩
    case measure=>simp[intOf];omega
  ·have I:Hid (ziI m.im n (-1)):=.inl ⟨rfl,fun j y q=>h.out j y (by have:=(List.getElem?_eq_some_iff.1 q).1;omega) q⟩
   go_wp2
   go_ret
   exact⟨⟨_,rfl,I.out⟩,D.out⟩
theorem zef (V:Sv) (m:Md) (n:ByteArray) (w:World) (L:RowAt w V.im.a imL 3 m.im) (Z:m.im.length≤1048576):
  Calls Tryz.prog 59 #[zl V m,.string n] w fun e U=>e= .returned (.bool (spB m.im n))∧Below w.heap.size w U:=by
 have J:=zc L
 clear L
 have I:Hid (Below w.heap.size w (w.alloc (.cells #[.slice V.rq.a m.rq.length V.rq.cap,.slice V.im.a m.im.length V.im.cap,.slice V.ep.a m.ep.length V.ep.cap,.slice V.st.a m.st.length V.st.cap,.slice V.ex.a m.ex.length V.ex.cap] 54))):=(Below.refl _ _).alloc (Nat.le_refl _) _
 unfold zl
 go_enter Tryz.func59,Tryz.ntmps59
 go_wp2_with fail
 refine (zv2 V m n _ (J.out.later I.out) Z).mono ?_
 rintro e w1 ⟨⟨z,rfl,K⟩,D⟩
 have q:=zc (I.out.trans (D.mono (by rw[zg];omega)))
 obtain⟨c0,X,c2,c3,c4,cf⟩:=zj ((D.block w.heap.size (by rw[zg];omega)).trans (heap_alloc_new w _))
 have N:=zc K
 clear K D
 rcases N.out with ⟨rfl,h⟩|⟨k,x,rfl,A,H,h⟩
 ·have E:Hid (spB m.im n=false):=zpZ h
  clear h
  go_wp2
  go_ret
  exact⟨zi E.out.symm,q.out⟩
 ·have E:Hid (spB m.im n=(x.first.toList==[42])):=zpY A H h
  have hk:=(List.getElem?_eq_some_iff.1 A).1
  obtain⟨b,Y,M,O⟩:=(J.out.later q.out).get A
  have d0:=O 1 _ rfl
  rw[M] at X
  clear O h H A M N
  go_wp2
  go_ret
  exact⟨zi E.out.symm,q.out⟩
end Go.Proofs.YtgcbmogmniahjaaGreat
