/-
  What spec's l6In and l6Twice answer: the walks.
  What spec's l6In,l6Twice,l6Imp and l6Space answer: the walks.
-/
import Derived.Test.YtcidlffeeninbaaGreatClTwoModToFileMath
import Derived.Test.YtcidlffeeninbaaGreatClSrcRowToCostMath
namespace Go.Proofs.YtcidlffeeninbaaGreat
set_option maxHeartbeats 1600000
set_option maxRecDepth 100000
open Go.RowKit Go.PlainAid Go.Sort
abbrev RowS (w:World) (a:Option Addr) (l:List ByteArray):Prop:=RowAt w a (fun x=>[Value.string x]) 1 l
theorem RowAt.take {α:Type} {f:α→List Value} {m:Nat} {w:World} {a:Option Addr} {l:List α} (h:RowAt w a f m l) (k:Nat):RowAt w a f m (l.take k):=by
 rcases h with rfl|⟨b,z,E,A,D⟩
 ·exact .inl (List.take_nil)
 ·refine .inr ⟨b,z,E,A,fun j x q=>?_⟩
  rw[List.getElem?_take] at q
  split at q
  ·exact D j x q
  ·cases q
theorem zfH (a:Option Addr) (I n:Nat) (l:List ByteArray) (s:ByteArray) (w:World) (L:n=l.length) (K:RowS w a l) (hl:n≤1048576):
  Calls Tryz.prog 14 #[.slice a n I,.string s] w fun e O=>e= .returned (.bool (inL l s))∧O=w:=by
 have X:=zc K
 have N:=zc L
 clear K L
 go_enter Tryz.func14,Tryz.ntmps14
 go_wp2
 go_loop [5] (fun i=>∃k:Nat,k≤n∧i= .int .i64 k∧(∀j,j<k→((l.getD j sNone).toList==s.toList)=false)) (fun i=>(n-intOf i).toNat)
 case atStart=>exact⟨0,by omega,rfl,fun j D=>absurd D (Nat.not_lt_zero j)⟩
 case round=>
  obtain⟨k,hk,rfl,A⟩:=hrel
  have z:=zc A
  clear A
  by_cases U:k<n
  ·have h:k<l.length:=by have:=N.out;omega
   obtain⟨x,E⟩: ∃x,l[k]? =some x:=⟨_,List.getElem?_eq_getElem h⟩
   obtain⟨b,Y,rfl,M⟩:=X.out.get E
   have q:l.getD k sNone=x:=by simp[List.getD,E]
   have Z:=M 0 _ rfl
   simp only[Nat.add_zero,Nat.mul_one] at Z
   clear M E
   cases J:(x.toList==s.toList) with
   |true=>
    have H:Hid (inL l s=true):=zoL (k:=k) h (by rw[q];exact J)
    clear q h
    go_wp2
    go_ret
    exact⟨zh H.out.symm,rfl⟩
   |false=>
    have V:Hid (∀j,j<k+1→((l.getD j sNone).toList==s.toList)=false):=fun j D=>by
     by_cases e:j=k
     ·rw[e,q];exact J
     ·exact z.out j (by omega)
    clear q h
    go_wp2
    go_round
    case rel=>exact⟨k+1,by omega,by go_num,V.out⟩
    case measure=>simp[intOf];omega
  ·have H:Hid (inL l s=false):=zoM fun j D=>z.out j (by have:=N.out;omega)
   go_wp2
   go_ret
   exact⟨zh H.out.symm,rfl⟩
theorem zlT (a:Option Addr) (h n:Nat) (l:List ByteArray) (w:World) (X:n=l.length) (U:RowS w a l) (hl:n≤1048576) (aa:n≤h):
  Calls Tryz.prog 35 #[.slice a n h] w fun e M=>e= .returned (.bool (twB l))∧Below w.heap.size w M:=by
 have Y:=zc U
 have HN:=zc X
 clear U X
 go_enter Tryz.func35,Tryz.ntmps35
 go_wp2
 go_loopg [3] n (fun k i wr=>∃j:Nat,i= .int .i64 j∧j+k=n∧(∀i,i<j→inL (l.take i) (l.getD i sNone)=false)∧Below w.heap.size w wr)
 case atStart=>exact⟨0,rfl,by omega,fun j O=>absurd O (Nat.not_lt_zero j),Below.refl _ _⟩
 case round=>
  obtain⟨j,rfl,O,J,N⟩:=hrel
  have I:=zc J
  have z:=zc N
  clear J N
  by_cases ab:j<n
  ·have D:(j:Int)<(n:Int):=by omega
   have E:j<l.length:=by have:=HN.out;omega
   have ac:(j:Int)≤(h:Int):=by omega
   obtain⟨x,K⟩: ∃x,l[j]? =some x:=⟨_,List.getElem?_eq_getElem E⟩
   obtain⟨b,ad,rfl,Z⟩:=(Y.out.later z.out).get K
   have H:l.getD j sNone=x:=by simp[List.getD,K]
   have c0:=Z 0 _ rfl
   simp only[Nat.add_zero,Nat.mul_one] at c0
   clear Z K
   have HT:=zc ((Y.out.later z.out).take j)
   have HL:Hid (j=(l.take j).length):=by show j=_;rw[List.length_take];omega
   obtain⟨v,V⟩: ∃v,inL (l.take j) x=v:=⟨_,rfl⟩
   have q:=zc V
   have A:=zc H
   clear V H
   go_wp2_with fail
   go_region_with (first|(go_at_call 14;refine (zfH _ h j (l.take j) x _ HL.out (by exact HT.out) (by omega)).mono ?_;rintro e M ⟨rfl,rfl⟩;rw[q.out]))
   all_goals
    cases v with
    |true=>
     have L:Hid (twB l=true):=zjK E (by rw[A.out];exact q.out)
     go_wp2
     go_ret
     exact⟨zh L.out.symm,z.out.drew⟩
    |false=>
     have HX:Hid (∀i,i<j+1→inL (l.take i) (l.getD i sNone)=false):=fun i hi=>by
      by_cases e:i=j
      ·rw[e,A.out];exact q.out
      ·exact I.out i (by omega)
     go_wp2
     go_roundg (gk-1)
     case rel=>exact⟨j+1,by go_num,by omega,HX.out,z.out.drew⟩
     case measure=>omega
  ·have D: ¬(j:Int)<(n:Int):=by omega
   have L:Hid (twB l=false):=zoN fun i hi=>I.out i (by have:=HN.out;omega)
   go_wp2
   go_ret
   exact⟨zh L.out.symm,z.out⟩
theorem RowAt.of {α:Type} {f:α→List Value} {m:Nat} (A: ∀x,(f x).length=m) {w:World} {b0:Nat} {e:TypeId} {r:Rw} {l:List α} (h:OwnR w b0 e m r l.length (l.flatMap f)):RowAt w r.a f m l:=by
 cases D:l with
 |nil=>exact .inl rfl
 |cons y t=>
  rw[←D]
  obtain⟨g,z,_⟩:=OwnR.elem A h (j:=0) (x:=y) (by rw[D];rfl)
  refine .inr ⟨g,0,z,(h.typed (by rw[Rw.blk,z];rfl)).2.1,fun j x I i v E=>?_⟩
  obtain⟨K,q,H⟩:=OwnR.elem A h I
  rw[z] at q
  cases q
  obtain⟨J,_⟩:=List.getElem?_eq_some_iff.1 E
  rw[Nat.zero_add,H i (by rw[←A x];exact J)]
  exact E
theorem RowS.of {w:World} {q:Nat} {r:Rw} {l:List ByteArray} (h:OwnR w q 9 1 r l.length (l.map .string)):RowS w r.a l:=by
 refine RowAt.of (f:=fun x=>[Value.string x]) (fun _=>rfl) (b0:=q) (e:=9) ?_
 have e:(l.flatMap fun x=>[Value.string x])=l.map .string:=by
  clear h
  induction l with
  |nil=>rfl
  |cons x l z=>rw[List.flatMap_cons,List.map_cons,z];rfl
 rw[e]
 exact h
def zil (l:List Im) (n:ByteArray) (z:Int):Prop:=
 (z= -1∧∀(j:Nat) (y:Im),l[j]? =some y→(y.loc.toList==n.toList)=false)∨
 ∃(k:Nat) (x:Im),z=k∧l[k]? =some x∧(x.loc.toList==n.toList)=true∧∀(j:Nat) (y:Im),j<k→l[j]? =some y→(y.loc.toList==n.toList)=false
def zus (l:List Im) (n:ByteArray) (e:Ending):Prop:=∃z,e= .returned (.int .i64 z)∧zil l n z
theorem zut (V:Sv) (m:Md) (n:ByteArray) (w:World) (H:RowAt w V.im.a imL 3 m.im) (Z:m.im.length≤1048576):
  Calls Tryz.prog 59 #[zn V m,.string n] w fun e O=>zus m.im n e∧Below w.heap.size w O:=by
 obtain⟨a,L⟩: ∃a,V.im.a=a:=⟨_,rfl⟩
 unfold zn
 rw[L] at H ⊢
 have A:Hid (Below w.heap.size w (w.alloc (.cells #[.slice V.rq.a m.rq.length V.rq.cap,.slice a m.im.length V.im.cap,.slice V.ep.a m.ep.length V.ep.cap,.slice V.st.a m.st.length V.st.cap,.slice V.ex.a m.ex.length V.ex.cap] 48))):=(Below.refl _ _).alloc (Nat.le_refl _) _
 have U:=zc (H.later A.out)
 clear H L
 go_enter Tryz.func59,Tryz.ntmps59
 go_wp2
 go_loop [5] (fun i=>∃k:Nat,k≤m.im.length∧i= .int .i64 k∧(∀(j:Nat) (y:Im),j<k→m.im[j]? =some y→(y.loc.toList==n.toList)=false)) (fun i=>(m.im.length-intOf i).toNat)
 case atStart=>exact⟨0,by omega,rfl,fun j _ K=>absurd K (Nat.not_lt_zero j)⟩
 case round=>
  obtain⟨k,hk,rfl,z⟩:=hrel
  have h:=zc z
  clear z
  by_cases D:k<m.im.length
  ·obtain⟨x,E⟩: ∃x,m.im[k]? =some x:=⟨_,List.getElem?_eq_getElem D⟩
   obtain⟨b,X,rfl,N⟩:=U.out.get E
   have M:=zc E
   have c0:=N 2 _ rfl
   clear N E
   cases J:(x.loc.toList==n.toList) with
   |true=>
    have I:Hid (zil m.im n k):=.inr ⟨k,x,rfl,M.out,J,h.out⟩
    go_wp2
    go_ret
    exact⟨⟨_,rfl,I.out⟩,A.out⟩
   |false=>
    have Y:Hid (∀(j:Nat) (y:Im),j<k+1→m.im[j]? =some y→(y.loc.toList==n.toList)=false):=fun j y K q=>by
     by_cases e:j=k
     ·rw[e,M.out] at q
      cases q
      exact J
     ·exact h.out j y (by omega) q
    go_wp2
    go_round
    case rel=>exact⟨k+1,by omega,by go_num,Y.out⟩
    case measure=>simp[intOf];omega
  ·have I:Hid (zil m.im n (-1)):=.inl ⟨rfl,fun j y q=>h.out j y (by have:=(List.getElem?_eq_some_iff.1 q).1;omega) q⟩
   go_wp2
   go_ret
   exact⟨⟨_,rfl,I.out⟩,A.out⟩
theorem zdK (V:Sv) (m:Md) (n:ByteArray) (w:World) (M:RowAt w V.im.a imL 3 m.im) (X:m.im.length≤1048576):
  Calls Tryz.prog 36 #[zn V m,.string n] w fun e U=>e= .returned (.bool (spB m.im n))∧Below w.heap.size w U:=by
 have N:=zc M
 clear M
 have H:Hid (Below w.heap.size w (w.alloc (.cells #[.slice V.rq.a m.rq.length V.rq.cap,.slice V.im.a m.im.length V.im.cap,.slice V.ep.a m.ep.length V.ep.cap,.slice V.st.a m.st.length V.st.cap,.slice V.ex.a m.ex.length V.ex.cap] 48))):=(Below.refl _ _).alloc (Nat.le_refl _) _
 unfold zn
 go_enter Tryz.func36,Tryz.ntmps36
 go_wp2_with fail
 refine (zut V m n _ (N.out.later H.out) X).mono ?_
 rintro e w1 ⟨⟨z,rfl,J⟩,D⟩
 have q:=zc (H.out.trans (D.mono (by rw[zg];omega)))
 obtain⟨c0,Y,c2,c3,c4,cf⟩:=zk ((D.block w.heap.size (by rw[zg];omega)).trans (heap_alloc_new w _))
 have L:=zc J
 clear J D
 rcases L.out with ⟨rfl,h⟩|⟨k,x,rfl,A,I,h⟩
 ·have E:Hid (spB m.im n=false):=zoP h
  clear h
  go_wp2
  go_ret
  exact⟨zh E.out.symm,q.out⟩
 ·have E:Hid (spB m.im n=(x.first.toList==[42])):=zoO A I h
  have hk:=(List.getElem?_eq_some_iff.1 A).1
  obtain⟨b,Z,K,O⟩:=(N.out.later q.out).get A
  have d0:=O 1 _ rfl
  rw[K] at Y
  clear O h I A K L
  go_wp2
  go_ret
  exact⟨zh E.out.symm,q.out⟩
end Go.Proofs.YtcidlffeeninbaaGreat
