/-
 What the laws' helpers over rows of instructions,of numbers and of texts answer: the walks.
-/
import Derived.Test.YtgcbmogmniahjaaGreatCReCycPreToImplReachIn
namespace Go.Proofs.YtgcbmogmniahjaaGreat
set_option maxRecDepth 100000
set_option maxHeartbeats 1600000
open Go.RowKit Go.PlainAid Go.Sort
theorem OwnX.put1 {w:World} {base size g n q c:Nat} {z:Nat→Value} {e:TypeId} {v:Value} (h:OwnX w base e size g n q z c) (D:c<n*size) (A:z c=v):OwnX (w.setCell ⟨g,c,none⟩ v) base e size g n q z (c+1):=by rw[←A];exact h.put D
theorem zxI (M N:Option Addr) (U V:Nat) (l:List Int) (w:World) (L:RowAt w M itE.f 1 l) (K:RowAt w N itE.f 1 l) (hl:l.length≤1048576):
  Calls Tryz.prog 16 #[.slice M l.length U,.slice N l.length V] w fun e O=>e= .returned (.bool true)∧Below w.heap.size w O:=by
 have X:=zdJ L
 have Y:=zdJ K
 clear L K
 go_enter Tryz.func16,Tryz.ntmps16
 go_wp2
 go_loopw [5] (fun i wr=>∃k:Nat,k≤l.length∧i= .int .i64 k∧Hid (Below w.heap.size w wr)) (fun i _=>(l.length-intOf i).toNat)
 case atStart=>exact⟨0,by omega,rfl,zdJ (Below.refl _ _)⟩
 case round=>
  obtain⟨k,hk,rfl,B⟩:=hrel
  by_cases h:k<l.length
  ·obtain⟨x,I⟩: ∃x,l[k]? =some x:=⟨_,List.getElem?_eq_getElem h⟩
   obtain⟨b1,o1,rfl,A⟩:=(X.out.later B.out).get I
   obtain⟨b2,o2,rfl,q⟩:=(Y.out.later B.out).get I
   have D:=A 0 _ rfl
   have J:=q 0 _ rfl
   simp only[Nat.add_zero,Nat.mul_one] at D J
   clear A q I
   have k0:=cell_regrown D
   have k2:=cell_regrown J
   clear D J
   go_wp2
   refine wp_region_quiet_below (by kernel_rfl) (by kernel_rfl) ?_
   repeat (go_big_quiet_step (fail))
   refine wpQuiet_nil ?_
   intro _ E
   obtain⟨⟨dq,H⟩,z⟩:=E
   subst z
   have Z:=zdJ (B.out.trans ((below_regrown wr dq H).mono B.out.size))
   go_wp2
   go_roundw
   case rel=>exact⟨k+1,h,by go_num,Z⟩
   case measure=>simp[intOf];omega
  ·go_wp2
   go_ret
   exact⟨rfl,B.out⟩
def mkI (k0 i:Nat):Value:=.int .i64 ((k0+i:Nat):Int)
theorem zxJ (A:Option Addr) (D h:Nat) (w:World):Calls Tryz.prog 18 #[.slice A 0 D,.int .i64 h] w fun e z=>e= .returned (.int .i64 h)∧z=w:=by
 go_enter Tryz.func18,Tryz.ntmps18
 go_wp2
 go_loopg [1,5] 1 (fun k q i wr=>k=1∧q= .int .i64 h∧i= .int .i64 0∧wr=w)
 case atStart=>exact⟨rfl,rfl,rfl,rfl⟩
 case round=>
  obtain⟨rfl,rfl,rfl,rfl⟩:=hrel
  go_wp2
  go_ret
  exact⟨rfl,rfl⟩
theorem zxK (base g n A z:Nat) (w:World) (V:OwnX w base 3 1 g n A (mkI z) 0) (hn:n≤1048576) (hk:z≤8388608):
  Calls Tryz.prog 18 #[.slice (some ⟨g,0,none⟩) n A,.int .i64 z] w fun e O=>e= .returned (.int .i64 ((z+n:Nat):Int))∧OwnX O base 3 1 g n A (mkI z) (n)∧w.grownBy O (some g):=by
 have H1:=zdJ V
 clear V
 go_enter Tryz.func18,Tryz.ntmps18
 go_wp2
 go_loopw [1,5] (fun q i wr=>∃j:Nat,j≤n∧i= .int .i64 j∧q= .int .i64 ((z+j:Nat):Int)∧Hid (OwnX wr base 3 1 g n A (mkI z) (j))∧Hid (w.grownBy wr (some g))) (fun _ i _=>(n-intOf i).toNat)
 case atStart=>exact⟨0,by omega,rfl,by simp,by have h:=H1;exact h,zdJ (zxg _ _)⟩
 case round=>
  obtain⟨j,hj,rfl,rfl,H,U⟩:=hrel
  by_cases J:j<n
  ·obtain⟨K,D⟩: ∃q:Nat,q=z+(j):=⟨_,rfl⟩
   obtain⟨E,I⟩: ∃q:Nat,q=z+(j+1):=⟨_,rfl⟩
   rw[←D]
   have Y:(K:Int)+1=(E:Int):=by omega
   have N:Hid (mkI z (j)= .int .i64 (K:Int)):=by show mkI z (j)=_;rw[D];rfl
   have X:Hid (E=z+((j+1))):=by show E=_;omega
   have Z:E≤20000000:=by omega
   obtain⟨v0,e0⟩:=H.out.has (j) (by omega)
   have f0:=H.out.free (j)
   have L:=zdJ (H.out.put1 (by omega) N.out)
   have M:=zdJ (zxi (i:=j) (u:=.int .i64 (K:Int)) (U.out))
   clear D I
   go_wp2
   go_roundw
   case rel=>exact⟨j+1,J,by go_num,by rw[X.out],by have h:=L;exact h,M⟩
   case measure=>simp[intOf];omega
  ·obtain rfl:j=n:=by omega
   go_wp2
   go_ret
   exact⟨rfl,H.out,U.out⟩
theorem zxL (A:Option Addr) (D h:Nat) (w:World):Calls Tryz.prog 19 #[.slice A 0 D,.int .i64 h] w fun e z=>e= .returned (.int .i64 h)∧z=w:=by
 go_enter Tryz.func19,Tryz.ntmps19
 go_wp2
 go_loopg [1,5] 1 (fun k q i wr=>k=1∧q= .int .i64 h∧i= .int .i64 0∧wr=w)
 case atStart=>exact⟨rfl,rfl,rfl,rfl⟩
 case round=>
  obtain⟨rfl,rfl,rfl,rfl⟩:=hrel
  go_wp2
  go_ret
  exact⟨rfl,rfl⟩
theorem zxM (base g n A h:Nat) (w:World) (K:OwnX w base 3 1 g n A (mkI h) (n)) (X:n≤1048576) (V:h≤8388608):
  Calls Tryz.prog 19 #[.slice (some ⟨g,0,none⟩) n A,.int .i64 h] w fun e L=>e= .returned (.int .i64 ((h+n:Nat):Int))∧L=w:=by
 have U:=zdJ K
 clear K
 go_enter Tryz.func19,Tryz.ntmps19
 go_wp2
 go_loopw [1,5] (fun q i wr=>∃j:Nat,j≤n∧i= .int .i64 j∧q= .int .i64 ((h+j:Nat):Int)∧w=wr) (fun _ i _=>(n-intOf i).toNat)
 case atStart=>exact⟨0,by omega,rfl,by simp,rfl⟩
 case round=>
  obtain⟨j,Y,rfl,rfl,rfl⟩:=hrel
  by_cases H:j<n
  ·obtain⟨I,z⟩: ∃q:Nat,q=h+(j):=⟨_,rfl⟩
   obtain⟨D,E⟩: ∃q:Nat,q=h+(j+1):=⟨_,rfl⟩
   rw[←z]
   have N:(I:Int)+1=(D:Int):=by omega
   have J:Hid (mkI h (j)= .int .i64 (I:Int)):=by show mkI h (j)=_;rw[z];rfl
   have M:Hid (D=h+((j+1))):=by show D=_;omega
   have O:D≤20000000:=by omega
   have Z:w.cell? ⟨g,j,none⟩=some (.int .i64 (I:Int)):=by rw[U.out.cell (j) (by omega) (by omega),J.out]
   clear z E
   go_wp2
   go_roundw
   case rel=>exact⟨j+1,H,by go_num,by rw[M.out],trivial⟩
   case measure=>simp[intOf];omega
  ·obtain rfl:j=n:=by omega
   go_wp2
   go_ret
   exact⟨rfl,rfl⟩
end Go.Proofs.YtgcbmogmniahjaaGreat