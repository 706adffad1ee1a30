/-
  What the cursor's functions of the specification tell,and what they leave of it: l1New,l1Byte,l1Below,l1Once: the walks.
  What spec.l1Pick tells: one of the texts,none of them long: the walk.
  What impl.Dec and spec.Dec answer,at every number: the walks.
  What the specification's draws of programs tell: some text,not a long one: the walks.
  What the specification's draw of an item tells: some text,not a long one: the walk.
  The row of the type byte.
  What l1Text of the specification tells: the walk.
  What spec.l1Spoil tells: the walk.
-/
import Derived.Test.YtjdddblpfbmpaaaGreatCmDrawMath
namespace Go.Proofs.YtjdddblpfbmpaaaGreat
set_option maxHeartbeats 12800000
set_option maxRecDepth 100000
open Go.RowKit Go.PlainAid
theorem zg9 {T:TypeId} {S:Src} {w:World} {g:Nat} {q:Nat×Int} (h:zN T S w g q) (n:Nat):zN T S (w.drewN n) g q:=zch h fun _ _=>rfl
theorem zdA (S:Src) (U:S.ok) (g:Nat) (q:Nat×Int) (w:World) (z:zN 137 S w g q):
  Calls Tryz.prog 132 #[.pointer (some ⟨g,0,none⟩)] w fun e w'=>e= .returned (.int .i64 (cb S q).1)∧zN 137 S w' g (cb S q).2∧w.grownBy w' (some g):=by
 obtain⟨i,h⟩:=q
 obtain⟨A,M,J,ad,ac⟩:=zpd z
 have O:=U.1
 have Y:=zoY
 have X:=zjW
 simp only at M J
 by_cases L:i<S.len
 ·obtain⟨b,ab,ha,V,H⟩:=z.2.2.2 i L
  have aa:b<g:=Nat.lt_of_lt_of_le V z.2.1
  have hz:=U.2 i
  rw[ha] at A
  have N:=zoZ (h:=h) L
  have hx:=zhJ (bits .xor .i64 (bh h/8589934592) (bh h/35184372088832))
  rw[zjW] at hx
  have I:Hid (zN 137 S w g (i,h)):=z
  have j:Hid (cb S (i,h)=(bits .and .i64 (bx h+S.Z i) 255,(i+1,bh h))):=N
  clear z N
  go_enter Tryz.func132,Tryz.ntmps132
  go_wp2
  go_quiet (fail)
  go_wp2
  go_quiet (fail)
  go_wp2
  go_quiet (fail)
  go_wp2
  go_ret
  refine⟨zeu (by rw[j.out]),?_,zhK (zeI (zhK (World.grownBy.refl _ _) _) _) _⟩
  rw[j.out]
  exact zpe (zg9 (zjY I.out _) _) (i+1) (by omega)
 ·have I:Hid (zN 137 S w g (i,h)):=z
  have j:Hid (cb S (i,h)=(bx h,(i,bh h))):=zpa L
  clear z
  go_enter Tryz.func132,Tryz.ntmps132
  go_wp2
  go_quiet (fail)
  go_wp2
  go_quiet (fail)
  go_wp2
  go_ret
  exact⟨zeu (by rw[j.out]),by rw[j.out];exact zg9 (zg9 (zjY I.out _) _) _,zeI (zeI (zhK (World.grownBy.refl _ _) _) _) _⟩
theorem zpf {S:Src} {q:Nat×Int} {n:Int} (h:n≤0):bw S q n=(0,q):=by rw[bw,if_pos h]
theorem zpg {S:Src} {q:Nat×Int} {n:Int} (h: ¬n≤0) (k:n≤256):bw S q n=((cb S q).1%n,(cb S q).2):=by rw[bw,if_neg h,if_pos k]
theorem zph {S:Src} {q:Nat×Int} {n:Int} (h: ¬n≤0) (k: ¬n≤256):bw S q n=(((cb S q).1*16777216+(cb S (cb S q).2).1*65536+(cb S (cb S (cb S q).2).2).1*256+(cb S (cb S (cb S (cb S q).2).2).2).1)%n,(cb S (cb S (cb S (cb S q).2).2).2).2):=by rw[bw,if_neg h,if_neg k]
theorem zaJ (S:Src) (A:S.ok) (g:Nat) (q:Nat×Int) (n:Int) (w:World) (U:zN 137 S w g q) (_:n≤9223372036854775807):
  Calls Tryz.prog 97 #[.pointer (some ⟨g,0,none⟩),.int .i64 n] w fun e w'=>e= .returned (.int .i64 (bw S q n).1)∧zN 137 S w' g (bw S q n).2∧w.grownBy w' (some g):=by
 by_cases H:n≤0
 ·rw[zpf H]
  go_enter Tryz.func97,Tryz.ntmps97
  go_wp2
  go_ret
  exact⟨rfl,U,World.grownBy.refl _ _⟩
 ·by_cases V:n≤256
  ·rw[zpg H V]
   have hb:=zei S q
   go_enter Tryz.func97,Tryz.ntmps97
   go_wp2_with fail
   refine (zdA S A g q _ U).mono ?_
   rintro e X ⟨rfl,z,j⟩
   go_wp2
   go_ret
   exact⟨rfl,z,j⟩
  ·rw[zph H V]
   have aa:=zei S q
   have Y:=zei S (cb S q).2
   have ab:=zei S (cb S (cb S q).2).2
   have Z:=zei S (cb S (cb S (cb S q).2).2).2
   go_enter Tryz.func97,Tryz.ntmps97
   go_wp2_with fail
   refine (zdA S A g q _ U).mono ?_
   rintro e X ⟨rfl,z,j⟩
   go_wp2_with fail
   refine (zdA S A g _ _ z).mono ?_
   rintro e w2 ⟨rfl,N,L⟩
   go_wp2_with fail
   refine (zdA S A g _ _ N).mono ?_
   rintro e w3 ⟨rfl,O,J⟩
   go_wp2_with fail
   refine (zdA S A g _ _ O).mono ?_
   rintro e w4 ⟨rfl,M,I⟩
   go_wp2
   go_ret
   exact⟨rfl,M,zE (zE (zE j L) J) I⟩
theorem zcT (S:Src) (A:S.ok) (g:Nat) (q:Nat×Int) (n:Int) (w:World) (H:zN 137 S w g q) (I:n≤9223372036854775807):
  Calls Tryz.prog 98 #[.pointer (some ⟨g,0,none⟩),.int .i64 n] w fun e w'=>e= .returned (.bool ((bw S q n).1==0))∧zN 137 S w' g (bw S q n).2∧w.grownBy w' (some g):=by
 go_enter Tryz.func98,Tryz.ntmps98
 go_wp2_with fail
 refine (zaJ S A g q n _ H I).mono ?_
 rintro e J ⟨rfl,z,j⟩
 go_wp2
 go_ret
 exact⟨rfl,z,j⟩
theorem zpi (y:Int):0≤bits .and .i64 y 1073741823∧bits .and .i64 y 1073741823≤1073741823:=by
 have e:bits .and .i64 y 1073741823=IntKind.i64.wrap (((BitVec.ofInt 64 y&&& BitVec.ofInt 64 1073741823).toNat:Nat):Int):=rfl
 have h:(BitVec.ofInt 64 y&&& BitVec.ofInt 64 1073741823).toNat≤1073741823:=by
  rw[BitVec.toNat_and]
  exact Nat.and_le_right
 rw[e,IntKind.wrap_i64]
 omega
theorem zpj (S:Src) (j:S.ok) (k:Nat):0≤zd8 S k∧zd8 S k≤1073741823:=by
 cases k with
 |zero=>have:=j.1;simp only[zd8];omega
 |succ k=>exact zpi _
theorem zjZ (S:Src) (V:S.ok) (w:World) (I:zcI S w) (H:S.lim≤w.heap.size):
  Calls Tryz.prog 63 #[.slice S.a S.len S.cap] w fun e w'=>e= .returned (.pointer (some ⟨w.heap.size,0,none⟩))∧zN 137 S w' w.heap.size (start S)∧Below w.heap.size w w':=by
 have Y:=V.1
 by_cases h0:0<S.len
 ·obtain⟨b,M,O,hb,L⟩:=I 0 h0
  have q: ∀j,j<S.len→w.cell? ⟨b,M+j,none⟩=some (.int .u8 (S.Z j)):=by
   intro j hj
   obtain⟨b',X,z,ad,A⟩:=I j hj
   rw[O] at z
   simp only[Option.some.injEq,Addr.mk.injEq,and_true] at z
   rw[z.1,z.2]
   exact A
  rw[O]
  go_enter Tryz.func63,Tryz.ntmps63
  go_wp2
  go_loop [3,4] (fun h i=>∃k:Nat,k≤S.len∧k≤4000∧i= .int .i64 k∧h= .int .i64 (zd8 S k)) (fun _ i=>(4000-intOf i).toNat)
  case atStart=>exact⟨0,by omega,by omega,rfl,rfl⟩
  case round=>
   obtain⟨k,hk,ac,rfl,rfl⟩:=hrel
   have hn:=zpj S V k
   have hz:=V.2 k
   by_cases J:k<S.len∧k<4000
   ·obtain⟨U,ab⟩:=J
    have ae:=q k U
    clear q
    go_wp2
    go_round
    case rel=>exact⟨k+1,by omega,by omega,by go_num,rfl⟩
    case measure=>simp[intOf];omega
   ·have N:Hid (start S=(0,zd8 S k)):=by
     show start S=_
     rw[start,show min S.len 4000=k from by omega]
    clear q
    by_cases aa:k<S.len
    all_goals
     go_wp2
     go_ret
     refine⟨rfl,?_,(Below.refl _ _).alloc (Nat.le_refl _) _⟩
     rw[N.out]
     refine⟨?_,H,by simp,zg7 I ((Below.refl w.heap.size w).alloc (Nat.le_refl _) _) H⟩
     rw[heap_alloc_new,O]
     rfl
 ·have N:Hid (start S=(0,zd8 S 0)):=by
   show start S=_
   rw[start,show min S.len 4000=0 from by omega]
  go_enter Tryz.func63,Tryz.ntmps63
  go_wp2
  go_loop [3,4] (fun h i=>i= .int .i64 0∧h= .int .i64 (zd8 S 0)) (fun _ _=>0)
  case atStart=>exact⟨rfl,rfl⟩
  case round=>
   obtain⟨rfl,rfl⟩:=hrel
   go_wp2
   go_ret
   refine⟨rfl,?_,(Below.refl _ _).alloc (Nat.le_refl _) _⟩
   rw[N.out]
   refine⟨?_,H,by simp,zg7 I ((Below.refl w.heap.size w).alloc (Nat.le_refl _) _) H⟩
   rw[heap_alloc_new]
   rfl
theorem zhL (S:Src) (V:S.ok) (g:Nat) (q:Nat×Int) (b m N:Nat) (w:World) (O:zN 137 S w g q) (hm:1≤m) (Z:m≤1000)
  (I:b<w.heap.size) (J:b≠g) (z: ∀j,j<m→∃x,w.cell? ⟨b,j,none⟩=some (.string x)∧x.size≤N):
  Calls Tryz.prog 64 #[.pointer (some ⟨g,0,none⟩),.slice (some ⟨b,0,none⟩) m m] w fun e w'=>∃x q',e= .returned (.string x)∧x.size≤N∧zN 137 S w' g q'∧w.grownBy w' (some g):=by
 have Y:=zbk S q m (by omega)
 go_enter Tryz.func64,Tryz.ntmps64
 go_wp2_with fail
 refine (zaJ S V g q m _ O (by omega)).mono ?_
 rintro e M ⟨rfl,A,H⟩
 obtain⟨x,hx,L⟩:=z (bw S q m).1.toNat (by omega)
 have X:M.cell? ⟨b,(bw S q m).1.toNat,none⟩=some (.string x):=by
  rw[←hx]
  exact World.cell?_of_block (w:=w) (a:=⟨b,_,none⟩) (H.block b I (by simpa using J))
 have U:Hid (zN 137 S M g (bw S q m).2):=A
 clear z O A
 go_wp2
 go_ret
 exact⟨x,_,rfl,L,U.out,H⟩
theorem Tryz.infoByte:(Tryz.prog.info? 5).map (fun i=>(i.zero,i.size,i.bytes))=some (some (.int .u8 0),1,1):=by kernel_rfl
theorem zka (m:Int) (w:World) (I:0≤m) (J:m≤18446744073709551615):
  Calls Tryz.prog 233 #[.int .u64 m] w fun e w'=>e= .returned (.int .i64 (dcn m))∧w'=w:=by
 have z:=zd0 m I J
 have L:dcn m≤20:=z.2.1
 have H:1≤dcn m:=z.1
 clear z
 go_enter Tryz.func233,Tryz.ntmps233
 go_wp2
 go_loop [0,3] (fun a c=>∃k:Nat,k+1≤dcn m∧a= .int .u64 (m/10^k)∧c= .int .i64 ((k:Int)+1)) (fun a _=>(intOf a).toNat)
 case atStart=>exact⟨0,H,by simp,rfl⟩
 case round=>
  obtain⟨k,M,rfl,rfl⟩:=hrel
  have N:=ze1 m k I
  have q:=zm6 m I J k
  by_cases j:10≤m/10^k
  ·have A:=q.1 j
   clear q
   go_wp2
   go_round
   case rel=>exact⟨k+1,by omega,by rw[ze0],by go_num⟩
   case measure=>simp[intOf];omega
  ·have A: ¬(k+1<dcn m):=fun h=>j (q.2 h)
   clear q
   go_wp2
   go_ret
   exact⟨zeu (by omega),rfl⟩
theorem zpk (n:Int) (w:World) (V:0≤n) (h1:n≤9223372036854775807):
  Calls Tryz.prog 219 #[.int .i64 n] w fun e w'=>e= .returned (.string (strOfNums (dgk n (dcn n))))∧Below w.heap.size w w':=by
 obtain⟨i0,hi,L,N,O⟩:=info_parts Tryz.infoByte
 have J:=zd0 n V (by omega)
 have aa:dcn n≤20:=J.2.1
 have ab:1≤dcn n:=J.1
 clear J
 go_enter Tryz.func219,Tryz.ntmps219
 go_wp2_with (first|(go_at_call 233;refine (zka _ _ (by omega) (by omega)).mono ?_;rintro e w' ⟨rfl,rfl⟩)|(at_make;refine wpList_make_full _ rfl _ _ 50 rfl w'.heap.size 5 i0 (.int .u8 0) 1 Tryz.underlying50 hi L N _ _ _ _ (dcn n) rfl rfl (by omega) (by omega) ?b2 ?b3 ?b4 ?_))
 case b2=>rw[O];omega
 case b3=>unfold maxLen;omega
 case b4=>exact Nat.le_refl _
 intro w1 q z
 have H:=(Below.refl w'.heap.size w').grown z (Nat.le_refl _) (by intro k X;cases X)
 rw[toList_madeCells_one] at q
 clear z
 go_wp2
 go_loopw [3,7,21] (fun r _ i wr=>∃k:Nat,k≤dcn n∧i= .int .i64 k∧r= .int .u64 (n/10^k)∧zbz wr w'.heap.size 5 (.slice (some ⟨w'.heap.size,0,none⟩) (dcn n) (dcn n)) (dcn n) (zcK (dgk n (dcn n)) k)∧Below w'.heap.size w' wr) (fun _ _ i _=>dcn n-(intOf i).toNat)
 case atStart=>exact⟨0,by omega,rfl,by simp,by unfold zbz;rw[ziF,zc8,List.map_replicate];exact q,H⟩
 case round=>
  obtain⟨k,X,rfl,rfl,j,A⟩:=hrel
  clear q H
  have hb:=ze1 n k V
  by_cases I:k<dcn n
  ·obtain⟨v,hv⟩:=zhf j (dcn n-1-k) (by omega)
   have hf:=zhg j (dcn n-1-k)
   have Y:=zhe j (dcn n-1-k) (48+n/10^k%10)
   have U:=ziG (dgk n (dcn n)) k (48+n/10^k%10) (by rw[zc8];exact I) (by rw[zc8];exact ziO n _ k I)
   rw[zc8] at U
   rw[U] at Y
   clear U j
   go_wp2
   go_roundw
   case rel=>exact⟨k+1,by omega,by go_num,by rw[ze0],Y,A.setCell (Nat.le_refl _) _⟩
   case measure=>simp[intOf];omega
  ·have M:=zm7 (dgk n (dcn n))
   rw[zc8] at M
   rw[show k=dcn n from by omega,M] at j
   clear M
   have Z:=zhc (P:=Tryz.prog) (src:=50) (dst:=9) Tryz.underlying50 Tryz.underlying5 Tryz.underlying9 j
   go_wp2
   go_ret
   exact⟨rfl,A⟩
theorem zpl (m:Int) (q:0<m) (j:m≤9223372036854775808):IntKind.u64.wrap (-IntKind.u64.wrap (-m))=m:=by
 rw[IntKind.wrap_u64,IntKind.wrap_u64];omega
theorem zpm (m:Int) (w:World) (h0:0<m) (h1:m≤9223372036854775808):
  Calls Tryz.prog 219 #[.int .i64 (-m)] w fun e w'=>e= .returned (.string (strOfNums (45::dgk m (dcn m))))∧Below w.heap.size w w':=by
 obtain⟨i0,hi,N,U,V⟩:=info_parts Tryz.infoByte
 have L:=zd0 m (by omega) (by omega)
 have ab:dcn m≤20:=L.2.1
 have ac:1≤dcn m:=L.1
 clear L
 have hu:=zpl m h0 h1
 go_enter Tryz.func219,Tryz.ntmps219
 go_wp2_with (first|(go_at_call 233;refine (zka _ _ (by omega) (by omega)).mono ?_;rintro e w' ⟨rfl,rfl⟩)|(at_make;refine wpList_make_full _ rfl _ _ 50 rfl w'.heap.size 5 i0 (.int .u8 0) 1 Tryz.underlying50 hi N U _ _ _ _ (dcn m+1) rfl rfl (by omega) (by omega) ?b2 ?b3 ?b4 ?_))
 case b2=>rw[V];omega
 case b3=>unfold maxLen;omega
 case b4=>exact Nat.le_refl _
 intro w1 q z
 have I:=(Below.refl w'.heap.size w').grown z (Nat.le_refl _) (by intro k Z;cases Z)
 rw[toList_madeCells_one] at q
 clear z
 have H:(45::dgk m (dcn m)).length=dcn m+1:=by rw[List.length_cons,zc8]
 have X:Hid ((45::dgk m (dcn m)).length=dcn m+1):=H
 clear H
 go_wp2
 go_loopw [3,7,21] (fun r _ i wr=>∃k:Nat,k≤dcn m∧i= .int .i64 k∧r= .int .u64 (m/10^k)∧zbz wr w'.heap.size 5 (.slice (some ⟨w'.heap.size,0,none⟩) (dcn m+1) (dcn m+1)) (dcn m+1) (zcK (45::dgk m (dcn m)) k)∧Below w'.heap.size w' wr) (fun _ _ i _=>dcn m-(intOf i).toNat)
 case atStart=>exact⟨0,by omega,rfl,by simp,by unfold zbz;rw[ziF,X.out,List.map_replicate];exact q,I⟩
 case round=>
  obtain⟨k,Z,rfl,rfl,j,A⟩:=hrel
  clear q I hu
  have hb:=ze1 m k (by omega)
  by_cases M:k<dcn m
  ·obtain⟨v,hv⟩:=zhf j (dcn m-k) (by omega)
   have hf:=zhg j (dcn m-k)
   have J:=zhe j (dcn m-k) (48+m/10^k%10)
   have Y:=ziG (45::dgk m (dcn m)) k (48+m/10^k%10) (by rw[X.out];omega) (zm9 [45] m (dcn m) k M)
   rw[X.out,show dcn m+1-1-k=dcn m-k from by omega] at Y
   rw[Y] at J
   clear Y j
   go_wp2
   go_roundw
   case rel=>exact⟨k+1,by omega,by go_num,by rw[ze0],J,A.setCell (Nat.le_refl _) _⟩
   case measure=>simp[intOf];omega
  ·have O:=zm8 45 (dgk m (dcn m))
   rw[zc8] at O
   rw[show k=dcn m from by omega] at j
   obtain⟨v,hv⟩:=zhf j 0 (by omega)
   have hf:=zhg j 0
   have J:=zhe j 0 45
   rw[O] at J
   clear O j
   have aa:=zhc (P:=Tryz.prog) (src:=50) (dst:=9) Tryz.underlying50 Tryz.underlying5 Tryz.underlying9 J
   go_wp2
   go_ret
   exact⟨rfl,A.setCell (Nat.le_refl _) _⟩
theorem zpn (n:Int) (w:World) (j: -9223372036854775808≤n∧n≤9223372036854775807):
  Calls Tryz.prog 219 #[.int .i64 n] w fun e w'=>e= .returned (.string (strOfNums (zbR n)))∧Below w.heap.size w w':=by
 by_cases h:0≤n
 ·rw[zhl h]
  exact zpk n w h j.2
 ·obtain⟨m,rfl⟩: ∃m,n= -m:=⟨-n,by omega⟩
  rw[zhk (by omega),Int.neg_neg]
  exact zpm m w (by omega) (by omega)
theorem neg_tmod (q:Int) (h:0≤q):(-q).tmod 10= -(q%10):=by rw[Int.neg_tmod,Int.tmod_eq_emod_of_nonneg h]
theorem neg_tdiv (q:Int) (h:0≤q):(-q).tdiv 10= -(q/10):=by rw[Int.neg_tdiv,Int.tdiv_eq_ediv_of_nonneg h]
theorem zpo (n:Int) (w:World) (Y:0<n) (h1:n≤9223372036854775807):
  Calls Tryz.prog 153 #[.int .i64 n] w fun e w'=>e= .returned (.string (strOfNums (dgk n (dcn n))))∧Below w.heap.size w w':=by
 have A:=zd0 n (by omega) (by omega)
 have V:dcn n≤20:=A.2.1
 have X:1≤dcn n:=A.1
 have M:(n==0)=false:=by simp;omega
 have L: ¬n<0:=by omega
 clear A
 go_enter Tryz.func153,Tryz.ntmps153
 go_wp2
 go_loopw [0,3,5] (fun a o _ wr=>∃k:Nat,k≤dcn n∧a= .int .i64 (n/10^k)∧o= .string (strOfNums (dgk n k))∧Below w.heap.size w wr) (fun a _ _ _=>(intOf a).toNat)
 case atStart=>exact⟨0,by omega,by simp,rfl,Below.refl _ _⟩
 case round=>
  obtain⟨k,hk,rfl,rfl,j⟩:=hrel
  have Z:=ze1 n k (by omega)
  have z:=ziN n (by omega) (by omega) k
  have O:(strOfNums (dgk n k)).size≤20:=by rw[strOfNums_size,zc8];omega
  by_cases q:n/10^k=0
  ·have H: ¬(k<dcn n):=fun h=>z.2 h q
   have I:(n/10^k !=0)=false:=by simpa using q
   clear z q
   go_wp2
   go_ret
   exact⟨zar (by rw[show dcn n=k from by omega]),j⟩
  ·have H:=z.1 q
   have I:(n/10^k !=0)=true:=by simpa using q
   have U:0<n/10^k:=by omega
   clear z q
   have N:=fun (w:World) (x:Int)=>zhd (P:=Tryz.prog) (src:=50) (dst:=9) Tryz.underlying50 Tryz.underlying5 Tryz.underlying9 w x
   have J:=fun x=>strOfNums_size [x]
   go_wp2
   go_roundw
   case rel=>exact⟨k+1,by omega,by rw[ze0],by rw[zfU];rfl,j.alloc j.size _⟩
   case measure=>simp[intOf];omega
theorem zpp (m:Int) (w:World) (Z:0<m) (h1:m≤9223372036854775808):
  Calls Tryz.prog 153 #[.int .i64 (-m)] w fun e w'=>e= .returned (.string (strOfNums (45::dgk m (dcn m))))∧Below w.heap.size w w':=by
 have z:=zd0 m (by omega) (by omega)
 have X:dcn m≤20:=z.2.1
 have Y:1≤dcn m:=z.1
 have N:(-m==0)=false:=by simp;omega
 clear z
 go_enter Tryz.func153,Tryz.ntmps153
 go_wp2
 go_loopw [0,3,5] (fun a o _ wr=>∃k:Nat,k≤dcn m∧a= .int .i64 (-(m/10^k))∧o= .string (strOfNums (dgk m k))∧Below w.heap.size w wr) (fun a _ _ _=>(-(intOf a)).toNat)
 case atStart=>exact⟨0,by omega,by simp,rfl,Below.refl _ _⟩
 case round=>
  obtain⟨k,hk,rfl,rfl,j⟩:=hrel
  have J:=ze1 m k (by omega)
  have A:=ziN m (by omega) (by omega) k
  have V:(strOfNums (dgk m k)).size≤20:=by rw[strOfNums_size,zc8];omega
  by_cases q:m/10^k=0
  ·have H: ¬(k<dcn m):=fun h=>A.2 h q
   have I:(-(m/10^k) !=0)=false:=by simpa using q
   have L:(strOfNums [45]).size=1:=strOfNums_size [45]
   clear A q
   go_wp2
   go_ret
   exact⟨zar (by rw[show dcn m=k from by omega];exact zfU 45 _),j⟩
  ·have H:=A.1 q
   have I:(-(m/10^k) !=0)=true:=by simpa using q
   have U:0<m/10^k:=by omega
   clear A q
   have e1:=neg_tmod (m/10^k) J.1
   have e2:=neg_tdiv (m/10^k) J.1
   have O:=fun (w:World) (x:Int)=>zhd (P:=Tryz.prog) (src:=50) (dst:=9) Tryz.underlying50 Tryz.underlying5 Tryz.underlying9 w x
   have M:=fun x=>strOfNums_size [x]
   by_cases z:0<m/10^k%10
   ·go_wp2
    go_roundw
    case rel=>exact⟨k+1,by omega,by rw[ze0],by rw[zfU];rfl,j.alloc j.size _⟩
    case measure=>simp[intOf];omega
   ·go_wp2
    go_roundw
    case rel=>exact⟨k+1,by omega,by rw[ze0],by rw[zfU,show 48+ -(m/10^k%10)=48+m/10^k%10 from by omega];rfl,j.alloc j.size _⟩
    case measure=>simp[intOf];omega
theorem zhM (n:Int) (w:World) (q: -9223372036854775808≤n∧n≤9223372036854775807):
  Calls Tryz.prog 153 #[.int .i64 n] w fun e w'=>e= .returned (.string (strOfNums (zbR n)))∧Below w.heap.size w w':=by
 by_cases h:0<n
 ·rw[zhl (by omega)]
  exact zpo n w h q.2
 ·by_cases z:n=0
  ·subst z
   have j:Hid (zbR 0=[48]):=by show zbR 0=[48];decide
   go_enter Tryz.func153,Tryz.ntmps153
   go_wp2
   go_ret
   exact⟨zar (by rw[j.out];rfl),Below.refl _ _⟩
  ·obtain⟨m,rfl⟩: ∃m,n= -m:=⟨-n,by omega⟩
   rw[zhk (by omega),Int.neg_neg]
   exact zpp m w (by omega) (by omega)
def zdt (S:Src) (g N:Nat) (w:World) (e:Ending) (w':World):Prop:=∃x q',e= .returned (.string x)∧x.size≤N∧zN 137 S w' g q'∧w.grownBy w' (some g)
theorem zdM (w:World) (o:Obj) (r:Option Nat):w.grownBy (w.alloc o) r:=⟨rfl,rfl,rfl,by rw[zl];omega,fun k j _=>heap_alloc_old w o j⟩
theorem zdN {S:Src} {w:World} {g:Nat} {q:Nat×Int} (h:zN 137 S w g q) (o:Obj):zN 137 S (w.alloc o) g q:=zds h ((Below.refl w.heap.size w).alloc (Nat.le_refl _) _) (zcJ h)
theorem zbe (S:Src) (M:S.ok) (g:Nat) (q:Nat×Int) (N:Nat) (l:List ByteArray) (w:World) (I:zN 137 S w g q) (O:1≤l.length) (L:l.length≤1000) (J: ∀x∈l,x.size≤N):
  Calls Tryz.prog 64 #[.pointer (some ⟨g,0,none⟩),.slice (some ⟨w.heap.size,0,none⟩) l.length l.length] (w.alloc (.cells (l.map Value.string).toArray 9)) (zdt S g N w):=by
 have Y:=zcJ I
 refine (zhL S M g q w.heap.size l.length N _ (zdN I _) O L (by rw[zl];omega) (by omega) ?_).mono ?_
 ·intro j H
  rw[World.cell?_alloc_new]
  refine⟨l[j],?_,J _ (List.getElem_mem H)⟩
  simp[List.getElem?_eq_getElem H]
 ·rintro e X ⟨x,U,rfl,V,A,z⟩
  exact⟨x,U,rfl,V,A,zE (zdM w _ _) z⟩
theorem zhN (S:Src) (hS:S.ok) (g:Nat) (aa:Bool) (d N:Nat) (hd:d≤2) (hN:N≤100000) (ih:0<d→∀(q:Nat×Int) (w:World),zN 137 S w g q→Calls Tryz.prog 178 #[.pointer (some ⟨g,0,none⟩),.int .i64 ((d:Int)-1),.bool aa] w (zdt S g N w))
  (q0:Nat×Int) (w0:World) (j:zN 137 S w0 g q0):Calls Tryz.prog 178 #[.pointer (some ⟨g,0,none⟩),.int .i64 (d:Int),.bool aa] w0 (zdt S g (2*N+110) w0):=by
 have ah:=zc j
 have ai:Hid (w0.grownBy w0 (some g)):=⟨rfl,rfl,rfl,Nat.le_refl _,fun _ _ _=>rfl⟩
 have IH:=zc ih
 clear j ih
 go_enter Tryz.func178,Tryz.ntmps178
 go_wp2_with fail
 refine (zbe S hS g _ 100 [{data:=#[97]},{data:=#[98]},{data:=#[120]},{data:=#[102]},{data:=#[103]},{data:=#[110]},{data:=#[100]}] _ ah.out (by simp) (by simp) (by intro x V;simp only[List.mem_cons,List.not_mem_nil,or_false] at V;rcases V with rfl|rfl|rfl|rfl|rfl|rfl|rfl<;>decide)).mono ?_
 rintro e w1 ⟨x1,q1,rfl,z1,j,z⟩
 have af:=zc j
 have aj:=zc (zE ai.out z)
 clear j z
 go_wp2_with fail
 refine (zaJ S hS g _ 9 _ af.out (by omega)).mono ?_
 rintro e w2 ⟨rfl,j,z⟩
 have X:=zbk S q1 9 (by omega)
 obtain⟨k2,hk⟩: ∃k:Nat,(bw S q1 9).1=k:=⟨(bw S q1 9).1.toNat,by omega⟩
 obtain⟨O,U⟩: ∃q',(bw S q1 9).2=q':=⟨_,rfl⟩
 rw[hk] at X ⊢
 rw[U] at j
 have J:=zc j
 have I:=zc (zE aj.out z)
 clear j z
 have ak:k2<9:=by omega
 clear X hk U
 have ae:True:=trivial
 clear ae
 rcases (show k2=0∨k2=1∨k2=2∨k2=3∨k2=4∨k2=5∨k2=6∨k2=7∨k2=8 by omega) with rfl|rfl|rfl|rfl|rfl|rfl|rfl|rfl|rfl
 ·go_wp2_with fail
  refine (zaJ S hS g _ 9 _ J.out (by omega)).mono ?_
  rintro e w3 ⟨rfl,j,z⟩
  have X:=zbk S O 9 (by omega)
  obtain⟨k3,hk⟩: ∃k:Nat,(bw S O 9).1=k:=⟨(bw S O 9).1.toNat,by omega⟩
  obtain⟨Y,U⟩: ∃q',(bw S O 9).2=q':=⟨_,rfl⟩
  rw[hk] at X ⊢
  rw[U] at j
  have A:=zc j
  have H:=zc (zE I.out z)
  clear j z
  have ag:k3<9:=by omega
  clear X hk U
  go_wp2_with fail
  refine (zhM (k3:Int) _ (by omega)).mono ?_
  rintro e w4 ⟨rfl,hb⟩
  have L:=zc (zds A.out hb (zcJ A.out))
  have M:=zc (zd9 H.out hb H.out.size)
  have hz:=zhq (k3:Int) (by omega) (by omega)
  clear hb
  go_wp2
  go_ret
  exact⟨_,Y,rfl,by omega,L.out,M.out⟩
 ·go_wp2_with fail
  refine (zaJ S hS g _ 9 _ J.out (by omega)).mono ?_
  rintro e w3 ⟨rfl,j,z⟩
  have X:=zbk S O 9 (by omega)
  obtain⟨k3,hk⟩: ∃k:Nat,(bw S O 9).1=k:=⟨(bw S O 9).1.toNat,by omega⟩
  obtain⟨Y,U⟩: ∃q',(bw S O 9).2=q':=⟨_,rfl⟩
  rw[hk] at X ⊢
  rw[U] at j
  have A:=zc j
  have H:=zc (zE I.out z)
  clear j z
  have ag:k3<9:=by omega
  clear X hk U
  go_wp2_with fail
  refine (zhM (k3:Int) _ (by omega)).mono ?_
  rintro e w4 ⟨rfl,hb⟩
  have L:=zc (zds A.out hb (zcJ A.out))
  have M:=zc (zd9 H.out hb H.out.size)
  have hz:=zhq (k3:Int) (by omega) (by omega)
  clear hb
  go_wp2
  go_ret
  exact⟨_,Y,rfl,by omega,L.out,M.out⟩
 ·go_wp2
  go_ret
  exact⟨_,O,rfl,by have y0:(({data:=#[32,40,32,41]}:ByteArray)).size=4:=rfl;simp only[ByteArray.size_append,y0];omega,J.out,I.out⟩
 ·go_wp2
  go_ret
  exact⟨_,O,rfl,by have y0:(({data:=#[110,32,46,32]}:ByteArray)).size=4:=rfl;simp only[ByteArray.size_append,y0];omega,J.out,I.out⟩
 ·go_wp2
  go_ret
  exact⟨_,O,rfl,by have y0:(({data:=#[110,32,46,32,102,32,40,32,41]}:ByteArray)).size=9:=rfl;omega,J.out,I.out⟩
 ·by_cases Z:0<d
  ·go_wp2_with fail
   refine (IH.out Z O _ J.out).mono ?_
   rintro e w3 ⟨x3,Y,rfl,z3,j,z⟩
   have A:=zc j
   have H:=zc (zE I.out z)
   clear j z
   go_wp2_with fail
   refine (zbe S hS g _ 100 [{data:=#[43]},{data:=#[45]},{data:=#[42]}] _ A.out (by simp) (by simp) (by intro x V;simp only[List.mem_cons,List.not_mem_nil,or_false] at V;rcases V with rfl|rfl|rfl<;>decide)).mono ?_
   rintro e w4 ⟨x4,q4,rfl,z4,j,z⟩
   have L:=zc j
   have M:=zc (zE H.out z)
   clear j z
   go_wp2_with fail
   refine (IH.out Z q4 _ L.out).mono ?_
   rintro e w5 ⟨x5,q5,rfl,z5,j,z⟩
   have ac:=zc j
   have ab:=zc (zE M.out z)
   clear j z
   go_wp2
   go_ret
   exact⟨_,q5,rfl,by have y0:(({data:=#[32]}:ByteArray)).size=1:=rfl;simp only[ByteArray.size_append,y0];omega,ac.out,ab.out⟩
  ·have ad: ¬0<(d:Int):=by omega
   cases aa with
   |false=>
    go_wp2
    go_ret
    exact⟨_,O,rfl,by omega,J.out,I.out⟩
   |true=>
    go_wp2_with fail
    refine (zcT S hS g _ 8 _ J.out (by omega)).mono ?_
    rintro e w3 ⟨rfl,j,z⟩
    obtain⟨Y,U⟩: ∃q',(bw S O 8).2=q':=⟨_,rfl⟩
    rw[U] at j
    have A:=zc j
    have H:=zc (zE I.out z)
    clear j z U
    generalize ((bw S O 8).1==0)=b
    cases b with
    |false=>
     go_wp2
     go_ret
     exact⟨_,Y,rfl,by omega,A.out,H.out⟩
    |true=>
     go_wp2_with fail
     refine (zbe S hS g _ 100 [{data:=#[117,110,100,101,102]},{data:=#[117,110,100,101,102,32,40,32,41]},{data:=#[97,36,49]},{data:=#[120,36]}] _ A.out (by simp) (by simp) (by intro x V;simp only[List.mem_cons,List.not_mem_nil,or_false] at V;rcases V with rfl|rfl|rfl|rfl<;>decide)).mono ?_
     rintro e w4 ⟨x4,q4,rfl,z4,j,z⟩
     have L:=zc j
     have M:=zc (zE H.out z)
     clear j z
     go_wp2
     go_ret
     exact⟨_,q4,rfl,by omega,L.out,M.out⟩
 ·by_cases Z:0<d
  ·go_wp2_with fail
   refine (IH.out Z O _ J.out).mono ?_
   rintro e w3 ⟨x3,Y,rfl,z3,j,z⟩
   have A:=zc j
   have H:=zc (zE I.out z)
   clear j z
   go_wp2_with fail
   refine (zbe S hS g _ 100 [{data:=#[43]},{data:=#[45]},{data:=#[42]}] _ A.out (by simp) (by simp) (by intro x V;simp only[List.mem_cons,List.not_mem_nil,or_false] at V;rcases V with rfl|rfl|rfl<;>decide)).mono ?_
   rintro e w4 ⟨x4,q4,rfl,z4,j,z⟩
   have L:=zc j
   have M:=zc (zE H.out z)
   clear j z
   go_wp2_with fail
   refine (IH.out Z q4 _ L.out).mono ?_
   rintro e w5 ⟨x5,q5,rfl,z5,j,z⟩
   have ac:=zc j
   have ab:=zc (zE M.out z)
   clear j z
   go_wp2
   go_ret
   exact⟨_,q5,rfl,by have y0:(({data:=#[32]}:ByteArray)).size=1:=rfl;simp only[ByteArray.size_append,y0];omega,ac.out,ab.out⟩
  ·have ad: ¬0<(d:Int):=by omega
   cases aa with
   |false=>
    go_wp2
    go_ret
    exact⟨_,O,rfl,by omega,J.out,I.out⟩
   |true=>
    go_wp2_with fail
    refine (zcT S hS g _ 8 _ J.out (by omega)).mono ?_
    rintro e w3 ⟨rfl,j,z⟩
    obtain⟨Y,U⟩: ∃q',(bw S O 8).2=q':=⟨_,rfl⟩
    rw[U] at j
    have A:=zc j
    have H:=zc (zE I.out z)
    clear j z U
    generalize ((bw S O 8).1==0)=b
    cases b with
    |false=>
     go_wp2
     go_ret
     exact⟨_,Y,rfl,by omega,A.out,H.out⟩
    |true=>
     go_wp2_with fail
     refine (zbe S hS g _ 100 [{data:=#[117,110,100,101,102]},{data:=#[117,110,100,101,102,32,40,32,41]},{data:=#[97,36,49]},{data:=#[120,36]}] _ A.out (by simp) (by simp) (by intro x V;simp only[List.mem_cons,List.not_mem_nil,or_false] at V;rcases V with rfl|rfl|rfl|rfl<;>decide)).mono ?_
     rintro e w4 ⟨x4,q4,rfl,z4,j,z⟩
     have L:=zc j
     have M:=zc (zE H.out z)
     clear j z
     go_wp2
     go_ret
     exact⟨_,q4,rfl,by omega,L.out,M.out⟩
 ·by_cases Z:0<d
  ·go_wp2_with fail
   refine (IH.out Z O _ J.out).mono ?_
   rintro e w3 ⟨x3,Y,rfl,z3,j,z⟩
   have A:=zc j
   have H:=zc (zE I.out z)
   clear j z
   go_wp2
   go_ret
   exact⟨_,Y,rfl,by have y0:(({data:=#[40,32]}:ByteArray)).size=2:=rfl;have y1:(({data:=#[32,41]}:ByteArray)).size=2:=rfl;simp only[ByteArray.size_append,y0,y1];omega,A.out,H.out⟩
  ·have ad: ¬0<(d:Int):=by omega
   cases aa with
   |false=>
    go_wp2
    go_ret
    exact⟨_,O,rfl,by omega,J.out,I.out⟩
   |true=>
    go_wp2_with fail
    refine (zcT S hS g _ 8 _ J.out (by omega)).mono ?_
    rintro e w3 ⟨rfl,j,z⟩
    obtain⟨Y,U⟩: ∃q',(bw S O 8).2=q':=⟨_,rfl⟩
    rw[U] at j
    have A:=zc j
    have H:=zc (zE I.out z)
    clear j z U
    generalize ((bw S O 8).1==0)=b
    cases b with
    |false=>
     go_wp2
     go_ret
     exact⟨_,Y,rfl,by omega,A.out,H.out⟩
    |true=>
     go_wp2_with fail
     refine (zbe S hS g _ 100 [{data:=#[117,110,100,101,102]},{data:=#[117,110,100,101,102,32,40,32,41]},{data:=#[97,36,49]},{data:=#[120,36]}] _ A.out (by simp) (by simp) (by intro x V;simp only[List.mem_cons,List.not_mem_nil,or_false] at V;rcases V with rfl|rfl|rfl|rfl<;>decide)).mono ?_
     rintro e w4 ⟨x4,q4,rfl,z4,j,z⟩
     have L:=zc j
     have M:=zc (zE H.out z)
     clear j z
     go_wp2
     go_ret
     exact⟨_,q4,rfl,by omega,L.out,M.out⟩
 ·cases aa with
  |false=>
   go_wp2
   go_ret
   exact⟨_,O,rfl,by omega,J.out,I.out⟩
  |true=>
   go_wp2_with fail
   refine (zcT S hS g _ 8 _ J.out (by omega)).mono ?_
   rintro e w3 ⟨rfl,j,z⟩
   obtain⟨Y,U⟩: ∃q',(bw S O 8).2=q':=⟨_,rfl⟩
   rw[U] at j
   have A:=zc j
   have H:=zc (zE I.out z)
   clear j z U
   generalize ((bw S O 8).1==0)=b
   cases b with
   |false=>
    go_wp2
    go_ret
    exact⟨_,Y,rfl,by omega,A.out,H.out⟩
   |true=>
    go_wp2_with fail
    refine (zbe S hS g _ 100 [{data:=#[117,110,100,101,102]},{data:=#[117,110,100,101,102,32,40,32,41]},{data:=#[97,36,49]},{data:=#[120,36]}] _ A.out (by simp) (by simp) (by intro x V;simp only[List.mem_cons,List.not_mem_nil,or_false] at V;rcases V with rfl|rfl|rfl|rfl<;>decide)).mono ?_
    rintro e w4 ⟨x4,q4,rfl,z4,j,z⟩
    have L:=zc j
    have M:=zc (zE H.out z)
    clear j z
    go_wp2
    go_ret
    exact⟨_,q4,rfl,by omega,L.out,M.out⟩
theorem zpq (S:Src) (A:S.ok) (g:Nat) (j:Bool) (q:Nat×Int) (w:World) (z:zN 137 S w g q):Calls Tryz.prog 178 #[.pointer (some ⟨g,0,none⟩),.int .i64 2,.bool j] w (zdt S g 770 w):=by
 have I: ∀(q:Nat×Int) (w:World),zN 137 S w g q→Calls Tryz.prog 178 #[.pointer (some ⟨g,0,none⟩),.int .i64 0,.bool j] w (zdt S g 110 w):=fun q w z=>zhN S A g j 0 0 (by omega) (by omega) (fun h=>absurd h (Nat.lt_irrefl 0)) q w z
 have H: ∀(q:Nat×Int) (w:World),zN 137 S w g q→Calls Tryz.prog 178 #[.pointer (some ⟨g,0,none⟩),.int .i64 1,.bool j] w (zdt S g 330 w):=fun q w z=>zhN S A g j 1 110 (by omega) (by omega) (fun _=>I) q w z
 exact zhN S A g j 2 330 (by omega) (by omega) (fun _=>H) q w z
theorem zpr (S:Src) (X:S.ok) (g:Nat) (aa:Bool) (q0:Nat×Int) (w0:World) (H:zN 137 S w0 g q0):Calls Tryz.prog 136 #[.pointer (some ⟨g,0,none⟩),.bool aa] w0 (zdt S g 1500 w0):=by
 have ah:=zc H
 have ai:Hid (w0.grownBy w0 (some g)):=⟨rfl,rfl,rfl,Nat.le_refl _,fun _ _ _=>rfl⟩
 clear H
 go_enter Tryz.func136,Tryz.ntmps136
 go_wp2_with fail
 refine (zbe S X g _ 100 [{data:=#[97]},{data:=#[98]},{data:=#[120]},{data:=#[102]},{data:=#[103]}] _ ah.out (by simp) (by simp) (by intro x U;simp only[List.mem_cons,List.not_mem_nil,or_false] at U;rcases U with rfl|rfl|rfl|rfl|rfl<;>decide)).mono ?_
 rintro e w1 ⟨x1,q1,rfl,z1,H,L⟩
 have ac:=zc H
 have aj:=zc (zE ai.out L)
 clear H L
 go_wp2_with fail
 refine (zpq S X g aa q1 _ ac.out).mono ?_
 rintro e w2 ⟨x2,q2,rfl,z2,H,L⟩
 have ag:=zc H
 have ad:=zc (zE aj.out L)
 clear H L
 go_wp2_with fail
 refine (zbe S X g _ 100 [{data:=#[46,47,98]},{data:=#[46,47,99]},{data:=#[46,47,97]},{data:=#[120]},{data:=#[46,47,100]}] _ ag.out (by simp) (by simp) (by intro x U;simp only[List.mem_cons,List.not_mem_nil,or_false] at U;rcases U with rfl|rfl|rfl|rfl|rfl<;>decide)).mono ?_
 rintro e w3 ⟨x3,q3,rfl,z3,H,L⟩
 have ae:=zc H
 have af:=zc (zE ad.out L)
 clear H L
 go_wp2_with fail
 refine (zaJ S X g _ 16 _ ae.out (by omega)).mono ?_
 rintro e w4 ⟨rfl,H,L⟩
 have ab:=zbk S q3 16 (by omega)
 obtain⟨M,hk⟩: ∃k:Nat,(bw S q3 16).1=k:=⟨(bw S q3 16).1.toNat,by omega⟩
 obtain⟨O,Y⟩: ∃q',(bw S q3 16).2=q':=⟨_,rfl⟩
 rw[hk] at ab ⊢
 rw[Y] at H
 have z:=zc H
 have A:=zc (zE af.out L)
 clear H L
 have ak:M<16:=by omega
 clear ab hk Y
 cases aa with
 |false=>
  rcases (show M=0∨M=1∨M=2∨M=3∨M=4∨M=5∨M=6∨M=7∨M=8∨M=9∨M=10∨M=11∨M=12∨M=13∨M=14∨M=15 by omega) with rfl|rfl|rfl|rfl|rfl|rfl|rfl|rfl|rfl|rfl|rfl|rfl|rfl|rfl|rfl|rfl
  ·go_wp2
   go_ret
   exact⟨_,O,rfl,by have j:(({data:=#[108,101,116,32]}:ByteArray)).size=4:=rfl;have q:(({data:=#[32,61,32]}:ByteArray)).size=3:=rfl;have N:(({data:=#[59]}:ByteArray)).size=1:=rfl;simp only[ByteArray.size_append,j,q,N];omega,z.out,A.out⟩
  ·go_wp2
   go_ret
   exact⟨_,O,rfl,by have j:(({data:=#[108,101,116,32]}:ByteArray)).size=4:=rfl;have q:(({data:=#[32,61,32]}:ByteArray)).size=3:=rfl;have N:(({data:=#[59]}:ByteArray)).size=1:=rfl;simp only[ByteArray.size_append,j,q,N];omega,z.out,A.out⟩
  ·go_wp2
   go_ret
   exact⟨_,O,rfl,by have j:(({data:=#[108,101,116,32]}:ByteArray)).size=4:=rfl;have q:(({data:=#[32,61,32]}:ByteArray)).size=3:=rfl;have N:(({data:=#[59]}:ByteArray)).size=1:=rfl;simp only[ByteArray.size_append,j,q,N];omega,z.out,A.out⟩
  ·go_wp2_with fail
   refine (zbe S X g _ 100 [{data:=#[102]},{data:=#[103]}] _ z.out (by simp) (by simp) (by intro x U;simp only[List.mem_cons,List.not_mem_nil,or_false] at U;rcases U with rfl|rfl<;>decide)).mono ?_
   rintro e Z ⟨x5,V,rfl,z5,H,L⟩
   have J:=zc H
   have I:=zc (zE A.out L)
   clear H L
   go_wp2
   go_ret
   exact⟨_,V,rfl,by have j:(({data:=#[102,117,110,99,116,105,111,110,32]}:ByteArray)).size=9:=rfl;have q:(({data:=#[40,41,32,123,32,114,101,116,117,114,110,32]}:ByteArray)).size=12:=rfl;have N:(({data:=#[59,32,125]}:ByteArray)).size=3:=rfl;simp only[ByteArray.size_append,j,q,N];omega,J.out,I.out⟩
  ·go_wp2
   go_ret
   exact⟨_,O,rfl,by have j:(({data:=#[32,61,32]}:ByteArray)).size=3:=rfl;have q:(({data:=#[59]}:ByteArray)).size=1:=rfl;simp only[ByteArray.size_append,j,q];omega,z.out,A.out⟩
  ·go_wp2
   go_ret
   exact⟨_,O,rfl,by have j:(({data:=#[112,114,105,110,116,40]}:ByteArray)).size=6:=rfl;have q:(({data:=#[41,59]}:ByteArray)).size=2:=rfl;simp only[ByteArray.size_append,j,q];omega,z.out,A.out⟩
  ·go_wp2
   go_ret
   exact⟨_,O,rfl,by have j:(({data:=#[112,114,105,110,116,40]}:ByteArray)).size=6:=rfl;have q:(({data:=#[41,59]}:ByteArray)).size=2:=rfl;simp only[ByteArray.size_append,j,q];omega,z.out,A.out⟩
  ·go_wp2
   go_ret
   exact⟨_,O,rfl,by have j:(({data:=#[116,104,114,111,119,32]}:ByteArray)).size=6:=rfl;have q:(({data:=#[59]}:ByteArray)).size=1:=rfl;simp only[ByteArray.size_append,j,q];omega,z.out,A.out⟩
  ·go_wp2_with fail
   refine (zbe S X g _ 100 [{data:=#[]},{data:=#[32,97,115,32,120]},{data:=#[32,97,115,32,98,44,32,103]}] _ z.out (by simp) (by simp) (by intro x U;simp only[List.mem_cons,List.not_mem_nil,or_false] at U;rcases U with rfl|rfl|rfl<;>decide)).mono ?_
   rintro e Z ⟨x5,V,rfl,z5,H,L⟩
   have J:=zc H
   have I:=zc (zE A.out L)
   clear H L
   go_wp2
   go_ret
   exact⟨_,V,rfl,by have j:(({data:=#[105,109,112,111,114,116,32,123,32]}:ByteArray)).size=9:=rfl;have q:(({data:=#[32,125,32,102,114,111,109,32,34]}:ByteArray)).size=9:=rfl;have N:(({data:=#[34,59]}:ByteArray)).size=2:=rfl;simp only[ByteArray.size_append,j,q,N];omega,J.out,I.out⟩
  ·go_wp2
   go_ret
   exact⟨_,O,rfl,by have j:(({data:=#[105,109,112,111,114,116,32,42,32,97,115,32,110,32,102,114,111,109,32,34]}:ByteArray)).size=20:=rfl;have q:(({data:=#[34,59]}:ByteArray)).size=2:=rfl;simp only[ByteArray.size_append,j,q];omega,z.out,A.out⟩
  ·go_wp2
   go_ret
   exact⟨_,O,rfl,by have j:(({data:=#[105,109,112,111,114,116,32,100,32,102,114,111,109,32,34]}:ByteArray)).size=15:=rfl;have q:(({data:=#[34,59]}:ByteArray)).size=2:=rfl;simp only[ByteArray.size_append,j,q];omega,z.out,A.out⟩
  ·go_wp2_with fail
   refine (zbe S X g _ 100 [{data:=#[]},{data:=#[32,97,115,32,121]},{data:=#[32,97,115,32,100,101,102,97,117,108,116]}] _ z.out (by simp) (by simp) (by intro x U;simp only[List.mem_cons,List.not_mem_nil,or_false] at U;rcases U with rfl|rfl|rfl<;>decide)).mono ?_
   rintro e Z ⟨x5,V,rfl,z5,H,L⟩
   have J:=zc H
   have I:=zc (zE A.out L)
   clear H L
   go_wp2
   go_ret
   exact⟨_,V,rfl,by have j:(({data:=#[101,120,112,111,114,116,32,123,32]}:ByteArray)).size=9:=rfl;have q:(({data:=#[32,125,59]}:ByteArray)).size=3:=rfl;simp only[ByteArray.size_append,j,q];omega,J.out,I.out⟩
  ·go_wp2_with fail
   refine (zbe S X g _ 100 [{data:=#[]},{data:=#[32,97,115,32,121]},{data:=#[44,32,100,101,102,97,117,108,116]}] _ z.out (by simp) (by simp) (by intro x U;simp only[List.mem_cons,List.not_mem_nil,or_false] at U;rcases U with rfl|rfl|rfl<;>decide)).mono ?_
   rintro e Z ⟨x5,V,rfl,z5,H,L⟩
   have J:=zc H
   have I:=zc (zE A.out L)
   clear H L
   go_wp2
   go_ret
   exact⟨_,V,rfl,by have j:(({data:=#[101,120,112,111,114,116,32,123,32]}:ByteArray)).size=9:=rfl;have q:(({data:=#[32,125,32,102,114,111,109,32,34]}:ByteArray)).size=9:=rfl;have N:(({data:=#[34,59]}:ByteArray)).size=2:=rfl;simp only[ByteArray.size_append,j,q,N];omega,J.out,I.out⟩
  ·go_wp2
   go_ret
   exact⟨_,O,rfl,by have j:(({data:=#[101,120,112,111,114,116,32,42,32,102,114,111,109,32,34]}:ByteArray)).size=15:=rfl;have q:(({data:=#[34,59]}:ByteArray)).size=2:=rfl;simp only[ByteArray.size_append,j,q];omega,z.out,A.out⟩
  ·go_wp2
   go_ret
   exact⟨_,O,rfl,by have j:(({data:=#[101,120,112,111,114,116,32,100,101,102,97,117,108,116,32]}:ByteArray)).size=15:=rfl;have q:(({data:=#[59]}:ByteArray)).size=1:=rfl;simp only[ByteArray.size_append,j,q];omega,z.out,A.out⟩
  ·go_wp2_with fail
   refine (zbe S X g _ 900 [({data:=#[108,101,116,32]}:ByteArray)++x1++({data:=#[32,61,32]}:ByteArray)++x2++({data:=#[59]}:ByteArray),({data:=#[102,117,110,99,116,105,111,110,32,102,40,41,32,123,32,114,101,116,117,114,110,32]}:ByteArray)++x2++({data:=#[59,32,125]}:ByteArray),({data:=#[108,101,116,32,122,32,61,32,49,59]}:ByteArray)] _ z.out (by simp) (by simp) (by intro x U;simp only[List.mem_cons,List.not_mem_nil,or_false] at U;have j:(({data:=#[108,101,116,32]}:ByteArray)).size=4:=rfl;have q:(({data:=#[32,61,32]}:ByteArray)).size=3:=rfl;have N:(({data:=#[59]}:ByteArray)).size=1:=rfl;have y3:(({data:=#[102,117,110,99,116,105,111,110,32,102,40,41,32,123,32,114,101,116,117,114,110,32]}:ByteArray)).size=22:=rfl;have y4:(({data:=#[59,32,125]}:ByteArray)).size=3:=rfl;have y5:(({data:=#[108,101,116,32,122,32,61,32,49,59]}:ByteArray)).size=10:=rfl;rcases U with rfl|rfl|rfl<;>simp only[ByteArray.size_append,j,q,N,y3,y4,y5]<;>omega)).mono ?_
   rintro e Z ⟨x5,V,rfl,z5,H,L⟩
   have J:=zc H
   have I:=zc (zE A.out L)
   clear H L
   go_wp2
   go_ret
   exact⟨_,V,rfl,by have j:(({data:=#[101,120,112,111,114,116,32]}:ByteArray)).size=7:=rfl;simp only[ByteArray.size_append,j];omega,J.out,I.out⟩
 |true=>
  rcases (show M=0∨M=1∨M=2∨M=3∨M=4∨M=5∨M=6∨M=7∨M=8∨M=9∨M=10∨M=11∨M=12∨M=13∨M=14∨M=15 by omega) with rfl|rfl|rfl|rfl|rfl|rfl|rfl|rfl|rfl|rfl|rfl|rfl|rfl|rfl|rfl|rfl
  ·go_wp2
   go_ret
   exact⟨_,O,rfl,by have j:(({data:=#[108,101,116,32]}:ByteArray)).size=4:=rfl;have q:(({data:=#[32,61,32]}:ByteArray)).size=3:=rfl;have N:(({data:=#[59]}:ByteArray)).size=1:=rfl;simp only[ByteArray.size_append,j,q,N];omega,z.out,A.out⟩
  ·go_wp2
   go_ret
   exact⟨_,O,rfl,by have j:(({data:=#[108,101,116,32]}:ByteArray)).size=4:=rfl;have q:(({data:=#[32,61,32]}:ByteArray)).size=3:=rfl;have N:(({data:=#[59]}:ByteArray)).size=1:=rfl;simp only[ByteArray.size_append,j,q,N];omega,z.out,A.out⟩
  ·go_wp2
   go_ret
   exact⟨_,O,rfl,by have j:(({data:=#[108,101,116,32]}:ByteArray)).size=4:=rfl;have q:(({data:=#[32,61,32]}:ByteArray)).size=3:=rfl;have N:(({data:=#[59]}:ByteArray)).size=1:=rfl;simp only[ByteArray.size_append,j,q,N];omega,z.out,A.out⟩
  ·go_wp2_with fail
   refine (zbe S X g _ 100 [{data:=#[102]},{data:=#[103]}] _ z.out (by simp) (by simp) (by intro x U;simp only[List.mem_cons,List.not_mem_nil,or_false] at U;rcases U with rfl|rfl<;>decide)).mono ?_
   rintro e Z ⟨x5,V,rfl,z5,H,L⟩
   have J:=zc H
   have I:=zc (zE A.out L)
   clear H L
   go_wp2
   go_ret
   exact⟨_,V,rfl,by have j:(({data:=#[102,117,110,99,116,105,111,110,32]}:ByteArray)).size=9:=rfl;have q:(({data:=#[40,41,32,123,32,114,101,116,117,114,110,32]}:ByteArray)).size=12:=rfl;have N:(({data:=#[59,32,125]}:ByteArray)).size=3:=rfl;simp only[ByteArray.size_append,j,q,N];omega,J.out,I.out⟩
  ·go_wp2
   go_ret
   exact⟨_,O,rfl,by have j:(({data:=#[32,61,32]}:ByteArray)).size=3:=rfl;have q:(({data:=#[59]}:ByteArray)).size=1:=rfl;simp only[ByteArray.size_append,j,q];omega,z.out,A.out⟩
  ·go_wp2
   go_ret
   exact⟨_,O,rfl,by have j:(({data:=#[112,114,105,110,116,40]}:ByteArray)).size=6:=rfl;have q:(({data:=#[41,59]}:ByteArray)).size=2:=rfl;simp only[ByteArray.size_append,j,q];omega,z.out,A.out⟩
  ·go_wp2
   go_ret
   exact⟨_,O,rfl,by have j:(({data:=#[112,114,105,110,116,40]}:ByteArray)).size=6:=rfl;have q:(({data:=#[41,59]}:ByteArray)).size=2:=rfl;simp only[ByteArray.size_append,j,q];omega,z.out,A.out⟩
  ·go_wp2_with fail
   refine (zcT S X g _ 2 _ z.out (by omega)).mono ?_
   rintro e Z ⟨rfl,H,L⟩
   obtain⟨V,Y⟩: ∃q',(bw S O 2).2=q':=⟨_,rfl⟩
   rw[Y] at H
   have J:=zc H
   have I:=zc (zE A.out L)
   clear H L Y
   generalize ((bw S O 2).1==0)=b
   cases b with
   |false=>
    go_wp2
    go_ret
    exact⟨_,V,rfl,by have j:(({data:=#[116,104,114,111,119,32]}:ByteArray)).size=6:=rfl;have q:(({data:=#[59]}:ByteArray)).size=1:=rfl;simp only[ByteArray.size_append,j,q];omega,J.out,I.out⟩
   |true=>
    go_wp2
    go_ret
    exact⟨_,V,rfl,by have j:(({data:=#[102,97,105,108,32]}:ByteArray)).size=5:=rfl;have q:(({data:=#[59]}:ByteArray)).size=1:=rfl;simp only[ByteArray.size_append,j,q];omega,J.out,I.out⟩
  ·go_wp2
   go_ret
   exact⟨_,O,rfl,by have j:(({data:=#[108,101,116,32]}:ByteArray)).size=4:=rfl;have q:(({data:=#[32,61,32]}:ByteArray)).size=3:=rfl;have N:(({data:=#[59]}:ByteArray)).size=1:=rfl;simp only[ByteArray.size_append,j,q,N];omega,z.out,A.out⟩
  ·go_wp2
   go_ret
   exact⟨_,O,rfl,by have j:(({data:=#[108,101,116,32]}:ByteArray)).size=4:=rfl;have q:(({data:=#[32,61,32]}:ByteArray)).size=3:=rfl;have N:(({data:=#[59]}:ByteArray)).size=1:=rfl;simp only[ByteArray.size_append,j,q,N];omega,z.out,A.out⟩
  ·go_wp2
   go_ret
   exact⟨_,O,rfl,by have j:(({data:=#[108,101,116,32]}:ByteArray)).size=4:=rfl;have q:(({data:=#[32,61,32]}:ByteArray)).size=3:=rfl;have N:(({data:=#[59]}:ByteArray)).size=1:=rfl;simp only[ByteArray.size_append,j,q,N];omega,z.out,A.out⟩
  ·go_wp2_with fail
   refine (zbe S X g _ 100 [{data:=#[102]},{data:=#[103]}] _ z.out (by simp) (by simp) (by intro x U;simp only[List.mem_cons,List.not_mem_nil,or_false] at U;rcases U with rfl|rfl<;>decide)).mono ?_
   rintro e Z ⟨x5,V,rfl,z5,H,L⟩
   have J:=zc H
   have I:=zc (zE A.out L)
   clear H L
   go_wp2
   go_ret
   exact⟨_,V,rfl,by have j:(({data:=#[102,117,110,99,116,105,111,110,32]}:ByteArray)).size=9:=rfl;have q:(({data:=#[40,41,32,123,32,114,101,116,117,114,110,32]}:ByteArray)).size=12:=rfl;have N:(({data:=#[59,32,125]}:ByteArray)).size=3:=rfl;simp only[ByteArray.size_append,j,q,N];omega,J.out,I.out⟩
  ·go_wp2
   go_ret
   exact⟨_,O,rfl,by have j:(({data:=#[32,61,32]}:ByteArray)).size=3:=rfl;have q:(({data:=#[59]}:ByteArray)).size=1:=rfl;simp only[ByteArray.size_append,j,q];omega,z.out,A.out⟩
  ·go_wp2
   go_ret
   exact⟨_,O,rfl,by have j:(({data:=#[112,114,105,110,116,40]}:ByteArray)).size=6:=rfl;have q:(({data:=#[41,59]}:ByteArray)).size=2:=rfl;simp only[ByteArray.size_append,j,q];omega,z.out,A.out⟩
  ·go_wp2
   go_ret
   exact⟨_,O,rfl,by have j:(({data:=#[112,114,105,110,116,40]}:ByteArray)).size=6:=rfl;have q:(({data:=#[41,59]}:ByteArray)).size=2:=rfl;simp only[ByteArray.size_append,j,q];omega,z.out,A.out⟩
  ·go_wp2_with fail
   refine (zcT S X g _ 2 _ z.out (by omega)).mono ?_
   rintro e Z ⟨rfl,H,L⟩
   obtain⟨V,Y⟩: ∃q',(bw S O 2).2=q':=⟨_,rfl⟩
   rw[Y] at H
   have J:=zc H
   have I:=zc (zE A.out L)
   clear H L Y
   generalize ((bw S O 2).1==0)=b
   cases b with
   |false=>
    go_wp2
    go_ret
    exact⟨_,V,rfl,by have j:(({data:=#[116,104,114,111,119,32]}:ByteArray)).size=6:=rfl;have q:(({data:=#[59]}:ByteArray)).size=1:=rfl;simp only[ByteArray.size_append,j,q];omega,J.out,I.out⟩
   |true=>
    go_wp2
    go_ret
    exact⟨_,V,rfl,by have j:(({data:=#[102,97,105,108,32]}:ByteArray)).size=5:=rfl;have q:(({data:=#[59]}:ByteArray)).size=1:=rfl;simp only[ByteArray.size_append,j,q];omega,J.out,I.out⟩
def zej (S:Src) (y:Int) (T:List Int×(Nat×Int)) (acc:List Int) (n:Nat) (q:Nat×Int):Prop:=acc++(zdr S y n q).1=T.1∧(zdr S y n q).2=T.2
theorem zhO {S:Src} {y:Int} {T:List Int×(Nat×Int)} {acc:List Int} {n:Nat} {q:Nat×Int} (h:zej S y T acc (n+1) q):zej S y T (acc++[chr y (cb S q).1]) n (cb S q).2:=by
 obtain⟨a,b⟩:=h
 rw[zdr] at a b
 exact⟨by rw[List.append_assoc];exact a,b⟩
theorem zps {S:Src} {y:Int} {T:List Int×(Nat×Int)} {acc:List Int} {q:Nat×Int} (h:zej S y T acc 0 q):acc=T.1∧q=T.2:=by
 obtain⟨a,b⟩:=h
 rw[zdr] at a b
 exact⟨by simpa using a,b⟩
theorem zpt (S:Src) (hS:S.ok) (g:Nat) (q:Nat×Int) (j:Int) (w:World) (hc:zN 137 S w g q) (au:0≤j) (av:j≤1000):
  Calls Tryz.prog 179 #[.pointer (some ⟨g,0,none⟩),.int .i64 j] w fun e w'=>e= .returned (.string (strOfNums (tx S q j).1))∧zN 137 S w' g (tx S q j).2∧w.grownBy w' (some g):=by
 obtain⟨i0,hi,ac,ad,ag⟩:=info_parts Tryz.infoByte
 have L:=zcJ hc
 have am:=zbk S (bw S q 4).2 (j+1) (by omega)
 have HT:Hid (tx S q j=zdr S (bw S q 4).1 (bw S (bw S q 4).2 (j+1)).1.toNat (bw S (bw S q 4).2 (j+1)).2):=rfl
 go_enter Tryz.func179,Tryz.ntmps179
 go_wp2_with fail
 refine (zaJ S hS g q 4 _ (zds hc ((Below.refl w.heap.size w).alloc (Nat.le_refl _) _) L) (by omega)).mono ?_
 rintro e w1 ⟨rfl,ak,ae⟩
 go_wp2_with fail
 refine (zaJ S hS g _ (j+1) _ ak (by omega)).mono ?_
 rintro e w2 ⟨rfl,aj,af⟩
 have aa:zbz w2 w.heap.size 5 (.slice (some ⟨w.heap.size,0,none⟩) 0 0) 0 []:=by
  have h0:zbz (w.alloc (.cells #[] 5)) w.heap.size 5 (.slice (some ⟨w.heap.size,0,none⟩) 0 0) 0 []:=World.ownsRow_lit w #[] 0 (Nat.le_refl _) (by unfold maxLen;omega) rfl
  exact zfB (zfB h0 ae L) af L
 have ai:w.grownBy w2 (some g):=zE (zE (zd9 (World.grownBy.refl w _) ((Below.refl w.heap.size w).alloc (Nat.le_refl _) (.cells #[] 5)) (Nat.le_refl _)) ae) af
 obtain⟨m0,V⟩: ∃m:Nat,(bw S (bw S q 4).2 (j+1)).1=m:=⟨(bw S (bw S q 4).2 (j+1)).1.toNat,by omega⟩
 rw[V]
 have ao:Hid (zej S (bw S q 4).1 (tx S q j) [] m0 (bw S (bw S q 4).2 (j+1)).2):=by
  show zej ..
  have e:=HT.out
  rw[V,Int.toNat_natCast] at e
  rw[e]
  exact⟨rfl,rfl⟩
 have ap:m0≤1000:=by omega
 clear V HT am hc ak ae af
 go_wp2
 go_loopw [5,7,8] (fun v n _ wr=>∃(k:Nat) (acc:List Int) (m:Nat) (p:Nat×Int),n= .int .i64 m∧k+m≤1000∧zej S (bw S q 4).1 (tx S q j) acc m p∧zbz wr w.heap.size 5 v k acc∧zN 137 S wr g p∧w.grownBy wr (some g)) (fun _ n _ _=>(intOf n).toNat)
 case atStart=>exact⟨0,[],m0,_,rfl,by omega,ao.out,aa,aj,ai⟩
 case round=>
  obtain⟨k,acc,m,p,rfl,ab,ah,A,Z,J⟩:=hrel
  have M:=ah
  clear ah aa aj ai
  match m,ab,M with
  |0,ab,M=>
   obtain⟨e1,e2⟩:=zps M
   have an:Hid (acc=(tx S q j).1):=e1
   have al:Hid (p=(tx S q j).2):=e2
   clear e1 e2 M
   rw[an.out] at A
   have ar:=zhc (P:=Tryz.prog) (src:=50) (dst:=9) Tryz.underlying50 Tryz.underlying5 Tryz.underlying9 A
   go_wp2
   go_ret
   exact⟨rfl,by rw[←al.out];exact Z,J⟩
  |m+1,ab,HAT0=>
   have M:Hid (zej S (bw S q 4).1 (tx S q j) acc (m+1) p):=HAT0
   clear HAT0
   have aq:=zei S p
   by_cases Y:(bw S q 4).1=1
   ·have q1:((bw S q 4).1==1)=true:=by simpa using Y
    have q2:((bw S q 4).1==2)=false:=by rw[Y];rfl
    have U:Hid (chr (bw S q 4).1 (cb S p).1=(cb S p).1%2):=by show chr _ _=_;rw[chr,if_pos Y]
    clear Y
    go_wp2_with (first|(go_at_call 132;refine (zdA S hS g p _ Z).mono ?_;rintro e w3 ⟨rfl,X,H⟩;have z:=zfB A H L;have N:=Nat.le_trans J.size H.size)|(at_builtin;refine zhr w3 rfl _ _ 50 rfl w.heap.size 5 i0 Tryz.underlying50 hi ac ad ag _ k acc (by rfl) z ((cb S p).1%2) (by rfl) (by omega) N ?_))
    intro v' w4 I O
    go_wp2
    go_roundw
    case rel=>exact⟨k+1,acc++[(cb S p).1%2],m,(cb S p).2,by go_num,by omega,by rw[←U.out];exact zhO M.out,I,zds X O L,zd9 (zE J H) O (Nat.le_refl _)⟩
    case measure=>simp[intOf]
   ·have q1:((bw S q 4).1==1)=false:=by simpa using Y
    by_cases h2:(bw S q 4).1=2
    ·have q2:((bw S q 4).1==2)=true:=by simpa using h2
     have U:Hid (chr (bw S q 4).1 (cb S p).1=97+(cb S p).1%4):=by show chr _ _=_;rw[chr,if_neg Y,if_pos h2]
     clear Y h2
     go_wp2_with (first|(go_at_call 132;refine (zdA S hS g p _ Z).mono ?_;rintro e w3 ⟨rfl,X,H⟩;have z:=zfB A H L;have N:=Nat.le_trans J.size H.size)|(at_builtin;refine zhr w3 rfl _ _ 50 rfl w.heap.size 5 i0 Tryz.underlying50 hi ac ad ag _ k acc (by rfl) z (97+(cb S p).1%4) (by rfl) (by omega) N ?_))
     intro v' w4 I O
     go_wp2
     go_roundw
     case rel=>exact⟨k+1,acc++[97+(cb S p).1%4],m,(cb S p).2,by go_num,by omega,by rw[←U.out];exact zhO M.out,I,zds X O L,zd9 (zE J H) O (Nat.le_refl _)⟩
     case measure=>simp[intOf]
    ·have q2:((bw S q 4).1==2)=false:=by simpa using h2
     have U:Hid (chr (bw S q 4).1 (cb S p).1=(cb S p).1):=by show chr _ _=_;rw[chr,if_neg Y,if_neg h2]
     clear Y h2
     go_wp2_with (first|(go_at_call 132;refine (zdA S hS g p _ Z).mono ?_;rintro e w3 ⟨rfl,X,H⟩;have z:=zfB A H L;have N:=Nat.le_trans J.size H.size)|(at_builtin;refine zhr w3 rfl _ _ 50 rfl w.heap.size 5 i0 Tryz.underlying50 hi ac ad ag _ k acc (by rfl) z ((cb S p).1) (by rfl) (by omega) N ?_))
     intro v' w4 I O
     go_wp2
     go_roundw
     case rel=>exact⟨k+1,acc++[(cb S p).1],m,(cb S p).2,by go_num,by omega,by rw[←U.out];exact zhO M.out,I,zds X O L,zd9 (zE J H) O (Nat.le_refl _)⟩
     case measure=>simp[intOf]
theorem zpu {S:Src} {q:Nat×Int} {s:ByteArray} (h:s.size=0):zbl S q s=(strOfNums (tx S q 3).1,(tx S q 3).2):=by rw[zbl,if_pos h]
theorem zpv {S:Src} {q:Nat×Int} {s:ByteArray} {k:Nat} (h:s.size≠0) (z:(bw S q s.size).1=k) (j:(bw S (bw S q s.size).2 4).1=0):zbl S q s=(s.extract 0 k++s.extract (k+1) s.size,(bw S (bw S q s.size).2 4).2):=by
 rw[zbl,if_neg h,if_pos j,z];rfl
theorem zpw {S:Src} {q:Nat×Int} {s:ByteArray} {k:Nat} (h:s.size≠0) (z:(bw S q s.size).1=k) (j:(bw S (bw S q s.size).2 4).1=1):zbl S q s=(s.extract 0 k++strOfNums [(cb S (bw S (bw S q s.size).2 4).2).1]++s.extract k s.size,(cb S (bw S (bw S q s.size).2 4).2).2):=by
 rw[zbl,if_neg h,if_neg (by omega),if_pos j,z];rfl
theorem zpx {S:Src} {q:Nat×Int} {s:ByteArray} {k:Nat} (h:s.size≠0) (z:(bw S q s.size).1=k) (j:(bw S (bw S q s.size).2 4).1=2):zbl S q s=(s.extract 0 k,(bw S (bw S q s.size).2 4).2):=by
 rw[zbl,if_neg h,if_neg (by omega),if_neg (by omega),if_pos j,z];rfl
theorem zpy {S:Src} {q:Nat×Int} {s:ByteArray} {k:Nat} (h:s.size≠0) (z:(bw S q s.size).1=k) (A:(bw S (bw S q s.size).2 4).1≠0) (H:(bw S (bw S q s.size).2 4).1≠1) (j:(bw S (bw S q s.size).2 4).1≠2):
  zbl S q s=(s.extract 0 k++strOfNums [IntKind.u8.wrap (bits .xor .i64 (bt s k) (1+(bw S (bw S (bw S q s.size).2 4).2 255).1))]++s.extract (k+1) s.size,(bw S (bw S (bw S q s.size).2 4).2 255).2):=by
 rw[zbl,if_neg h,if_neg A,if_neg H,if_neg j,z];rfl
theorem zpz (S:Src) (N:S.ok) (g:Nat) (q:Nat×Int) (s:ByteArray) (w:World) (hc:zN 137 S w g q) (hs:s.size≤100000):
  Calls Tryz.prog 137 #[.pointer (some ⟨g,0,none⟩),.string s] w fun e w'=>e= .returned (.string (zbl S q s).1)∧zN 137 S w' g (zbl S q s).2∧w.grownBy w' (some g):=by
 by_cases M:s.size=0
 ·have J:Hid (zbl S q s=(strOfNums (tx S q 3).1,(tx S q 3).2)):=zpu M
  have hq:((s.size:Int)==0)=true:=by rw[M];rfl
  clear M
  go_enter Tryz.func137,Tryz.ntmps137
  go_wp2_with fail
  refine (zpt S N g q 3 _ hc (by omega) (by omega)).mono ?_
  rintro e w1 ⟨rfl,z,j⟩
  go_wp2
  go_ret
  exact⟨zar (by rw[J.out]),by rw[J.out];exact z,j⟩
 ·have hq:((s.size:Int)==0)=false:=beq_eq_false_iff_ne.2 (by omega)
  have ac:=zbk S q s.size (by omega)
  obtain⟨k,V⟩: ∃k:Nat,(bw S q s.size).1=k:=⟨(bw S q s.size).1.toNat,by omega⟩
  have HK:Hid ((bw S q s.size).1=k):=V
  have ag:k<s.size:=by omega
  have ae:=zbk S (bw S q s.size).2 4 (by omega)
  have hb:=get_bt s
  have ah:=bt_nonneg s k
  have ai:=bt_le s k
  have e1:IntKind.i64.wrap ((k:Int)+1)=(k:Int)+1:=IntWalk.i64_in _ ⟨by omega,by omega⟩
  have e2:IntKind.i64.wrap (bt s k)=bt s k:=IntWalk.i64_in _ ⟨by omega,by omega⟩
  have l1:(0:Int)≤(k:Int):=by omega
  have l2:(k:Int)≤s.size:=by omega
  have l3:(0:Int)≤(k:Int)+1:=by omega
  have l4:(k:Int)+1≤s.size:=by omega
  have z1:(s.extract 0 k).size≤100000:=by simp;omega
  have z2:(s.extract (k+1) s.size).size≤100000:=by simp;omega
  have z3:(s.extract k s.size).size≤100000:=by simp;omega
  have af:=fun (w:World) (x:Int)=>zhd (P:=Tryz.prog) (src:=50) (dst:=9) Tryz.underlying50 Tryz.underlying5 Tryz.underlying9 w x
  have ad:=fun x=>strOfNums_size [x]
  have y1: ¬(9223372036854775807<min k s.size+1):=by omega
  have y2: ¬(9223372036854775807<min k s.size+1+(s.size-k)):=by omega
  have y3: ¬(9223372036854775807<min k s.size+1+(s.size-(k+1))):=by omega
  clear ac
  by_cases X:(bw S (bw S q s.size).2 4).1=0
  ·have J:Hid (zbl S q s=(s.extract 0 k++s.extract (k+1) s.size,(bw S (bw S q s.size).2 4).2)):=zpv M V X
   have q0:((bw S (bw S q s.size).2 4).1==0)=true:=by simpa using X
   clear V X M
   go_enter Tryz.func137,Tryz.ntmps137
   go_wp2_with fail
   refine (zaJ S N g q s.size _ hc (by omega)).mono ?_
   rintro e w1 ⟨rfl,z,j⟩
   rw[HK.out]
   go_wp2_with fail
   refine (zaJ S N g _ 4 _ z (by omega)).mono ?_
   rintro e w2 ⟨rfl,I,H⟩
   go_wp2
   go_quiet (fail)
   go_wp2
   go_ret
   exact⟨zar (by rw[J.out]),by rw[J.out];exact zg9 I _,zeI (zE j H) _⟩
  ·have q0:((bw S (bw S q s.size).2 4).1==0)=false:=by simpa using X
   by_cases Y:(bw S (bw S q s.size).2 4).1=1
   ·have J:Hid (zbl S q s=(s.extract 0 k++strOfNums [(cb S (bw S (bw S q s.size).2 4).2).1]++s.extract k s.size,(cb S (bw S (bw S q s.size).2 4).2).2)):=zpw M V Y
    have q1:((bw S (bw S q s.size).2 4).1==1)=true:=by simpa using Y
    have ab:=zei S (bw S (bw S q s.size).2 4).2
    have e3:IntKind.u8.wrap (cb S (bw S (bw S q s.size).2 4).2).1=(cb S (bw S (bw S q s.size).2 4).2).1:=IntWalk.u8_in _ ab
    have z4:(s.extract 0 k++strOfNums [(cb S (bw S (bw S q s.size).2 4).2).1]).size≤100001:=by rw[ByteArray.size_append,strOfNums_size];simp;omega
    clear V X Y M
    go_enter Tryz.func137,Tryz.ntmps137
    go_wp2_with fail
    refine (zaJ S N g q s.size _ hc (by omega)).mono ?_
    rintro e w1 ⟨rfl,z,j⟩
    rw[HK.out]
    go_wp2_with fail
    refine (zaJ S N g _ 4 _ z (by omega)).mono ?_
    rintro e w2 ⟨rfl,I,H⟩
    go_wp2
    have O:zN 137 S w2.drew g (bw S (bw S q s.size).2 4).2:=zch I fun _ _=>rfl
    have L:w.grownBy w2.drew (some g):=zeI (zE j H) 1
    have Z:=zcJ O
    go_region_law (go_simp;go_wp2_with (go_at_call 132;refine (zdA S N g _ _ O).mono ?_;rintro e U ⟨rfl,aa,A⟩))
    all_goals
     go_wp2
     go_ret
     refine⟨zar (by rw[J.out]),?_,zd9 (zE L A) ((Below.refl U.heap.size U).alloc (Nat.le_refl _) _) (Nat.le_trans L.size A.size)⟩
     rw[J.out]
     exact zds aa ((Below.refl U.heap.size U).alloc (Nat.le_refl _) _) (Nat.lt_of_lt_of_le Z A.size)
   ·have q1:((bw S (bw S q s.size).2 4).1==1)=false:=by simpa using Y
    by_cases m2:(bw S (bw S q s.size).2 4).1=2
    ·have J:Hid (zbl S q s=(s.extract 0 k,(bw S (bw S q s.size).2 4).2)):=zpx M V m2
     have q2:((bw S (bw S q s.size).2 4).1==2)=true:=by simpa using m2
     clear V X Y m2 M
     go_enter Tryz.func137,Tryz.ntmps137
     go_wp2_with fail
     refine (zaJ S N g q s.size _ hc (by omega)).mono ?_
     rintro e w1 ⟨rfl,z,j⟩
     rw[HK.out]
     go_wp2_with fail
     refine (zaJ S N g _ 4 _ z (by omega)).mono ?_
     rintro e w2 ⟨rfl,I,H⟩
     go_wp2
     go_ret
     exact⟨zar (by rw[J.out]),by rw[J.out];exact I,zE j H⟩
    ·have q2:((bw S (bw S q s.size).2 4).1==2)=false:=by simpa using m2
     have J:Hid (zbl S q s=(s.extract 0 k++strOfNums [IntKind.u8.wrap (bits .xor .i64 (bt s k) (1+(bw S (bw S (bw S q s.size).2 4).2 255).1))]++s.extract (k+1) s.size,(bw S (bw S (bw S q s.size).2 4).2 255).2)):=zpy M V X Y m2
     have ab:=zbk S (bw S (bw S q s.size).2 4).2 255 (by omega)
     have e3:IntKind.i64.wrap (1+(bw S (bw S (bw S q s.size).2 4).2 255).1)=1+(bw S (bw S (bw S q s.size).2 4).2 255).1:=IntWalk.i64_in _ ⟨by omega,by omega⟩
     have z4:(s.extract 0 k++strOfNums [IntKind.u8.wrap (bits .xor .i64 (bt s k) (1+(bw S (bw S (bw S q s.size).2 4).2 255).1))]).size≤100001:=by rw[ByteArray.size_append,strOfNums_size];simp;omega
     clear V X Y m2 M
     go_enter Tryz.func137,Tryz.ntmps137
     go_wp2_with fail
     refine (zaJ S N g q s.size _ hc (by omega)).mono ?_
     rintro e w1 ⟨rfl,z,j⟩
     rw[HK.out]
     go_wp2_with fail
     refine (zaJ S N g _ 4 _ z (by omega)).mono ?_
     rintro e w2 ⟨rfl,I,H⟩
     go_wp2
     have O:zN 137 S w2.drew g (bw S (bw S q s.size).2 4).2:=zch I fun _ _=>rfl
     have L:w.grownBy w2.drew (some g):=zeI (zE j H) 1
     have Z:=zcJ O
     go_region_law (go_simp;go_wp2_with (go_at_call 97;refine (zaJ S N g _ 255 _ O (by omega)).mono ?_;rintro e U ⟨rfl,aa,A⟩))
     all_goals
      go_wp2
      go_ret
      refine⟨zar (by rw[J.out]),?_,zd9 (zE L A) ((Below.refl U.heap.size U).alloc (Nat.le_refl _) _) (Nat.le_trans L.size A.size)⟩
      rw[J.out]
      exact zds aa ((Below.refl U.heap.size U).alloc (Nat.le_refl _) _) (Nat.lt_of_lt_of_le Z A.size)
end Go.Proofs.YtjdddblpfbmpaaaGreat
