/-
  Two programs in memory side by side. No program is spoken of but for the numbers of its types.
  What the laws' sameTexts and sameMod answer of a program that lies twice,the model's != handed in: the walks.
  What each step of reading keeps,the whole reading keeps; so a program that was read has no request twice. No program is spoken of.
  A program that was read has no statement of DefaultName that is no let. No program is spoken of.
  What a Print and a Parse tell,as a ModOk takes it. No program is spoken of but for the numbers of its types.
  What l4Same of the specification answers,the model's != handed in: the walk.
-/
import Derived.Deep.Cut
import Derived.Test.YthfeoomfiafldaaGreatCdEqRow
import Derived.Test.YthfeoomfiafldaaGreatCdDrawParseToProgInv
namespace Go.Proofs.YthfeoomfiafldaaGreat
set_option maxRecDepth 100000
set_option maxHeartbeats 12800000
open Go.RowKit Go.PlainAid Go.Sort
theorem zhc (l:List ByteArray):l.map Value.string=l.flatMap (fun x=>[Value.string x]):=by
 induction l with
 |nil=>rfl
 |cons x l j=>rw[List.map_cons,List.flatMap_cons,j];rfl
def TwoM (w0:World) (b1 b2:Nat) (S1 S2:Sv) (m1 m2:Md) (w:World):Prop:=
 w.heap[w0.heap.size]? =some (.cells #[.slice S1.rq.a m1.rq.length S1.rq.cap,.slice S1.im.a m1.im.length S1.im.cap,.slice S1.ep.a m1.ep.length S1.ep.cap,.slice S1.st.a m1.st.length S1.st.cap,.slice S1.ex.a m1.ex.length S1.ex.cap] 32 (0,0))∧w.heap[w0.heap.size+1]? =some (.cells #[.slice S2.rq.a m2.rq.length S2.rq.cap,.slice S2.im.a m2.im.length S2.im.cap,.slice S2.ep.a m2.ep.length S2.ep.cap,.slice S2.st.a m2.st.length S2.st.cap,.slice S2.ex.a m2.ex.length S2.ex.cap] 32 (0,0))∧OwnMd w b1 S1 m1∧OwnMd w b2 S2 m2∧Below w0.heap.size w0 w
theorem TwoM.later {w0 w E:World} {H b2:Nat} {o D:Sv} {z I:Md} (h:TwoM w0 H b2 o D z I w) (j:Below w.heap.size w E):TwoM w0 H b2 o D z I E:=
 ⟨(j.block _ (Array.getElem?_eq_some_iff.1 h.1).1).trans h.1,(j.block _ (Array.getElem?_eq_some_iff.1 h.2.1).1).trans h.2.1,h.2.2.1.later j,h.2.2.2.1.later j,h.2.2.2.2.trans (j.mono h.2.2.2.2.size)⟩
theorem zlf (w:World) (I b2:Nat) (j z:Sv) (o D:Md) (K:OwnMd w I j o) (J:OwnMd w b2 z D):TwoM w I b2 j z o D ((w.alloc (.cells #[.slice j.rq.a o.rq.length j.rq.cap,.slice j.im.a o.im.length j.im.cap,.slice j.ep.a o.ep.length j.ep.cap,.slice j.st.a o.st.length j.st.cap,.slice j.ex.a o.ex.length j.ex.cap] 32)).alloc (.cells #[.slice z.rq.a D.rq.length z.rq.cap,.slice z.im.a D.im.length z.im.cap,.slice z.ep.a D.ep.length z.ep.cap,.slice z.st.a D.st.length z.st.cap,.slice z.ex.a D.ex.length z.ex.cap] 32)):=by
 have H:Below w.heap.size w (w.alloc (.cells #[.slice j.rq.a o.rq.length j.rq.cap,.slice j.im.a o.im.length j.im.cap,.slice j.ep.a o.ep.length j.ep.cap,.slice j.st.a o.st.length j.st.cap,.slice j.ex.a o.ex.length j.ex.cap] 32)):=(Below.refl _ _).alloc (Nat.le_refl _) _
 have E:Below (w.alloc (.cells #[.slice j.rq.a o.rq.length j.rq.cap,.slice j.im.a o.im.length j.im.cap,.slice j.ep.a o.ep.length j.ep.cap,.slice j.st.a o.st.length j.st.cap,.slice j.ex.a o.ex.length j.ex.cap] 32)).heap.size (w.alloc (.cells #[.slice j.rq.a o.rq.length j.rq.cap,.slice j.im.a o.im.length j.im.cap,.slice j.ep.a o.ep.length j.ep.cap,.slice j.st.a o.st.length j.st.cap,.slice j.ex.a o.ex.length j.ex.cap] 32)) ((w.alloc (.cells #[.slice j.rq.a o.rq.length j.rq.cap,.slice j.im.a o.im.length j.im.cap,.slice j.ep.a o.ep.length j.ep.cap,.slice j.st.a o.st.length j.st.cap,.slice j.ex.a o.ex.length j.ex.cap] 32)).alloc (.cells #[.slice z.rq.a D.rq.length z.rq.cap,.slice z.im.a D.im.length z.im.cap,.slice z.ep.a D.ep.length z.ep.cap,.slice z.st.a D.st.length z.st.cap,.slice z.ex.a D.ex.length z.ex.cap] 32)):=(Below.refl _ _).alloc (Nat.le_refl _) _
 refine⟨(E.block _ (by rw[zW];omega)).trans (heap_alloc_new w _),?_,(K.later H).later E,(J.later H).later E,H.trans (E.mono (by rw[zW];omega))⟩
 have:=heap_alloc_new (w.alloc (.cells #[.slice j.rq.a o.rq.length j.rq.cap,.slice j.im.a o.im.length j.im.cap,.slice j.ep.a o.ep.length j.ep.cap,.slice j.st.a o.st.length j.st.cap,.slice j.ex.a o.ex.length j.ex.cap] 32)) (.cells #[.slice z.rq.a D.rq.length z.rq.cap,.slice z.im.a D.im.length z.im.cap,.slice z.ep.a D.ep.length z.ep.cap,.slice z.st.a D.st.length z.st.cap,.slice z.ex.a D.ex.length z.ex.cap] 32)
 rw[zW] at this
 exact this
def zhd (m:Md):Prop:=m.rq.length≤4294967296∧m.im.length≤4294967296∧m.ep.length≤4294967296∧m.st.length≤4294967296∧m.ex.length≤4294967296
theorem zrs {a b:Md} (D:a.rq=b.rq) (z:a.im=b.im) (o:a.ep=b.ep) (E:a.st=b.st) (j:a.ex=b.ex):a=b:=by
 cases a
 cases b
 simp only at D z o E j
 rw[D,z,o,E,j]
theorem zrt (z E:Option Addr) (j D:Nat) (w:World):Calls Tryz.prog 29 #[.slice z 0 j,.slice E 0 D] w fun e o=>e= .returned (.bool true)∧Below w.heap.size w o:=by
 go_enter Tryz.func29,Tryz.ntmps29
 go_wp2
 go_loopg [5] 1 (fun k i wr=>k=1∧i= .int .i64 0∧wr=w)
 case atStart=>exact⟨rfl,rfl,rfl⟩
 case round=>
  obtain⟨rfl,rfl,rfl⟩:=hrel
  go_wp2
  go_ret
  exact⟨rfl,Below.refl _ _⟩
theorem zru (b1 b2 N U:Nat) (X V:Rw) (l:List ByteArray) (w:World) (D:OwnR w b1 9 1 X l.length (l.flatMap (fun x=>[Value.string x]))) (z:OwnR w b2 9 1 V l.length (l.flatMap (fun x=>[Value.string x]))) (e1:X.a=some ⟨N,0,none⟩) (Z:V.a=some ⟨U,0,none⟩) (hl:l.length≤4294967296):
  Calls Tryz.prog 29 #[.slice (some ⟨N,0,none⟩) l.length X.cap,.slice (some ⟨U,0,none⟩) l.length V.cap] w fun e w'=>e= .returned (.bool true)∧Below w.heap.size w w':=by
 have H1:=zc D
 have H2:=zc z
 have E1:=zc e1
 have E2:=zc Z
 clear D z e1 Z
 go_enter Tryz.func29,Tryz.ntmps29
 go_wp2
 go_loopg [5] l.length (fun k i wr=>∃j:Nat,i= .int .i64 j∧j+k=l.length∧Below w.heap.size w wr)
 case atStart=>exact⟨0,rfl,by omega,Below.refl _ _⟩
 case round=>
  obtain⟨j,rfl,hj,hb⟩:=hrel
  have H:=zc hb
  clear hb
  by_cases M:j<l.length
  ·have E:(j:Int)<(l.length:Int):=by omega
   obtain⟨x,L⟩:=zch M
   obtain⟨O,ga,D⟩:=OwnR.elem (f:=(fun x=>[Value.string x])) (m:=1) (fun _=>rfl) (H1.out.keep fun k g=>H.out.block k (H1.out.typed g).2.1) L
   obtain rfl:O=N:=by have:=ga.symm.trans E1.out;simpa using this
   obtain⟨O,gb,z⟩:=OwnR.elem (f:=(fun x=>[Value.string x])) (m:=1) (fun _=>rfl) (H2.out.keep fun k g=>H.out.block k (H2.out.typed g).2.1) L
   obtain rfl:O=U:=by have:=gb.symm.trans E2.out;simpa using this
   have C0:=zc (D 0 (by omega))
   have D0:=zc (z 0 (by omega))
   clear D z ga gb L
   obtain⟨J,I⟩: ∃J,J=j+1:=⟨_,rfl⟩
   have ej:(j:Int)+1=(J:Int):=by omega
   have HJ:=zc I
   clear I
   go_wp2
   have k0:=cell_regrown C0.out
   have l0:=cell_regrown D0.out
   simp only[Nat.add_zero,Nat.mul_one] at k0 l0
   refine wp_region_quiet_below (by kernel_rfl) (by kernel_rfl) ?_
   repeat (go_big_quiet_step (fail))
   refine wpQuiet_nil ?_
   intro w2 K
   obtain⟨⟨dq,Y⟩,o⟩:=K
   have Q:Hid (Below w.heap.size w w2):=by show Below _ _ _;rw[o];exact H.out.trans ((below_regrown wr dq Y).mono H.out.size)
   clear o k0 l0 C0 D0
   go_wp2
   go_roundg (gk-1)
   case rel=>exact⟨J,rfl,by have:=HJ.out;omega,Q.out⟩
   case measure=>omega
  ·have E: ¬(j:Int)<(l.length:Int):=by omega
   go_wp2
   go_ret
   exact⟨rfl,H.out⟩
theorem zrv (H b2:Nat) (j o:Rw) (l:List ByteArray) (w:World) (J:OwnR w H 9 1 j l.length (l.flatMap (fun x=>[Value.string x]))) (I:OwnR w b2 9 1 o l.length (l.flatMap (fun x=>[Value.string x]))) (N:l.length≤4294967296):
  Calls Tryz.prog 29 #[.slice j.a l.length j.cap,.slice o.a l.length o.cap] w fun e L=>e= .returned (.bool true)∧Below w.heap.size w L:=by
 by_cases z:l.length=0
 ·rw[z]
  exact zrt _ _ _ _ w
 ·rcases J.nil_or with ⟨_,_,e⟩|⟨K,D⟩
  ·exact absurd e z
  ·rcases I.nil_or with ⟨_,_,e⟩|⟨M,E⟩
   ·exact absurd e z
   ·rw[D,E]
    exact zru H b2 K M j o l w J I D E N
theorem zlg (ak: ∀(x y:Im) (W:World),Sem.run Tryz.prog (binOp .neq 75 (.agg #[.string x.spec,.string x.first,.string x.loc]) (.agg #[.string y.spec,.string y.first,.string y.loc])) W= .ok (.bool (!zdi x y)) W) (ai: ∀(K:BinOp) (a b:Operand) (x y:Im) (W:World),Sem.run Tryz.prog (eqGuard K 75 a b (.agg #[.string x.spec,.string x.first,.string x.loc]) (.agg #[.string y.spec,.string y.first,.string y.loc])) W= .ok () W) (ae: ∀(x y:Ep) (W:World),Sem.run Tryz.prog (binOp .neq 77 (.agg #[.int .i64 x.kind,.string x.name,.string x.loc,.string x.spec]) (.agg #[.int .i64 y.kind,.string y.name,.string y.loc,.string y.spec])) W= .ok (.bool (!zdj x y)) W) (ag: ∀(K:BinOp) (a b:Operand) (x y:Ep) (W:World),Sem.run Tryz.prog (eqGuard K 77 a b (.agg #[.int .i64 x.kind,.string x.name,.string x.loc,.string x.spec]) (.agg #[.int .i64 y.kind,.string y.name,.string y.loc,.string y.spec])) W= .ok () W) (aj: ∀(x y:Sm) (W:World),Sem.run Tryz.prog (binOp .neq 79 (.agg #[.int .i64 x.kind,.string x.name,.int .i64 x.expr]) (.agg #[.int .i64 y.kind,.string y.name,.int .i64 y.expr])) W= .ok (.bool (!zdk x y)) W) (af: ∀(K:BinOp) (a b:Operand) (x y:Sm) (W:World),Sem.run Tryz.prog (eqGuard K 79 a b (.agg #[.int .i64 x.kind,.string x.name,.int .i64 x.expr]) (.agg #[.int .i64 y.kind,.string y.name,.int .i64 y.expr])) W= .ok () W) (ah: ∀(x y:Ex) (W:World),Sem.run Tryz.prog (binOp .neq 81 (.agg #[.int .i64 x.kind,.int .i64 x.num,.string x.name,.string x.field,.int .i64 x.l,.int .i64 x.r]) (.agg #[.int .i64 y.kind,.int .i64 y.num,.string y.name,.string y.field,.int .i64 y.l,.int .i64 y.r])) W= .ok (.bool (!zdl x y)) W) (ad: ∀(K:BinOp) (a b:Operand) (x y:Ex) (W:World),Sem.run Tryz.prog (eqGuard K 81 a b (.agg #[.int .i64 x.kind,.int .i64 x.num,.string x.name,.string x.field,.int .i64 x.l,.int .i64 x.r]) (.agg #[.int .i64 y.kind,.int .i64 y.num,.string y.name,.string y.field,.int .i64 y.l,.int .i64 y.r])) W= .ok () W) (b1 b2:Nat) (S1 S2:Sv) (m:Md) (w:World) (E:OwnMd w b1 S1 m) (D:OwnMd w b2 S2 m) (hf:zhd m):
  Calls Tryz.prog 12 #[zbM S1 m,zbM S2 m] w fun e w'=>e= .returned (.bool true)∧Below w.heap.size w w':=by
 have H1:=zc E
 have H2:=zc D
 obtain⟨f1,f2,f3,f4,f5⟩:=hf
 clear E D
 unfold zbM
 go_enter Tryz.func12,Tryz.ntmps12
 go_upto_region 1 with fail
 refine zaA (R:=TwoM w b1 b2 S1 S2 m m) (zlf w b1 b2 S1 S2 m m H1.out H2.out) ?_
 clear H1 H2
 intro w0 h
 have T0:=zc h
 clear h
 obtain⟨c0,U,X,V,O,cf⟩:=zaa T0.out.1
 obtain⟨d0,N,Q,Y,M,df⟩:=zaa T0.out.2.1
 go_wp2_with fail
 refine (zrv b1 b2 S1.rq S2.rq m.rq w0 (by rw[←zhc];exact T0.out.2.2.1.rq) (by rw[←zhc];exact T0.out.2.2.2.1.rq) f1).mono ?_
 rintro e w1 ⟨rfl,hb⟩
 have T:=zc (T0.out.later hb)
 clear hb c0 U X V O cf d0 N Q Y M df T0
 obtain⟨c0,U,X,V,O,cf⟩:=zaa T.out.1
 obtain⟨d0,N,Q,Y,M,df⟩:=zaa T.out.2.1
 go_wp2
 go_loopg [5] m.im.length (fun k i wr=>∃j:Nat,i= .int .i64 j∧j+k=m.im.length∧TwoM w b1 b2 S1 S2 m m wr)
 case atStart=>exact⟨0,rfl,by omega,T.out⟩
 case round=>
  obtain⟨j,rfl,hj,hT⟩:=hrel
  clear T c0 U X V O cf d0 N Q Y M df
  have T:=zc hT
  clear hT
  obtain⟨c0,U,X,V,O,cf⟩:=zaa T.out.1
  obtain⟨d0,N,Q,Y,M,df⟩:=zaa T.out.2.1
  by_cases I:j<m.im.length
  ·have o:(j:Int)<(m.im.length:Int):=by omega
   obtain⟨x,hx⟩:=zch I
   obtain⟨g1,ga,E⟩:=OwnR.elem (f:=imL) (m:=3) (fun _=>rfl) T.out.2.2.1.im hx
   obtain⟨g2,gb,D⟩:=OwnR.elem (f:=imL) (m:=3) (fun _=>rfl) T.out.2.2.2.1.im hx
   rw[ga] at U
   rw[gb] at N
   obtain⟨y,hy⟩: ∃y,y=x:=⟨_,rfl⟩
   rw[←hy] at D
   obtain⟨b,H⟩: ∃b,zdi x y=b:=⟨_,rfl⟩
   have BT:Hid (b=true):=by show _=_;rw[←H,hy];exact zi5.2 rfl
   have C0:=zc (E 0 (by omega))
   have D0:=zc (D 0 (by omega))
   have C1:=zc (E 1 (by omega))
   have D1:=zc (D 1 (by omega))
   have C2:=zc (E 2 (by omega))
   have D2:=zc (D 2 (by omega))
   clear E D ga gb hx
   obtain⟨L,J⟩: ∃L,L=j+1:=⟨_,rfl⟩
   have ej:(j:Int)+1=(L:Int):=by omega
   have HJ:=zc J
   clear J
   have Z: ∀W:World,Sem.run Tryz.prog (binOp .neq 75 (.agg #[.string x.spec,.string x.first,.string x.loc]) (.agg #[.string y.spec,.string y.first,.string y.loc])) W= .ok (.bool !b) W:=fun W=>by rw[ak,H]
   have ac: ∀(K:BinOp) (a b:Operand) (W:World),Sem.run Tryz.prog (eqGuard K 75 a b (.agg #[.string x.spec,.string x.first,.string x.loc]) (.agg #[.string y.spec,.string y.first,.string y.loc])) W= .ok () W:=fun K a b W=>ai K a b x y W
   clear hy
   go_wp2
   have kc:=cell_regrown U
   have kd:=cell_regrown N
   have k0:=cell_regrown C0.out
   have v0:=cell_regrown D0.out
   have k1:=cell_regrown C1.out
   have v1:=cell_regrown D1.out
   have k2:=cell_regrown C2.out
   have v2:=cell_regrown D2.out
   simp only[Nat.add_zero] at k0 v0
   refine wp_region_quiet_below (by kernel_rfl) (by kernel_rfl) ?_
   repeat (go_big_quiet_step (fail))
   refine wpQuiet_nil ?_
   intro w2 ab
   obtain⟨⟨dq,aa⟩,z⟩:=ab
   have T2:Hid (TwoM w b1 b2 S1 S2 m m w2):=by show TwoM _ _ _ _ _ _ _ _;rw[z];exact T.out.later (below_regrown wr dq aa)
   clear z kc kd c0 U X V O cf d0 N Q Y M df Z ac k0 v0 C0 D0 k1 v1 C1 D1 k2 v2 C2 D2
   cases b with
   |false=>exact absurd BT.out (by decide)
   |true=>
    go_wp2
    go_roundg (gk-1)
    case rel=>exact⟨L,rfl,by have:=HJ.out;omega,T2.out⟩
    case measure=>omega
  ·have o: ¬(j:Int)<(m.im.length:Int):=by omega
   obtain rfl:j=m.im.length:=by omega
   clear o I hj
   go_wp2
   go_loopg [6] m.ep.length (fun k i wr=>∃j:Nat,i= .int .i64 j∧j+k=m.ep.length∧TwoM w b1 b2 S1 S2 m m wr)
   case atStart=>exact⟨0,rfl,by omega,T.out⟩
   case round=>
    obtain⟨j,rfl,hj,hT⟩:=hrel
    clear T c0 U X V O cf d0 N Q Y M df
    have T:=zc hT
    clear hT
    obtain⟨c0,U,X,V,O,cf⟩:=zaa T.out.1
    obtain⟨d0,N,Q,Y,M,df⟩:=zaa T.out.2.1
    by_cases I:j<m.ep.length
    ·have o:(j:Int)<(m.ep.length:Int):=by omega
     obtain⟨x,hx⟩:=zch I
     obtain⟨g1,ga,E⟩:=OwnR.elem (f:=epL) (m:=4) (fun _=>rfl) T.out.2.2.1.ep hx
     obtain⟨g2,gb,D⟩:=OwnR.elem (f:=epL) (m:=4) (fun _=>rfl) T.out.2.2.2.1.ep hx
     rw[ga] at X
     rw[gb] at Q
     obtain⟨y,hy⟩: ∃y,y=x:=⟨_,rfl⟩
     rw[←hy] at D
     obtain⟨b,H⟩: ∃b,zdj x y=b:=⟨_,rfl⟩
     have BT:Hid (b=true):=by show _=_;rw[←H,hy];exact zi6.2 rfl
     have C0:=zc (E 0 (by omega))
     have D0:=zc (D 0 (by omega))
     have C1:=zc (E 1 (by omega))
     have D1:=zc (D 1 (by omega))
     have C2:=zc (E 2 (by omega))
     have D2:=zc (D 2 (by omega))
     have C3:=zc (E 3 (by omega))
     have D3:=zc (D 3 (by omega))
     clear E D ga gb hx
     obtain⟨L,J⟩: ∃L,L=j+1:=⟨_,rfl⟩
     have ej:(j:Int)+1=(L:Int):=by omega
     have HJ:=zc J
     clear J
     have Z: ∀W:World,Sem.run Tryz.prog (binOp .neq 77 (.agg #[.int .i64 x.kind,.string x.name,.string x.loc,.string x.spec]) (.agg #[.int .i64 y.kind,.string y.name,.string y.loc,.string y.spec])) W= .ok (.bool !b) W:=fun W=>by rw[ae,H]
     have ac: ∀(K:BinOp) (a b:Operand) (W:World),Sem.run Tryz.prog (eqGuard K 77 a b (.agg #[.int .i64 x.kind,.string x.name,.string x.loc,.string x.spec]) (.agg #[.int .i64 y.kind,.string y.name,.string y.loc,.string y.spec])) W= .ok () W:=fun K a b W=>ag K a b x y W
     clear hy
     go_wp2
     have kc:=cell_regrown X
     have kd:=cell_regrown Q
     have k0:=cell_regrown C0.out
     have v0:=cell_regrown D0.out
     have k1:=cell_regrown C1.out
     have v1:=cell_regrown D1.out
     have k2:=cell_regrown C2.out
     have v2:=cell_regrown D2.out
     have k3:=cell_regrown C3.out
     have v3:=cell_regrown D3.out
     simp only[Nat.add_zero] at k0 v0
     refine wp_region_quiet_below (by kernel_rfl) (by kernel_rfl) ?_
     repeat (go_big_quiet_step (fail))
     refine wpQuiet_nil ?_
     intro w2 ab
     obtain⟨⟨dq,aa⟩,z⟩:=ab
     have T2:Hid (TwoM w b1 b2 S1 S2 m m w2):=by show TwoM _ _ _ _ _ _ _ _;rw[z];exact T.out.later (below_regrown wr dq aa)
     clear z kc kd c0 U X V O cf d0 N Q Y M df Z ac k0 v0 C0 D0 k1 v1 C1 D1 k2 v2 C2 D2 k3 v3 C3 D3
     cases b with
     |false=>exact absurd BT.out (by decide)
     |true=>
      go_wp2
      go_roundg (gk-1)
      case rel=>exact⟨L,rfl,by have:=HJ.out;omega,T2.out⟩
      case measure=>omega
    ·have o: ¬(j:Int)<(m.ep.length:Int):=by omega
     obtain rfl:j=m.ep.length:=by omega
     clear o I hj
     go_wp2
     go_loopg [7] m.st.length (fun k i wr=>∃j:Nat,i= .int .i64 j∧j+k=m.st.length∧TwoM w b1 b2 S1 S2 m m wr)
     case atStart=>exact⟨0,rfl,by omega,T.out⟩
     case round=>
      obtain⟨j,rfl,hj,hT⟩:=hrel
      clear T c0 U X V O cf d0 N Q Y M df
      have T:=zc hT
      clear hT
      obtain⟨c0,U,X,V,O,cf⟩:=zaa T.out.1
      obtain⟨d0,N,Q,Y,M,df⟩:=zaa T.out.2.1
      by_cases I:j<m.st.length
      ·have o:(j:Int)<(m.st.length:Int):=by omega
       obtain⟨x,hx⟩:=zch I
       obtain⟨g1,ga,E⟩:=OwnR.elem (f:=smL) (m:=3) (fun _=>rfl) T.out.2.2.1.st hx
       obtain⟨g2,gb,D⟩:=OwnR.elem (f:=smL) (m:=3) (fun _=>rfl) T.out.2.2.2.1.st hx
       rw[ga] at V
       rw[gb] at Y
       obtain⟨y,hy⟩: ∃y,y=x:=⟨_,rfl⟩
       rw[←hy] at D
       obtain⟨b,H⟩: ∃b,zdk x y=b:=⟨_,rfl⟩
       have BT:Hid (b=true):=by show _=_;rw[←H,hy];exact zi7.2 rfl
       have C0:=zc (E 0 (by omega))
       have D0:=zc (D 0 (by omega))
       have C1:=zc (E 1 (by omega))
       have D1:=zc (D 1 (by omega))
       have C2:=zc (E 2 (by omega))
       have D2:=zc (D 2 (by omega))
       clear E D ga gb hx
       obtain⟨L,J⟩: ∃L,L=j+1:=⟨_,rfl⟩
       have ej:(j:Int)+1=(L:Int):=by omega
       have HJ:=zc J
       clear J
       have Z: ∀W:World,Sem.run Tryz.prog (binOp .neq 79 (.agg #[.int .i64 x.kind,.string x.name,.int .i64 x.expr]) (.agg #[.int .i64 y.kind,.string y.name,.int .i64 y.expr])) W= .ok (.bool !b) W:=fun W=>by rw[aj,H]
       have ac: ∀(K:BinOp) (a b:Operand) (W:World),Sem.run Tryz.prog (eqGuard K 79 a b (.agg #[.int .i64 x.kind,.string x.name,.int .i64 x.expr]) (.agg #[.int .i64 y.kind,.string y.name,.int .i64 y.expr])) W= .ok () W:=fun K a b W=>af K a b x y W
       clear hy
       go_wp2
       have kc:=cell_regrown V
       have kd:=cell_regrown Y
       have k0:=cell_regrown C0.out
       have v0:=cell_regrown D0.out
       have k1:=cell_regrown C1.out
       have v1:=cell_regrown D1.out
       have k2:=cell_regrown C2.out
       have v2:=cell_regrown D2.out
       simp only[Nat.add_zero] at k0 v0
       refine wp_region_quiet_below (by kernel_rfl) (by kernel_rfl) ?_
       repeat (go_big_quiet_step (fail))
       refine wpQuiet_nil ?_
       intro w2 ab
       obtain⟨⟨dq,aa⟩,z⟩:=ab
       have T2:Hid (TwoM w b1 b2 S1 S2 m m w2):=by show TwoM _ _ _ _ _ _ _ _;rw[z];exact T.out.later (below_regrown wr dq aa)
       clear z kc kd c0 U X V O cf d0 N Q Y M df Z ac k0 v0 C0 D0 k1 v1 C1 D1 k2 v2 C2 D2
       cases b with
       |false=>exact absurd BT.out (by decide)
       |true=>
        go_wp2
        go_roundg (gk-1)
        case rel=>exact⟨L,rfl,by have:=HJ.out;omega,T2.out⟩
        case measure=>omega
      ·have o: ¬(j:Int)<(m.st.length:Int):=by omega
       obtain rfl:j=m.st.length:=by omega
       clear o I hj
       go_wp2
       go_loopg [8] m.ex.length (fun k i wr=>∃j:Nat,i= .int .i64 j∧j+k=m.ex.length∧TwoM w b1 b2 S1 S2 m m wr)
       case atStart=>exact⟨0,rfl,by omega,T.out⟩
       case round=>
        obtain⟨j,rfl,hj,hT⟩:=hrel
        clear T c0 U X V O cf d0 N Q Y M df
        have T:=zc hT
        clear hT
        obtain⟨c0,U,X,V,O,cf⟩:=zaa T.out.1
        obtain⟨d0,N,Q,Y,M,df⟩:=zaa T.out.2.1
        by_cases I:j<m.ex.length
        ·have o:(j:Int)<(m.ex.length:Int):=by omega
         obtain⟨x,hx⟩:=zch I
         obtain⟨g1,ga,E⟩:=OwnR.elem (f:=exL) (m:=6) (fun _=>rfl) T.out.2.2.1.ex hx
         obtain⟨g2,gb,D⟩:=OwnR.elem (f:=exL) (m:=6) (fun _=>rfl) T.out.2.2.2.1.ex hx
         rw[ga] at O
         rw[gb] at M
         obtain⟨y,hy⟩: ∃y,y=x:=⟨_,rfl⟩
         rw[←hy] at D
         obtain⟨b,H⟩: ∃b,zdl x y=b:=⟨_,rfl⟩
         have BT:Hid (b=true):=by show _=_;rw[←H,hy];exact zi8.2 rfl
         have C0:=zc (E 0 (by omega))
         have D0:=zc (D 0 (by omega))
         have C1:=zc (E 1 (by omega))
         have D1:=zc (D 1 (by omega))
         have C2:=zc (E 2 (by omega))
         have D2:=zc (D 2 (by omega))
         have C3:=zc (E 3 (by omega))
         have D3:=zc (D 3 (by omega))
         have C4:=zc (E 4 (by omega))
         have D4:=zc (D 4 (by omega))
         have C5:=zc (E 5 (by omega))
         have D5:=zc (D 5 (by omega))
         clear E D ga gb hx
         obtain⟨L,J⟩: ∃L,L=j+1:=⟨_,rfl⟩
         have ej:(j:Int)+1=(L:Int):=by omega
         have HJ:=zc J
         clear J
         have Z: ∀W:World,Sem.run Tryz.prog (binOp .neq 81 (.agg #[.int .i64 x.kind,.int .i64 x.num,.string x.name,.string x.field,.int .i64 x.l,.int .i64 x.r]) (.agg #[.int .i64 y.kind,.int .i64 y.num,.string y.name,.string y.field,.int .i64 y.l,.int .i64 y.r])) W= .ok (.bool !b) W:=fun W=>by rw[ah,H]
         have ac: ∀(K:BinOp) (a b:Operand) (W:World),Sem.run Tryz.prog (eqGuard K 81 a b (.agg #[.int .i64 x.kind,.int .i64 x.num,.string x.name,.string x.field,.int .i64 x.l,.int .i64 x.r]) (.agg #[.int .i64 y.kind,.int .i64 y.num,.string y.name,.string y.field,.int .i64 y.l,.int .i64 y.r])) W= .ok () W:=fun K a b W=>ad K a b x y W
         clear hy
         go_wp2
         have kc:=cell_regrown O
         have kd:=cell_regrown M
         have k0:=cell_regrown C0.out
         have v0:=cell_regrown D0.out
         have k1:=cell_regrown C1.out
         have v1:=cell_regrown D1.out
         have k2:=cell_regrown C2.out
         have v2:=cell_regrown D2.out
         have k3:=cell_regrown C3.out
         have v3:=cell_regrown D3.out
         have k4:=cell_regrown C4.out
         have v4:=cell_regrown D4.out
         have k5:=cell_regrown C5.out
         have v5:=cell_regrown D5.out
         simp only[Nat.add_zero] at k0 v0
         refine wp_region_quiet_below (by kernel_rfl) (by kernel_rfl) ?_
         repeat (go_big_quiet_step (fail))
         refine wpQuiet_nil ?_
         intro w2 ab
         obtain⟨⟨dq,aa⟩,z⟩:=ab
         have T2:Hid (TwoM w b1 b2 S1 S2 m m w2):=by show TwoM _ _ _ _ _ _ _ _;rw[z];exact T.out.later (below_regrown wr dq aa)
         clear z kc kd c0 U X V O cf d0 N Q Y M df Z ac k0 v0 C0 D0 k1 v1 C1 D1 k2 v2 C2 D2 k3 v3 C3 D3 k4 v4 C4 D4 k5 v5 C5 D5
         cases b with
         |false=>exact absurd BT.out (by decide)
         |true=>
          go_wp2
          go_roundg (gk-1)
          case rel=>exact⟨L,rfl,by have:=HJ.out;omega,T2.out⟩
          case measure=>omega
        ·have o: ¬(j:Int)<(m.ex.length:Int):=by omega
         obtain rfl:j=m.ex.length:=by omega
         clear o I hj
         go_wp2
         go_ret
         exact⟨rfl,T.out.2.2.2.2⟩
def KG {α:Type} (R:PS→PS→Prop) (p:α→PS) (x:Except Nat α) (q:PS):Prop:=∀a,x= .ok a→R q (p a)
def zlh (C:Cx) (k:Int) (n:ByteArray):Prop:=n=sNone∨k=1∨∃i o,plainB C i o=true∧n=(zf C i).text
structure Kept (C:Cx) (R:PS→PS→Prop):Prop where
 rfl': ∀q,R q q
 tr: ∀{a b c},R a b→R b c→R a c
 adv: ∀q,R q (adv q)
 ex: ∀x q,KG R id (zJ C x q) q
 im: ∀x q,KG R id (zX C x q) q
 ep: ∀x q,KG R id (zm C x q) q
 sp: ∀q,KG R Prod.fst (zy C q) q
 st: ∀k n q,zlh C k n→KG R id (zE C k n q) q
theorem KG.bd {C:Cx} {R:PS→PS→Prop} {α β:Type} (H:Kept C R) {p:α→PS} {r:β→PS} {x:Except Nat α} {f:α→Except Nat β} {q:PS} (h:KG R p x q) (k: ∀a,x= .ok a→KG R r (f a) (p a)):KG R r (bd x f) q:=by
 intro b z
 obtain⟨a,j,o⟩:=ze z
 exact H.tr (h a j) (k a j b o)
theorem KG.after {C:Cx} {R:PS→PS→Prop} (H:Kept C R) {α:Type} {r:α→PS} {y:Except Nat α} {q q':PS} (h:R q q') (k:KG R r y q'):KG R r y q:=fun b j=>H.tr h (k b j)
theorem KG.ok {C:Cx} {R:PS→PS→Prop} (H:Kept C R) {α:Type} {p:α→PS} {a:α}:KG R p (.ok a) (p a):=fun b j=>by cases j;exact H.rfl' _
theorem KG.err {R:PS→PS→Prop} {α:Type} {p:α→PS} {e:Nat} {q:PS}:KG R p (.error e) q:=fun b j=>by cases j
theorem zas {C:Cx} {R:PS→PS→Prop} (H:Kept C R) (k:Int) (x:ByteArray) (q:PS):KG R id (zd C k x q) q:=fun a h=>by obtain⟨rfl,_⟩:=zbh h;exact H.adv q
theorem zdD {C:Cx} {R:PS→PS→Prop} (H:Kept C R) (o:Bool) (q:PS):KG R Prod.fst (zk C o q) q:=fun a h=>by obtain⟨rfl,_⟩:=zaX h;exact H.adv q
theorem zli {C:Cx} {R:PS→PS→Prop} (H:Kept C R) (n:ByteArray) (q:PS):KG R id (zau C n q) q:=by
 unfold zau
 split
 ·exact .bd H (.bd H (zas H _ _ _) fun _ _=>zas H _ _ _) fun _ _=>H.ex _ _
 ·exact H.ex _ _
theorem zrw {C:Cx} {R:PS→PS→Prop} (H:Kept C R) (n f:ByteArray) (q:PS):KG R id (za5 C n f q) q:=by
 unfold za5
 split
 ·exact .bd H (.bd H (zas H _ _ _) fun _ _=>zas H _ _ _) fun _ _=>H.ex _ _
 ·exact H.ex _ _
theorem zrx {C:Cx} {R:PS→PS→Prop} (H:Kept C R) (f:Nat): ∀(o:NT) (d:Nat) (q:PS),KG R id (ev C f o d q) q:=by
 induction f with
 |zero=>intro o d q;cases o using NT.elim<;>exact .err
 |succ f j=>
  intro o d q
  cases o using NT.elim<;>rw[ev]
  ·exact .bd H (j _ _ _) fun _ _=>j _ _ _
  ·split
   ·exact .bd H (.bd H (.after H (H.adv q) (j _ _ _)) fun _ _=>H.ex _ _) fun _ _=>j _ _ _
   ·exact .ok (p:=id) H
  ·exact .bd H (j _ _ _) fun _ _=>j _ _ _
  ·split
   ·exact .bd H (.bd H (.after H (H.adv q) (j _ _ _)) fun _ _=>H.ex _ _) fun _ _=>j _ _ _
   ·exact .ok (p:=id) H
  ·split
   ·exact .after H (H.adv q) (H.ex _ _)
   ·split
    ·split
     ·exact .err
     ·exact .bd H (.after H (H.adv q) (j _ _ _)) fun _ _=>zas H _ _ _
    ·split
     ·exact .after H (H.adv q) (zli H _ _)
     ·refine .bd H (zdD H _ _) fun a _=>?_
      split
      ·exact .bd H (.after H (H.adv _) (zdD H _ _)) fun _ _=>zrw H _ _ _
      ·exact zli H _ _
theorem zfo {C:Cx} {R:PS→PS→Prop} (H:Kept C R) (j:NT) (d:Nat) (q:PS):KG R id (pE C j d q) q:=zrx H _ _ _ _
theorem zlj {C:Cx} {R:PS→PS→Prop} (H:Kept C R) {y:PRN} {F:PR→ByteArray→PR} {q:PS} (h:KG R Prod.fst y q) (k: ∀a,y= .ok a→KG R id (F (.ok a.1) a.2) a.1):KG R Prod.fst (withN y F) q:=
 .bd H h fun a j=>.bd (r:=Prod.fst) H (k a j) fun b _=>.ok (p:=Prod.fst) (a:=(b,a.2)) H
theorem zlk {C:Cx} {R:PS→PS→Prop} (H:Kept C R) (q:PS):KG R Prod.fst (zbA C q) q:=
 zlj H (.bd H (zas H _ _ _) fun _ _=>zdD H _ _) fun _ _=>.bd H (.bd H (.bd H (.bd (p:=id) H (.ok (p:=id) H) fun _ _=>zas H _ _ _) fun _ _=>zfo H _ _ _) fun _ _=>zas H _ _ _) fun _ _=>H.st _ _ _ (.inr (.inl rfl))
theorem zll {C:Cx} {k:Int} {o:Bool} {q:PS} {a:PS×ByteArray} (h:zk C o q= .ok a):zlh C k a.2:=by
 obtain⟨rfl,j⟩:=zaX h
 exact .inr (.inr ⟨_,_,j,rfl⟩)
theorem zlm {C:Cx} {R:PS→PS→Prop} (H:Kept C R) (q:PS):KG R Prod.fst (fnP C q) q:=
 zlj H (.bd H (zas H _ _ _) fun _ _=>zdD H _ _) fun a j=>.bd H (.bd H (.bd H (.bd H (.bd H (.bd H (.bd H (.bd (p:=id) H (.ok (p:=id) H) fun _ _=>zas H _ _ _) fun _ _=>zas H _ _ _) fun _ _=>zas H _ _ _) fun _ _=>zas H _ _ _) fun _ _=>zfo H _ _ _) fun _ _=>zas H _ _ _) fun _ _=>zas H _ _ _) fun _ _=>H.st _ _ _ (by
  obtain⟨b,_,o⟩:=ze j
  exact zll o)
theorem zry {C:Cx} {R:PS→PS→Prop} (H:Kept C R) (e:Bool) (a:PS×ByteArray):KG R Prod.fst (asP C e a) a.1:=by
 unfold asP
 split
 ·exact .after H (H.adv _) (zdD H _ _)
 ·split
  ·exact .err
  ·exact .ok (p:=Prod.fst) H
theorem zrz {C:Cx} {R:PS→PS→Prop} (H:Kept C R) (e:Bool) (f:Nat): ∀(q:PS) (acc:List Ep),KG R Prod.fst (zbK C e f q acc) q:=by
 induction f with
 |zero=>intro q acc;exact .err
 |succ f j=>
  intro q acc
  rw[zbK]
  refine .bd H (zdD H _ _) fun a _=>.bd H (zry H _ _) fun b _=>?_
  split
  ·exact .after H (H.adv _) (j _ _)
  ·exact .bd (r:=Prod.fst) H (zas H _ _ _) fun c _=>.ok (p:=Prod.fst) (a:=(c,_)) H
theorem zln {C:Cx} {R:PS→PS→Prop} (H:Kept C R) (e:Bool) (q:PS):KG R Prod.fst (zbB C e q) q:=.bd H (zas H _ _ _) fun _ _=>zrz H _ _ _ _
theorem zgb {C:Cx} {R:PS→PS→Prop} (H:Kept C R) {x:PR} {q:PS} (h:KG R id x q):KG R Prod.fst (zaD C (zav C x)) q:=
 .bd H (.bd H (.bd H h fun _ _=>zas H _ _ _) fun _ _=>H.sp _) fun a _=>.bd (r:=Prod.fst) H (zas H _ _ _) fun c _=>.ok (p:=Prod.fst) (a:=(c,a.2)) H
theorem zi9 {C:Cx} {R:PS→PS→Prop} (H:Kept C R) {α:Type} {f:α→PS→PR} (o: ∀a q,KG R id (f a q) q) (l:List α): ∀(x:PR) (q:PS),KG R id x q→KG R id (zK f l x) q:=by
 induction l with
 |nil=>intro x q h;exact h
 |cons a l j=>intro x q h;exact j _ _ (.bd H h fun _ _=>o _ _)
theorem zr0 {C:Cx} {R:PS→PS→Prop} (H:Kept C R) (q:PS):KG R id (za3 C q) q:=by
 refine .bd H (zas H _ _ _) fun j _=>?_
 split
 ·exact .bd H (zln H _ _) fun a _=>.bd H (zgb H (.ok (p:=id) H)) fun b _=>zi9 H (fun _ _=>H.im _ _) _ _ _ (.ok (p:=id) H)
 ·split
  ·exact .bd H (.bd H (.bd H (zas H _ _ _) fun _ _=>zas H _ _ _) fun _ _=>zdD H _ _) fun a _=>.bd H (zgb H (.ok (p:=id) H)) fun _ _=>H.im _ _
  ·split
   ·exact .bd H (zdD H _ _) fun a _=>.bd H (zgb H (.ok (p:=id) H)) fun _ _=>H.im _ _
   ·exact .bd H (H.sp _) fun _ _=>zas H _ _ _
theorem zr1 {C:Cx} {R:PS→PS→Prop} (H:Kept C R) (q:PS):KG R id (zV C q) q:=by
 refine .bd H (zas H _ _ _) fun j _=>?_
 split
 ·refine .bd H (zln H _ _) fun a _=>?_
  split
  ·exact .bd H (zas H _ _ _) fun _ _=>zi9 H (fun _ _=>H.ep _ _) _ _ _ (.ok (p:=id) H)
  ·exact .bd H (zgb H (.ok (p:=id) H)) fun _ _=>zi9 H (fun _ _=>H.ep _ _) _ _ _ (.ok (p:=id) H)
 ·split
  ·exact .bd H (zgb H (zas H _ _ _)) fun _ _=>H.ep _ _
  ·split
   ·exact .bd H (.bd H (.bd H (.bd H (zas H _ _ _) fun _ _=>zfo H _ _ _) fun _ _=>zas H _ _ _) fun _ _=>H.st _ _ _ (.inr (.inl rfl))) fun _ _=>H.ep _ _
   ·split
    ·exact .bd H (zlk H _) fun _ _=>H.ep _ _
    ·split
     ·exact .bd H (zlm H _) fun _ _=>H.ep _ _
     ·exact .err
theorem zlo {C:Cx} {R:PS→PS→Prop} (H:Kept C R) (s:ByteArray) (k:Int) (q:PS):KG R id (bd (bd (bd (zd C 1 s q) (pE C .sum 0)) (zd C 4 cSemi)) (zE C k sNone)) q:=
 .bd H (.bd H (.bd H (zas H _ _ _) fun _ _=>zfo H _ _ _) fun _ _=>zas H _ _ _) fun _ _=>H.st _ _ _ (.inl rfl)
theorem zr2 {C:Cx} {R:PS→PS→Prop} (H:Kept C R) (q:PS):KG R id (zo C q) q:=by
 unfold zo
 split
 ·exact zr0 H q
 ·split
  ·exact zr1 H q
  ·split
   ·exact .bd H (zlk H q) fun a _=>.ok (p:=id) H
   ·split
    ·exact .bd H (zlm H q) fun a _=>.ok (p:=id) H
    ·split
     ·exact .bd H (.bd H (.bd H (.bd H (.bd H (zas H _ _ _) fun _ _=>zas H _ _ _) fun _ _=>zfo H _ _ _) fun _ _=>zas H _ _ _) fun _ _=>zas H _ _ _) fun _ _=>H.st _ _ _ (.inl rfl)
     ·split
      ·exact zlo H _ _ _
      ·split
       ·exact zlo H _ _ _
       ·exact .bd H (zdD H _ _) fun a j=>.bd H (.bd H (.bd H (zas H _ _ _) fun _ _=>zfo H _ _ _) fun _ _=>zas H _ _ _) fun _ _=>H.st _ _ _ (zll j)
theorem zr3 {C:Cx} {R:PS→PS→Prop} (H:Kept C R) (f:Nat): ∀q,KG R id (zbL C f q) q:=by
 induction f with
 |zero=>intro q;exact .err
 |succ f j=>
  intro q
  rw[zbL]
  split
  ·exact .bd H (zr2 H q) fun _ _=>j _
  ·exact .ok (p:=id) H
theorem zr4 {R:PS→PS→Prop} {s:ByteArray} {scr:Bool} {q:PS} (h:za8 s scr (.ok q)) (H: ∀j,zY s scr (.ok j)→Kept ⟨j,s.size,scr⟩ R):R startP q:=by
 obtain⟨r,o,e⟩:=h
 cases r with
 |error p=>cases e
 |ok j=>exact zr3 (H j o) _ startP q e.symm
abbrev dN:List UInt8:=[42,100,101,102,97,117,108,116]
def zhe (st:List Sm):Prop:=∀s∈st,s.name.toList=dN→s.kind=1
def zlp (ts:List Tk):Prop:=∀t∈ts,t.kind=1→t.text.toList≠dN
theorem zr5 {s:ByteArray} {scr:Bool} {a e:Nat} {t:Tk} (j:a<s.size) (h:Tok s scr a t e):t.kind=1→t.text.toList≠dN:=by
 have H:=(zdJ j h).1
 have E:=(zdJ j h).2.1
 cases h using Tok.elim with
 |name o _=>
  intro _ k
  have D:bt (s.extract a e) 0=42:=by
   rw[zdr,←Lib.toList_data,k]
   rfl
  have z:bt (s.extract a e) 0=bt s a:=by
   rw[zdr,zdr,ByteArray.data_extract]
   simp only[List.getD,List.getElem?_map,Array.getElem?_toList,Array.getElem?_extract]
   rw[if_pos (by have:s.data.size=s.size:=rfl;omega),Nat.add_zero]
  rw[←z,D] at o
  cases scr<;>revert o<;>decide
 |num _ _=>intro k;cases k
 |str _ _=>intro k;cases k
 |sign _=>intro k;cases k
theorem zr6 {s:ByteArray} {scr:Bool} {a n:Nat} {r:Except Nat (List Tk)} (h:Lx s scr a n r): ∀j,r= .ok j→zlp j:=by
 induction h using Lx.ind with
 |done=>intro j k;cases k;intro t o;cases o
 |bad _ _=>intro j k;cases k
 | @tok a n e b t r h E o I H D=>
  intro j k
  cases r with
  |error p=>cases k
  |ok l=>
   cases k
   intro u z
   rcases List.mem_cons.1 z with rfl|z
   ·exact zr5 h o
   ·exact D l rfl u z
theorem zr7 {C:Cx} (z:zlp C.ts) {i:Nat} {o:Bool} (h:plainB C i o=true):(zf C i).text.toList≠dN:=by
 have j:=zed h
 have e:zf C i=C.ts[i]:=by simp[zf,List.getD,List.getElem?_eq_getElem j]
 simp only[plainB,Bool.and_eq_true,beq_iff_eq] at h
 rw[e] at h ⊢
 exact z _ (List.getElem_mem j) h.1
theorem zr8 {k:Int} (h:sNone.toList=dN):k=1:=by
 rw[Lib.toList_data] at h
 cases h
theorem zr9 {s:ByteArray} {scr:Bool} {q:PS} (h:za8 s scr (.ok q)):zhe q.st:=by
 refine zr4 (R:=fun a b=>zhe a.st→zhe b.st) h (fun H E=>?_) (fun s z=>by cases z)
 obtain⟨_,_,E⟩:=E
 have I:=zr6 E H rfl
 refine⟨fun _ h=>h,fun h k x=>k (h x),fun _ h=>h,?_,?_,?_,?_,?_⟩
 ·intro x q a h j
  obtain⟨rfl,_⟩:=zbx h
  exact j
 ·intro x q a h j
  unfold zX at h
  split at h<;>cases h
  exact j
 ·intro x q a h j
  unfold zm at h
  split at h
  ·cases h
  ·split at h<;>cases h<;>exact j
 ·intro q a h j
  unfold zy at h
  split at h
  ·split at h
   ·cases h;exact j
   ·split at h<;>cases h
    exact j
  ·cases h
 ·intro k n q D a h j
  unfold zE at h
  split at h<;>cases h
  intro s z
  rcases List.mem_append.1 z with z|z
  ·exact j s z
  ·rw[List.mem_singleton.1 z]
   intro hd
   rcases D with rfl|D|⟨i,o,J,rfl⟩
   ·exact zr8 hd
   ·exact D
   ·exact absurd hd (zr7 I J)
def PrOf (T:ByteArray) (m:Md) (t:ByteArray):Prop:=(Tree m∧t=T)∨(¬Tree m∧t=sNone)
theorem PrintOut.form {T:ByteArray} {m:Md} {e:Ending} (h:PrintOut T m e): ∃t,PrOf T m t∧e= .returned (.string t):=by
 rcases h with ⟨o,j⟩|⟨o,j⟩
 ·exact⟨T,.inl ⟨o,rfl⟩,j⟩
 ·exact⟨sNone,.inr ⟨o,rfl⟩,j⟩
theorem PrOf.size {T t:ByteArray} {m:Md} {n:Nat} (h:PrOf T m t) (j:Tree m→T.size≤n):t.size≤n:=by
 rcases h with ⟨o,rfl⟩|⟨_,rfl⟩
 ·exact j o
 ·exact Nat.zero_le _
def ziA (t:ByteArray) (scr:Bool) (m:Md):Prop:=∃q,za8 t scr (.ok q)∧zaS q=m
def zrA (T:ByteArray) (m:Md) (scr:Bool) (e:Ending):Prop:=∃t,PrOf T m t∧zc9 (ziA t scr m) e
theorem zrB {t:ByteArray} {scr:Bool} {m:Md} {p:Nat} (h:za8 t scr (.error p)): ¬ziA t scr m:=by
 rintro⟨q,j,_⟩
 cases zdy h j
theorem zrC {t:ByteArray} {scr:Bool} {m n:Md} {q:PS} (h:za8 t scr (.ok q)) (j:n=zaS q):ziA t scr m↔n=m:=by
 constructor
 ·rintro⟨D,z,o⟩
  cases zdy h z
  rw[j]
  exact o
 ·intro e
  exact⟨q,h,by rw[←j];exact e⟩
theorem ParseOut.md {s:ByteArray} {scr:Bool} {w z:World} {e:Ending} (h:ParseOut s scr w e z):
  (∃(q:PS) (S:Sv) (n:Md),za8 s scr (.ok q)∧n=zaS q∧e= .returned (.tuple #[zbM S n,.int .i64 (-1)])∧OwnMd z w.heap.size S n∧zhd n)∨∃p:Nat,za8 s scr (.error p)∧e= .returned (.tuple #[.agg #[.slice none 0 0,.slice none 0 0,.slice none 0 0,.slice none 0 0,.slice none 0 0],.int .i64 p]):=by
 obtain⟨y,D,j⟩:=h
 cases y with
 |ok q=>
  obtain⟨S,E,o⟩:=j
  refine .inl ⟨q,S,zaS q,D,rfl,E,o.md,?_⟩
  have I:=o.inv
  have H:(zaS q).ep.length=q.ep.length+q.la.length:=by show (q.ep++q.la).length=_;rw[List.length_append]
  refine⟨?_,?_,by rw[H];omega,?_,?_⟩
  ·show q.rq.length≤_;omega
  ·show q.im.length≤_;omega
  ·show q.st.length≤_;omega
  ·show q.ex.length≤_;omega
 |error p=>exact .inr ⟨p,D,j⟩
theorem zrD {k:Int} {n e:ByteArray} (h:n.toList=dN→k=1):zcZ k n e=zd4 k n e:=by
 unfold zcZ
 split
 ·next j=>
  have o:=eq_of_beq j
  rw[h o,zd4,if_pos (by decide),if_pos j]
 ·rfl
theorem zrE {α:Type} {f g:α→ByteArray} (l:List α): ∀t,(∀x∈l,f x=g x)→acc f l t=acc g l t:=by
 induction l with
 |nil=>intro t _;rfl
 |cons x l o=>
  intro t h
  show acc f l (t++f x)=acc g l (t++g x)
  rw[h x (List.mem_cons_self ..)]
  exact o _ fun y j=>h y (List.mem_cons_of_mem _ j)
theorem zrF {m:Md} (h:zhe m.st):zbZ m=zcx m:=zrE _ _ fun s j=>zrD (h s j)
end Go.Proofs.YthfeoomfiafldaaGreat
