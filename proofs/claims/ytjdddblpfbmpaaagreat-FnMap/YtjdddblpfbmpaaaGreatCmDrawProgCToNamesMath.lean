/-
  What the specification's draw of a program's text tells: some text,not a long one: the walk.
  A program that was read has no name longer than its text,and no number that is great. No program is spoken of.
-/
import Derived.Test.YtjdddblpfbmpaaaGreatCmDrawBaseToSpoilBase
namespace Go.Proofs.YtjdddblpfbmpaaaGreat
set_option maxRecDepth 100000
set_option maxHeartbeats 6400000
open Go.RowKit Go.PlainAid
theorem zp0 (S:Src) (q:Nat×Int) (s:ByteArray):(zbl S q s).1.size≤s.size+4:=by
 have j:=zpc S q 3 (by omega)
 unfold zbl
 split
 ·simp only[strOfNums_size];omega
 ·split
  ·simp only[ByteArray.size_append,ByteArray.size_extract];omega
  ·split
   ·simp only[ByteArray.size_append,ByteArray.size_extract,strOfNums_size,List.length_cons,List.length_nil];omega
   ·split
    ·simp only[ByteArray.size_extract];omega
    ·simp only[ByteArray.size_append,ByteArray.size_extract,strOfNums_size,List.length_cons,List.length_nil];omega
theorem zp1 (S:Src) (q:S.len≤9223372036854775807) (j:Int) (A:2≤j) (z:j≤1000) (w:World):
  Calls Tryz.prog 72 #[.slice S.a S.len S.cap,.int .i64 j] w fun e w'=>(∃r:Nat,e= .returned (.int .i64 (r:Int))∧(r:Int)≤j)∧w'=w:=by
 go_enter Tryz.func72,Tryz.ntmps72
 by_cases h:j<2+(S.len:Int)/20
 ·go_wp2
  go_ret
  exact⟨⟨j.toNat,by rw[Int.toNat_of_nonneg (by omega)];rfl,by omega⟩,rfl⟩
 ·go_wp2
  go_ret
  exact⟨⟨(2+(S.len:Int)/20).toNat,by rw[Int.toNat_of_nonneg (by omega)];rfl,by omega⟩,rfl⟩
theorem zp2 (S:Src) (X:S.ok) (g:Nat) (j:Nat) (hm:j≤10) (Y:Bool) (V:Nat×Int) (w0:World) (z:zN 137 S w0 g V):
  Calls Tryz.prog 102 #[.pointer (some ⟨g,0,none⟩),.int .i64 (j:Int),.bool Y] w0 (zdt S g 20000 w0):=by
 have ad:=zc z
 have ae:Hid (w0.grownBy w0 (some g)):=⟨rfl,rfl,rfl,Nat.le_refl _,fun _ _ _=>rfl⟩
 clear z
 go_enter Tryz.func102,Tryz.ntmps102
 go_wp2_with fail
 refine (zaJ S X g V ((j:Int)+1) _ ad.out (by omega)).mono ?_
 rintro e w1 ⟨rfl,z,A⟩
 have ab:=zbk S V ((j:Int)+1) (by omega)
 obtain⟨k1,hk⟩: ∃k:Nat,(bw S V ((j:Int)+1)).1=k:=⟨(bw S V ((j:Int)+1)).1.toNat,by omega⟩
 obtain⟨q1,O⟩: ∃q',(bw S V ((j:Int)+1)).2=q':=⟨_,rfl⟩
 rw[hk] at ab ⊢
 rw[O] at z
 have H:=zc z
 have I:=zc (zE ae.out A)
 have kb:k1≤10:=by omega
 clear z A ab hk O
 go_wp2
 go_loopg [7,8] k1 (fun k sv nv wr=>∃(x:ByteArray) (q:Nat×Int),nv= .int .i64 (k:Int)∧sv= .string x∧k≤10∧x.size+1501*k≤15010∧zN 137 S wr g q∧w0.grownBy wr (some g))
 case atStart=>exact⟨_,q1,rfl,rfl,kb,by have:({data:=#[]}:ByteArray).size=0:=rfl;omega,H.out,I.out⟩
 case round=>
  obtain⟨x,q,rfl,rfl,hk,hx,aa,Z⟩:=hrel
  clear H I
  have H:=zc aa
  have I:=zc Z
  clear aa Z
  by_cases ah:0<gk
  ·have ac:0<(gk:Int):=by omega
   go_wp2_with fail
   refine (zpr S X g Y q _ H.out).mono ?_
   rintro e w2 ⟨x2,U,rfl,z2,z,A⟩
   have N:=zc z
   have J:=zc (zE I.out A)
   clear z A
   have hz:(x++x2++({data:=#[10]}:ByteArray)).size=x.size+x2.size+1:=by rw[ByteArray.size_append,ByteArray.size_append];rfl
   have ai:(x++x2).size=x.size+x2.size:=ByteArray.size_append
   have ek:(gk:Int)-1=((gk-1:Nat):Int):=by omega
   go_wp2
   go_roundg (gk-1)
   case rel=>exact⟨_,U,rfl,rfl,by omega,by omega,N.out,J.out⟩
   case measure=>omega
  ·have ac: ¬0<(gk:Int):=by omega
   go_wp2_with fail
   refine (zcT S X g _ 6 _ H.out (by omega)).mono ?_
   rintro e w2 ⟨rfl,z,A⟩
   obtain⟨U,O⟩: ∃q',(bw S q 6).2=q':=⟨_,rfl⟩
   rw[O] at z
   have N:=zc z
   have J:=zc (zE I.out A)
   clear z A O
   generalize ((bw S q 6).1==0)=b
   cases b with
   |true=>
    go_wp2_with fail
    refine (zpz S X g U x _ N.out (by omega)).mono ?_
    rintro e w3 ⟨rfl,z,A⟩
    have hs:=zp0 S U x
    have L:=zc z
    have M:=zc (zE J.out A)
    clear z A
    generalize zbl S U x=y at*
    go_wp2
    go_ret
    exact⟨y.1,y.2,rfl,by omega,L.out,M.out⟩
   |false=>
    go_wp2_with fail
    refine (zcT S X g _ 15 _ N.out (by omega)).mono ?_
    rintro e w3 ⟨rfl,z,A⟩
    obtain⟨q3,O⟩: ∃q',(bw S U 15).2=q':=⟨_,rfl⟩
    rw[O] at z
    have L:=zc z
    have M:=zc (zE J.out A)
    clear z A O
    generalize ((bw S U 15).1==0)=b
    cases b with
    |true=>
     go_wp2_with fail
     refine (zbe S X g _ 100 [{data:=#[105,109,112,111,114,116,32,100,101,102,97,117,108,116,32,102,114,111,109,32,34,120,34,59]},{data:=#[101,120,112,111,114,116,32,123,32,100,101,102,97,117,108,116,32,125,59]},{data:=#[105,109,112,111,114,116,32,123,32,100,101,102,97,117,108,116,32,125,32,102,114,111,109,32,34,120,34,59]},{data:=#[108,101,116,32,108,101,116,32,61,32,49,59]},{data:=#[112,114,105,110,116,40,49,59]},{data:=#[97,32,61,32,59]},{data:=#[101,120,112,111,114,116]},{data:=#[102,97,105,108,32,49,59]},{data:=#[108,101,116,32,117,110,100,101,102,32,61,32,49,59]},{data:=#[105,109,112,111,114,116,32,123,32,97,32,97,115,32,100,101,102,97,117,108,116,32,125,32,102,114,111,109,32,34,120,34,59]},{data:=#[112,114,105,110,116,40,40,40,40,40,40,40,40,40,40,40,40,40,40,40,40,40,40,40,40,40,40,49,41,41,41,41,41,41,41,41,41,41,41,41,41,41,41,41,41,41,41,41,41,41,59]}] _ L.out (by simp) (by simp) (by intro x hx;simp only[List.mem_cons,List.not_mem_nil,or_false] at hx;rcases hx with rfl|rfl|rfl|rfl|rfl|rfl|rfl|rfl|rfl|rfl|rfl<;>decide)).mono ?_
     rintro e w4 ⟨x4,q4,rfl,z4,z,A⟩
     have af:=zc z
     have ag:=zc (zE M.out A)
     clear z A
     have hz:(x++x4).size=x.size+x4.size:=ByteArray.size_append
     go_wp2
     go_ret
     exact⟨_,q4,rfl,by omega,af.out,ag.out⟩
    |false=>
     go_wp2
     go_ret
     exact⟨x,q3,rfl,by omega,L.out,M.out⟩
def zcU (N:Nat) (x:Ep):Prop:=x.name.size≤N∧x.loc.size≤N∧x.spec.size≤N
def zfC (N:Nat) (x:Ex):Prop:=x.name.size≤N∧x.field.size≤N∧0≤x.num∧x.num≤1000000
structure BS (N:Nat) (q:PS):Prop where
 rq: ∀x∈q.rq,x.size≤N
 im: ∀x∈q.im,x.spec.size≤N∧x.first.size≤N∧x.loc.size≤N
 ep: ∀x∈q.ep,zcU N x
 la: ∀x∈q.la,zcU N x
 st: ∀x∈q.st,x.name.size≤N
 ex: ∀x∈q.ex,zfC N x
def BT (N:Nat) (ts:List Tk):Prop:=∀t∈ts,t.text.size≤N∧0≤t.num∧t.num≤1000000
theorem zp3 {s:ByteArray} {z:Bool} {a e:Nat} {t:Tk} (h:Tok s z a t e):t.text.size≤s.size∧0≤t.num∧t.num≤1000000:=by
 cases h using Tok.elim with
 |name _ _=>exact⟨by simp only[ByteArray.size_extract];omega,by simp,by simp⟩
 |num h q=>
  refine⟨Nat.zero_le _,?_,q.2.2.2.2.1⟩
  have:=zhi (s:=s) (a:=a) 0 (e-a) (fun j A=>by
   have:=q.1.2.2.1 (a+j) (by omega) (by omega)
   rw[zc7] at this
   exact this.1) (Nat.zero_le _)
  rw[q.2.2.2.1]
  exact this.2
 |str _ _=>exact⟨by simp only[ByteArray.size_extract];omega,by simp,by simp⟩
 |sign _=>exact⟨by simp only[ByteArray.size_extract];omega,by simp,by simp⟩
theorem zp4 {s:ByteArray} {q:Bool} {a n:Nat} {r:Except Nat (List Tk)} (h:Lx s q a n r): ∀j,r= .ok j→BT s.size j:=by
 induction h using Lx.ind with
 |done=>intro j k;cases k;intro t A;cases A
 |bad _ _=>intro j k;cases k
 | @tok a n e b t r h L A J I H=>
  intro j k
  cases r with
  |error p=>cases k
  |ok l=>
   cases k
   intro u z
   rcases List.mem_cons.1 z with rfl|z
   ·exact zp3 A
   ·exact H l rfl u z
theorem zfD {N:Nat} {C:Cx} (q:BT N C.ts) (i:Nat):(ze C i).text.size≤N∧0≤(ze C i).num∧(ze C i).num≤1000000:=by
 by_cases j:i<C.ts.length
 ·have e:ze C i=C.ts[i]:=by simp[ze,List.getD,List.getElem?_eq_getElem j]
  rw[e]
  exact q _ (List.getElem_mem j)
 ·rw[zdF (by omega)]
  exact⟨Nat.zero_le _,by simp,by simp⟩
theorem zcV {N:Nat} {q:PS} (h:BS N q):BS N (adv q):=⟨h.rq,h.im,h.ep,h.la,h.st,h.ex⟩
theorem zax {N:Nat} {C:Cx} {k:Int} {x:ByteArray} {q q':PS} (h:zd C k x q= .ok q') (j:BS N q):BS N q':=by
 obtain⟨rfl,_⟩:=zbL h
 exact zcV j
theorem zdB {N:Nat} {C:Cx} (j:BT N C.ts) {o:Bool} {q:PS} {y:PS×ByteArray} (h:zo C o q= .ok y) (z:BS N q):BS N y.1∧y.2.size≤N:=by
 obtain⟨rfl,_⟩:=zbq h
 exact⟨zcV z,(zfD j _).1⟩
theorem zek {N:Nat} {C:Cx} {x:Ex} {q q':PS} (h:zQ C x q= .ok q') (z:BS N q) (A:zfC N x):BS N q':=by
 obtain⟨rfl,_⟩:=zbr h
 refine⟨z.rq,z.im,z.ep,z.la,z.st,fun y j=>?_⟩
 rcases List.mem_append.1 j with j|j
 ·exact z.ex y j
 ·rw[List.mem_singleton] at j
  rw[j]
  exact A
theorem zeJ {N:Nat} {k l r:Int} {n f:ByteArray} (q:n.size≤N) (j:f.size≤N):zfC N ⟨k,0,n,f,l,r⟩:=⟨q,j,Int.le_refl _,by simp⟩
theorem zkb {N:Nat} {C:Cx} {n:ByteArray} {q q':PS} (h:zbp C n q= .ok q') (j:BS N q) (z:n.size≤N):BS N q':=by
 unfold zbp at h
 split at h
 ·obtain⟨a,I,A⟩:=zf h
  obtain⟨b,J,H⟩:=zf I
  exact zek A (zax H (zax J j)) (zeJ z (Nat.zero_le _))
 ·exact zek h j (zeJ z (Nat.zero_le _))
theorem zp5 {N:Nat} {C:Cx} {n f:ByteArray} {q q':PS} (h:zbG C n f q= .ok q') (z:BS N q) (A:n.size≤N) (j:f.size≤N):BS N q':=by
 unfold zbG at h
 split at h
 ·obtain⟨a,J,H⟩:=zf h
  obtain⟨b,L,I⟩:=zf J
  exact zek H (zax I (zax L z)) (zeJ A j)
 ·exact zek h z (zeJ A j)
theorem zp6 {N:Nat} {C:Cx} (M:BT N C.ts) (X:8≤N) (f:Nat): ∀(J:NT) (d:Nat) (q q':PS),ev C f J d q= .ok q'→BS N q→BS N q':=by
 induction f with
 |zero=>intro J d q q' h;cases J using NT.elim<;>cases h
 |succ f H=>
  intro J d q q' h A
  cases J using NT.elim with
  |sum=>
   rw[ev] at h
   obtain⟨a,z,j⟩:=zf h
   exact H _ _ _ _ j (H _ _ _ _ z A)
  |prod=>
   rw[ev] at h
   obtain⟨a,z,j⟩:=zf h
   exact H _ _ _ _ j (H _ _ _ _ z A)
  |sumT=>
   rw[ev] at h
   split at h
   ·obtain⟨a,z,j⟩:=zf h
    obtain⟨b,L,I⟩:=zf z
    exact H _ _ _ _ j (zek I (H _ _ _ _ L (zcV A)) (zeJ (Nat.zero_le _) (Nat.zero_le _)))
   ·cases h
    exact A
  |prodT=>
   rw[ev] at h
   split at h
   ·obtain⟨a,z,j⟩:=zf h
    obtain⟨b,L,I⟩:=zf z
    exact H _ _ _ _ j (zek I (H _ _ _ _ L (zcV A)) (zeJ (Nat.zero_le _) (Nat.zero_le _)))
   ·cases h
    exact A
  |part=>
   rw[ev] at h
   split at h
   ·exact zek h (zcV A) ⟨Nat.zero_le _,Nat.zero_le _,(zfD M _).2⟩
   ·split at h
    ·split at h
     ·cases h
     ·obtain⟨a,z,j⟩:=zf h
      exact zax j (H _ _ _ _ z (zcV A))
    ·split at h
     ·exact zkb h (zcV A) (Nat.le_trans (show 5≤8 by omega) X)
     ·obtain⟨a,z,j⟩:=zf h
      obtain⟨O,U⟩:=zdB M z A
      split at j
      ·obtain⟨b,L,I⟩:=zf j
       obtain⟨Y,V⟩:=zdB M L (zcV O)
       exact zp5 I Y U V
      ·exact zkb j O U
theorem zeK {N:Nat} {C:Cx} (A:BT N C.ts) (j:8≤N) {z:NT} {d:Nat} {q q':PS} (h:pE C z d q= .ok q') (H:BS N q):BS N q':=zp6 A j _ _ _ _ _ h H
theorem zkc {N:Nat} {C:Cx} (A:BT N C.ts) {q:PS} {a:PS×ByteArray} (h:zF C q= .ok a) (j:BS N q):BS N a.1∧a.2.size≤N:=by
 unfold zF at h
 split at h
 ·split at h
  ·cases h
   exact⟨zcV j,(zfD A _).1⟩
  ·split at h
   ·cases h
   ·cases h
    refine⟨⟨fun x z=>?_,j.im,j.ep,j.la,j.st,j.ex⟩,(zfD A _).1⟩
    rcases List.mem_append.1 z with z|z
    ·exact j.rq x z
    ·rw[List.mem_singleton] at z
     rw[z]
     exact (zfD A _).1
 ·cases h
theorem zeL {N:Nat} {C:Cx} {k:Int} {n:ByteArray} {q q':PS} (h:zU C k n q= .ok q') (z:BS N q) (A:n.size≤N):BS N q':=by
 unfold zU at h
 split at h
 ·cases h
 ·cases h
  refine⟨z.rq,z.im,z.ep,z.la,fun x j=>?_,z.ex⟩
  rcases List.mem_append.1 j with j|j
  ·exact z.st x j
  ·rw[List.mem_singleton] at j
   rw[j]
   exact A
theorem zhP {N:Nat} {C:Cx} {y:Im} {q q':PS} (h:zal C y q= .ok q') (z:BS N q) (A:y.spec.size≤N∧y.first.size≤N∧y.loc.size≤N):BS N q':=by
 unfold zal at h
 split at h
 ·cases h
 ·cases h
  refine⟨z.rq,fun x j=>?_,z.ep,z.la,z.st,z.ex⟩
  rcases List.mem_append.1 j with j|j
  ·exact z.im x j
  ·rw[List.mem_singleton] at j
   rw[j]
   exact A
theorem zdO {α:Type} {P:α→Prop} {l:List α} {y:α} (h: ∀x∈l,P x) (q:P y): ∀x∈l++[y],P x:=fun x j=>by
 rcases List.mem_append.1 j with j|j
 ·exact h x j
 ·rw[List.mem_singleton] at j
  rw[j]
  exact q
theorem zeM {N:Nat} {C:Cx} {y:Ep} {q q':PS} (h:zq C y q= .ok q') (j:BS N q) (z:zcU N y):BS N q':=by
 unfold zq at h
 split at h
 ·cases h
 ·split at h
  ·cases h
   exact⟨j.rq,j.im,j.ep,zdO j.la z,j.st,j.ex⟩
  ·cases h
   exact⟨j.rq,j.im,zdO j.ep z,j.la,j.st,j.ex⟩
theorem zp7 {α:Type} {f:α→PS→PR} (l:List α): ∀(x:PR) (q':PS),zV f l x= .ok q'→∃q,x= .ok q∧True:=by
 induction l with
 |nil=>intro x q' h;exact⟨q',h,trivial⟩
 |cons a l z=>
  intro x q' h
  obtain⟨b,j,_⟩:=z _ _ h
  obtain⟨c,A,_⟩:=zf j
  exact⟨c,A,trivial⟩
theorem zhQ {α:Type} {N:Nat} {f:α→PS→PR} (l:List α) (H: ∀a∈l,∀q q',f a q= .ok q'→BS N q→BS N q'): ∀(q q':PS),zV f l (.ok q)= .ok q'→BS N q→BS N q':=by
 induction l with
 |nil=>intro q q' h A;cases h;exact A
 |cons a l I=>
  intro q q' h A
  have z:zV f l (f a q)= .ok q':=h
  cases j:f a q with
  |error e=>
   rw[j] at z
   obtain⟨c,J,_⟩:=zp7 l _ _ z
   cases J
  |ok b=>
   rw[j] at z
   exact I (fun x L=>H x (List.mem_cons_of_mem _ L)) b q' z (H a (List.mem_cons_self ..) q b j A)
theorem zp8 {N:Nat} {C:Cx} (A:BT N C.ts) {j:Bool} {a b:PS×ByteArray} (h:asP C j a= .ok b) (q:BS N a.1) (z:a.2.size≤N):BS N b.1∧b.2.size≤N:=by
 unfold asP at h
 split at h
 ·exact zdB A h (zcV q)
 ·split at h
  ·cases h
  ·cases h
   exact⟨q,z⟩
theorem zp9 {N:Nat} {C:Cx} (I:BT N C.ts) {A:Bool} (f:Nat): ∀(q:PS) (acc:List Ep) (a:PS×List Ep),zcL C A f q acc= .ok a→BS N q→(∀x∈acc,zcU N x)→BS N a.1∧∀x∈a.2,zcU N x:=by
 induction f with
 |zero=>intro q acc a h;cases h
 |succ f X=>
  intro q acc a h V j
  rw[zcL] at h
  obtain⟨b,Z,Y⟩:=zf h
  obtain⟨c,h3,z⟩:=zf Y
  obtain⟨U,J⟩:=zdB I Z V
  obtain⟨L,M⟩:=zp8 I h3 U J
  have H: ∀x∈acc++[(⟨0,c.2,b.2,sNone⟩:Ep)],zcU N x:=zdO j ⟨M,J,Nat.zero_le _⟩
  split at z
  ·exact X _ _ _ z (zcV L) H
  ·obtain⟨d,h5,O⟩:=zf z
   cases O
   exact⟨zax h5 L,H⟩
theorem zkd {N:Nat} {C:Cx} (z:BT N C.ts) {j:Bool} {q:PS} {a:PS×List Ep} (h:zcM C j q= .ok a) (A:BS N q):BS N a.1∧∀x∈a.2,zcU N x:=by
 obtain⟨b,I,H⟩:=zf h
 exact zp9 z _ _ _ _ H (zax I A) fun x J=>by cases J
theorem zfE {N:Nat} {C:Cx} (H:BT N C.ts) {x:PR} {b:PS×ByteArray} (h:zba C (zaI C x)= .ok b): ∃q,x= .ok q∧(BS N q→BS N b.1∧b.2.size≤N):=by
 obtain⟨a,O,L⟩:=zf h
 obtain⟨c,X,M⟩:=zf L
 obtain⟨d,V,z⟩:=zf O
 obtain⟨e,U,J⟩:=zf V
 cases M
 refine⟨e,U,fun I=>?_⟩
 obtain⟨j,A⟩:=zkc H z (zax J I)
 exact⟨zax X j,A⟩
theorem zpA {N:Nat} {C:Cx} (j:BT N C.ts) (hN:8≤N) {q q':PS} (h:zaX C q= .ok q') (hq:BS N q):BS N q':=by
 obtain⟨q1,h1,z⟩:=zf h
 have X:=zax h1 hq
 split at z
 ·obtain⟨a,L,I⟩:=zf z
  obtain⟨b,O,U⟩:=zf I
  obtain⟨l1,l2⟩:=zkd j L X
  obtain⟨d,Y,A⟩:=zfE j O
  cases Y
  obtain⟨M,V⟩:=A l1
  exact zhQ _ (fun x hx p p' hp hb=>zhP hp hb ⟨V,(l2 x hx).2.1,(l2 x hx).1⟩) _ _ U M
 ·split at z
  ·obtain⟨a,L,I⟩:=zf z
   obtain⟨b,O,U⟩:=zf I
   obtain⟨c,h7,h8⟩:=zf L
   obtain⟨d,Y,A⟩:=zf h7
   obtain⟨Z,n2⟩:=zdB j h8 (zax A (zax Y X))
   obtain⟨f,J,H⟩:=zfE j O
   cases J
   obtain⟨M,V⟩:=H Z
   exact zhP U M ⟨V,Nat.le_trans (show 1≤8 by omega) hN,n2⟩
  ·split at z
   ·obtain⟨a,L,I⟩:=zf z
    obtain⟨b,O,U⟩:=zf I
    obtain⟨Z,n2⟩:=zdB j L X
    obtain⟨f,J,H⟩:=zfE j O
    cases J
    obtain⟨M,V⟩:=H Z
    exact zhP U M ⟨V,Nat.le_trans (show 7≤8 by omega) hN,n2⟩
   ·obtain⟨a,L,I⟩:=zf z
    exact zax I (zkc j L X).1
theorem zke {N:Nat} {C:Cx} (I:BT N C.ts) (hN:8≤N) {q:PS} {a:PS×ByteArray} (h:zc9 C q= .ok a) (U:BS N q):BS N a.1∧a.2.size≤N:=by
 obtain⟨b,Z,V⟩:=zf h
 obtain⟨z,j,H⟩:=zf V
 cases H
 obtain⟨c,h3,X⟩:=zf Z
 obtain⟨d,h5,L⟩:=zf j
 obtain⟨f,h7,O⟩:=zf h5
 obtain⟨g,M,A⟩:=zf h7
 obtain⟨Y,J⟩:=zdB I X (zax h3 U)
 exact⟨zeL L (zax O (zeK I hN A (zax (show zd C 4 cEq b.1= .ok g from M) Y))) J,J⟩
theorem zkf {N:Nat} {C:Cx} (Z:BT N C.ts) (hN:8≤N) {q:PS} {a:PS×ByteArray} (h:fnP C q= .ok a) (hq:BS N q):BS N a.1∧a.2.size≤N:=by
 obtain⟨b,h1,h2⟩:=zf h
 obtain⟨z,A,U⟩:=zf h2
 cases U
 obtain⟨c,h3,h4⟩:=zf h1
 obtain⟨d,h5,h6⟩:=zf A
 obtain⟨f,h7,h8⟩:=zf h5
 obtain⟨g,h9,L⟩:=zf h7
 obtain⟨i,V,M⟩:=zf h9
 obtain⟨j,H,I⟩:=zf V
 obtain⟨k,O,X⟩:=zf H
 obtain⟨l,J,Y⟩:=zf O
 obtain⟨n1,n2⟩:=zdB Z h4 (zax h3 hq)
 exact⟨zeL h6 (zax h8 (zax L (zeK Z hN M (zax I (zax X (zax Y (zax (show zd C 4 zr b.1= .ok l from J) n1))))))) n2,n2⟩
theorem zpB {N:Nat} {C:Cx} (O:BT N C.ts) (U:8≤N) {q q':PS} (h:zam C q= .ok q') (hq:BS N q):BS N q':=by
 obtain⟨q1,h1,j⟩:=zf h
 have Y:=zax h1 hq
 split at j
 ·obtain⟨a,L,A⟩:=zf j
  obtain⟨l1,Z⟩:=zkd O L Y
  split at A
  ·obtain⟨b,J,M⟩:=zf A
   exact zhQ (f:=fun e=>zq C (zD e)) _ (fun x V p p' hp hb=>zeM (y:=zD x) hp hb ⟨(Z x V).1,(Z x V).2.1,Nat.zero_le _⟩) _ _ M (zax J l1)
  ·obtain⟨b,J,M⟩:=zf A
   obtain⟨d,X,z⟩:=zfE O J
   cases X
   obtain⟨I,H⟩:=z l1
   exact zhQ (f:=fun e=>zq C (zap b.2 e)) _ (fun x V p p' hp hb=>zeM (y:=zap b.2 x) hp hb ⟨(Z x V).1,(Z x V).2.1,H⟩) _ _ M I
 ·split at j
  ·obtain⟨b,J,M⟩:=zf j
   obtain⟨d,X,z⟩:=zfE O J
   obtain⟨I,H⟩:=z (zax X Y)
   exact zeM M I ⟨Nat.zero_le _,Nat.zero_le _,H⟩
  ·split at j
   ·obtain⟨a,L,A⟩:=zf j
    obtain⟨b,J,M⟩:=zf L
    obtain⟨c,h7,h8⟩:=zf J
    obtain⟨d,X,z⟩:=zf h7
    exact zeM A (zeL M (zax h8 (zeK O U z (zax X Y))) U) ⟨Nat.le_trans (show 7≤8 by omega) U,U,Nat.zero_le _⟩
   ·split at j
    ·obtain⟨a,L,A⟩:=zf j
     obtain⟨I,H⟩:=zke O U L Y
     exact zeM A I ⟨H,H,Nat.zero_le _⟩
    ·split at j
     ·obtain⟨a,L,A⟩:=zf j
      obtain⟨I,H⟩:=zkf O U L Y
      exact zeM A I ⟨H,H,Nat.zero_le _⟩
     ·cases j
theorem zkg {N:Nat} {C:Cx} (z:BT N C.ts) (O:8≤N) {s:ByteArray} {k:Int} {q q':PS} (h:bd (bd (bd (zd C 1 s q) (pE C .sum 0)) (zd C 4 cSemi)) (zU C k sNone)= .ok q') (A:BS N q):BS N q':=by
 obtain⟨a,J,H⟩:=zf h
 obtain⟨b,M,I⟩:=zf J
 obtain⟨c,L,j⟩:=zf M
 exact zeL H (zax I (zeK z O j (zax L A))) (Nat.zero_le _)
theorem zpC {N:Nat} {C:Cx} (j:BT N C.ts) (A:8≤N) {q q':PS} (h:zA C q= .ok q') (z:BS N q):BS N q':=by
 unfold zA at h
 split at h
 ·exact zpA j A h z
 ·split at h
  ·exact zpB j A h z
  ·split at h
   ·obtain⟨a,I,H⟩:=zf h
    cases H
    exact (zke j A I z).1
   ·split at h
    ·obtain⟨a,I,H⟩:=zf h
     cases H
     exact (zkf j A I z).1
    ·split at h
     ·obtain⟨a,I,H⟩:=zf h
      obtain⟨b,X,O⟩:=zf I
      obtain⟨c,V,J⟩:=zf X
      obtain⟨d,U,L⟩:=zf V
      obtain⟨e,Y,M⟩:=zf U
      exact zeL H (zax O (zax J (zeK j A L (zax M (zax Y z))))) (Nat.zero_le _)
     ·split at h
      ·exact zkg j A h z
      ·split at h
       ·exact zkg j A h z
       ·obtain⟨a,I,H⟩:=zf h
        obtain⟨b,X,O⟩:=zf H
        obtain⟨c,V,J⟩:=zf X
        obtain⟨d,U,L⟩:=zf V
        obtain⟨Z,n2⟩:=zdB j I z
        exact zeL O (zax J (zeK j A L (zax U Z))) n2
theorem zpD {N:Nat} {C:Cx} (z:BT N C.ts) (J:8≤N) (f:Nat): ∀(q q':PS),zcN C f q= .ok q'→BS N q→BS N q':=by
 induction f with
 |zero=>intro q q' h;cases h
 |succ f A=>
  intro q q' h j
  rw[zcN] at h
  split at h
  ·obtain⟨a,I,H⟩:=zf h
   exact A _ _ H (zpC z J I j)
  ·cases h
   exact j
theorem zpE {s:ByteArray} {j:Bool} {q:PS} {N:Nat} (h:zbs s j (.ok q)) (I:s.size≤N) (J:8≤N):BS N q:=by
 obtain⟨r,⟨a,_,A⟩,e⟩:=h
 cases r with
 |error p=>cases e
 |ok z=>
  refine zpD (C:=⟨z,s.size,j⟩) (fun t H=>?_) J _ _ _ e.symm ⟨?_,?_,?_,?_,?_,?_⟩
  ·have:=zp4 A z rfl t H
   exact⟨Nat.le_trans this.1 I,this.2⟩
  all_goals (intro x L;cases L)
end Go.Proofs.YtjdddblpfbmpaaaGreat
