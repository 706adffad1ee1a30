/-
  What the specification's draws of programs tell: some text,not a long one: the walks.
  What the specification's draw of an item tells: some text,not a long one: the walk.
  The row of the type byte.
  What l1Text of the specification tells: the walk.
  What spec.l1Spoil tells: the walk.
  What the specification's draw of a program's text tells: some text,not a long one: the walk.
  What spec.DrawParse and laws.at tell: some text that is not long,some flag; some byte: the walks.
  Texts made of tokens and of what is passed over between them,and that Lex tells these tokens of them. No program is spoken of.
  Expressions as trees: what is read of tokens is the row of a tree. No program is spoken of.
  A tree's tokens are read as its row. No program is spoken of.
  Two rows of the same tokens are read as the same program,wherever they stand. No program is spoken of.
  Lines of a program's text,as plain functions. No program is spoken of.
  A program's text: its lines,one behind the other. No program is spoken of.
-/
import Derived.Test.YthfeoomfiafldaaGreatCdImplParseJToMdMem
namespace Go.Proofs.YthfeoomfiafldaaGreat
set_option maxRecDepth 100000
set_option maxHeartbeats 12800000
open Go.RowKit Go.PlainAid
def zdN (S:Src) (g N:Nat) (w:World) (e:Ending) (w':World):Prop:=∃x q',e= .returned (.string x)∧x.size≤N∧zae 83 S w' g q'∧w.grownBy w' (some g)
theorem zoH (w:World) (o:Obj) (r:Option Nat):w.grownBy (w.alloc o) r:=⟨rfl,rfl,rfl,by rw[zX];omega,fun k j _=>heap_alloc_old w o j⟩
theorem zoI {S:Src} {w:World} {g:Nat} {q:Nat×Int} (h:zae 83 S w g q) (o:Obj):zae 83 S (w.alloc o) g q:=zdt h ((Below.refl w.heap.size w).alloc (Nat.le_refl _) _) (zdW h)
theorem zbR (S:Src) (M:S.ok) (g:Nat) (q:Nat×Int) (N:Nat) (l:List ByteArray) (w:World) (D:zae 83 S w g q) (H:1≤l.length) (J:l.length≤1000) (L: ∀x∈l,x.size≤N):
  Calls Tryz.prog 34 #[.pointer (some ⟨g,0,none⟩),.slice (some ⟨w.heap.size,0,none⟩) l.length l.length] (w.alloc (.cells (l.map Value.string).toArray 9)) (zdN S g N w):=by
 have O:=zdW D
 refine (znj S M g q w.heap.size l.length N _ (zoI D _) H J (by rw[zX];omega) (by omega) ?_).mono ?_
 ·intro j E
  rw[World.cell?_alloc_new]
  refine⟨l[j],?_,L _ (List.getElem_mem E)⟩
  simp[List.getElem?_eq_getElem E]
 ·rintro e Q ⟨x,I,rfl,K,z,o⟩
  exact⟨x,I,rfl,K,z,zN (zoH w _ _) o⟩
theorem zhV (S:Src) (V:S.ok) (g:Nat) (scr:Bool) (d N:Nat) (hd:d≤2) (hN:N≤100000) (ih:0<d→∀(q:Nat×Int) (w:World),zae 83 S w g q→Calls Tryz.prog 78 #[.pointer (some ⟨g,0,none⟩),.int .i64 ((d:Int)-1),.bool scr] w (zdN S g N w))
  (q0:Nat×Int) (w0:World) (j:zae 83 S w0 g q0):Calls Tryz.prog 78 #[.pointer (some ⟨g,0,none⟩),.int .i64 (d:Int),.bool scr] w0 (zdN S g (2*N+110) w0):=by
 have af:=zc j
 have ae:Hid (w0.grownBy w0 (some g)):=⟨rfl,rfl,rfl,Nat.le_refl _,fun _ _ _=>rfl⟩
 have IH:=zc ih
 clear j ih
 go_enter Tryz.func78,Tryz.ntmps78
 go_wp2_with fail
 refine (zbR S V g _ 100 [{data:=#[97]},{data:=#[98]},{data:=#[120]},{data:=#[102]},{data:=#[103]},{data:=#[110]},{data:=#[100]}] _ af.out (by simp) (by simp) (by intro x L;simp only[List.mem_cons,List.not_mem_nil,or_false] at L;rcases L with rfl|rfl|rfl|rfl|rfl|rfl|rfl<;>decide)).mono ?_
 rintro e w1 ⟨x1,q1,rfl,z1,j,o⟩
 have ah:=zc j
 have ai:=zc (zN ae.out o)
 clear j o
 go_wp2_with fail
 refine (zbI S V g _ 9 _ ah.out (by omega)).mono ?_
 rintro e w2 ⟨rfl,j,o⟩
 have O:=zcB S q1 9 (by omega)
 obtain⟨k2,hk⟩: ∃k:Nat,(bw S q1 9).1=k:=⟨(bw S q1 9).1.toNat,by omega⟩
 obtain⟨K,M⟩: ∃X,(bw S q1 9).2=X:=⟨_,rfl⟩
 rw[hk] at O ⊢
 rw[M] at j
 have E:=zc j
 have H:=zc (zN ai.out o)
 clear j o
 have aj:k2<9:=by omega
 clear O hk M
 have ad:True:=trivial
 clear ad
 rcases (show k2=0∨k2=1∨k2=2∨k2=3∨k2=4∨k2=5∨k2=6∨k2=7∨k2=8 by omega) with rfl|rfl|rfl|rfl|rfl|rfl|rfl|rfl|rfl
 ·go_wp2_with fail
  refine (zbI S V g _ 9 _ E.out (by omega)).mono ?_
  rintro e w3 ⟨rfl,j,o⟩
  have O:=zcB S K 9 (by omega)
  obtain⟨k3,hk⟩: ∃k:Nat,(bw S K 9).1=k:=⟨(bw S K 9).1.toNat,by omega⟩
  obtain⟨U,M⟩: ∃X,(bw S K 9).2=X:=⟨_,rfl⟩
  rw[hk] at O ⊢
  rw[M] at j
  have z:=zc j
  have D:=zc (zN H.out o)
  clear j o
  have ag:k3<9:=by omega
  clear O hk M
  go_wp2_with fail
  refine (zh8 (k3:Int) _ (by omega)).mono ?_
  rintro e w4 ⟨rfl,hb⟩
  have I:=zc (zdt z.out hb (zdW z.out))
  have J:=zc (zdH D.out hb D.out.size)
  have hz:=zgx (k3:Int) (by omega) (by omega)
  clear hb
  go_wp2
  go_ret
  exact⟨_,U,rfl,by omega,I.out,J.out⟩
 ·go_wp2_with fail
  refine (zbI S V g _ 9 _ E.out (by omega)).mono ?_
  rintro e w3 ⟨rfl,j,o⟩
  have O:=zcB S K 9 (by omega)
  obtain⟨k3,hk⟩: ∃k:Nat,(bw S K 9).1=k:=⟨(bw S K 9).1.toNat,by omega⟩
  obtain⟨U,M⟩: ∃X,(bw S K 9).2=X:=⟨_,rfl⟩
  rw[hk] at O ⊢
  rw[M] at j
  have z:=zc j
  have D:=zc (zN H.out o)
  clear j o
  have ag:k3<9:=by omega
  clear O hk M
  go_wp2_with fail
  refine (zh8 (k3:Int) _ (by omega)).mono ?_
  rintro e w4 ⟨rfl,hb⟩
  have I:=zc (zdt z.out hb (zdW z.out))
  have J:=zc (zdH D.out hb D.out.size)
  have hz:=zgx (k3:Int) (by omega) (by omega)
  clear hb
  go_wp2
  go_ret
  exact⟨_,U,rfl,by omega,I.out,J.out⟩
 ·go_wp2
  go_ret
  exact⟨_,K,rfl,by have Z:(({data:=#[32,40,32,41]}:ByteArray)).size=4:=rfl;simp only[ByteArray.size_append,Z];omega,E.out,H.out⟩
 ·go_wp2
  go_ret
  exact⟨_,K,rfl,by have Z:(({data:=#[110,32,46,32]}:ByteArray)).size=4:=rfl;simp only[ByteArray.size_append,Z];omega,E.out,H.out⟩
 ·go_wp2
  go_ret
  exact⟨_,K,rfl,by have Z:(({data:=#[110,32,46,32,102,32,40,32,41]}:ByteArray)).size=9:=rfl;omega,E.out,H.out⟩
 ·by_cases Q:0<d
  ·go_wp2_with fail
   refine (IH.out Q K _ E.out).mono ?_
   rintro e w3 ⟨x3,U,rfl,z3,j,o⟩
   have z:=zc j
   have D:=zc (zN H.out o)
   clear j o
   go_wp2_with fail
   refine (zbR S V g _ 100 [{data:=#[43]},{data:=#[45]},{data:=#[42]}] _ z.out (by simp) (by simp) (by intro x L;simp only[List.mem_cons,List.not_mem_nil,or_false] at L;rcases L with rfl|rfl|rfl<;>decide)).mono ?_
   rintro e w4 ⟨x4,Y,rfl,z4,j,o⟩
   have I:=zc j
   have J:=zc (zN D.out o)
   clear j o
   go_wp2_with fail
   refine (IH.out Q Y _ I.out).mono ?_
   rintro e w5 ⟨x5,q5,rfl,z5,j,o⟩
   have ab:=zc j
   have aa:=zc (zN J.out o)
   clear j o
   go_wp2
   go_ret
   exact⟨_,q5,rfl,by have Z:(({data:=#[32]}:ByteArray)).size=1:=rfl;simp only[ByteArray.size_append,Z];omega,ab.out,aa.out⟩
  ·have ac: ¬0<(d:Int):=by omega
   cases scr with
   |false=>
    go_wp2
    go_ret
    exact⟨_,K,rfl,by omega,E.out,H.out⟩
   |true=>
    go_wp2_with fail
    refine (zdv S V g _ 8 _ E.out (by omega)).mono ?_
    rintro e w3 ⟨rfl,j,o⟩
    obtain⟨U,M⟩: ∃X,(bw S K 8).2=X:=⟨_,rfl⟩
    rw[M] at j
    have z:=zc j
    have D:=zc (zN H.out o)
    clear j o M
    generalize ((bw S K 8).1==0)=b
    cases b with
    |false=>
     go_wp2
     go_ret
     exact⟨_,U,rfl,by omega,z.out,D.out⟩
    |true=>
     go_wp2_with fail
     refine (zbR S V g _ 100 [{data:=#[117,110,100,101,102]},{data:=#[117,110,100,101,102,32,40,32,41]},{data:=#[97,36,49]},{data:=#[120,36]}] _ z.out (by simp) (by simp) (by intro x L;simp only[List.mem_cons,List.not_mem_nil,or_false] at L;rcases L with rfl|rfl|rfl|rfl<;>decide)).mono ?_
     rintro e w4 ⟨x4,Y,rfl,z4,j,o⟩
     have I:=zc j
     have J:=zc (zN D.out o)
     clear j o
     go_wp2
     go_ret
     exact⟨_,Y,rfl,by omega,I.out,J.out⟩
 ·by_cases Q:0<d
  ·go_wp2_with fail
   refine (IH.out Q K _ E.out).mono ?_
   rintro e w3 ⟨x3,U,rfl,z3,j,o⟩
   have z:=zc j
   have D:=zc (zN H.out o)
   clear j o
   go_wp2_with fail
   refine (zbR S V g _ 100 [{data:=#[43]},{data:=#[45]},{data:=#[42]}] _ z.out (by simp) (by simp) (by intro x L;simp only[List.mem_cons,List.not_mem_nil,or_false] at L;rcases L with rfl|rfl|rfl<;>decide)).mono ?_
   rintro e w4 ⟨x4,Y,rfl,z4,j,o⟩
   have I:=zc j
   have J:=zc (zN D.out o)
   clear j o
   go_wp2_with fail
   refine (IH.out Q Y _ I.out).mono ?_
   rintro e w5 ⟨x5,q5,rfl,z5,j,o⟩
   have ab:=zc j
   have aa:=zc (zN J.out o)
   clear j o
   go_wp2
   go_ret
   exact⟨_,q5,rfl,by have Z:(({data:=#[32]}:ByteArray)).size=1:=rfl;simp only[ByteArray.size_append,Z];omega,ab.out,aa.out⟩
  ·have ac: ¬0<(d:Int):=by omega
   cases scr with
   |false=>
    go_wp2
    go_ret
    exact⟨_,K,rfl,by omega,E.out,H.out⟩
   |true=>
    go_wp2_with fail
    refine (zdv S V g _ 8 _ E.out (by omega)).mono ?_
    rintro e w3 ⟨rfl,j,o⟩
    obtain⟨U,M⟩: ∃X,(bw S K 8).2=X:=⟨_,rfl⟩
    rw[M] at j
    have z:=zc j
    have D:=zc (zN H.out o)
    clear j o M
    generalize ((bw S K 8).1==0)=b
    cases b with
    |false=>
     go_wp2
     go_ret
     exact⟨_,U,rfl,by omega,z.out,D.out⟩
    |true=>
     go_wp2_with fail
     refine (zbR S V g _ 100 [{data:=#[117,110,100,101,102]},{data:=#[117,110,100,101,102,32,40,32,41]},{data:=#[97,36,49]},{data:=#[120,36]}] _ z.out (by simp) (by simp) (by intro x L;simp only[List.mem_cons,List.not_mem_nil,or_false] at L;rcases L with rfl|rfl|rfl|rfl<;>decide)).mono ?_
     rintro e w4 ⟨x4,Y,rfl,z4,j,o⟩
     have I:=zc j
     have J:=zc (zN D.out o)
     clear j o
     go_wp2
     go_ret
     exact⟨_,Y,rfl,by omega,I.out,J.out⟩
 ·by_cases Q:0<d
  ·go_wp2_with fail
   refine (IH.out Q K _ E.out).mono ?_
   rintro e w3 ⟨x3,U,rfl,z3,j,o⟩
   have z:=zc j
   have D:=zc (zN H.out o)
   clear j o
   go_wp2
   go_ret
   exact⟨_,U,rfl,by have Z:(({data:=#[40,32]}:ByteArray)).size=2:=rfl;have y1:(({data:=#[32,41]}:ByteArray)).size=2:=rfl;simp only[ByteArray.size_append,Z,y1];omega,z.out,D.out⟩
  ·have ac: ¬0<(d:Int):=by omega
   cases scr with
   |false=>
    go_wp2
    go_ret
    exact⟨_,K,rfl,by omega,E.out,H.out⟩
   |true=>
    go_wp2_with fail
    refine (zdv S V g _ 8 _ E.out (by omega)).mono ?_
    rintro e w3 ⟨rfl,j,o⟩
    obtain⟨U,M⟩: ∃X,(bw S K 8).2=X:=⟨_,rfl⟩
    rw[M] at j
    have z:=zc j
    have D:=zc (zN H.out o)
    clear j o M
    generalize ((bw S K 8).1==0)=b
    cases b with
    |false=>
     go_wp2
     go_ret
     exact⟨_,U,rfl,by omega,z.out,D.out⟩
    |true=>
     go_wp2_with fail
     refine (zbR S V g _ 100 [{data:=#[117,110,100,101,102]},{data:=#[117,110,100,101,102,32,40,32,41]},{data:=#[97,36,49]},{data:=#[120,36]}] _ z.out (by simp) (by simp) (by intro x L;simp only[List.mem_cons,List.not_mem_nil,or_false] at L;rcases L with rfl|rfl|rfl|rfl<;>decide)).mono ?_
     rintro e w4 ⟨x4,Y,rfl,z4,j,o⟩
     have I:=zc j
     have J:=zc (zN D.out o)
     clear j o
     go_wp2
     go_ret
     exact⟨_,Y,rfl,by omega,I.out,J.out⟩
 ·cases scr with
  |false=>
   go_wp2
   go_ret
   exact⟨_,K,rfl,by omega,E.out,H.out⟩
  |true=>
   go_wp2_with fail
   refine (zdv S V g _ 8 _ E.out (by omega)).mono ?_
   rintro e w3 ⟨rfl,j,o⟩
   obtain⟨U,M⟩: ∃X,(bw S K 8).2=X:=⟨_,rfl⟩
   rw[M] at j
   have z:=zc j
   have D:=zc (zN H.out o)
   clear j o M
   generalize ((bw S K 8).1==0)=b
   cases b with
   |false=>
    go_wp2
    go_ret
    exact⟨_,U,rfl,by omega,z.out,D.out⟩
   |true=>
    go_wp2_with fail
    refine (zbR S V g _ 100 [{data:=#[117,110,100,101,102]},{data:=#[117,110,100,101,102,32,40,32,41]},{data:=#[97,36,49]},{data:=#[120,36]}] _ z.out (by simp) (by simp) (by intro x L;simp only[List.mem_cons,List.not_mem_nil,or_false] at L;rcases L with rfl|rfl|rfl|rfl<;>decide)).mono ?_
    rintro e w4 ⟨x4,Y,rfl,z4,j,o⟩
    have I:=zc j
    have J:=zc (zN D.out o)
    clear j o
    go_wp2
    go_ret
    exact⟨_,Y,rfl,by omega,I.out,J.out⟩
theorem zoJ (S:Src) (o:S.ok) (g:Nat) (scr:Bool) (q:Nat×Int) (w:World) (j:zae 83 S w g q):Calls Tryz.prog 78 #[.pointer (some ⟨g,0,none⟩),.int .i64 2,.bool scr] w (zdN S g 770 w):=by
 have D: ∀(q:Nat×Int) (w:World),zae 83 S w g q→Calls Tryz.prog 78 #[.pointer (some ⟨g,0,none⟩),.int .i64 0,.bool scr] w (zdN S g 110 w):=fun q w j=>zhV S o g scr 0 0 (by omega) (by omega) (fun h=>absurd h (Nat.lt_irrefl 0)) q w j
 have z: ∀(q:Nat×Int) (w:World),zae 83 S w g q→Calls Tryz.prog 78 #[.pointer (some ⟨g,0,none⟩),.int .i64 1,.bool scr] w (zdN S g 330 w):=fun q w j=>zhV S o g scr 1 110 (by omega) (by omega) (fun _=>D) q w j
 exact zhV S o g scr 2 330 (by omega) (by omega) (fun _=>z) q w j
theorem zoK (S:Src) (Q:S.ok) (g:Nat) (scr:Bool) (q0:Nat×Int) (w0:World) (E:zae 83 S w0 g q0):Calls Tryz.prog 32 #[.pointer (some ⟨g,0,none⟩),.bool scr] w0 (zdN S g 1500 w0):=by
 have ac:=zc E
 have aa:Hid (w0.grownBy w0 (some g)):=⟨rfl,rfl,rfl,Nat.le_refl _,fun _ _ _=>rfl⟩
 clear E
 go_enter Tryz.func32,Tryz.ntmps32
 go_wp2_with fail
 refine (zbR S Q g _ 100 [{data:=#[97]},{data:=#[98]},{data:=#[120]},{data:=#[102]},{data:=#[103]}] _ ac.out (by simp) (by simp) (by intro x N;simp only[List.mem_cons,List.not_mem_nil,or_false] at N;rcases N with rfl|rfl|rfl|rfl|rfl<;>decide)).mono ?_
 rintro e w1 ⟨x1,q1,rfl,z1,E,J⟩
 have ad:=zc E
 have af:=zc (zN aa.out J)
 clear E J
 go_wp2_with fail
 refine (zoJ S Q g scr q1 _ ad.out).mono ?_
 rintro e w2 ⟨x2,q2,rfl,z2,E,J⟩
 have ae:=zc E
 have ah:=zc (zN af.out J)
 clear E J
 go_wp2_with fail
 refine (zbR S Q g _ 100 [{data:=#[46,47,98]},{data:=#[46,47,99]},{data:=#[46,47,97]},{data:=#[120]},{data:=#[46,47,100]}] _ ae.out (by simp) (by simp) (by intro x N;simp only[List.mem_cons,List.not_mem_nil,or_false] at N;rcases N with rfl|rfl|rfl|rfl|rfl<;>decide)).mono ?_
 rintro e w3 ⟨x3,q3,rfl,z3,E,J⟩
 have ab:=zc E
 have ag:=zc (zN ah.out J)
 clear E J
 go_wp2_with fail
 refine (zbI S Q g _ 16 _ ab.out (by omega)).mono ?_
 rintro e w4 ⟨rfl,E,J⟩
 have Z:=zcB S q3 16 (by omega)
 obtain⟨K,hk⟩: ∃k:Nat,(bw S q3 16).1=k:=⟨(bw S q3 16).1.toNat,by omega⟩
 obtain⟨M,V⟩: ∃q',(bw S q3 16).2=q':=⟨_,rfl⟩
 rw[hk] at Z ⊢
 rw[V] at E
 have z:=zc E
 have D:=zc (zN ag.out J)
 clear E J
 have ai:K<16:=by omega
 clear Z hk V
 cases scr with
 |false=>
  rcases (show K=0∨K=1∨K=2∨K=3∨K=4∨K=5∨K=6∨K=7∨K=8∨K=9∨K=10∨K=11∨K=12∨K=13∨K=14∨K=15 by omega) with rfl|rfl|rfl|rfl|rfl|rfl|rfl|rfl|rfl|rfl|rfl|rfl|rfl|rfl|rfl|rfl
  ·go_wp2
   go_ret
   exact⟨_,M,rfl,by have j:(({data:=#[108,101,116,32]}:ByteArray)).size=4:=rfl;have o:(({data:=#[32,61,32]}:ByteArray)).size=3:=rfl;have L:(({data:=#[59]}:ByteArray)).size=1:=rfl;simp only[ByteArray.size_append,j,o,L];omega,z.out,D.out⟩
  ·go_wp2
   go_ret
   exact⟨_,M,rfl,by have j:(({data:=#[108,101,116,32]}:ByteArray)).size=4:=rfl;have o:(({data:=#[32,61,32]}:ByteArray)).size=3:=rfl;have L:(({data:=#[59]}:ByteArray)).size=1:=rfl;simp only[ByteArray.size_append,j,o,L];omega,z.out,D.out⟩
  ·go_wp2
   go_ret
   exact⟨_,M,rfl,by have j:(({data:=#[108,101,116,32]}:ByteArray)).size=4:=rfl;have o:(({data:=#[32,61,32]}:ByteArray)).size=3:=rfl;have L:(({data:=#[59]}:ByteArray)).size=1:=rfl;simp only[ByteArray.size_append,j,o,L];omega,z.out,D.out⟩
  ·go_wp2_with fail
   refine (zbR S Q g _ 100 [{data:=#[102]},{data:=#[103]}] _ z.out (by simp) (by simp) (by intro x N;simp only[List.mem_cons,List.not_mem_nil,or_false] at N;rcases N with rfl|rfl<;>decide)).mono ?_
   rintro e U ⟨Y,O,rfl,X,E,J⟩
   have I:=zc E
   have H:=zc (zN D.out J)
   clear E J
   go_wp2
   go_ret
   exact⟨_,O,rfl,by have j:(({data:=#[102,117,110,99,116,105,111,110,32]}:ByteArray)).size=9:=rfl;have o:(({data:=#[40,41,32,123,32,114,101,116,117,114,110,32]}:ByteArray)).size=12:=rfl;have L:(({data:=#[59,32,125]}:ByteArray)).size=3:=rfl;simp only[ByteArray.size_append,j,o,L];omega,I.out,H.out⟩
  ·go_wp2
   go_ret
   exact⟨_,M,rfl,by have j:(({data:=#[32,61,32]}:ByteArray)).size=3:=rfl;have o:(({data:=#[59]}:ByteArray)).size=1:=rfl;simp only[ByteArray.size_append,j,o];omega,z.out,D.out⟩
  ·go_wp2
   go_ret
   exact⟨_,M,rfl,by have j:(({data:=#[112,114,105,110,116,40]}:ByteArray)).size=6:=rfl;have o:(({data:=#[41,59]}:ByteArray)).size=2:=rfl;simp only[ByteArray.size_append,j,o];omega,z.out,D.out⟩
  ·go_wp2
   go_ret
   exact⟨_,M,rfl,by have j:(({data:=#[112,114,105,110,116,40]}:ByteArray)).size=6:=rfl;have o:(({data:=#[41,59]}:ByteArray)).size=2:=rfl;simp only[ByteArray.size_append,j,o];omega,z.out,D.out⟩
  ·go_wp2
   go_ret
   exact⟨_,M,rfl,by have j:(({data:=#[116,104,114,111,119,32]}:ByteArray)).size=6:=rfl;have o:(({data:=#[59]}:ByteArray)).size=1:=rfl;simp only[ByteArray.size_append,j,o];omega,z.out,D.out⟩
  ·go_wp2_with fail
   refine (zbR S Q g _ 100 [{data:=#[]},{data:=#[32,97,115,32,120]},{data:=#[32,97,115,32,98,44,32,103]}] _ z.out (by simp) (by simp) (by intro x N;simp only[List.mem_cons,List.not_mem_nil,or_false] at N;rcases N with rfl|rfl|rfl<;>decide)).mono ?_
   rintro e U ⟨Y,O,rfl,X,E,J⟩
   have I:=zc E
   have H:=zc (zN D.out J)
   clear E J
   go_wp2
   go_ret
   exact⟨_,O,rfl,by have j:(({data:=#[105,109,112,111,114,116,32,123,32]}:ByteArray)).size=9:=rfl;have o:(({data:=#[32,125,32,102,114,111,109,32,34]}:ByteArray)).size=9:=rfl;have L:(({data:=#[34,59]}:ByteArray)).size=2:=rfl;simp only[ByteArray.size_append,j,o,L];omega,I.out,H.out⟩
  ·go_wp2
   go_ret
   exact⟨_,M,rfl,by have j:(({data:=#[105,109,112,111,114,116,32,42,32,97,115,32,110,32,102,114,111,109,32,34]}:ByteArray)).size=20:=rfl;have o:(({data:=#[34,59]}:ByteArray)).size=2:=rfl;simp only[ByteArray.size_append,j,o];omega,z.out,D.out⟩
  ·go_wp2
   go_ret
   exact⟨_,M,rfl,by have j:(({data:=#[105,109,112,111,114,116,32,100,32,102,114,111,109,32,34]}:ByteArray)).size=15:=rfl;have o:(({data:=#[34,59]}:ByteArray)).size=2:=rfl;simp only[ByteArray.size_append,j,o];omega,z.out,D.out⟩
  ·go_wp2_with fail
   refine (zbR S Q g _ 100 [{data:=#[]},{data:=#[32,97,115,32,121]},{data:=#[32,97,115,32,100,101,102,97,117,108,116]}] _ z.out (by simp) (by simp) (by intro x N;simp only[List.mem_cons,List.not_mem_nil,or_false] at N;rcases N with rfl|rfl|rfl<;>decide)).mono ?_
   rintro e U ⟨Y,O,rfl,X,E,J⟩
   have I:=zc E
   have H:=zc (zN D.out J)
   clear E J
   go_wp2
   go_ret
   exact⟨_,O,rfl,by have j:(({data:=#[101,120,112,111,114,116,32,123,32]}:ByteArray)).size=9:=rfl;have o:(({data:=#[32,125,59]}:ByteArray)).size=3:=rfl;simp only[ByteArray.size_append,j,o];omega,I.out,H.out⟩
  ·go_wp2_with fail
   refine (zbR S Q g _ 100 [{data:=#[]},{data:=#[32,97,115,32,121]},{data:=#[44,32,100,101,102,97,117,108,116]}] _ z.out (by simp) (by simp) (by intro x N;simp only[List.mem_cons,List.not_mem_nil,or_false] at N;rcases N with rfl|rfl|rfl<;>decide)).mono ?_
   rintro e U ⟨Y,O,rfl,X,E,J⟩
   have I:=zc E
   have H:=zc (zN D.out J)
   clear E J
   go_wp2
   go_ret
   exact⟨_,O,rfl,by have j:(({data:=#[101,120,112,111,114,116,32,123,32]}:ByteArray)).size=9:=rfl;have o:(({data:=#[32,125,32,102,114,111,109,32,34]}:ByteArray)).size=9:=rfl;have L:(({data:=#[34,59]}:ByteArray)).size=2:=rfl;simp only[ByteArray.size_append,j,o,L];omega,I.out,H.out⟩
  ·go_wp2
   go_ret
   exact⟨_,M,rfl,by have j:(({data:=#[101,120,112,111,114,116,32,42,32,102,114,111,109,32,34]}:ByteArray)).size=15:=rfl;have o:(({data:=#[34,59]}:ByteArray)).size=2:=rfl;simp only[ByteArray.size_append,j,o];omega,z.out,D.out⟩
  ·go_wp2
   go_ret
   exact⟨_,M,rfl,by have j:(({data:=#[101,120,112,111,114,116,32,100,101,102,97,117,108,116,32]}:ByteArray)).size=15:=rfl;have o:(({data:=#[59]}:ByteArray)).size=1:=rfl;simp only[ByteArray.size_append,j,o];omega,z.out,D.out⟩
  ·go_wp2_with fail
   refine (zbR S Q g _ 900 [({data:=#[108,101,116,32]}:ByteArray)++x1++({data:=#[32,61,32]}:ByteArray)++x2++({data:=#[59]}:ByteArray),({data:=#[102,117,110,99,116,105,111,110,32,102,40,41,32,123,32,114,101,116,117,114,110,32]}:ByteArray)++x2++({data:=#[59,32,125]}:ByteArray),({data:=#[108,101,116,32,122,32,61,32,49,59]}:ByteArray)] _ z.out (by simp) (by simp) (by intro x N;simp only[List.mem_cons,List.not_mem_nil,or_false] at N;have j:(({data:=#[108,101,116,32]}:ByteArray)).size=4:=rfl;have o:(({data:=#[32,61,32]}:ByteArray)).size=3:=rfl;have L:(({data:=#[59]}:ByteArray)).size=1:=rfl;have y3:(({data:=#[102,117,110,99,116,105,111,110,32,102,40,41,32,123,32,114,101,116,117,114,110,32]}:ByteArray)).size=22:=rfl;have y4:(({data:=#[59,32,125]}:ByteArray)).size=3:=rfl;have y5:(({data:=#[108,101,116,32,122,32,61,32,49,59]}:ByteArray)).size=10:=rfl;rcases N with rfl|rfl|rfl<;>simp only[ByteArray.size_append,j,o,L,y3,y4,y5]<;>omega)).mono ?_
   rintro e U ⟨Y,O,rfl,X,E,J⟩
   have I:=zc E
   have H:=zc (zN D.out J)
   clear E J
   go_wp2
   go_ret
   exact⟨_,O,rfl,by have j:(({data:=#[101,120,112,111,114,116,32]}:ByteArray)).size=7:=rfl;simp only[ByteArray.size_append,j];omega,I.out,H.out⟩
 |true=>
  rcases (show K=0∨K=1∨K=2∨K=3∨K=4∨K=5∨K=6∨K=7∨K=8∨K=9∨K=10∨K=11∨K=12∨K=13∨K=14∨K=15 by omega) with rfl|rfl|rfl|rfl|rfl|rfl|rfl|rfl|rfl|rfl|rfl|rfl|rfl|rfl|rfl|rfl
  ·go_wp2
   go_ret
   exact⟨_,M,rfl,by have j:(({data:=#[108,101,116,32]}:ByteArray)).size=4:=rfl;have o:(({data:=#[32,61,32]}:ByteArray)).size=3:=rfl;have L:(({data:=#[59]}:ByteArray)).size=1:=rfl;simp only[ByteArray.size_append,j,o,L];omega,z.out,D.out⟩
  ·go_wp2
   go_ret
   exact⟨_,M,rfl,by have j:(({data:=#[108,101,116,32]}:ByteArray)).size=4:=rfl;have o:(({data:=#[32,61,32]}:ByteArray)).size=3:=rfl;have L:(({data:=#[59]}:ByteArray)).size=1:=rfl;simp only[ByteArray.size_append,j,o,L];omega,z.out,D.out⟩
  ·go_wp2
   go_ret
   exact⟨_,M,rfl,by have j:(({data:=#[108,101,116,32]}:ByteArray)).size=4:=rfl;have o:(({data:=#[32,61,32]}:ByteArray)).size=3:=rfl;have L:(({data:=#[59]}:ByteArray)).size=1:=rfl;simp only[ByteArray.size_append,j,o,L];omega,z.out,D.out⟩
  ·go_wp2_with fail
   refine (zbR S Q g _ 100 [{data:=#[102]},{data:=#[103]}] _ z.out (by simp) (by simp) (by intro x N;simp only[List.mem_cons,List.not_mem_nil,or_false] at N;rcases N with rfl|rfl<;>decide)).mono ?_
   rintro e U ⟨Y,O,rfl,X,E,J⟩
   have I:=zc E
   have H:=zc (zN D.out J)
   clear E J
   go_wp2
   go_ret
   exact⟨_,O,rfl,by have j:(({data:=#[102,117,110,99,116,105,111,110,32]}:ByteArray)).size=9:=rfl;have o:(({data:=#[40,41,32,123,32,114,101,116,117,114,110,32]}:ByteArray)).size=12:=rfl;have L:(({data:=#[59,32,125]}:ByteArray)).size=3:=rfl;simp only[ByteArray.size_append,j,o,L];omega,I.out,H.out⟩
  ·go_wp2
   go_ret
   exact⟨_,M,rfl,by have j:(({data:=#[32,61,32]}:ByteArray)).size=3:=rfl;have o:(({data:=#[59]}:ByteArray)).size=1:=rfl;simp only[ByteArray.size_append,j,o];omega,z.out,D.out⟩
  ·go_wp2
   go_ret
   exact⟨_,M,rfl,by have j:(({data:=#[112,114,105,110,116,40]}:ByteArray)).size=6:=rfl;have o:(({data:=#[41,59]}:ByteArray)).size=2:=rfl;simp only[ByteArray.size_append,j,o];omega,z.out,D.out⟩
  ·go_wp2
   go_ret
   exact⟨_,M,rfl,by have j:(({data:=#[112,114,105,110,116,40]}:ByteArray)).size=6:=rfl;have o:(({data:=#[41,59]}:ByteArray)).size=2:=rfl;simp only[ByteArray.size_append,j,o];omega,z.out,D.out⟩
  ·go_wp2_with fail
   refine (zdv S Q g _ 2 _ z.out (by omega)).mono ?_
   rintro e U ⟨rfl,E,J⟩
   obtain⟨O,V⟩: ∃q',(bw S M 2).2=q':=⟨_,rfl⟩
   rw[V] at E
   have I:=zc E
   have H:=zc (zN D.out J)
   clear E J V
   generalize ((bw S M 2).1==0)=b
   cases b with
   |false=>
    go_wp2
    go_ret
    exact⟨_,O,rfl,by have j:(({data:=#[116,104,114,111,119,32]}:ByteArray)).size=6:=rfl;have o:(({data:=#[59]}:ByteArray)).size=1:=rfl;simp only[ByteArray.size_append,j,o];omega,I.out,H.out⟩
   |true=>
    go_wp2
    go_ret
    exact⟨_,O,rfl,by have j:(({data:=#[102,97,105,108,32]}:ByteArray)).size=5:=rfl;have o:(({data:=#[59]}:ByteArray)).size=1:=rfl;simp only[ByteArray.size_append,j,o];omega,I.out,H.out⟩
  ·go_wp2
   go_ret
   exact⟨_,M,rfl,by have j:(({data:=#[108,101,116,32]}:ByteArray)).size=4:=rfl;have o:(({data:=#[32,61,32]}:ByteArray)).size=3:=rfl;have L:(({data:=#[59]}:ByteArray)).size=1:=rfl;simp only[ByteArray.size_append,j,o,L];omega,z.out,D.out⟩
  ·go_wp2
   go_ret
   exact⟨_,M,rfl,by have j:(({data:=#[108,101,116,32]}:ByteArray)).size=4:=rfl;have o:(({data:=#[32,61,32]}:ByteArray)).size=3:=rfl;have L:(({data:=#[59]}:ByteArray)).size=1:=rfl;simp only[ByteArray.size_append,j,o,L];omega,z.out,D.out⟩
  ·go_wp2
   go_ret
   exact⟨_,M,rfl,by have j:(({data:=#[108,101,116,32]}:ByteArray)).size=4:=rfl;have o:(({data:=#[32,61,32]}:ByteArray)).size=3:=rfl;have L:(({data:=#[59]}:ByteArray)).size=1:=rfl;simp only[ByteArray.size_append,j,o,L];omega,z.out,D.out⟩
  ·go_wp2_with fail
   refine (zbR S Q g _ 100 [{data:=#[102]},{data:=#[103]}] _ z.out (by simp) (by simp) (by intro x N;simp only[List.mem_cons,List.not_mem_nil,or_false] at N;rcases N with rfl|rfl<;>decide)).mono ?_
   rintro e U ⟨Y,O,rfl,X,E,J⟩
   have I:=zc E
   have H:=zc (zN D.out J)
   clear E J
   go_wp2
   go_ret
   exact⟨_,O,rfl,by have j:(({data:=#[102,117,110,99,116,105,111,110,32]}:ByteArray)).size=9:=rfl;have o:(({data:=#[40,41,32,123,32,114,101,116,117,114,110,32]}:ByteArray)).size=12:=rfl;have L:(({data:=#[59,32,125]}:ByteArray)).size=3:=rfl;simp only[ByteArray.size_append,j,o,L];omega,I.out,H.out⟩
  ·go_wp2
   go_ret
   exact⟨_,M,rfl,by have j:(({data:=#[32,61,32]}:ByteArray)).size=3:=rfl;have o:(({data:=#[59]}:ByteArray)).size=1:=rfl;simp only[ByteArray.size_append,j,o];omega,z.out,D.out⟩
  ·go_wp2
   go_ret
   exact⟨_,M,rfl,by have j:(({data:=#[112,114,105,110,116,40]}:ByteArray)).size=6:=rfl;have o:(({data:=#[41,59]}:ByteArray)).size=2:=rfl;simp only[ByteArray.size_append,j,o];omega,z.out,D.out⟩
  ·go_wp2
   go_ret
   exact⟨_,M,rfl,by have j:(({data:=#[112,114,105,110,116,40]}:ByteArray)).size=6:=rfl;have o:(({data:=#[41,59]}:ByteArray)).size=2:=rfl;simp only[ByteArray.size_append,j,o];omega,z.out,D.out⟩
  ·go_wp2_with fail
   refine (zdv S Q g _ 2 _ z.out (by omega)).mono ?_
   rintro e U ⟨rfl,E,J⟩
   obtain⟨O,V⟩: ∃q',(bw S M 2).2=q':=⟨_,rfl⟩
   rw[V] at E
   have I:=zc E
   have H:=zc (zN D.out J)
   clear E J V
   generalize ((bw S M 2).1==0)=b
   cases b with
   |false=>
    go_wp2
    go_ret
    exact⟨_,O,rfl,by have j:(({data:=#[116,104,114,111,119,32]}:ByteArray)).size=6:=rfl;have o:(({data:=#[59]}:ByteArray)).size=1:=rfl;simp only[ByteArray.size_append,j,o];omega,I.out,H.out⟩
   |true=>
    go_wp2
    go_ret
    exact⟨_,O,rfl,by have j:(({data:=#[102,97,105,108,32]}:ByteArray)).size=5:=rfl;have o:(({data:=#[59]}:ByteArray)).size=1:=rfl;simp only[ByteArray.size_append,j,o];omega,I.out,H.out⟩
def zer (S:Src) (y:Int) (T:List Int×(Nat×Int)) (acc:List Int) (n:Nat) (q:Nat×Int):Prop:=acc++(zcQ S y n q).1=T.1∧(zcQ S y n q).2=T.2
theorem zhW {S:Src} {y:Int} {T:List Int×(Nat×Int)} {acc:List Int} {n:Nat} {q:Nat×Int} (h:zer S y T acc (n+1) q):zer S y T (acc++[chr y (cb S q).1]) n (cb S q).2:=by
 obtain⟨a,b⟩:=h
 rw[zcQ] at a b
 exact⟨by rw[List.append_assoc];exact a,b⟩
theorem zoL {S:Src} {y:Int} {T:List Int×(Nat×Int)} {acc:List Int} {q:Nat×Int} (h:zer S y T acc 0 q):acc=T.1∧q=T.2:=by
 obtain⟨a,b⟩:=h
 rw[zcQ] at a b
 exact⟨by simpa using a,b⟩
theorem zoM (S:Src) (hS:S.ok) (g:Nat) (q:Nat×Int) (j:Int) (w:World) (hc:zae 83 S w g q) (am:0≤j) (ap:j≤1000):
  Calls Tryz.prog 79 #[.pointer (some ⟨g,0,none⟩),.int .i64 j] w fun e w'=>e= .returned (.string (strOfNums (tx S q j).1))∧zae 83 S w' g (tx S q j).2∧w.grownBy w' (some g):=by
 obtain⟨i0,hi,X,Z,ab⟩:=info_parts Tryz.infoByte
 have I:=zdW hc
 have ak:=zcB S (bw S q 4).2 (j+1) (by omega)
 have HT:Hid (tx S q j=zcQ S (bw S q 4).1 (bw S (bw S q 4).2 (j+1)).1.toNat (bw S (bw S q 4).2 (j+1)).2):=rfl
 go_enter Tryz.func79,Tryz.ntmps79
 go_wp2_with fail
 refine (zbI S hS g q 4 _ (zdt hc ((Below.refl w.heap.size w).alloc (Nat.le_refl _) _) I) (by omega)).mono ?_
 rintro e w1 ⟨rfl,af,Y⟩
 go_wp2_with fail
 refine (zbI S hS g _ (j+1) _ af (by omega)).mono ?_
 rintro e w2 ⟨rfl,ag,ac⟩
 have V:zb6 w2 w.heap.size 5 (.slice (some ⟨w.heap.size,0,none⟩) 0 0) 0 []:=by
  have h0:zb6 (w.alloc (.cells #[] 5)) w.heap.size 5 (.slice (some ⟨w.heap.size,0,none⟩) 0 0) 0 []:=World.ownsRow_lit w #[] 0 (Nat.le_refl _) (by unfold maxLen;omega) rfl
  exact zfy (zfy h0 Y I) ac I
 have ae:w.grownBy w2 (some g):=zN (zN (zdH (World.grownBy.refl w _) ((Below.refl w.heap.size w).alloc (Nat.le_refl _) (.cells #[] 5)) (Nat.le_refl _)) Y) ac
 obtain⟨m0,N⟩: ∃m:Nat,(bw S (bw S q 4).2 (j+1)).1=m:=⟨(bw S (bw S q 4).2 (j+1)).1.toNat,by omega⟩
 rw[N]
 have ai:Hid (zer S (bw S q 4).1 (tx S q j) [] m0 (bw S (bw S q 4).2 (j+1)).2):=by
  show zer ..
  have e:=HT.out
  rw[N,Int.toNat_natCast] at e
  rw[e]
  exact⟨rfl,rfl⟩
 have al:m0≤1000:=by omega
 clear N HT ak hc af Y ac
 go_wp2
 go_loopw [5,7,8] (fun v n _ wr=>∃(k:Nat) (acc:List Int) (m:Nat) (p:Nat×Int),n= .int .i64 m∧k+m≤1000∧zer S (bw S q 4).1 (tx S q j) acc m p∧zb6 wr w.heap.size 5 v k acc∧zae 83 S wr g p∧w.grownBy wr (some g)) (fun _ n _ _=>(intOf n).toNat)
 case atStart=>exact⟨0,[],m0,_,rfl,by omega,ai.out,V,ag,ae⟩
 case round=>
  obtain⟨k,acc,m,p,rfl,aa,ad,z,Q,E⟩:=hrel
  have L:=ad
  clear ad V ag ae
  match m,aa,L with
  |0,aa,L=>
   obtain⟨e1,e2⟩:=zoL L
   have ah:Hid (acc=(tx S q j).1):=e1
   have aj:Hid (p=(tx S q j).2):=e2
   clear e1 e2 L
   rw[ah.out] at z
   have an:=zhw (P:=Tryz.prog) (src:=22) (dst:=9) Tryz.underlying22 Tryz.underlying5 Tryz.underlying9 z
   go_wp2
   go_ret
   exact⟨rfl,by rw[←aj.out];exact Q,E⟩
  |m+1,aa,HAT0=>
   have L:Hid (zer S (bw S q 4).1 (tx S q j) acc (m+1) p):=HAT0
   clear HAT0
   have ao:=zdV S p
   by_cases U:(bw S q 4).1=1
   ·have q1:((bw S q 4).1==1)=true:=by simpa using U
    have q2:((bw S q 4).1==2)=false:=by rw[U];rfl
    have M:Hid (chr (bw S q 4).1 (cb S p).1=(cb S p).1%2):=by show chr _ _=_;rw[chr,if_pos U]
    clear U
    go_wp2_with (first|(go_at_call 77;refine (zdu S hS g p _ Q).mono ?_;rintro e w3 ⟨rfl,O,H⟩;have o:=zfy z H I;have J:=Nat.le_trans E.size H.size)|(at_builtin;refine zh1 w3 rfl _ _ 22 rfl w.heap.size 5 i0 Tryz.underlying22 hi X Z ab _ k acc (by rfl) o ((cb S p).1%2) (by rfl) (by omega) J ?_))
    intro v' w4 D K
    go_wp2
    go_roundw
    case rel=>exact⟨k+1,acc++[(cb S p).1%2],m,(cb S p).2,by go_num,by omega,by rw[←M.out];exact zhW L.out,D,zdt O K I,zdH (zN E H) K (Nat.le_refl _)⟩
    case measure=>simp[intOf]
   ·have q1:((bw S q 4).1==1)=false:=by simpa using U
    by_cases h2:(bw S q 4).1=2
    ·have q2:((bw S q 4).1==2)=true:=by simpa using h2
     have M:Hid (chr (bw S q 4).1 (cb S p).1=97+(cb S p).1%4):=by show chr _ _=_;rw[chr,if_neg U,if_pos h2]
     clear U h2
     go_wp2_with (first|(go_at_call 77;refine (zdu S hS g p _ Q).mono ?_;rintro e w3 ⟨rfl,O,H⟩;have o:=zfy z H I;have J:=Nat.le_trans E.size H.size)|(at_builtin;refine zh1 w3 rfl _ _ 22 rfl w.heap.size 5 i0 Tryz.underlying22 hi X Z ab _ k acc (by rfl) o (97+(cb S p).1%4) (by rfl) (by omega) J ?_))
     intro v' w4 D K
     go_wp2
     go_roundw
     case rel=>exact⟨k+1,acc++[97+(cb S p).1%4],m,(cb S p).2,by go_num,by omega,by rw[←M.out];exact zhW L.out,D,zdt O K I,zdH (zN E H) K (Nat.le_refl _)⟩
     case measure=>simp[intOf]
    ·have q2:((bw S q 4).1==2)=false:=by simpa using h2
     have M:Hid (chr (bw S q 4).1 (cb S p).1=(cb S p).1):=by show chr _ _=_;rw[chr,if_neg U,if_neg h2]
     clear U h2
     go_wp2_with (first|(go_at_call 77;refine (zdu S hS g p _ Q).mono ?_;rintro e w3 ⟨rfl,O,H⟩;have o:=zfy z H I;have J:=Nat.le_trans E.size H.size)|(at_builtin;refine zh1 w3 rfl _ _ 22 rfl w.heap.size 5 i0 Tryz.underlying22 hi X Z ab _ k acc (by rfl) o ((cb S p).1) (by rfl) (by omega) J ?_))
     intro v' w4 D K
     go_wp2
     go_roundw
     case rel=>exact⟨k+1,acc++[(cb S p).1],m,(cb S p).2,by go_num,by omega,by rw[←M.out];exact zhW L.out,D,zdt O K I,zdH (zN E H) K (Nat.le_refl _)⟩
     case measure=>simp[intOf]
theorem zoN {S:Src} {q:Nat×Int} {s:ByteArray} (h:s.size=0):zbm S q s=(strOfNums (tx S q 3).1,(tx S q 3).2):=by rw[zbm,if_pos h]
theorem zoO {S:Src} {q:Nat×Int} {s:ByteArray} {k:Nat} (h:s.size≠0) (o:(bw S q s.size).1=k) (j:(bw S (bw S q s.size).2 4).1=0):zbm S q s=(s.extract 0 k++s.extract (k+1) s.size,(bw S (bw S q s.size).2 4).2):=by
 rw[zbm,if_neg h,if_pos j,o];rfl
theorem zoP {S:Src} {q:Nat×Int} {s:ByteArray} {k:Nat} (h:s.size≠0) (o:(bw S q s.size).1=k) (j:(bw S (bw S q s.size).2 4).1=1):zbm S q s=(s.extract 0 k++strOfNums [(cb S (bw S (bw S q s.size).2 4).2).1]++s.extract k s.size,(cb S (bw S (bw S q s.size).2 4).2).2):=by
 rw[zbm,if_neg h,if_neg (by omega),if_pos j,o];rfl
theorem zoQ {S:Src} {q:Nat×Int} {s:ByteArray} {k:Nat} (h:s.size≠0) (o:(bw S q s.size).1=k) (j:(bw S (bw S q s.size).2 4).1=2):zbm S q s=(s.extract 0 k,(bw S (bw S q s.size).2 4).2):=by
 rw[zbm,if_neg h,if_neg (by omega),if_neg (by omega),if_pos j,o];rfl
theorem zoR {S:Src} {q:Nat×Int} {s:ByteArray} {k:Nat} (h:s.size≠0) (D:(bw S q s.size).1=k) (o:(bw S (bw S q s.size).2 4).1≠0) (j:(bw S (bw S q s.size).2 4).1≠1) (z:(bw S (bw S q s.size).2 4).1≠2):
  zbm S q s=(s.extract 0 k++strOfNums [IntKind.u8.wrap (bits .xor .i64 (bt s k) (1+(bw S (bw S (bw S q s.size).2 4).2 255).1))]++s.extract (k+1) s.size,(bw S (bw S (bw S q s.size).2 4).2 255).2):=by
 rw[zbm,if_neg h,if_neg o,if_neg j,if_neg z,D];rfl
theorem zoS (S:Src) (I:S.ok) (g:Nat) (q:Nat×Int) (s:ByteArray) (w:World) (Z:zae 83 S w g q) (hs:s.size≤100000):
  Calls Tryz.prog 33 #[.pointer (some ⟨g,0,none⟩),.string s] w fun e w'=>e= .returned (.string (zbm S q s).1)∧zae 83 S w' g (zbm S q s).2∧w.grownBy w' (some g):=by
 by_cases K:s.size=0
 ·have H:Hid (zbm S q s=(strOfNums (tx S q 3).1,(tx S q 3).2)):=zoN K
  have hq:((s.size:Int)==0)=true:=by rw[K];rfl
  clear K
  go_enter Tryz.func33,Tryz.ntmps33
  go_wp2_with fail
  refine (zoM S I g q 3 _ Z (by omega) (by omega)).mono ?_
  rintro e w1 ⟨rfl,o,j⟩
  go_wp2
  go_ret
  exact⟨zdF (by rw[H.out]),by rw[H.out];exact o,j⟩
 ·have hq:((s.size:Int)==0)=false:=beq_eq_false_iff_ne.2 (by omega)
  have ab:=zcB S q s.size (by omega)
  obtain⟨k,N⟩: ∃k:Nat,(bw S q s.size).1=k:=⟨(bw S q s.size).1.toNat,by omega⟩
  have HK:Hid ((bw S q s.size).1=k):=N
  have ad:k<s.size:=by omega
  have ag:=zcB S (bw S q s.size).2 4 (by omega)
  have hb:=get_bt s
  have ae:=bt_nonneg s k
  have ah:=bt_le s k
  have e1:IntKind.i64.wrap ((k:Int)+1)=(k:Int)+1:=IntWalk.i64_in _ ⟨by omega,by omega⟩
  have e2:IntKind.i64.wrap (bt s k)=bt s k:=IntWalk.i64_in _ ⟨by omega,by omega⟩
  have l1:(0:Int)≤(k:Int):=by omega
  have l2:(k:Int)≤s.size:=by omega
  have l3:(0:Int)≤(k:Int)+1:=by omega
  have l4:(k:Int)+1≤s.size:=by omega
  have z1:(s.extract 0 k).size≤100000:=by simp;omega
  have z2:(s.extract (k+1) s.size).size≤100000:=by simp;omega
  have z3:(s.extract k s.size).size≤100000:=by simp;omega
  have af:=fun (w:World) (x:Int)=>zhx (P:=Tryz.prog) (src:=22) (dst:=9) Tryz.underlying22 Tryz.underlying5 Tryz.underlying9 w x
  have ac:=fun x=>strOfNums_size [x]
  have y1: ¬(9223372036854775807<min k s.size+1):=by omega
  have y2: ¬(9223372036854775807<min k s.size+1+(s.size-k)):=by omega
  have y3: ¬(9223372036854775807<min k s.size+1+(s.size-(k+1))):=by omega
  clear ab
  by_cases O:(bw S (bw S q s.size).2 4).1=0
  ·have H:Hid (zbm S q s=(s.extract 0 k++s.extract (k+1) s.size,(bw S (bw S q s.size).2 4).2)):=zoO K N O
   have q0:((bw S (bw S q s.size).2 4).1==0)=true:=by simpa using O
   clear N O K
   go_enter Tryz.func33,Tryz.ntmps33
   go_wp2_with fail
   refine (zbI S I g q s.size _ Z (by omega)).mono ?_
   rintro e w1 ⟨rfl,o,j⟩
   rw[HK.out]
   go_wp2_with fail
   refine (zbI S I g _ 4 _ o (by omega)).mono ?_
   rintro e V ⟨rfl,z,E⟩
   go_wp2
   go_quiet (fail)
   go_wp2
   go_ret
   exact⟨zdF (by rw[H.out]),by rw[H.out];exact zgs z _,zeH (zN j E) _⟩
  ·have q0:((bw S (bw S q s.size).2 4).1==0)=false:=by simpa using O
   by_cases Q:(bw S (bw S q s.size).2 4).1=1
   ·have H:Hid (zbm S q s=(s.extract 0 k++strOfNums [(cb S (bw S (bw S q s.size).2 4).2).1]++s.extract k s.size,(cb S (bw S (bw S q s.size).2 4).2).2)):=zoP K N Q
    have q1:((bw S (bw S q s.size).2 4).1==1)=true:=by simpa using Q
    have aa:=zdV S (bw S (bw S q s.size).2 4).2
    have e3:IntKind.u8.wrap (cb S (bw S (bw S q s.size).2 4).2).1=(cb S (bw S (bw S q s.size).2 4).2).1:=IntWalk.u8_in _ aa
    have z4:(s.extract 0 k++strOfNums [(cb S (bw S (bw S q s.size).2 4).2).1]).size≤100001:=by rw[ByteArray.size_append,strOfNums_size];simp;omega
    clear N O Q K
    go_enter Tryz.func33,Tryz.ntmps33
    go_wp2_with fail
    refine (zbI S I g q s.size _ Z (by omega)).mono ?_
    rintro e w1 ⟨rfl,o,j⟩
    rw[HK.out]
    go_wp2_with fail
    refine (zbI S I g _ 4 _ o (by omega)).mono ?_
    rintro e V ⟨rfl,z,E⟩
    go_wp2
    have J:zae 83 S V.drew g (bw S (bw S q s.size).2 4).2:=zgr z fun _ _=>rfl
    have L:w.grownBy V.drew (some g):=zeH (zN j E) 1
    have X:=zdW J
    go_region_law (go_simp;go_wp2_with (go_at_call 77;refine (zdu S I g _ _ J).mono ?_;rintro e M ⟨rfl,U,D⟩))
    all_goals
     go_wp2
     go_ret
     refine⟨zdF (by rw[H.out]),?_,zdH (zN L D) ((Below.refl M.heap.size M).alloc (Nat.le_refl _) _) (Nat.le_trans L.size D.size)⟩
     rw[H.out]
     exact zdt U ((Below.refl M.heap.size M).alloc (Nat.le_refl _) _) (Nat.lt_of_lt_of_le X D.size)
   ·have q1:((bw S (bw S q s.size).2 4).1==1)=false:=by simpa using Q
    by_cases Y:(bw S (bw S q s.size).2 4).1=2
    ·have H:Hid (zbm S q s=(s.extract 0 k,(bw S (bw S q s.size).2 4).2)):=zoQ K N Y
     have q2:((bw S (bw S q s.size).2 4).1==2)=true:=by simpa using Y
     clear N O Q Y K
     go_enter Tryz.func33,Tryz.ntmps33
     go_wp2_with fail
     refine (zbI S I g q s.size _ Z (by omega)).mono ?_
     rintro e w1 ⟨rfl,o,j⟩
     rw[HK.out]
     go_wp2_with fail
     refine (zbI S I g _ 4 _ o (by omega)).mono ?_
     rintro e V ⟨rfl,z,E⟩
     go_wp2
     go_ret
     exact⟨zdF (by rw[H.out]),by rw[H.out];exact z,zN j E⟩
    ·have q2:((bw S (bw S q s.size).2 4).1==2)=false:=by simpa using Y
     have H:Hid (zbm S q s=(s.extract 0 k++strOfNums [IntKind.u8.wrap (bits .xor .i64 (bt s k) (1+(bw S (bw S (bw S q s.size).2 4).2 255).1))]++s.extract (k+1) s.size,(bw S (bw S (bw S q s.size).2 4).2 255).2)):=zoR K N O Q Y
     have aa:=zcB S (bw S (bw S q s.size).2 4).2 255 (by omega)
     have e3:IntKind.i64.wrap (1+(bw S (bw S (bw S q s.size).2 4).2 255).1)=1+(bw S (bw S (bw S q s.size).2 4).2 255).1:=IntWalk.i64_in _ ⟨by omega,by omega⟩
     have z4:(s.extract 0 k++strOfNums [IntKind.u8.wrap (bits .xor .i64 (bt s k) (1+(bw S (bw S (bw S q s.size).2 4).2 255).1))]).size≤100001:=by rw[ByteArray.size_append,strOfNums_size];simp;omega
     clear N O Q Y K
     go_enter Tryz.func33,Tryz.ntmps33
     go_wp2_with fail
     refine (zbI S I g q s.size _ Z (by omega)).mono ?_
     rintro e w1 ⟨rfl,o,j⟩
     rw[HK.out]
     go_wp2_with fail
     refine (zbI S I g _ 4 _ o (by omega)).mono ?_
     rintro e V ⟨rfl,z,E⟩
     go_wp2
     have J:zae 83 S V.drew g (bw S (bw S q s.size).2 4).2:=zgr z fun _ _=>rfl
     have L:w.grownBy V.drew (some g):=zeH (zN j E) 1
     have X:=zdW J
     go_region_law (go_simp;go_wp2_with (go_at_call 31;refine (zbI S I g _ 255 _ J (by omega)).mono ?_;rintro e M ⟨rfl,U,D⟩))
     all_goals
      go_wp2
      go_ret
      refine⟨zdF (by rw[H.out]),?_,zdH (zN L D) ((Below.refl M.heap.size M).alloc (Nat.le_refl _) _) (Nat.le_trans L.size D.size)⟩
      rw[H.out]
      exact zdt U ((Below.refl M.heap.size M).alloc (Nat.le_refl _) _) (Nat.lt_of_lt_of_le X D.size)
theorem zoT (S:Src) (q:Nat×Int) (s:ByteArray):(zbm S q s).1.size≤s.size+4:=by
 have j:=zna S q 3 (by omega)
 unfold zbm
 split
 ·simp only[strOfNums_size];omega
 ·split
  ·simp only[ByteArray.size_append,ByteArray.size_extract];omega
  ·split
   ·simp only[ByteArray.size_append,ByteArray.size_extract,strOfNums_size,List.length_cons,List.length_nil];omega
   ·split
    ·simp only[ByteArray.size_extract];omega
    ·simp only[ByteArray.size_append,ByteArray.size_extract,strOfNums_size,List.length_cons,List.length_nil];omega
theorem zoU (S:Src) (E:S.len≤9223372036854775807) (j:Int) (D:2≤j) (z:j≤1000) (w:World):
  Calls Tryz.prog 17 #[.slice S.a S.len S.cap,.int .i64 j] w fun e o=>(∃r:Nat,e= .returned (.int .i64 (r:Int))∧(r:Int)≤j)∧o=w:=by
 go_enter Tryz.func17,Tryz.ntmps17
 by_cases h:j<2+(S.len:Int)/20
 ·go_wp2
  go_ret
  exact⟨⟨j.toNat,by rw[Int.toNat_of_nonneg (by omega)];rfl,by omega⟩,rfl⟩
 ·go_wp2
  go_ret
  exact⟨⟨(2+(S.len:Int)/20).toNat,by rw[Int.toNat_of_nonneg (by omega)];rfl,by omega⟩,rfl⟩
theorem zoV (S:Src) (N:S.ok) (g:Nat) (o:Nat) (hm:o≤10) (scr:Bool) (O:Nat×Int) (w0:World) (j:zae 83 S w0 g O):
  Calls Tryz.prog 16 #[.pointer (some ⟨g,0,none⟩),.int .i64 (o:Int),.bool scr] w0 (zdN S g 20000 w0):=by
 have ab:=zc j
 have Z:Hid (w0.grownBy w0 (some g)):=⟨rfl,rfl,rfl,Nat.le_refl _,fun _ _ _=>rfl⟩
 clear j
 go_enter Tryz.func16,Tryz.ntmps16
 go_wp2_with fail
 refine (zbI S N g O ((o:Int)+1) _ ab.out (by omega)).mono ?_
 rintro e w1 ⟨rfl,j,z⟩
 have U:=zcB S O ((o:Int)+1) (by omega)
 obtain⟨k1,hk⟩: ∃k:Nat,(bw S O ((o:Int)+1)).1=k:=⟨(bw S O ((o:Int)+1)).1.toNat,by omega⟩
 obtain⟨q1,L⟩: ∃V,(bw S O ((o:Int)+1)).2=V:=⟨_,rfl⟩
 rw[hk] at U ⊢
 rw[L] at j
 have D:=zc j
 have E:=zc (zN Z.out z)
 have kb:k1≤10:=by omega
 clear j z U hk L
 go_wp2
 go_loopg [7,8] k1 (fun k sv nv wr=>∃(x:ByteArray) (q:Nat×Int),nv= .int .i64 (k:Int)∧sv= .string x∧k≤10∧x.size+1501*k≤15010∧zae 83 S wr g q∧w0.grownBy wr (some g))
 case atStart=>exact⟨_,q1,rfl,rfl,kb,by have:({data:=#[]}:ByteArray).size=0:=rfl;omega,D.out,E.out⟩
 case round=>
  obtain⟨x,q,rfl,rfl,hk,hx,Q,X⟩:=hrel
  clear D E
  have D:=zc Q
  have E:=zc X
  clear Q X
  by_cases ae:0<gk
  ·have aa:0<(gk:Int):=by omega
   go_wp2_with fail
   refine (zoK S N g scr q _ D.out).mono ?_
   rintro e w2 ⟨Y,M,rfl,z2,j,z⟩
   have I:=zc j
   have K:=zc (zN E.out z)
   clear j z
   have hz:(x++Y++({data:=#[10]}:ByteArray)).size=x.size+Y.size+1:=by rw[ByteArray.size_append,ByteArray.size_append];rfl
   have af:(x++Y).size=x.size+Y.size:=ByteArray.size_append
   have ek:(gk:Int)-1=((gk-1:Nat):Int):=by omega
   go_wp2
   go_roundg (gk-1)
   case rel=>exact⟨_,M,rfl,rfl,by omega,by omega,I.out,K.out⟩
   case measure=>omega
  ·have aa: ¬0<(gk:Int):=by omega
   go_wp2_with fail
   refine (zdv S N g _ 6 _ D.out (by omega)).mono ?_
   rintro e w2 ⟨rfl,j,z⟩
   obtain⟨M,L⟩: ∃V,(bw S q 6).2=V:=⟨_,rfl⟩
   rw[L] at j
   have I:=zc j
   have K:=zc (zN E.out z)
   clear j z L
   generalize ((bw S q 6).1==0)=b
   cases b with
   |true=>
    go_wp2_with fail
    refine (zoS S N g M x _ I.out (by omega)).mono ?_
    rintro e w3 ⟨rfl,j,z⟩
    have hs:=zoT S M x
    have H:=zc j
    have J:=zc (zN K.out z)
    clear j z
    generalize zbm S M x=y at*
    go_wp2
    go_ret
    exact⟨y.1,y.2,rfl,by omega,H.out,J.out⟩
   |false=>
    go_wp2_with fail
    refine (zdv S N g _ 15 _ I.out (by omega)).mono ?_
    rintro e w3 ⟨rfl,j,z⟩
    obtain⟨q3,L⟩: ∃V,(bw S M 15).2=V:=⟨_,rfl⟩
    rw[L] at j
    have H:=zc j
    have J:=zc (zN K.out z)
    clear j z L
    generalize ((bw S M 15).1==0)=b
    cases b with
    |true=>
     go_wp2_with fail
     refine (zbR S N g _ 100 [{data:=#[105,109,112,111,114,116,32,100,101,102,97,117,108,116,32,102,114,111,109,32,34,120,34,59]},{data:=#[101,120,112,111,114,116,32,123,32,100,101,102,97,117,108,116,32,125,59]},{data:=#[105,109,112,111,114,116,32,123,32,100,101,102,97,117,108,116,32,125,32,102,114,111,109,32,34,120,34,59]},{data:=#[108,101,116,32,108,101,116,32,61,32,49,59]},{data:=#[112,114,105,110,116,40,49,59]},{data:=#[97,32,61,32,59]},{data:=#[101,120,112,111,114,116]},{data:=#[102,97,105,108,32,49,59]},{data:=#[108,101,116,32,117,110,100,101,102,32,61,32,49,59]},{data:=#[105,109,112,111,114,116,32,123,32,97,32,97,115,32,100,101,102,97,117,108,116,32,125,32,102,114,111,109,32,34,120,34,59]},{data:=#[112,114,105,110,116,40,40,40,40,40,40,40,40,40,40,40,40,40,40,40,40,40,40,40,40,40,40,49,41,41,41,41,41,41,41,41,41,41,41,41,41,41,41,41,41,41,41,41,41,41,59]}] _ H.out (by simp) (by simp) (by intro x hx;simp only[List.mem_cons,List.not_mem_nil,or_false] at hx;rcases hx with rfl|rfl|rfl|rfl|rfl|rfl|rfl|rfl|rfl|rfl|rfl<;>decide)).mono ?_
     rintro e w4 ⟨x4,q4,rfl,z4,j,z⟩
     have ac:=zc j
     have ad:=zc (zN J.out z)
     clear j z
     have hz:(x++x4).size=x.size+x4.size:=ByteArray.size_append
     go_wp2
     go_ret
     exact⟨_,q4,rfl,by omega,ac.out,ad.out⟩
    |false=>
     go_wp2
     go_ret
     exact⟨x,q3,rfl,by omega,H.out,J.out⟩
open Go.Sort
theorem zoW (S:Src) (I:S.ok) (w:World) (L:CodeW S w) (X:S.lim≤w.heap.size):
  Calls Tryz.prog 5 #[.slice S.a S.len S.cap] w fun e Q=>∃s scr,e= .returned (.tuple #[.string s,.bool scr])∧s.size≤20000∧Below w.heap.size w Q:=by
 have o:S.len≤9223372036854775807:=by have:=I.1;omega
 go_enter Tryz.func5,Tryz.ntmps5
 go_wp2_with fail
 refine (zni S I _ L X).mono ?_
 rintro e Z ⟨rfl,z,H⟩
 have M:=zc H
 clear L H
 go_wp2_with fail
 refine (zdv S I _ _ 3 _ z (by omega)).mono ?_
 rintro e w2 ⟨rfl,D,E⟩
 have N:=zc (zju M.out E (Nat.le_refl _) M.out.size)
 have K:=zc D
 clear z E D
 generalize ((bw S (start S) 3).1==0)=scr
 go_wp2_with fail
 refine (zoU S o 10 (by omega) (by omega) _).mono ?_
 rintro e Y ⟨⟨r,rfl,hr⟩,O⟩
 rw[O]
 clear O
 go_wp2_with fail
 refine (zoV S I w.heap.size r (by omega) scr _ _ K.out).mono ?_
 rintro e w4 ⟨x,q4,rfl,U,J,j⟩
 have V:=zc (zju N.out j (Nat.le_refl _) N.out.size)
 clear J j
 go_wp2
 go_ret2
 exact⟨x,scr,rfl,U,V.out⟩
theorem zgC (S:Src) (E:S.ok) (k:Nat) (w:World) (K:CodeW S w) (L:k≤4000):
  Calls Tryz.prog 11 #[.slice S.a S.len S.cap,.int .i64 k] w fun e J=>(∃z:Int,e= .returned (.int .i64 z)∧0≤z∧z≤255)∧J=w:=by
 have o:=E.1
 by_cases h:k<S.len
 ·obtain⟨b,I,H,M,j⟩:=K k h
  have D:=E.2 k
  rw[H]
  go_enter Tryz.func11,Tryz.ntmps11
  go_wp2
  go_ret
  exact⟨⟨S.Z k,by go_num,D.1,D.2⟩,rfl⟩
 ·go_enter Tryz.func11,Tryz.ntmps11
  go_wp2
  go_ret
  exact⟨⟨_,rfl,by omega,by omega⟩,rfl⟩
structure Tn where
 kind:Int
 text:ByteArray
 num:Int
def zbE (t:Tk):Tn:=⟨t.kind,t.text,t.num⟩
def ib (b:UInt8):Int:=(b.toNat:Int)
def zaw (t:Tn):List UInt8:=if t.kind==2 then (strOfNums (zaN t.num)).data.toList else if t.kind==3 then 34::(t.text.data.toList++[34]) else t.text.data.toList
def GoodT (scr:Bool) (t:Tn):Prop:=
 (∃x c cs,x.data.toList=c::cs∧zam (ib c) scr=true∧(∀b∈cs,zB scr (ib b)=true)∧t=⟨1,x,0⟩)∨(∃n,0≤n∧n≤1000000∧t=⟨2,{data:=#[]},n⟩)∨(∃x:ByteArray,x.size≤40∧(∀b∈x.data.toList,zbn (ib b))∧t=⟨3,x,0⟩)∨(∃(x:ByteArray) (c:UInt8),x.data.toList=[c]∧zaM (ib c)∧t=⟨4,x,0⟩)
theorem GoodT.name {scr:Bool} {x:ByteArray} {c:UInt8} {cs:List UInt8} (j:x.data.toList=c::cs) (h:zam (ib c) scr=true) (o: ∀b∈cs,zB scr (ib b)=true):GoodT scr ⟨1,x,0⟩:=.inl ⟨x,c,cs,j,h,o,rfl⟩
theorem GoodT.num {scr:Bool} {n:Int} (o:0≤n) (j:n≤1000000):GoodT scr ⟨2,{data:=#[]},n⟩:=.inr (.inl ⟨n,o,j,rfl⟩)
theorem GoodT.str {scr:Bool} {x:ByteArray} (o:x.size≤40) (j: ∀b∈x.data.toList,zbn (ib b)):GoodT scr ⟨3,x,0⟩:=.inr (.inr (.inl ⟨x,o,j,rfl⟩))
theorem GoodT.sign {scr:Bool} {x:ByteArray} {c:UInt8} (j:x.data.toList=[c]) (h:zaM (ib c)):GoodT scr ⟨4,x,0⟩:=.inr (.inr (.inr ⟨x,c,j,h,rfl⟩))
theorem GoodT.elim {scr:Bool} {motive:(t:Tn)→GoodT scr t→Prop} {t:Tn} (h:GoodT scr t) (name: ∀{x:ByteArray} {c:UInt8} {cs:List UInt8} (hx:x.data.toList=c::cs) (h:zam (ib c) scr=true) (hs: ∀b∈cs,zB scr (ib b)=true),motive _ (.name hx h hs)) (num: ∀{n:Int} (h0:0≤n) (h1:n≤1000000),motive _ (.num h0 h1)) (str: ∀{x:ByteArray} (h0:x.size≤40) (hs: ∀b∈x.data.toList,zbn (ib b)),motive _ (.str h0 hs)) (sign: ∀{x:ByteArray} {c:UInt8} (hx:x.data.toList=[c]) (h:zaM (ib c)),motive _ (.sign hx h)):motive t h:=by
 rcases h with ⟨x,c,cs,h1,h2,h3,rfl⟩|⟨n,h1,h2,rfl⟩|⟨x,h1,h2,rfl⟩|⟨x,c,h1,h2,rfl⟩
 ·exact name h1 h2 h3
 ·exact num h1 h2
 ·exact str h1 h2
 ·exact sign h1 h2
def zaZ (t:Tn):Bool:=t.kind==1||t.kind==2
abbrev Pc:=Tn ⊕ List UInt8
def zL:List Pc→List UInt8
 |[]=>[]
 | .inl t::l=>zaw t++zL l
 | .inr x::l=>x++zL l
def zg:List Pc→List Tn
 |[]=>[]
 | .inl t::l=>t::zg l
 | .inr _::l=>zg l
theorem zbY (a b:List Pc):zL (a++b)=zL a++zL b:=by
 induction a with
 |nil=>rfl
 |cons p l j=>cases p<;>simp[zL,j]
theorem zba (a b:List Pc):zg (a++b)=zg a++zg b:=by
 induction a with
 |nil=>rfl
 |cons p l j=>cases p<;>simp[zg,j]
abbrev sp1:List UInt8:=[32]
abbrev nl1:List UInt8:=[10]
abbrev cm1:List UInt8:=[32,47,47,32,120,10]
def zeY (x:List UInt8):Prop:=x=sp1∨x=nl1∨x=cm1
def adj (w:Bool):List Pc→Prop
 |[]=>True
 | .inr _::l=>adj false l
 | .inl t::l=>(w=true→zaZ t=false)∧adj (zaZ t) l
theorem zkc {a b:List Pc} (o: ∀w,adj w b): ∀w,adj w a→adj w (a++b):=by
 induction a with
 |nil=>intro w _;exact o w
 |cons p l j=>
  intro w h
  cases p with
  |inl t=>exact⟨h.1,j _ h.2⟩
  |inr x=>exact j _ h
theorem zkd {t:Tn} {b:List Pc} (j:zaZ t=false) (o:adj false b): ∀w,adj w (.inl t::b):=fun w=>⟨fun _=>j,by rw[j];exact o⟩
theorem zke {x:List UInt8} {b:List Pc} (j:adj false b): ∀w,adj w (.inr x::b):=fun _=>j
def GoodP (scr:Bool) (l:List Pc):Prop:=∀p∈l,match p with
 | .inl t=>GoodT scr t
 | .inr x=>zeY x
theorem GoodP.app {scr:Bool} {a b:List Pc} (j:GoodP scr a) (z:GoodP scr b):GoodP scr (a++b):=fun p o=>(List.mem_append.1 o).elim (j p) (z p)
theorem zeZ (s:ByteArray) (k:Nat):bt s k=ib (s.data.toList.getD k 0):=by
 rw[zdr]
 simp only[List.getD,List.getElem?_map]
 cases s.data.toList[k]? <;>rfl
theorem zbS (s:ByteArray):s.data.toList.length=s.size:=Array.length_toList
theorem zcp {s:ByteArray} {pre x j:List UInt8} (h:s.data.toList=pre++(x++j)) {i:Nat} (o:i<x.length):bt s (pre.length+i)=ib x[i]:=by
 rw[zeZ,h]
 simp only[List.getD]
 rw[List.getElem?_append_right (by omega),List.getElem?_append_left (by omega),Nat.add_sub_cancel_left,List.getElem?_eq_getElem o]
 rfl
theorem zhX {s:ByteArray} {pre x:List UInt8} {c:UInt8} {cs:List UInt8} (h:s.data.toList=pre++(x++c::cs)):bt s (pre.length+x.length)=ib c:=by
 rw[zeZ,h]
 simp only[List.getD]
 rw[List.getElem?_append_right (by omega),List.getElem?_append_right (by omega),Nat.add_sub_cancel_left,Nat.sub_self]
 rfl
theorem zgD {s:ByteArray} {pre x j:List UInt8} (h:s.data.toList=pre++(x++j)):s.size=pre.length+x.length+j.length:=by
 rw[←zbS,h,List.length_append,List.length_append]
 omega
theorem zhY {s:ByteArray} {pre x j:List UInt8} (h:s.data.toList=pre++(x++j)) {y:ByteArray} (o:y.data.toList=x):s.extract pre.length (pre.length+x.length)=y:=by
 apply zgo
 rw[Lib.extract_data,h,o,List.drop_append_of_le_length (Nat.le_refl _),List.drop_eq_nil_of_le (Nat.le_refl _),List.nil_append,Nat.add_sub_cancel_left,List.take_append_of_le_length (Nat.le_refl _),List.take_of_length_le (Nat.le_refl _)]
def zhZ (scr:Bool) (post:List UInt8):Prop:=∀c cs,post=c::cs→zB scr (ib c)=false
theorem zkf {s:ByteArray} {pre x o:List UInt8} (h:s.data.toList=pre++(x++o)) {p:Int→Bool} (E: ∀b∈x,p (ib b)=true) (H: ∀c cs,o=c::cs→p (ib c)=false):zax p s pre.length (pre.length+x.length):=by
 have I:=zgD h
 refine⟨by omega,by omega,fun j D J=>?_,fun D=>?_⟩
 ·obtain⟨i,rfl⟩: ∃i,j=pre.length+i:=⟨j-pre.length,by omega⟩
  have z:i<x.length:=by omega
  rw[zcp h z]
  exact E _ (List.getElem_mem z)
 ·cases o with
  |nil=>rw[List.length_nil] at I;omega
  |cons c cs=>rw[zhX h];exact H c cs rfl
theorem zkg {n:Int} (j:0≤n):(strOfNums (zaN n)).data.toList=(dgk n (dcn n)).map fun k=>UInt8.ofNat k.toNat:=by rw[strOfNums_data,zgv j]
theorem zkh {n:Int} (z:0≤n) {i:Nat} (o:i<((strOfNums (zaN n)).data.toList).length):ib ((strOfNums (zaN n)).data.toList)[i]=48+n/10^(dcn n-1-i)%10:=by
 have e:=zkg z
 have D:((strOfNums (zaN n)).data.toList).length=dcn n:=by rw[e,List.length_map,zcm]
 have j:((strOfNums (zaN n)).data.toList)[i]? =some (UInt8.ofNat (48+n/10^(dcn n-1-i)%10).toNat):=by
  rw[e,List.getElem?_map]
  have:=zh6 n (dcn n) (dcn n-1-i) (by omega)
  rw[show dcn n-1-(dcn n-1-i)=i from by omega] at this
  rw[this]
  rfl
 rw[List.getElem?_eq_getElem o] at j
 rw[Option.some.inj j]
 unfold ib
 rw[UInt8.toNat_ofNat']
 omega
theorem zoX {s:ByteArray} {a c:Nat} {n:Int} (o:0≤n) (j:n<10^c) (h: ∀i,i<c→bt s (a+i)=48+n/10^(c-1-i)%10): ∀k,k≤c→zbo s a k=n/10^(c-k):=by
 intro k
 induction k with
 |zero=>intro _;rw[zbo,Nat.sub_zero,Int.ediv_eq_zero_of_lt o j]
 |succ k z=>
  intro D
  rw[zbo,z (by omega),h k (by omega),show c-(k+1)=c-1-k from by omega,show c-k=(c-1-k)+1 from by omega,←zeb]
  omega
theorem zoY {s:ByteArray} {pre j:List UInt8} {scr:Bool} {n:Int} (z:0≤n) (K:n≤1000000) (h:s.data.toList=pre++((strOfNums (zaN n)).data.toList++j)) (H:zhZ scr j):zbd s pre.length scr n (pre.length+((strOfNums (zaN n)).data.toList).length)∧zG (bt s pre.length)=true:=by
 have I:((strOfNums (zaN n)).data.toList).length=dcn n:=by rw[zkg z,List.length_map,zcm]
 obtain⟨O,Q,J,o⟩:=zcS n z (by omega)
 have D: ∀i,i<dcn n→bt s (pre.length+i)=48+n/10^(dcn n-1-i)%10:=fun i L=>by
  rw[zcp h (by omega),zkh z]
 have hd: ∀b∈(strOfNums (zaN n)).data.toList,zG (ib b)=true:=by
  intro b D
  obtain⟨i,L,rfl⟩:=List.getElem_of_mem D
  rw[zkh z,zbV]
  omega
 have M:=zgD h
 refine⟨⟨zkf h hd fun c E e=>?_,by omega,?_,?_,K,fun N=>?_⟩,?_⟩
 ·have:=H c E e
  simp only[zB,Bool.or_eq_false_iff] at this
  exact this.2
 ·rcases o with o|o
  ·left;rw[I,o]
  ·right
   have:=D 0 (by omega)
   rw[Nat.add_zero,Nat.sub_zero] at this
   rw[this]
   have V:1≤n/10^(dcn n-1):=by rw[Int.le_ediv_iff_mul_le (zea _),Int.one_mul];exact o
   have U:n/10^(dcn n-1)<10:=by
    rw[Int.ediv_lt_iff_lt_mul (zea _),Int.mul_comm,←zdK,show dcn n-1+1=dcn n from by omega]
    exact J
   omega
 ·rw[Nat.add_sub_cancel_left,I,zoX z J D _ (Nat.le_refl _),Nat.sub_self,Int.pow_zero,Int.ediv_one]
 ·cases j with
  |nil=>rw[List.length_nil] at M;omega
  |cons c E=>
   rw[zhX h]
   have:=H c E rfl
   simp only[zB,Bool.or_eq_false_iff] at this
   exact this.1
 ·have:=D 0 (by omega)
  rw[Nat.add_zero] at this
  rw[this,zbV]
  omega
theorem zoZ {s:ByteArray} {pre o:List UInt8} {scr:Bool} {t:Tn} (ht:GoodT scr t) (h:s.data.toList=pre++(zaw t++o)) (V:zaZ t=true→zhZ scr o):
  Tok s scr pre.length ⟨t.kind,t.text,t.num,pre.length⟩ (pre.length+(zaw t).length)∧pre.length<s.size∧¬zbQ (bt s pre.length)∧¬zck s pre.length:=by
 have I:=zgD h
 cases ht using GoodT.elim with
 | @name x c K E D O=>
  have H:zaw ⟨1,x,0⟩=c::K:=E
  rw[H] at h I ⊢
  have z:bt s pre.length=ib c:=by have:=zcp h (i:=0) (by simp);simpa using this
  have hw: ∀b∈c::K,zB scr (ib b)=true:=by
   intro b N
   rcases List.mem_cons.1 N with rfl|N
   ·unfold zB;rw[D];rfl
   ·exact O b N
  have:=Tok.name (s:=s) (scr:=scr) (a:=pre.length) (by rw[z];exact D) (zkf h hw (V rfl))
  rw[zhY h E] at this
  rw[zdI] at D
  refine⟨this,by simp at I;omega,?_,fun k=>?_⟩
  ·rw[z];unfold zbQ;omega
  ·have:=k.1;rw[z] at this;omega
 | @num n z h1=>
  have H:zaw ⟨2,{data:=#[]},n⟩=(strOfNums (zaN n)).data.toList:=rfl
  rw[H] at h I ⊢
  obtain⟨L,Q⟩:=zoY z h1 h (V rfl)
  have:=Tok.num (s:=s) (scr:=scr) (a:=pre.length) Q L
  rw[zbV] at Q
  refine⟨this,by have:=L.1.2.1;have:=L.2.1;omega,by unfold zbQ;omega,fun k=>by have:=k.1;omega⟩
 | @str x z O=>
  have H:zaw ⟨3,x,0⟩=34::(x.data.toList++[34]):=rfl
  rw[H] at h I ⊢
  have M:=zbS x
  have U:bt s pre.length=34:=by have:=zcp h (i:=0) (by simp);simpa [ib] using this
  have Y:(34::(x.data.toList++[34]):List UInt8).length=x.size+2:=by simp[M]
  rw[Y] at I ⊢
  have J:s.data.toList=(pre++[34])++(x.data.toList++([34]++o)):=by rw[h];simp
  have hj: ∀i,(X:i<x.data.toList.length)→bt s (pre.length+1+i)=ib x.data.toList[i]:=fun i X=>by
   have:=zcp J (i:=i) X
   rw[List.length_append] at this
   exact this
  have E:s.extract (pre.length+1) (pre.length+(x.size+2)-1)=x:=by
   have:=zhY J (y:=x) rfl
   rw[List.length_append,M] at this
   rw[show pre.length+(x.size+2)-1=pre.length+[(34:UInt8)].length+x.size from by simp;omega]
   exact this
  have Z:bt s (pre.length+(x.size+2)-1)=34:=by
   have:=zhX (s:=s) (pre:=pre++[34]) (x:=x.data.toList) (c:=34) (cs:=o) (by rw[J];simp)
   rw[List.length_append,M] at this
   rw[show pre.length+(x.size+2)-1=pre.length+[(34:UInt8)].length+x.size from by simp;omega]
   exact this
  have:=Tok.str (s:=s) (scr:=scr) (a:=pre.length) (e:=pre.length+(x.size+2)) U ⟨by omega,by omega,by omega,Z,fun j g1 g2=>by
   obtain⟨i,rfl⟩: ∃i,j=pre.length+1+i:=⟨j-pre.length-1,by omega⟩
   rw[hj i (by omega)]
   exact O _ (List.getElem_mem _)⟩
  rw[E] at this
  refine⟨this,by omega,by rw[U];unfold zbQ;omega,fun k=>by have:=k.1;omega⟩
 | @sign x c E D=>
  have H:zaw ⟨4,x,0⟩=[c]:=E
  rw[H] at h I ⊢
  have z:bt s pre.length=ib c:=by have:=zcp h (i:=0) (by simp);simpa using this
  have:=Tok.sign (s:=s) (scr:=scr) (a:=pre.length) (by rw[z];exact D)
  have e:=zhY h E
  simp only[List.length_cons,List.length_nil,Nat.zero_add] at e I
  rw[e] at this
  refine⟨this,by omega,?_,fun k=>?_⟩
  ·rw[z];unfold zaM at D;unfold zbQ;omega
  ·have:=k.1;rw[z] at this;unfold zaM at D;omega
theorem zpa {s:ByteArray} {pre x z:List UInt8} (L:zeY x) (h:s.data.toList=pre++(x++z)) {b:Nat} (o:Skip s (pre.length+x.length) b):Skip s pre.length b:=by
 have E:=zgD h
 rcases L with rfl|rfl|rfl
 ·have D:bt s pre.length=32:=by have:=zcp h (i:=0) (by simp);simpa [ib] using this
  simp at E o
  exact .blank (by omega) (by rw[D];exact .inr (.inr (.inr rfl))) o
 ·have D:bt s pre.length=10:=by have:=zcp h (i:=0) (by simp);simpa [ib] using this
  simp at E o
  exact .blank (by omega) (by rw[D];exact .inr (.inl rfl)) o
 ·have D:bt s pre.length=32:=by have:=zcp h (i:=0) (by simp);simpa [ib] using this
  have H:bt s (pre.length+1)=47:=by have:=zcp h (i:=1) (by simp);simpa [ib] using this
  have I:bt s (pre.length+2)=47:=by have:=zcp h (i:=2) (by simp);simpa [ib] using this
  have K:bt s (pre.length+3)=32:=by have:=zcp h (i:=3) (by simp);simpa [ib] using this
  have M:bt s (pre.length+4)=120:=by have:=zcp h (i:=4) (by simp);simpa [ib] using this
  have J:bt s (pre.length+5)=10:=by have:=zcp h (i:=5) (by simp);simpa [ib] using this
  simp at E o
  refine .blank (by omega) (by rw[D];exact .inr (.inr (.inr rfl))) ?_
  refine .comment (c:=pre.length+5) (by omega) ⟨H,by omega,I⟩ ⟨by omega,by omega,fun j N O=>?_,fun _=>by rw[J];rfl⟩ ?_
  ·obtain k|k|k|k:j=pre.length+1∨j=pre.length+2∨j=pre.length+3∨j=pre.length+4:=by omega
   ·rw[k,H];rfl
   ·rw[k,I];rfl
   ·rw[k,K];rfl
   ·rw[k,M];rfl
  ·exact .blank (by omega) (by rw[J];exact .inr (.inl rfl)) o
theorem zpb {scr:Bool} {l:List Pc} (D:GoodP scr l) (I:adj true l):zhZ scr (zL l):=by
 intro c N e
 cases l with
 |nil=>cases e
 |cons p l=>
  cases p with
  |inr x=>
   have o:zeY x:=D (.inr x) (List.mem_cons_self ..)
   simp only[zL] at e
   rcases o with rfl|rfl|rfl<;>simp only[List.cons_append] at e<;>cases e<;>cases scr<;>rfl
  |inl t=>
   have M:GoodT scr t:=D (.inl t) (List.mem_cons_self ..)
   have H:=I.1 rfl
   simp only[zL] at e
   cases M using GoodT.elim with
   |name _ _ _=>cases H
   |num _ _=>cases H
   |str _ _=>simp[zaw] at e;rw[←e.1];cases scr<;>rfl
   | @sign x j o E=>
    have K:zaw ⟨4,x,0⟩=[j]:=o
    rw[K] at e
    simp at e
    rw[←e.1]
    simp only[zB,Bool.or_eq_false_iff]
    have J:zam (ib j) scr=false:=by
     cases z:zam (ib j) scr with
     |false=>rfl
     |true=>exact absurd E (zdX z).2.2
    have L:zG (ib j)=false:=by
     cases z:zG (ib j) with
     |false=>rfl
     |true=>exact absurd E (zdY z).2
    exact⟨J,L⟩
theorem zpc {scr:Bool} {s:ByteArray} (P:List Pc): ∀(w:Bool) (pre:List UInt8) (n:Nat),s.data.toList=pre++zL P→GoodP scr P→adj w P→n+(zg P).length≤4000→
  ∃b o,Skip s pre.length b∧Lx s scr b n (.ok o)∧o.map zbE=zg P:=by
 induction P with
 |nil=>
  intro w pre n h _ _ _
  have L:s.size=pre.length:=by rw[←zbS,h];simp[zL]
  refine⟨pre.length,[],?_,?_,rfl⟩
  ·rw[←L];exact .done
  ·rw[←L];exact .done
 |cons p l K=>
  intro w pre n h E D J
  have j:GoodP scr l:=fun q O=>E q (List.mem_cons_of_mem _ O)
  cases p with
  |inr x=>
   have Q:zeY x:=E (.inr x) (List.mem_cons_self ..)
   simp only[zL] at h
   obtain⟨b,o,z,I,H⟩:=K false (pre++x) n (by rw[h,List.append_assoc]) j D J
   rw[List.length_append] at z
   exact⟨b,o,zpa Q h z,I,H⟩
  |inl t=>
   have V:GoodT scr t:=E (.inl t) (List.mem_cons_self ..)
   simp only[zL] at h
   simp only[zg,List.length_cons] at J
   obtain⟨b,o,z,I,H⟩:=K (zaZ t) (pre++zaw t) (n+1) (by rw[h,List.append_assoc]) j D.2 (by omega)
   obtain⟨N,M,Y,X⟩:=zoZ V h fun U=>zpb j (by have:=D.2;rw[U] at this;exact this)
   rw[List.length_append] at z
   refine⟨pre.length,_,.stop M Y X,.tok (r:=.ok o) M (by omega) N z I,?_⟩
   simp only[List.map_cons,H,zg]
   rfl
theorem zki {scr:Bool} {s:ByteArray} {P:List Pc} (h:s.data.toList=zL P) (D:GoodP scr P) (o:adj false P) (I:(zg P).length≤4000): ∃j,zY s scr (.ok j)∧j.map zbE=zg P:=by
 obtain⟨b,j,z,H,E⟩:=zpc P false [] 0 (by rw[h];rfl) D o (by omega)
 exact⟨j,⟨b,z,H⟩,E⟩
theorem zpd {s:ByteArray} {scr:Bool} {a e:Nat} {t:Tk} (D:a<s.size) (h:Tok s scr a t e):GoodT scr (zbE t):=by
 have hcut: ∀e,a≤e→e≤s.size→∀b∈(s.extract a e).data.toList,∃j,a≤j∧j<e∧ib b=bt s j:=by
  intro e I M b z
  rw[Lib.extract_data] at z
  obtain⟨i,H,rfl⟩:=List.getElem_of_mem z
  rw[List.length_take,List.length_drop,zbS] at H
  refine⟨a+i,by omega,by omega,?_⟩
  rw[zeZ,List.getElem_take,List.getElem_drop]
  simp only[List.getD]
  rw[List.getElem?_eq_getElem (by rw[zbS];omega)]
  rfl
 have L:=zdJ D h
 cases h using Tok.elim with
 |name h o=>
  have E:(s.extract a e).data.toList=s.data.toList[a]'(by rw[zbS];exact D)::((s.data.toList.drop (a+1)).take (e-a-1)):=by
   rw[Lib.extract_data,List.drop_eq_getElem_cons (by rw[zbS];exact D),show e-a=(e-a-1)+1 from by omega,List.take_succ_cons]
   rfl
  have z:ib (s.data.toList[a]'(by rw[zbS];exact D))=bt s a:=by
   rw[zeZ]
   simp only[List.getD]
   rw[List.getElem?_eq_getElem (by rw[zbS];exact D)]
   rfl
  refine GoodT.name E (by rw[z];exact h) fun b z=>?_
  obtain⟨j,K,J,O⟩:=hcut e (by omega) L.2.1 b (by rw[E];exact List.mem_cons_of_mem _ z)
  rw[O]
  exact o.2.2.1 j K J
 | @num n _ h o=>
  refine GoodT.num ?_ o.2.2.2.2.1
  rw[o.2.2.2.1]
  refine (zgt (e-a) (e-a) (fun j U=>?_) (Nat.le_refl _)).1
  have:=o.1.2.2.1 (a+j) (by omega) (by omega)
  rw[zbV] at this
  exact this.1
 |str h o=>
  obtain⟨I,M,Q,V,N⟩:=o
  refine GoodT.str ?_ fun b z=>?_
  ·rw[←zbS,Lib.extract_data,List.length_take,List.length_drop,zbS]
   omega
  ·rw[Lib.extract_data] at z
   obtain⟨i,H,rfl⟩:=List.getElem_of_mem z
   rw[List.length_take,List.length_drop,zbS] at H
   have:=N (a+1+i) (by omega) (by omega)
   rw[zeZ] at this
   simp only[List.getD] at this
   rw[List.getElem?_eq_getElem (by rw[zbS];omega)] at this
   rw[List.getElem_take,List.getElem_drop]
   exact this
 |sign h=>
  have E:(s.extract a (a+1)).data.toList=[s.data.toList[a]'(by rw[zbS];exact D)]:=by
   rw[Lib.extract_data,List.drop_eq_getElem_cons (by rw[zbS];exact D),Nat.add_sub_cancel_left,List.take_succ_cons]
   rfl
  have z:ib (s.data.toList[a]'(by rw[zbS];exact D))=bt s a:=by
   rw[zeZ]
   simp only[List.getD]
   rw[List.getElem?_eq_getElem (by rw[zbS];exact D)]
   rfl
  exact GoodT.sign E (by rw[z];exact h)
theorem zkj {s:ByteArray} {scr:Bool} {a n:Nat} {r:Except Nat (List Tk)} (h:Lx s scr a n r): ∀o,r= .ok o→∀t∈o,GoodT scr (zbE t):=by
 induction h using Lx.ind with
 |done=>intro o z t D;cases z;cases D
 |bad _ _=>intro o z;cases z
 | @tok a n e b t r h I D J z H=>
  intro o j u E
  cases r with
  |error p=>simp[Except.map] at j
  |ok l=>
   simp only[Except.map,Except.ok.injEq] at j
   subst j
   rcases List.mem_cons.1 E with rfl|E
   ·exact zpd h D
   ·exact H l rfl u E
def zkk (L:List (Ex ⊕ Int)):Prop:=∀P:List (Ex ⊕ Int)→Prop,(∀x,P [.inl x])→(∀k a b,P a→P b→P (a++(b++[.inr k])))→P L
structure Tr where
 row:List (Ex ⊕ Int)
 ok:zkk row
def Tr.leaf (x:Ex):Tr:=⟨[.inl x],fun _ h0 _=>h0 x⟩
def Tr.two (k:Int) (l r:Tr):Tr:=⟨l.row++(r.row++[.inr k]),fun P h0 h1=>h1 k _ _ (l.ok P h0 h1) (r.ok P h0 h1)⟩
theorem Tr.ind {motive:Tr→Prop} (t:Tr) (leaf: ∀x,motive (.leaf x)) (two: ∀k l r,motive l→motive r→motive (.two k l r)):motive t:=by
 obtain⟨_,h⟩:=t.ok (fun L=>∃h:zkk L,motive ⟨L,h⟩) (fun x=>⟨_,leaf x⟩) (fun k a b ⟨ha,ma⟩ ⟨hb,mb⟩=>⟨_,two k ⟨a,ha⟩ ⟨b,hb⟩ ma mb⟩)
 exact h
theorem Tr.elim {motive:Tr→Prop} (t:Tr) (leaf: ∀x,motive (.leaf x)) (two: ∀k l r,motive (.two k l r)):motive t:=t.ind leaf fun k l r _ _=>two k l r
def stk {α:Type} (f:Ex→α) (g:Int→α→α→α):List (Ex ⊕ Int)→List α→List α
 |[],s=>s
 | .inl x::l,s=>stk f g l (f x::s)
 | .inr k::l,b::a::s=>stk f g l (g k a b::s)
 | .inr _::l,s=>stk f g l s
theorem zgE {α:Type} (f:Ex→α) (g:Int→α→α→α) (a b:List (Ex ⊕ Int)): ∀s,stk f g (a++b) s=stk f g b (stk f g a s):=by
 induction a with
 |nil=>intro s;rfl
 |cons x l j=>
  intro s
  cases x with
  |inl x=>exact j _
  |inr k=>
   match s with
   |[]=>exact j _
   |[_]=>exact j _
   |_::_::_=>exact j _
def Tr.fold {α:Type} (f:Ex→α) (g:Int→α→α→α) (t:Tr):α:=(stk f g t.row []).headD (f ⟨0,0,sNone,sNone,0,0⟩)
theorem Tr.fold_row {α:Type} (f:Ex→α) (g:Int→α→α→α) (t:Tr): ∀s,stk f g t.row s=t.fold f g::s:=by
 induction t using Tr.ind with
 |leaf x=>intro s;rfl
 |two k l r o j=>
  have h: ∀s,stk f g (Tr.two k l r).row s=g k (l.fold f g) (r.fold f g)::s:=fun s=>by
   show stk f g (l.row++(r.row++[.inr k])) s=_
   rw[zgE,o,zgE,j]
   rfl
  intro s
  have e:(Tr.two k l r).fold f g=g k (l.fold f g) (r.fold f g):=by
   show (stk f g (Tr.two k l r).row []).headD _=_
   rw[h]
   rfl
  rw[h,e]
theorem Tr.fold_two {α:Type} (f:Ex→α) (g:Int→α→α→α) (k:Int) (l r:Tr):(Tr.two k l r).fold f g=g k (l.fold f g) (r.fold f g):=by
 have h:=Tr.fold_row f g (.two k l r) []
 have e:stk f g (Tr.two k l r).row []=[g k (l.fold f g) (r.fold f g)]:=by
  show stk f g (l.row++(r.row++[.inr k])) []=_
  rw[zgE,Tr.fold_row,zgE,Tr.fold_row]
  rfl
 rw[e] at h
 exact (List.cons.inj h).1.symm
def Tr.both {α:Type} (f:Ex→α) (g:Int→Tr→Tr→α→α→α) (t:Tr):Tr×α:=t.fold (fun x=>(Tr.leaf x,f x)) (fun k a b=>(Tr.two k a.1 b.1,g k a.1 b.1 a.2 b.2))
def Tr.para {α:Type} (f:Ex→α) (g:Int→Tr→Tr→α→α→α) (t:Tr):α:=(t.both f g).2
theorem Tr.both_one {α:Type} (f:Ex→α) (g:Int→Tr→Tr→α→α→α) (t:Tr):(t.both f g).1=t:=by
 induction t using Tr.ind with
 |leaf x=>rfl
 |two k l r o j=>
  unfold Tr.both at o j ⊢
  rw[Tr.fold_two,o,j]
theorem Tr.para_two {α:Type} (f:Ex→α) (g:Int→Tr→Tr→α→α→α) (k:Int) (l r:Tr):(Tr.two k l r).para f g=g k l r (l.para f g) (r.para f g):=by
 have o:=Tr.both_one f g l
 have j:=Tr.both_one f g r
 unfold Tr.para
 unfold Tr.both at o j ⊢
 rw[Tr.fold_two,o,j]
def Tr.size:Tr→Nat:=Tr.fold (fun _=>1) fun _ a b=>a+b+1
theorem Tr.size_leaf (x:Ex):(Tr.leaf x).size=1:=rfl
theorem Tr.size_two (k:Int) (l r:Tr):(Tr.two k l r).size=l.size+r.size+1:=Tr.fold_two ..
def Tr.kind:Tr→Int:=Tr.fold (fun x=>x.kind) fun k _ _=>k
theorem Tr.kind_two (k:Int) (l r:Tr):(Tr.two k l r).kind=k:=Tr.fold_two ..
def Tr.flat:Tr→Nat→List Ex:=Tr.para (fun x _=>[x]) fun k l r a b o=>a o++(b (o+l.size)++[⟨k,0,sNone,sNone,((o+l.size:Nat):Int)-1,((o+l.size+r.size:Nat):Int)-1⟩])
theorem Tr.flat_leaf (x:Ex) (o:Nat):(Tr.leaf x).flat o=[x]:=rfl
theorem Tr.flat_two (k:Int) (l r:Tr) (o:Nat):(Tr.two k l r).flat o=l.flat o++(r.flat (o+l.size)++[⟨k,0,sNone,sNone,((o+l.size:Nat):Int)-1,((o+l.size+r.size:Nat):Int)-1⟩]):=congrFun (Tr.para_two ..) o
theorem Tr.flat_len (t:Tr): ∀o,(t.flat o).length=t.size:=by
 induction t using Tr.ind with
 |leaf x=>intro o;rfl
 |two k l r z j=>intro o;simp only[flat_two,size_two,List.length_append,z,j,List.length_cons,List.length_nil];omega
theorem Tr.pos (t:Tr):0<t.size:=by cases t using Tr.elim<;>simp only[size_leaf,size_two]<;>omega
def Tr.dp:Tr→Nat:=Tr.para (fun _=>0) fun k l r a b=>if k==8 then max ((if zA l.kind then 1 else 0)+a) ((if zO r.kind then 1 else 0)+b) else max a ((if zA r.kind then 1 else 0)+b)
theorem Tr.dp_two (k:Int) (l r:Tr):(Tr.two k l r).dp=if k==8 then max ((if zA l.kind then 1 else 0)+l.dp) ((if zO r.kind then 1 else 0)+r.dp) else max l.dp ((if zA r.kind then 1 else 0)+r.dp):=Tr.para_two ..
def dpS (b:Bool) (t:Tr):Nat:=(if b then 1 else 0)+t.dp
theorem zkl {k:Int} (h:k=6∨k=7) (l r:Tr):(Tr.two k l r).dp=max l.dp (dpS (zA r.kind) r):=by rw[Tr.dp_two];rcases h with rfl|rfl<;>rfl
theorem zkm (l r:Tr):(Tr.two 8 l r).dp=max (dpS (zA l.kind) l) (dpS (zO r.kind) r):=Tr.dp_two ..
theorem zpe (b:Bool) (t:Tr):dpS b t≤t.dp+1:=by unfold dpS;split<;>omega
theorem zpf (b:Bool) (t:Tr):t.dp≤dpS b t:=by unfold dpS;omega
theorem zpg {k:Int} (h:zA k=true):zO k=true:=by
 unfold zA at h
 unfold zO
 rw[h]
 rfl
theorem zph (t:Tr):dpS (zA t.kind) t≤dpS (zO t.kind) t:=by
 unfold dpS
 cases h:zA t.kind with
 |false=>simp
 |true=>rw[zpg h];exact Nat.le_refl _
def NameG (scr:Bool) (x:ByteArray):Prop:=GoodT scr ⟨1,x,0⟩∧zr x scr=false
def FieldG (scr:Bool) (x:ByteArray):Prop:=GoodT scr ⟨1,x,0⟩∧(zr x scr=false∨x.toList=[100,101,102,97,117,108,116])
def zdO (scr:Bool) (x:ByteArray):Prop:=NameG scr x∨(scr=true∧x=sUndef)
def LeafOk (scr:Bool) (e:Ex):Prop:=
 (∃n,0≤n∧n≤1000000∧e=⟨1,n,sNone,sNone,0,0⟩)∨(∃x,zdO scr x∧(e=⟨2,0,x,sNone,0,0⟩∨e=⟨3,0,x,sNone,0,0⟩))∨(∃x f,NameG scr x∧FieldG scr f∧(e=⟨4,0,x,f,0,0⟩∨e=⟨5,0,x,f,0,0⟩))
theorem LeafOk.num {scr:Bool} {n:Int} (o:0≤n) (j:n≤1000000):LeafOk scr ⟨1,n,sNone,sNone,0,0⟩:=.inl ⟨n,o,j,rfl⟩
theorem LeafOk.name {scr:Bool} {x:ByteArray} (h:zdO scr x):LeafOk scr ⟨2,0,x,sNone,0,0⟩:=.inr (.inl ⟨x,h,.inl rfl⟩)
theorem LeafOk.call {scr:Bool} {x:ByteArray} (h:zdO scr x):LeafOk scr ⟨3,0,x,sNone,0,0⟩:=.inr (.inl ⟨x,h,.inr rfl⟩)
theorem LeafOk.mem {scr:Bool} {x f:ByteArray} (h:NameG scr x) (j:FieldG scr f):LeafOk scr ⟨4,0,x,f,0,0⟩:=.inr (.inr ⟨x,f,h,j,.inl rfl⟩)
theorem LeafOk.memCall {scr:Bool} {x f:ByteArray} (h:NameG scr x) (j:FieldG scr f):LeafOk scr ⟨5,0,x,f,0,0⟩:=.inr (.inr ⟨x,f,h,j,.inr rfl⟩)
theorem LeafOk.elim {scr:Bool} {motive:(e:Ex)→LeafOk scr e→Prop} {e:Ex} (h:LeafOk scr e) (num: ∀{n:Int} (h0:0≤n) (h1:n≤1000000),motive _ (.num h0 h1)) (name: ∀{x:ByteArray} (h:zdO scr x),motive _ (.name h)) (call: ∀{x:ByteArray} (h:zdO scr x),motive _ (.call h)) (mem: ∀{x f:ByteArray} (h:NameG scr x) (hf:FieldG scr f),motive _ (.mem h hf)) (memCall: ∀{x f:ByteArray} (h:NameG scr x) (hf:FieldG scr f),motive _ (.memCall h hf)):motive e h:=by
 rcases h with ⟨n,h0,h1,rfl⟩|⟨x,h,rfl|rfl⟩|⟨x,f,h,hf,rfl|rfl⟩
 ·exact num h0 h1
 ·exact name h
 ·exact call h
 ·exact mem h hf
 ·exact memCall h hf
def TrOk (scr:Bool):Tr→Prop:=Tr.fold (LeafOk scr) fun k a b=>(k=6∨k=7∨k=8)∧a∧b
theorem TrOk.two {scr:Bool} {k:Int} {l r:Tr}:TrOk scr (.two k l r)=((k=6∨k=7∨k=8)∧TrOk scr l∧TrOk scr r):=Tr.fold_two ..
theorem zia {scr:Bool} {x:Ex} (h:LeafOk scr x):zO x.kind=false:=by cases h using LeafOk.elim<;>rfl
def zb2 (C:Cx):Prop:=∀t∈C.ts,GoodT C.scr (zbE t)
theorem zgF {C:Cx} (h:zb2 C) {i:Nat} (j:i<C.ts.length):GoodT C.scr (zbE (zf C i)):=by
 unfold zf
 simp only[List.getD]
 rw[List.getElem?_eq_getElem j]
 exact h _ (List.getElem_mem j)
theorem zkn {scr:Bool} {t:Tn} (h:GoodT scr t) (j:t.kind=1):GoodT scr ⟨1,t.text,0⟩:=by
 cases h using GoodT.elim with
 |name o h z=>exact .name o h z
 |num _ _=>cases j
 |str _ _=>cases j
 |sign _ _=>cases j
theorem zib {C:Cx} (h:zb2 C) {i:Nat} (j:plainB C i false=true):NameG C.scr (zf C i).text:=by
 have o:=zed j
 simp only[plainB,Bool.and_eq_true,beq_iff_eq,Bool.false_and,Bool.or_false,Bool.not_eq_true'] at j
 exact⟨zkn (zgF h o) j.1,j.2⟩
theorem zko {C:Cx} (h:zb2 C) {i:Nat} {o:Bool} (j:plainB C i o=true):FieldG C.scr (zf C i).text:=by
 have z:=zed j
 simp only[plainB,Bool.and_eq_true,beq_iff_eq,Bool.or_eq_true,Bool.not_eq_true'] at j
 refine⟨zkn (zgF h z) j.1,?_⟩
 rcases j.2 with k|k
 ·exact .inl k
 ·exact .inr k.2
structure Sm5 (q q':PS):Prop where
 rq:q'.rq=q.rq
 im:q'.im=q.im
 ep:q'.ep=q.ep
 st:q'.st=q.st
 la:q'.la=q.la
theorem Sm5.refl (q:PS):Sm5 q q:=⟨rfl,rfl,rfl,rfl,rfl⟩
theorem Sm5.trans {a b c:PS} (h:Sm5 a b) (k:Sm5 b c):Sm5 a c:=⟨k.rq.trans h.rq,k.im.trans h.im,k.ep.trans h.ep,k.st.trans h.st,k.la.trans h.la⟩
theorem Sm5.adv (q:PS):Sm5 q (adv q):=⟨rfl,rfl,rfl,rfl,rfl⟩
def LeafRes (C:Cx) (q q':PS):Prop:=∃x,LeafOk C.scr x∧q'.ex=q.ex++[x]∧Sm5 q q'∧q'.ex.length≤300
theorem zfI {C:Cx} {x:Ex} {q q':PS} (h:zJ C x q= .ok q') (j:LeafOk C.scr x):LeafRes C q q':=by
 obtain⟨rfl,o⟩:=zbx h
 exact⟨x,j,rfl,⟨rfl,rfl,rfl,rfl,rfl⟩,by simp;omega⟩
theorem zkp {C:Cx} {n:ByteArray} {q q':PS} (h:zau C n q= .ok q') (j:zdO C.scr n):LeafRes C q q':=by
 unfold zau at h
 split at h
 ·obtain⟨a,D,I⟩:=ze h
  obtain⟨b,H,J⟩:=ze D
  obtain⟨rfl,_⟩:=zbh H
  obtain⟨rfl,_⟩:=zbh J
  obtain⟨x,z,E,o,K⟩:=zfI I (.call j)
  exact⟨x,z,E,(Sm5.adv _).trans ((Sm5.adv _).trans o),K⟩
 ·exact zfI h (.name j)
theorem zpi {C:Cx} {n f:ByteArray} {q q':PS} (h:za5 C n f q= .ok q') (j:NameG C.scr n) (o:FieldG C.scr f):LeafRes C q q':=by
 unfold za5 at h
 split at h
 ·obtain⟨a,E,J⟩:=ze h
  obtain⟨b,I,K⟩:=ze E
  obtain⟨rfl,_⟩:=zbh I
  obtain⟨rfl,_⟩:=zbh K
  obtain⟨x,D,H,z,L⟩:=zfI J (.memCall j o)
  exact⟨x,D,H,(Sm5.adv _).trans ((Sm5.adv _).trans z),L⟩
 ·exact zfI h (.mem j o)
def zfa (C:Cx) (A:List Ex) (m:Tr→Nat) (d:Nat) (q q':PS):Prop:=∃t,TrOk C.scr t∧q'.ex=A++t.flat A.length∧d+m t≤20∧Sm5 q q'∧q'.ex.length≤300
def zfJ (t:Tr):Nat:=t.dp
def zfb (t:Tr):Nat:=dpS (zA t.kind) t
def zgG (t:Tr):Nat:=dpS (zO t.kind) t
def Res (C:Cx):NT→Nat→PS→PS→Prop
 | .sum,d,q,q'=>zfa C q.ex zfJ d q q'
 | .prod,d,q,q'=>zfa C q.ex zfb d q q'
 | .part,d,q,q'=>zfa C q.ex zgG d q q'
 | .sumT,d,q,q'=>∀A t0,TrOk C.scr t0→q.ex=A++t0.flat A.length→d+zfJ t0≤20→q.ex.length≤300→zfa C A zfJ d q q'
 | .prodT,d,q,q'=>∀A t0,TrOk C.scr t0→q.ex=A++t0.flat A.length→d+zfb t0≤20→q.ex.length≤300→zfa C A zfb d q q'
theorem zic {A:List Ex} {t0 t1:Tr} {k:Int} {q q1:PS} (z:q.ex=A++t0.flat A.length) (o:q1.ex=q.ex++t1.flat q.ex.length):
  q1.ex++[⟨k,0,sNone,sNone,(q.ex.length:Int)-1,(q1.ex.length:Int)-1⟩]=A++(Tr.two k t0 t1).flat A.length:=by
 have j:q.ex.length=A.length+t0.size:=by rw[z,List.length_append,Tr.flat_len]
 have D:q1.ex.length=A.length+t0.size+t1.size:=by rw[o,List.length_append,Tr.flat_len,j]
 rw[D,o,j,z,Tr.flat_two]
 simp only[List.append_assoc]
theorem zgH {C:Cx} {q q':PS} {d:Nat} (hd:d≤20) (h:LeafRes C q q'):zfa C q.ex zgG d q q':=by
 obtain⟨x,j,D,z,o⟩:=h
 refine⟨.leaf x,j,D,?_,z,o⟩
 have:zgG (.leaf x)=0:=by
  unfold zgG dpS
  rw[show (Tr.leaf x).kind=x.kind from rfl,zia j]
  rfl
 omega
theorem LeafRes.from {C:Cx} {q q1 q':PS} (h:LeafRes C q1 q') (o:q1.ex=q.ex) (H:Sm5 q q1):LeafRes C q q':=by
 obtain⟨x,j,D,z,E⟩:=h
 exact⟨x,j,by rw[D,o],H.trans z,E⟩
theorem zpj {C:Cx} (hC:zb2 C) (f:Nat): ∀(Y:NT) (d:Nat) (q q':PS),d≤20→ev C f Y d q= .ok q'→Res C Y d q q':=by
 induction f with
 |zero=>intro Y d q q' _ h;cases Y using NT.elim<;>cases h
 |succ f H=>
  intro Y d q q' hd h
  cases Y using NT.elim with
  |sum=>
   rw[ev] at h
   obtain⟨a,D,j⟩:=ze h
   obtain⟨t,L,I,K,J,Q⟩:=H _ _ _ _ hd D
   obtain⟨M,O,U,X,o,N⟩:=H _ _ _ _ hd j _ t L I (Nat.le_trans (Nat.add_le_add_left (zpf _ _) _) K) Q
   exact⟨M,O,U,X,J.trans o,N⟩
  |prod=>
   rw[ev] at h
   obtain⟨a,D,j⟩:=ze h
   obtain⟨t,L,I,K,J,Q⟩:=H _ _ _ _ hd D
   obtain⟨M,O,U,X,o,N⟩:=H _ _ _ _ hd j _ t L I (Nat.le_trans (Nat.add_le_add_left (zph t) _) K) Q
   exact⟨M,O,U,X,J.trans o,N⟩
  |sumT=>
   intro A E V k2 k3 k4
   rw[ev] at h
   split at h
   ·obtain⟨a,D,j⟩:=ze h
    obtain⟨b,Z,h4⟩:=ze D
    obtain⟨t,L,I,K,J,Q⟩:=H _ _ _ _ hd Z
    obtain⟨rfl,hl⟩:=zbx h4
    have hk:zbw C q.pos=6∨zbw C q.pos=7:=by unfold zbw;split<;>simp
    have hm:d+zfJ (Tr.two (zbw C q.pos) E t)≤20:=by
     have e:zfJ (Tr.two (zbw C q.pos) E t)=max E.dp (dpS (zA t.kind) t):=zkl hk _ _
     rw[e]
     have:d+dpS (zA t.kind) t≤20:=K
     have:d+E.dp≤20:=k3
     omega
    obtain⟨M,O,U,X,o,N⟩:=H _ _ _ _ hd j A (.two (zbw C q.pos) E t) (by rw[TrOk.two];exact⟨by rcases hk with e|e<;>simp[e],V,L⟩) (zic k2 I) hm (by simp;omega)
    exact⟨M,O,U,X,(Sm5.adv _).trans (J.trans ⟨o.rq,o.im,o.ep,o.st,o.la⟩),N⟩
   ·cases h
    exact⟨E,V,k2,k3,Sm5.refl _,k4⟩
  |prodT=>
   intro A E V k2 k3 k4
   rw[ev] at h
   split at h
   ·obtain⟨a,D,j⟩:=ze h
    obtain⟨b,Z,h4⟩:=ze D
    obtain⟨t,L,I,K,J,Q⟩:=H _ _ _ _ hd Z
    obtain⟨rfl,hl⟩:=zbx h4
    have hm:d+zfb (Tr.two 8 E t)≤20:=by
     have e:zfb (Tr.two 8 E t)=max (dpS (zA E.kind) E) (dpS (zO t.kind) t):=by unfold zfb dpS;rw[Tr.kind_two];exact (Nat.zero_add _).trans (zkm _ _)
     rw[e]
     have:d+dpS (zO t.kind) t≤20:=K
     have:d+dpS (zA E.kind) E≤20:=k3
     omega
    obtain⟨M,O,U,X,o,N⟩:=H _ _ _ _ hd j A (.two 8 E t) (by rw[TrOk.two];exact⟨.inr (.inr rfl),V,L⟩) (zic k2 I) hm (by simp;omega)
    exact⟨M,O,U,X,(Sm5.adv _).trans (J.trans ⟨o.rq,o.im,o.ep,o.st,o.la⟩),N⟩
   ·cases h
    exact⟨E,V,k2,k3,Sm5.refl _,k4⟩
  |part=>
   rw[ev] at h
   split at h
   ·next hk=>
    have hl:=zeJ hk (by decide)
    have hg:=zgF hC hl
    rw[beq_iff_eq] at hk
    refine zgH hd ((zfI h ?_).from rfl (Sm5.adv _))
    generalize hT:zbE (zf C q.pos)=T at hg
    have D:T.kind=2:=by rw[←hT];exact hk
    have j:T.num=(zf C q.pos).num:=by rw[←hT];rfl
    rw[←j]
    cases hg using GoodT.elim with
    |name _ _ _=>cases D
    |num k0 V=>exact .num k0 V
    |str _ _=>cases D
    |sign _ _=>cases D
   ·split at h
    ·split at h
     ·cases h
     ·obtain⟨a,D,j⟩:=ze h
      obtain⟨t,L,I,K,J,Q⟩:=H _ _ _ _ (by omega) D
      obtain⟨rfl,_⟩:=zbh j
      refine⟨t,L,I,?_,(Sm5.adv _).trans (J.trans (Sm5.adv _)),Q⟩
      have Z:=zpe (zO t.kind) t
      have h4:d+1+t.dp≤20:=K
      show d+dpS _ _≤20
      omega
    ·split at h
     ·next hs=>
      rw[Bool.and_eq_true] at hs
      exact zgH hd ((zkp h (.inr ⟨hs.1,rfl⟩)).from rfl (Sm5.adv _))
     ·obtain⟨y,D,j⟩:=ze h
      obtain⟨rfl,hp⟩:=zaX D
      simp only at j
      split at j
      ·obtain⟨z,Z,h4⟩:=ze j
       obtain⟨rfl,aa⟩:=zaX Z
       exact zgH hd ((zpi h4 (zib hC hp) (zko hC aa)).from rfl ((Sm5.adv _).trans ((Sm5.adv _).trans (Sm5.adv _))))
      ·exact zgH hd ((zkp j (.inl (zib hC hp))).from rfl (Sm5.adv _))
theorem zkq {C:Cx} (z:zb2 C) {q q':PS} (h:pE C .sum 0 q= .ok q'): ∃t,TrOk C.scr t∧q'.ex=q.ex++t.flat q.ex.length∧t.dp≤20∧Sm5 q q'∧q'.ex.length≤300:=by
 obtain⟨t,o,D,j,E⟩:=zpj z _ .sum 0 q q' (by omega) h
 exact⟨t,o,D,by rw[Nat.zero_add] at j;exact j,E⟩
def zi (x:ByteArray):Tn:=⟨4,x,0⟩
def zl (x:ByteArray):Tn:=⟨1,x,0⟩
def zbi (x:Ex):List Pc:=
 if x.kind==1 then [.inl ⟨2,sNone,x.num⟩]
 else if x.kind==2 then [.inl (zl x.name)]
 else if x.kind==3 then [.inl (zl x.name),.inl (zi cOpen),.inl (zi zU)]
 else if x.kind==4 then [.inl (zl x.name),.inl (zi cPoint),.inl (zl x.field)]
 else [.inl (zl x.name),.inl (zi cPoint),.inl (zl x.field),.inl (zi cOpen),.inl (zi zU)]
def zaG (b:Bool) (l:List Pc):List Pc:=if b then .inl (zi cOpen)::(l++[.inl (zi zU)]) else l
def opP (k:Int):ByteArray:=if k==8 then zp else if k==7 then zaI else zbq
def Tr.pcs:Tr→List Pc:=Tr.para zbi fun k l r a b=>zaG (k==8&&zA l.kind) a++(.inr sp1:: .inl (zi (opP k)):: .inr sp1::zaG (if k==8 then zO r.kind else zA r.kind) b)
theorem Tr.pcs_leaf (x:Ex):(Tr.leaf x).pcs=zbi x:=rfl
theorem Tr.pcs_two (k:Int) (l r:Tr):(Tr.two k l r).pcs=zaG (k==8&&zA l.kind) l.pcs++(.inr sp1:: .inl (zi (opP k)):: .inr sp1::zaG (if k==8 then zO r.kind else zA r.kind) r.pcs):=Tr.para_two ..
def Rem (C:Cx) (p:Nat) (l:List Tn):Prop:=(C.ts.drop p).map zbE=l
theorem Rem.next {C:Cx} {p:Nat} {t:Tn} {l:List Tn} (h:Rem C p (t::l)):zbE (zf C p)=t∧Rem C (p+1) l∧p<C.ts.length:=by
 unfold Rem at h
 have j:p<C.ts.length:=by
  rcases Nat.lt_or_ge p C.ts.length with k|k
  ·exact k
  ·rw[List.drop_eq_nil_of_le k] at h;cases h
 rw[List.drop_eq_getElem_cons j,List.map_cons] at h
 injection h with h1 h2
 refine⟨?_,h2,j⟩
 rw[←h1]
 unfold zf
 simp only[List.getD]
 rw[List.getElem?_eq_getElem j]
 rfl
theorem Rem.none {C:Cx} {p:Nat} (h:Rem C p []):C.ts.length≤p:=by
 unfold Rem at h
 have:=congrArg List.length h
 rw[List.length_map,List.length_drop,List.length_nil] at this
 omega
def hd (l:List Tn) (k:Int) (x:ByteArray):Bool:=match l with
 |[]=>false
 |t::_=>t.kind==k&&t.text.toList==x.toList
theorem Rem.is {C:Cx} {p:Nat} {l:List Tn} (h:Rem C p l) {k:Int} (z:k≠0) (x:ByteArray):isT C p k x=hd l k x:=by
 cases l with
 |nil=>
  cases o:isT C p k x with
  |false=>rfl
  |true=>have:=za1 o z;have:=h.none;omega
 |cons t l=>
  obtain⟨j,_⟩:=h.next
  unfold isT hd
  rw[←j]
  rfl
theorem Rem.app {C:Cx} {a:List Tn}: ∀{p:Nat} {l:List Tn},Rem C p (a++l)→Rem C (p+a.length) l:=by
 induction a with
 |nil=>intro p l h;exact h
 |cons t a j=>
  intro p l h
  have:=j h.next.2.1
  rw[List.length_cons,show p+(a.length+1)=p+1+a.length from by omega]
  exact this
theorem Rem.kind {C:Cx} {p:Nat} {t:Tn} {l:List Tn} (h:Rem C p (t::l)):(zf C p).kind=t.kind∧(zf C p).text=t.text∧(zf C p).num=t.num:=by
 rw[←h.next.1]
 exact⟨rfl,rfl,rfl⟩
theorem zes {C:Cx} {t:Tn} {l:List Tn} {q:PS} {k:Int} {x:ByteArray} (h:Rem C q.pos (t::l)) (o:k≠0) (j:hd (t::l) k x=true):zd C k x q= .ok (adv q):=by
 unfold zd
 rw[if_pos (by rw[h.is o];exact j)]
theorem zkr (k:Int) (x:ByteArray) (n:Int) (l:List Tn):hd (⟨k,x,n⟩::l) k x=true:=by simp[hd]
theorem zcf (x:ByteArray) (l:List Tn):hd (zi x::l) 4 x=true:=zkr 4 x 0 l
theorem zks (x:ByteArray) (l:List Tn):hd (zl x::l) 1 x=true:=zkr 1 x 0 l
theorem zfK {t:Tn} {l:List Tn} {k:Int} {x:ByteArray} (h:t.kind≠k):hd (t::l) k x=false:=by
 unfold hd
 simp only
 rw[beq_eq_false_iff_ne.2 h]
 rfl
theorem zdP {C:Cx} {x:ByteArray} {l:List Tn} {p:Nat} (h:Rem C p (zl x::l)) (j:NameG C.scr x) (o:Bool):plainB C p o=true:=by
 obtain⟨z,D,_⟩:=h.kind
 unfold plainB
 rw[z,D,show (zl x).text=x from rfl,j.2]
 rfl
theorem zfL {C:Cx} {x:ByteArray} {l:List Tn} {p:Nat} (h:Rem C p (zl x::l)) (j:FieldG C.scr x):plainB C p true=true:=by
 obtain⟨o,z,_⟩:=h.kind
 unfold plainB
 rw[o,z,show (zl x).text=x from rfl]
 rcases j.2 with k|k
 ·rw[k];rfl
 ·rw[k];simp[zl]
theorem zcH {C:Cx} {x:ByteArray} {l:List Tn} {q:PS} {o:Bool} (h:Rem C q.pos (zl x::l)) (j:plainB C q.pos o=true):zk C o q= .ok (adv q,x):=by
 unfold zk
 rw[if_pos j,h.kind.2.1]
 rfl
def zet (l:List Tn):Prop:=hd l 4 cOpen=false∧hd l 4 cPoint=false
def aft (q:PS) (n:Nat) (t:Tr):PS:={q with pos:=q.pos+n,ex:=q.ex++t.flat q.ex.length}
theorem zeu {C:Cx} {x:Ex} {q:PS} (h:q.ex.length<300):zJ C x q= .ok {q with ex:=q.ex++[x]}:=by unfold zJ;rw[if_neg (by omega)]
theorem zpk (scr:Bool):zr sUndef scr=scr:=by
 have e:sUndef.toList=[117,110,100,101,102]:=by rw[Lib.toList_data]
 unfold zr
 rw[e]
 cases scr<;>rfl
theorem zpl {x:ByteArray} {scr:Bool} (j:zr x scr=false) (o:scr=true):(x.toList==sUndef.toList)=false:=by
 cases h:x.toList==sUndef.toList with
 |false=>rfl
 |true=>
  have:=(zeF _ _).1 h
  rw[this,zpk,o] at j
  cases j
theorem zpm {C:Cx} {x:ByteArray} {l:List Tn} {q:PS} (h:Rem C q.pos l) (o:zet l) (j:q.ex.length<300):zau C x q= .ok {q with ex:=q.ex++[⟨2,0,x,sNone,0,0⟩]}:=by
 unfold zau
 rw[if_neg (by rw[h.is (by decide),o.1];decide),zeu j]
theorem zpn {C:Cx} {x:ByteArray} {l:List Tn} {q:PS} (h:Rem C q.pos (zi cOpen::zi zU::l)) (j:q.ex.length<300):zau C x q= .ok {q with pos:=q.pos+2,ex:=q.ex++[⟨3,0,x,sNone,0,0⟩]}:=by
 unfold zau
 rw[if_pos (by rw[h.is (by decide)];exact zcf _ _),zes h (by decide) (zcf _ _),zh,zes (q:=adv q) h.next.2.1 (by decide) (zcf _ _),zh]
 exact zeu j
theorem zpo {C:Cx} {x f:ByteArray} {l:List Tn} {q:PS} (h:Rem C q.pos l) (o:zet l) (j:q.ex.length<300):za5 C x f q= .ok {q with ex:=q.ex++[⟨4,0,x,f,0,0⟩]}:=by
 unfold za5
 rw[if_neg (by rw[h.is (by decide),o.1];decide),zeu j]
theorem zpp {C:Cx} {x f:ByteArray} {l:List Tn} {q:PS} (h:Rem C q.pos (zi cOpen::zi zU::l)) (j:q.ex.length<300):za5 C x f q= .ok {q with pos:=q.pos+2,ex:=q.ex++[⟨5,0,x,f,0,0⟩]}:=by
 unfold za5
 rw[if_pos (by rw[h.is (by decide)];exact zcf _ _),zes h (by decide) (zcf _ _),zh,zes (q:=adv q) h.next.2.1 (by decide) (zcf _ _),zh]
 exact zeu j
theorem zpq:cOpen.toList≠cPoint.toList:=by rw[Lib.toList_data,Lib.toList_data];decide
theorem zpr (l:List Tn):hd (zi cOpen::l) 4 cPoint=false:=by
 unfold hd zi
 simp only[beq_self_eq_true,Bool.true_and]
 exact beq_eq_false_iff_ne.2 zpq
theorem zkt {C:Cx} {x:ByteArray} {l:List Tn} {q:PS} {d:Nat} (h:Rem C q.pos (zl x::l)):
  pE C .part d q=if C.scr&&isT C q.pos 1 sUndef then zau C sUndef (adv q)
   else bd (zk C false q) fun y=>if isT C y.1.pos 4 cPoint then bd (zk C true (adv y.1)) fun z=>za5 C y.2 z.2 z.1 else zau C y.2 y.1:=by
 rw[zby,if_neg (by rw[h.kind.1];exact (by decide: ¬(((1:Int)==2)=true))),if_neg (by rw[h.is (by decide),zfK (show (1:Int)≠4 by decide)];decide)]
theorem zid {C:Cx} {x:ByteArray} {l:List Tn} {q:PS} {d:Nat} (h:Rem C q.pos (zl x::l)) (j:NameG C.scr x):
  pE C .part d q=if hd l 4 cPoint then bd (zk C true (adv (adv q))) fun z=>za5 C x z.2 z.1 else zau C x (adv q):=by
 rw[zkt h]
 have o:(C.scr&&isT C q.pos 1 sUndef)=false:=by
  cases D:C.scr with
  |false=>rfl
  |true=>
   rw[h.is (by decide)]
   unfold hd
   simp only[zl,zpl j.2 D,Bool.and_false]
 rw[o,if_neg (by decide),zcH h (zdP h j false),zh]
 simp only
 rw[show (adv q).pos=q.pos+1 from rfl,h.next.2.1.is (by decide)]
theorem zku {C:Cx} {x:ByteArray} {l:List Tn} {q:PS} {d:Nat} (h:Rem C q.pos (zl x::l)) (j:zdO C.scr x) (z:hd l 4 cPoint=false):pE C .part d q=zau C x (adv q):=by
 rcases j with j|⟨o,rfl⟩
 ·rw[zid h j,if_neg (by rw[z];decide)]
 ·rw[zkt h,if_pos (by rw[o,h.is (by decide),zks];rfl)]
theorem zkv {C:Cx} {x:Ex} {l:List Tn} {q:PS} {d:Nat} (I:LeafOk C.scr x) (h:Rem C q.pos (zg (zbi x)++l)) (H:zet l) (D:q.ex.length<300):pE C .part d q= .ok (aft q (zg (zbi x)).length (.leaf x)):=by
 cases I using LeafOk.elim with
 | @num n K J=>
  have j:Rem C q.pos (⟨2,sNone,n⟩::l):=h
  rw[zby,if_pos (by rw[j.kind.1];rfl),j.kind.2.2]
  exact zeu D
 | @name y z=>
  have j:Rem C q.pos (zl y::l):=h
  rw[zku j z H.2]
  exact zpm (q:=adv q) j.next.2.1 H D
 | @call y z=>
  have j:Rem C q.pos (zl y::zi cOpen::zi zU::l):=h
  rw[zku j z (zpr _),zpn (q:=adv q) j.next.2.1 D]
  rfl
 | @mem y f z E=>
  have j:Rem C q.pos (zl y::zi cPoint::zl f::l):=h
  have o:=j.next.2.1.next.2.1
  rw[zid j z,if_pos (zcf _ _),zcH (q:=adv (adv q)) o (zfL o E),zh]
  simp only
  rw[zpo (q:=adv (adv (adv q))) o.next.2.1 H D]
  rfl
 | @memCall y f z E=>
  have j:Rem C q.pos (zl y::zi cPoint::zl f::zi cOpen::zi zU::l):=h
  have o:=j.next.2.1.next.2.1
  rw[zid j z,if_pos (zcf _ _),zcH (q:=adv (adv q)) o (zfL o E),zh]
  simp only
  rw[zpp (q:=adv (adv (adv q))) o.next.2.1 D]
  rfl
theorem zkw {C:Cx} {l:List Tn} {q:PS} {d:Nat} (h:Rem C q.pos l) (j:hd l 4 zbq=false) (o:hd l 4 zaI=false):pE C .sumT d q= .ok q:=by
 rw[zee,if_neg (by rw[h.is (by decide),h.is (by decide),j,o];decide)]
theorem zie {C:Cx} {l:List Tn} {q:PS} {d:Nat} (h:Rem C q.pos l) (j:hd l 4 zp=false):pE C .prodT d q= .ok q:=by
 rw[zeK,if_neg (by rw[h.is (by decide),j];decide)]
theorem zcq {x y:ByteArray} (h:x.data.toList≠y.data.toList) (l:List Tn):hd (zi x::l) 4 y=false:=by
 unfold hd zi
 simp only[beq_self_eq_true,Bool.true_and]
 refine beq_eq_false_iff_ne.2 fun e=>h ?_
 rw[←Lib.toList_data,←Lib.toList_data]
 exact e
def zgI (C:Cx) (t:Tr):Prop:=∀(d:Nat) (q:PS) (l:List Tn),d+t.dp≤20→Rem C q.pos (zg t.pcs++l)→zet l→hd l 4 zp=false→q.ex.length+t.size≤300→pE C .sum d q=pE C .sumT d (aft q (zg t.pcs).length t)
def zgJ (C:Cx) (t:Tr):Prop:=∀(d:Nat) (q:PS) (l:List Tn),d+t.dp≤20→Rem C q.pos (zg t.pcs++l)→zet l→q.ex.length+t.size≤300→pE C .prod d q=pE C .prodT d (aft q (zg t.pcs).length t)
theorem zkx (b:Bool) (l:List Pc):zg (zaG b l)=if b then zi cOpen::(zg l++[zi zU]) else zg l:=by
 unfold zaG
 split
 ·simp only[zg,zba]
 ·rfl
theorem zif {C:Cx} {t:Tr} (H:zgI C t) {l:List Tn} {q:PS} {d:Nat} (j:d+1+t.dp≤20) (h:Rem C q.pos (zg (zaG true t.pcs)++l)) (E:q.ex.length+t.size≤300):pE C .part d q= .ok (aft q (zg (zaG true t.pcs)).length t):=by
 rw[zkx,if_pos rfl] at h ⊢
 have o:Rem C q.pos (zi cOpen::(zg t.pcs++(zi zU::l))):=by simpa using h
 rw[zby,if_neg (by rw[o.kind.1];decide),if_pos (by rw[o.is (by decide)];exact zcf _ _),if_neg (by omega)]
 have D:=o.next.2.1
 have z:=D.app
 rw[H (d+1) (adv q) _ j D ⟨zcq (by decide) _,zcq (by decide) _⟩ (zcq (by decide) _) E,zkw (q:=aft (adv q) _ t) z (zcq (by decide) _) (zcq (by decide) _),zh,zes (q:=aft (adv q) _ t) z (by decide) (zcf _ _)]
 simp only[List.length_cons,List.length_append,List.length_nil,aft,adv]
 congr 2
 omega
theorem zps {C:Cx} {t:Tr} (o:TrOk C.scr t) (I:zgI C t) {l:List Tn} {q:PS} {d:Nat} {b:Bool} (H:b=false→zO t.kind=false) (j:d+dpS b t≤20) (h:Rem C q.pos (zg (zaG b t.pcs)++l)) (E:zet l) (z:q.ex.length+t.size≤300):
  pE C .part d q= .ok (aft q (zg (zaG b t.pcs)).length t):=by
 cases b with
 |true=>exact zif I (by unfold dpS at j;simp at j;omega) h z
 |false=>
  have D:=H rfl
  cases t using Tr.elim with
  |leaf x=>exact zkv o h E (by simp only[Tr.size_leaf] at z;omega)
  |two k a c=>
   rw[TrOk.two] at o
   rw[Tr.kind_two] at D
   obtain⟨rfl|rfl|rfl,_⟩:=o<;>cases D
theorem zky (q:PS) (n m:Nat) (k:Int) (a c:Tr):
  ({aft (adv (aft q n a)) m c with ex:=(aft (adv (aft q n a)) m c).ex++[⟨k,0,sNone,sNone,((aft q n a).ex.length:Int)-1,((aft (adv (aft q n a)) m c).ex.length:Int)-1⟩]}:PS)=aft q (n+1+m) (.two k a c):=by
 have j:=zic (A:=q.ex) (t0:=a) (t1:=c) (k:=k) (q:=aft q n a) (q1:=aft (adv (aft q n a)) m c) rfl rfl
 rw[j]
 simp only[aft,adv]
 congr 1
 omega
theorem zig (k:Int) (a c:Tr):zg (Tr.two k a c).pcs=zg (zaG (k==8&&zA a.kind) a.pcs)++(zi (opP k)::zg (zaG (if k==8 then zO c.kind else zA c.kind) c.pcs)):=by
 rw[Tr.pcs_two,zba]
 rfl
theorem zih (q:PS) (n:Nat) (t:Tr):(aft q n t).ex.length=q.ex.length+t.size:=by simp only[aft,List.length_append,Tr.flat_len]
theorem zgK (q:PS) (n:Nat) (t:Tr):(adv (aft q n t)).ex.length=q.ex.length+t.size:=zih q n t
theorem zkz {k:Int} (l:List Tn):zet (zi (opP k)::l):=by
 unfold opP
 split
 ·exact⟨zcq (by decide) _,zcq (by decide) _⟩
 ·split
  ·exact⟨zcq (by decide) _,zcq (by decide) _⟩
  ·exact⟨zcq (by decide) _,zcq (by decide) _⟩
theorem zpt {C:Cx} (t:Tr):TrOk C.scr t→zgI C t∧(zA t.kind=false→zgJ C t):=by
 have D: ∀t,zgJ C t→zgI C t:=fun t Q d q l V j M h4 O=>by
  rw[zh9,Q d q l V j M O,zie (q:=aft q _ t) j.app h4,zh]
 induction t using Tr.ind with
 |leaf x=>
  intro I
  have Q:zgJ C (.leaf x):=fun d q l V j M O=>by
   rw[zf4,zkv (d:=d) I j M (by simp only[Tr.size_leaf] at O;omega),zh]
   rfl
  exact⟨D _ Q,fun _=>Q⟩
 |two k a c ab ac=>
  intro I
  rw[TrOk.two] at I
  obtain⟨hk,ha,hc⟩:=I
  obtain⟨sa,pa⟩:=ab ha
  obtain⟨sc,pc⟩:=ac hc
  by_cases k8:k=8
  ·subst k8
   have Q:zgJ C (.two 8 a c):=fun d q l V j M O=>by
    rw[zkm] at V
    rw[zig] at j ⊢
    simp only[show ((8:Int)==8)=true from rfl,Bool.true_and,if_true] at j ⊢
    rw[List.append_assoc,List.cons_append] at j
    simp only[Tr.size_two] at O
    have U:=j.app
    have z:d+dpS (zA a.kind) a≤20:=by omega
    have o:d+dpS (zO c.kind) c≤20:=by omega
    have X:pE C .prod d q=pE C .prodT d (aft q (zg (zaG (zA a.kind) a.pcs)).length a):=by
     cases H:zA a.kind with
     |true=>
      rw[H] at j z
      rw[zf4,zif sa (by unfold dpS at z;simp at z;omega) j (by omega),zh]
     |false=>
      rw[H] at j z
      exact pa H d q _ (by unfold dpS at z;simp at z;omega) j (zkz _) (by omega)
    have K:Rem C (adv (aft q (zg (zaG (zA a.kind) a.pcs)).length a)).pos (zg (zaG (zO c.kind) c.pcs)++l):=U.next.2.1
    have L:=zps hc sc (q:=adv (aft q (zg (zaG (zA a.kind) a.pcs)).length a)) (fun h=>h) o K M (by rw[zgK];omega)
    rw[X,zeK,if_pos (by rw[show (aft q (zg (zaG (zA a.kind) a.pcs)).length a).pos=q.pos+(zg (zaG (zA a.kind) a.pcs)).length from rfl,U.is (by decide)];exact zcf _ _),L,zh,zeu (by rw[zih,zgK];omega),zh,zky]
    rw[List.length_append,List.length_cons,Nat.add_assoc,Nat.add_comm 1]
   exact⟨D _ Q,fun _=>Q⟩
  ·have J:k=6∨k=7:=by omega
   have aa:(k==8)=false:=beq_eq_false_iff_ne.2 k8
   refine⟨fun d q l V j M h4 O=>?_,fun H=>by rw[Tr.kind_two] at H;rcases J with rfl|rfl<;>cases H⟩
   rw[zkl J] at V
   rw[zig] at j ⊢
   simp only[aa,Bool.false_and,Bool.false_eq_true,if_false] at j ⊢
   rw[List.append_assoc,List.cons_append] at j
   simp only[Tr.size_two] at O
   have e0:zaG false a.pcs=a.pcs:=rfl
   rw[e0] at j ⊢
   have U:=j.app
   have o:d+dpS (zA c.kind) c≤20:=by omega
   have N:hd (zi (opP k)::(zg (zaG (zA c.kind) c.pcs)++l)) 4 zp=false:=by rcases J with rfl|rfl<;>exact zcq (by decide) _
   have K:Rem C (adv (aft q (zg a.pcs).length a)).pos (zg (zaG (zA c.kind) c.pcs)++l):=U.next.2.1
   have Y:=K.app
   have L:pE C .prod d (adv (aft q (zg a.pcs).length a))= .ok (aft (adv (aft q (zg a.pcs).length a)) (zg (zaG (zA c.kind) c.pcs)).length c):=by
    have E:(adv (aft q (zg a.pcs).length a)).ex.length+c.size≤300:=by rw[zgK];omega
    cases H:zA c.kind with
    |true=>
     rw[H] at K Y o
     rw[zf4,zif sc (by unfold dpS at o;simp at o;omega) K E,zh]
     exact zie (q:=aft _ _ c) Y h4
    |false=>
     rw[H] at K Y o
     have e1:zaG false c.pcs=c.pcs:=rfl
     rw[e1] at K Y ⊢
     rw[pc H d _ l (by unfold dpS at o;simp at o;omega) K M E]
     exact zie (q:=aft _ _ c) Y h4
   have Z:(isT C (aft q (zg a.pcs).length a).pos 4 zbq||isT C (aft q (zg a.pcs).length a).pos 4 zaI)=true∧zbw C (aft q (zg a.pcs).length a).pos=k:=by
    unfold zbw
    rw[show (aft q (zg a.pcs).length a).pos=q.pos+(zg a.pcs).length from rfl,U.is (by decide),U.is (by decide)]
    rcases J with rfl|rfl
    ·exact⟨by rw[show opP 6=zbq from rfl,zcf];rfl,by rw[show opP 6=zbq from rfl,zcq (by decide)];rfl⟩
    ·exact⟨by rw[show opP 7=zaI from rfl,zcf];simp,by rw[show opP 7=zaI from rfl,zcf];rfl⟩
   rw[sa d q _ (by omega) j (zkz _) N (by omega),zee,if_pos Z.1,Z.2,L,zh,zeu (by rw[zih,zgK];omega),zh,zky]
   rw[List.length_append,List.length_cons,Nat.add_assoc,Nat.add_comm 1]
theorem zgL {C:Cx} {t:Tr} {x:ByteArray} {l:List Tn} {q:PS} (o:TrOk C.scr t) (D:t.dp≤20) (E:x=cSemi∨x=zU) (h:Rem C q.pos (zg t.pcs++zi x::l)) (z:q.ex.length+t.size≤300):pE C .sum 0 q= .ok (aft q (zg t.pcs).length t):=by
 have j: ∀y,y=cOpen∨y=cPoint∨y=zp∨y=zbq∨y=zaI→hd (zi x::l) 4 y=false:=by
  intro y H
  rcases E with rfl|rfl<;>rcases H with rfl|rfl|rfl|rfl|rfl<;>exact zcq (by decide) _
 rw[(zpt t o).1 0 q _ (by omega) h ⟨j _ (by simp),j _ (by simp)⟩ (j _ (by simp)) z]
 exact zkw (q:=aft q _ t) h.app (j _ (by simp)) (j _ (by simp))
def er {α:Type} (x:Except Nat α):Option α:=match x with
 | .ok a=>some a
 | .error _=>none
theorem zap {α β:Type} (x:Except Nat α) (f:α→Except Nat β):er (bd x f)=(er x).bind fun a=>er (f a):=by cases x<;>rfl
theorem zpu {α:Type} {x:Except Nat α} {a:α}:er x=some a↔x= .ok a:=by
 cases x with
 |ok b=>simp[er]
 |error e=>simp[er]
structure SameC (C D:Cx):Prop where
 ts:C.ts.map zbE=D.ts.map zbE
 scr:C.scr=D.scr
theorem SameC.len {C D:Cx} (h:SameC C D):C.ts.length=D.ts.length:=by
 have:=congrArg List.length h.ts
 simpa using this
theorem SameC.tok {C D:Cx} (h:SameC C D) (i:Nat):(zf C i).kind=(zf D i).kind∧(zf C i).text=(zf D i).text∧(zf C i).num=(zf D i).num:=by
 have j:=h.len
 rcases Nat.lt_or_ge i C.ts.length with k|k
 ·have e:=congrArg (fun l=>l[i]?) h.ts
  simp only[List.getElem?_map,List.getElem?_eq_getElem k,List.getElem?_eq_getElem (j▸k),Option.map_some,Option.some.injEq] at e
  unfold zf
  simp only[List.getD,List.getElem?_eq_getElem k,List.getElem?_eq_getElem (j▸k),Option.getD_some]
  exact⟨congrArg Tn.kind e,congrArg Tn.text e,congrArg Tn.num e⟩
 ·rw[zcT k,zcT (by omega)]
  exact⟨rfl,rfl,rfl⟩
theorem SameC.isT {C D:Cx} (h:SameC C D) (i:Nat) (k:Int) (x:ByteArray):isT C i k x=isT D i k x:=by
 unfold Go.Proofs.YthfeoomfiafldaaGreat.isT
 rw[(h.tok i).1,(h.tok i).2.1]
theorem SameC.plainB {C D:Cx} (h:SameC C D) (i:Nat) (o:Bool):plainB C i o=plainB D i o:=by
 unfold Go.Proofs.YthfeoomfiafldaaGreat.plainB
 rw[(h.tok i).1,(h.tok i).2.1,h.scr]
theorem zbF {C D:Cx} (h:SameC C D) (k:Int) (x:ByteArray) (q:PS):er (zd C k x q)=er (zd D k x q):=by
 unfold zd
 rw[h.isT]
 split<;>rfl
theorem zd3 {C D:Cx} (h:SameC C D) (o:Bool) (q:PS):er (zk C o q)=er (zk D o q):=by
 unfold zk
 rw[h.plainB,(h.tok _).2.1]
 split<;>rfl
theorem zk0 {C D:Cx} (h:SameC C D) (q:PS):er (zy C q)=er (zy D q):=by
 unfold zy
 rw[(h.tok _).1,(h.tok _).2.1]
 split
 ·split
  ·rfl
  ·split<;>rfl
 ·rfl
theorem zii (C D:Cx) (x:Im) (q:PS):er (zW C x q)=er (zW D x q):=by unfold zW;split<;>rfl
theorem zfc (C D:Cx) (x:Ep) (q:PS):er (zm C x q)=er (zm D x q):=by
 unfold zm
 split
 ·rfl
 ·split<;>rfl
theorem zev (C D:Cx) (k:Int) (n:ByteArray) (q:PS):er (zE C k n q)=er (zE D k n q):=by unfold zE;split<;>rfl
theorem zew (C D:Cx) (x:Ex) (q:PS):er (zJ C x q)=er (zJ D x q):=by unfold zJ;split<;>rfl
theorem zk1 {C D:Cx} (h:SameC C D) (n:ByteArray) (q:PS):er (zau C n q)=er (zau D n q):=by
 unfold zau
 rw[h.isT]
 split
 ·simp only[zap,zbF h,zew C D]
 ·exact zew C D _ _
theorem zpv {C D:Cx} (h:SameC C D) (n f:ByteArray) (q:PS):er (za5 C n f q)=er (za5 D n f q):=by
 unfold za5
 rw[h.isT]
 split
 ·simp only[zap,zbF h,zew C D]
 ·exact zew C D _ _
theorem zpw {C D:Cx} (h:SameC C D) (f:Nat): ∀j d q,er (ev C f j d q)=er (ev D f j d q):=by
 induction f with
 |zero=>intro j d q;cases j<;>rfl
 |succ f o=>
  intro j d q
  cases j using NT.elim with
  |sum=>simp only[ev,zap,o]
  |prod=>simp only[ev,zap,o]
  |sumT=>
   have z:zbw C q.pos=zbw D q.pos:=by unfold zbw;rw[h.isT]
   simp only[ev,h.isT]
   split
   ·simp only[zap,o,zew C D,z]
   ·rfl
  |prodT=>
   simp only[ev,h.isT]
   split
   ·simp only[zap,o,zew C D]
   ·rfl
  |part=>
   simp only[ev,h.isT,(h.tok _).1,(h.tok _).2.2,h.scr]
   split
   ·exact zew C D _ _
   ·split
    ·split
     ·rfl
     ·simp only[zap,o,zbF h]
    ·split
     ·exact zk1 h _ _
     ·simp only[zap,zd3 h]
      congr 1
      funext x
      split
      ·simp only[zap,zd3 h,zpv h]
      ·exact zk1 h _ _
theorem zex {C D:Cx} (h:SameC C D) (j:NT) (d:Nat) (q:PS):er (pE C j d q)=er (pE D j d q):=by
 unfold pE nd
 rw[h.len]
 exact zpw h ..
theorem zpx {C D:Cx} (h:SameC C D) (j:Bool) (a:PS×ByteArray):er (asP C j a)=er (asP D j a):=by
 unfold asP
 rw[h.isT]
 split
 ·exact zd3 h _ _
 ·split<;>rfl
theorem zpy {C D:Cx} (h:SameC C D) (j:Bool) (f:Nat): ∀q acc,er (zbK C j f q acc)=er (zbK D j f q acc):=by
 induction f with
 |zero=>intro q acc;rfl
 |succ f o=>
  intro q acc
  simp only[zbK,zap,zd3 h,zpx h,h.isT]
  congr 1
  funext a
  congr 1
  funext b
  split
  ·exact o _ _
  ·simp only[zap,zbF h]
theorem zk2 {C D:Cx} (h:SameC C D) (j:Bool) (q:PS):er (zbB C j q)=er (zbB D j q):=by
 unfold zbB zay
 simp only[zap,zbF h,h.len,zpy h]
theorem zfM {C D:Cx} (h:SameC C D) {x y:PR} (j:er x=er y):er (zaD C (zav C x))=er (zaD D (zav D y)):=by
 unfold zaD zav
 simp only[zap,j,zbF h,zk0 h]
theorem zij {α:Type} {f g:α→PS→PR} (o: ∀a q,er (f a q)=er (g a q)) (l:List α): ∀x y,er x=er y→er (zK f l x)=er (zK g l y):=by
 induction l with
 |nil=>intro x y j;exact j
 |cons a l z=>
  intro x y j
  refine z _ _ ?_
  simp only[zap,j,o]
theorem zpz {C D:Cx} (h:SameC C D) (q:PS):er (za3 C q)=er (za3 D q):=by
 unfold za3
 simp only[zap,zbF h]
 congr 1
 funext q1
 rw[h.isT,h.isT,h.plainB]
 split
 ·simp only[zap,zk2 h]
  congr 1
  funext a
  rw[zfM h rfl]
  congr 1
  funext b
  exact zij (fun a q=>zii C D _ _) _ _ _ rfl
 ·split
  ·simp only[zap,zbF h,zd3 h]
   congr 1
   funext a
   rw[zfM h rfl]
   congr 1
   funext b
   exact zii C D _ _
  ·split
   ·simp only[zap,zd3 h]
    congr 1
    funext a
    rw[zfM h rfl]
    congr 1
    funext b
    exact zii C D _ _
   ·simp only[zap,zk0 h,zbF h]
theorem zk3 {C D:Cx} (h:SameC C D) (q:PS):er (zbA C q)=er (zbA D q):=by
 unfold zbA withN
 simp only[zap,zbF h,zd3 h,zex h,zev C D]
theorem zk4 {C D:Cx} (h:SameC C D) (q:PS):er (fnP C q)=er (fnP D q):=by
 unfold fnP withN
 simp only[zap,zbF h,zd3 h,zex h,zev C D]
theorem zp0 {C D:Cx} (h:SameC C D) (q:PS):er (zV C q)=er (zV D q):=by
 unfold zV
 simp only[zap,zbF h]
 congr 1
 funext q1
 rw[h.isT,h.isT,h.isT,h.isT,h.isT]
 split
 ·simp only[zap,zk2 h]
  congr 1
  funext a
  rw[h.isT]
  split
  ·simp only[zap,zbF h]
   congr 1
   funext b
   exact zij (fun a q=>zfc C D _ _) _ _ _ rfl
  ·rw[zap,zap,zfM h rfl]
   congr 1
   funext b
   exact zij (fun a q=>zfc C D _ _) _ _ _ rfl
 ·split
  ·rw[zap,zap,zfM h (zbF h 4 zp q1)]
   congr 1
   funext b
   exact zfc C D _ _
  ·split
   ·simp only[zap,zbF h,zex h,zev C D,zfc C D]
   ·split
    ·simp only[zap,zk3 h,zfc C D]
    ·split
     ·simp only[zap,zk4 h,zfc C D]
     ·rfl
theorem zp1 {C D:Cx} (h:SameC C D) (q:PS):er (zo C q)=er (zo D q):=by
 unfold zo za7
 rw[h.scr]
 simp only[h.isT]
 split
 ·exact zpz h q
 ·split
  ·exact zp0 h q
  ·split
   ·simp only[zap,zk3 h]
   ·split
    ·simp only[zap,zk4 h]
    ·split
     ·simp only[zap,zbF h,zex h,zev C D]
     ·split
      ·simp only[zap,zbF h,zex h,zev C D]
      ·split
       ·simp only[zap,zbF h,zex h,zev C D]
       ·simp only[zap,zbF h,zd3 h,zex h,zev C D]
theorem zp2 {C D:Cx} (h:SameC C D) (f:Nat): ∀q,er (zbL C f q)=er (zbL D f q):=by
 induction f with
 |zero=>intro q;rfl
 |succ f j=>
  intro q
  simp only[zbL,h.len]
  split
  ·simp only[zap,zp1 h,j]
  ·rfl
theorem zp3 {s t:ByteArray} {scr:Bool} {o j:List Tk} {q:PS} (K:zY s scr (.ok o)) (J:zY t scr (.ok j)) (H:j.map zbE=o.map zbE) (h:za8 s scr (.ok q)):za8 t scr (.ok q):=by
 obtain⟨r,E,e⟩:=h
 obtain rfl:=zh5 E K
 refine⟨.ok j,J,?_⟩
 have z:SameC ⟨o,s.size,scr⟩ ⟨j,t.size,scr⟩:=⟨H.symm,rfl⟩
 have:=zp2 z (o.length-startP.pos+1) startP
 have D:zM ⟨o,s.size,scr⟩ startP= .ok q:=e.symm
 unfold zM at D
 rw[D] at this
 have I:=zpu.1 this.symm
 show Except.ok q=zM ⟨j,t.size,scr⟩ startP
 unfold zM
 rw[←z.len]
 exact I.symm
def zaL (s:ByteArray):ByteArray:=({data:=#[34]}:ByteArray)++s++({data:=#[34]}:ByteArray)
def asT (a b:ByteArray):ByteArray:=if a.toList==b.toList then a else a++({data:=#[32,97,115,32]}:ByteArray)++b
def zaO (x:Im):ByteArray:=
 if x.first.toList==[42] then ({data:=#[105,109,112,111,114,116,32,42,32,97,115,32]}:ByteArray)++x.loc++({data:=#[32,102,114,111,109,32]}:ByteArray)++zaL x.spec++({data:=#[59,10]}:ByteArray)
 else if x.first.toList==[100,101,102,97,117,108,116] then ({data:=#[105,109,112,111,114,116,32]}:ByteArray)++x.loc++({data:=#[32,102,114,111,109,32]}:ByteArray)++zaL x.spec++({data:=#[59,10]}:ByteArray)
 else ({data:=#[105,109,112,111,114,116,32,123,32]}:ByteArray)++asT x.first x.loc++({data:=#[32,125,32,102,114,111,109,32]}:ByteArray)++zaL x.spec++({data:=#[59,10]}:ByteArray)
def zc7 (x:Ep):ByteArray:=
 if x.kind==3 then ({data:=#[101,120,112,111,114,116,32,42,32,102,114,111,109,32]}:ByteArray)++zaL x.spec++({data:=#[59,10]}:ByteArray)
 else if x.kind==2 then ({data:=#[101,120,112,111,114,116,32,123,32]}:ByteArray)++asT x.loc x.name++({data:=#[32,125,32,102,114,111,109,32]}:ByteArray)++zaL x.spec++({data:=#[59,10]}:ByteArray)
 else ({data:=#[101,120,112,111,114,116,32,123,32]}:ByteArray)++asT x.loc x.name++({data:=#[32,125,59,10]}:ByteArray)
def zd4 (k:Int) (n e:ByteArray):ByteArray:=
 if k==1 then (if n.toList==[42,100,101,102,97,117,108,116] then ({data:=#[101,120,112,111,114,116,32,100,101,102,97,117,108,116,32]}:ByteArray)++e++({data:=#[59,10]}:ByteArray) else ({data:=#[108,101,116,32]}:ByteArray)++n++({data:=#[32,61,32]}:ByteArray)++e++({data:=#[59,10]}:ByteArray))
 else if k==2 then ({data:=#[102,117,110,99,116,105,111,110,32]}:ByteArray)++n++({data:=#[40,41,32,123,32,114,101,116,117,114,110,32]}:ByteArray)++e++({data:=#[59,32,125,10]}:ByteArray)
 else if k==3 then n++({data:=#[32,61,32]}:ByteArray)++e++({data:=#[59,10]}:ByteArray)
 else if k==4 then ({data:=#[112,114,105,110,116,40]}:ByteArray)++e++({data:=#[41,59,10]}:ByteArray)
 else if k==5 then ({data:=#[116,104,114,111,119,32]}:ByteArray)++e++({data:=#[59,10]}:ByteArray)
 else ({data:=#[102,97,105,108,32]}:ByteArray)++e++({data:=#[59,10]}:ByteArray)
def zcZ (k:Int) (n e:ByteArray):ByteArray:=if n.toList==[42,100,101,102,97,117,108,116] then ({data:=#[101,120,112,111,114,116,32,100,101,102,97,117,108,116,32]}:ByteArray)++e++({data:=#[59,10]}:ByteArray) else zd4 k n e
def rqT (s:ByteArray):ByteArray:=({data:=#[105,109,112,111,114,116,32]}:ByteArray)++zaL s++({data:=#[59,10]}:ByteArray)
def acc {α:Type} (f:α→ByteArray) (l:List α) (t:ByteArray):ByteArray:=l.foldl (fun t x=>t++f x) t
theorem zd5 {α:Type} (f:α→ByteArray) {l:List α} {j:Nat} {x:α} (h:l[j]? =some x) (t:ByteArray):acc f (l.take (j+1)) t=acc f (l.take j) t++f x:=by
 obtain⟨o,rfl⟩:=List.getElem?_eq_some_iff.1 h
 rw[List.take_succ_eq_append_getElem o,acc,List.foldl_append]
 rfl
theorem zgM {α:Type} (f:α→ByteArray) (l:List α): ∀t:ByteArray,t.size≤(acc f l t).size:=by
 induction l with
 |nil=>intro t;exact Nat.le_refl _
 |cons x l j=>
  intro t
  refine Nat.le_trans ?_ (j (t++f x))
  rw[ByteArray.size_append]
  omega
theorem zp4 {α:Type} (f:α→ByteArray) (a b:List α) (t:ByteArray):acc f (a++b) t=acc f b (acc f a t):=by rw[acc,List.foldl_append];rfl
theorem zgN {α:Type} (f:α→ByteArray) (l:List α) (j:Nat) (t:ByteArray):(acc f (l.take j) t).size≤(acc f l t).size:=by
 have:acc f l t=acc f (l.drop j) (acc f (l.take j) t):=by rw[←zp4,List.take_append_drop]
 rw[this]
 exact zgM f _ _
def epF (x:Ep):ByteArray:=if x.loc.toList==[42,100,101,102,97,117,108,116] then sNone else zc7 x
def stF (ex:List Ex) (s:Sm):ByteArray:=zd4 s.kind s.name (prX ex s.expr.toNat)
def zc8 (ex:List Ex) (s:Sm):ByteArray:=zcZ s.kind s.name (prX ex s.expr.toNat)
def zda (m:Md):ByteArray:=acc epF m.ep (acc zaO m.im (acc rqT m.rq sNone))
def zcx (m:Md):ByteArray:=acc (stF m.ex) m.st (zda m)
def zbZ (m:Md):ByteArray:=acc (zc8 m.ex) m.st (zda m)
def PrintOut (T:ByteArray) (m:Md) (e:Ending):Prop:=(Tree m∧e= .returned (.string T))∨(¬Tree m∧e= .returned (.string sNone))
structure Small (m:Md):Prop where
 rq: ∀x∈m.rq,x.size≤4294967296
 im: ∀x∈m.im,x.spec.size≤4294967296∧x.first.size≤4294967296∧x.loc.size≤4294967296
 ep: ∀x∈m.ep,x.spec.size≤4294967296∧x.name.size≤4294967296∧x.loc.size≤4294967296
 st: ∀x∈m.st,x.name.size≤4294967296
 nums:zeL m.ex
 few:m.rq.length≤4294967296∧m.im.length≤4294967296∧m.ep.length≤4294967296∧m.st.length≤4294967296∧m.ex.length≤4294967296
end Go.Proofs.YthfeoomfiafldaaGreat
