/-
  What the specification's draws of programs tell: some text,not a long one: the walks.
  What the specification's draw of an item tells: some text,not a long one: the walk.
  The row of the type byte.
  What l1Text of the specification tells: the walk.
  What spec.l1Spoil tells: the walk.
  What the specification's draw of a program's text tells: some text,not a long one: the walk.
  What spec.DrawParse and laws.at tell: some text that is not long,some flag; some byte: the walks.
  Texts made of tokens and of what is passed over between them,and that Lex tells these tokens of them. No program is spoken of.
  Expressions as trees: what is read of tokens is the row of a tree. No program is spoken of.
  A tree's tokens are read as its row. No program is spoken of.
  Two rows of the same tokens are read as the same program,wherever they stand. No program is spoken of.
  Lines of a program's text,as plain functions. No program is spoken of.
  A program's text: its lines,one behind the other. No program is spoken of.
-/
import Derived.Test.YtlnohpdiiileeaaGreatClDrawBaseToTokMem
import Derived.Test.YtlnohpdiiileeaaGreatClImplParseJToMdMem
import Derived.Test.YtlnohpdiiileeaaGreatProg
import Derived.WalkKit
import Derived.WalkLawsBesides
import Derived.Test.YtlnohpdiiileeaaGreatClAid
import Derived.Test.YtlnohpdiiileeaaGreatClParseMemToModMem
namespace Go.Proofs.YtlnohpdiiileeaaGreat
set_option maxRecDepth 100000
set_option maxHeartbeats 12800000
open Go.RowKit Go.PlainAid
/-- A draw of a text of at most N bytes. -/
def zmh (S:Src) (g N:Nat) (w:World) (e:Ending) (w':World):Prop:=∃x q',e= .returned (.string x)∧x.size≤N∧CurW 176 S w' g q'∧w.grownBy w' (some g)
theorem zbeo (w:World) (o:Obj) (r:Option Nat):w.grownBy (w.alloc o) r:=⟨rfl,rfl,rfl,by rw[zq];omega,fun k hk _=>heap_alloc_old w o hk⟩
theorem zbls {S:Src} {w:World} {g:Nat} {q:Nat×Int} (h:CurW 176 S w g q) (o:Obj):CurW 176 S (w.alloc o) g q:=zgh h ((Below.refl w.heap.size w).alloc (Nat.le_refl _) _) (zle h)
/-- One of the texts of a row just made. -/
theorem zdz (S:Src) (hS:S.ok) (g:Nat) (q:Nat×Int) (N:Nat) (l:List ByteArray) (w:World) (hc:CurW 176 S w g q) (h1:1≤l.length) (h2:l.length≤1000) (hl: ∀x∈l,x.size≤N):
  Calls Tryz.prog 71 #[.pointer (some ⟨g,0,none⟩),.slice (some ⟨w.heap.size,0,none⟩) l.length l.length] (w.alloc (.cells (l.map Value.string).toArray 9)) (zmh S g N w):=by
 have hg:=zle hc
 refine (zbkx S hS g q w.heap.size l.length N _ (zbls hc _) h1 h2 (by rw[zq];omega) (by omega) ?_).mono ?_
 ·intro j hj
  rw[World.cell?_alloc_new]
  refine⟨l[j],?_,hl _ (List.getElem_mem hj)⟩
  simp[List.getElem?_eq_getElem hj]
 ·rintro e w' ⟨x,q',rfl,hx,hcx,hgx⟩
  exact⟨x,q',rfl,hx,hcx,zj (zbeo w _ _) hgx⟩
theorem zot (S:Src) (hS:S.ok) (g:Nat) (scr:Bool) (d N:Nat) (hd:d≤2) (hN:N≤100000) (ih:0<d→∀(q:Nat×Int) (w:World),CurW 176 S w g q→Calls Tryz.prog 219 #[.pointer (some ⟨g,0,none⟩),.int .i64 ((d:Int)-1),.bool scr] w (zmh S g N w))
  (q0:Nat×Int) (w0:World) (hc:CurW 176 S w0 g q0):Calls Tryz.prog 219 #[.pointer (some ⟨g,0,none⟩),.int .i64 (d:Int),.bool scr] w0 (zmh S g (2*N+110) w0):=by
 have HC0:=hidI hc
 have HG0:Hid (w0.grownBy w0 (some g)):=⟨rfl,rfl,rfl,Nat.le_refl _,fun _ _ _=>rfl⟩
 have IH:=hidI ih
 clear hc ih
 go_enter Tryz.func219,Tryz.ntmps219
 go_wp2_with fail
 refine (zdz S hS g _ 100 [{data:=#[97]},{data:=#[98]},{data:=#[120]},{data:=#[102]},{data:=#[103]},{data:=#[110]},{data:=#[100]}] _ HC0.out (by simp) (by simp) (by intro x hx;simp only[List.mem_cons,List.not_mem_nil,or_false] at hx;rcases hx with rfl|rfl|rfl|rfl|rfl|rfl|rfl<;>decide)).mono ?_
 rintro e w1 ⟨x1,q1,rfl,z1,hc,hg⟩
 have HC1:=hidI hc
 have HG1:=hidI (zj HG0.out hg)
 clear hc hg
 go_wp2_with fail
 refine (zci S hS g _ 9 _ HC1.out (by omega)).mono ?_
 rintro e w2 ⟨rfl,hc,hg⟩
 have hbd:=zko S q1 9 (by omega)
 obtain⟨k2,hk⟩: ∃k:Nat,(bw S q1 9).1=k:=⟨(bw S q1 9).1.toNat,by omega⟩
 obtain⟨q2,hq⟩: ∃q',(bw S q1 9).2=q':=⟨_,rfl⟩
 rw[hk] at hbd ⊢
 rw[hq] at hc
 have HC2:=hidI hc
 have HG2:=hidI (zj HG1.out hg)
 clear hc hg
 have kb2:k2<9:=by omega
 clear hbd hk hq
 have TAIL:True:=trivial
 clear TAIL
 rcases (show k2=0∨k2=1∨k2=2∨k2=3∨k2=4∨k2=5∨k2=6∨k2=7∨k2=8 by omega) with rfl|rfl|rfl|rfl|rfl|rfl|rfl|rfl|rfl
 ·go_wp2_with fail
  refine (zci S hS g _ 9 _ HC2.out (by omega)).mono ?_
  rintro e w3 ⟨rfl,hc,hg⟩
  have hbd:=zko S q2 9 (by omega)
  obtain⟨k3,hk⟩: ∃k:Nat,(bw S q2 9).1=k:=⟨(bw S q2 9).1.toNat,by omega⟩
  obtain⟨q3,hq⟩: ∃q',(bw S q2 9).2=q':=⟨_,rfl⟩
  rw[hk] at hbd ⊢
  rw[hq] at hc
  have HC3:=hidI hc
  have HG3:=hidI (zj HG2.out hg)
  clear hc hg
  have kb3:k3<9:=by omega
  clear hbd hk hq
  go_wp2_with fail
  refine (zub (k3:Int) _ (by omega)).mono ?_
  rintro e w4 ⟨rfl,hb⟩
  have HC4:=hidI (zgh HC3.out hb (zle HC3.out))
  have HG4:=hidI (zgp HG3.out hb HG3.out.size)
  have hz:=zpt (k3:Int) (by omega) (by omega)
  clear hb
  go_wp2
  go_ret
  exact⟨_,q3,rfl,by omega,HC4.out,HG4.out⟩
 ·go_wp2_with fail
  refine (zci S hS g _ 9 _ HC2.out (by omega)).mono ?_
  rintro e w3 ⟨rfl,hc,hg⟩
  have hbd:=zko S q2 9 (by omega)
  obtain⟨k3,hk⟩: ∃k:Nat,(bw S q2 9).1=k:=⟨(bw S q2 9).1.toNat,by omega⟩
  obtain⟨q3,hq⟩: ∃q',(bw S q2 9).2=q':=⟨_,rfl⟩
  rw[hk] at hbd ⊢
  rw[hq] at hc
  have HC3:=hidI hc
  have HG3:=hidI (zj HG2.out hg)
  clear hc hg
  have kb3:k3<9:=by omega
  clear hbd hk hq
  go_wp2_with fail
  refine (zub (k3:Int) _ (by omega)).mono ?_
  rintro e w4 ⟨rfl,hb⟩
  have HC4:=hidI (zgh HC3.out hb (zle HC3.out))
  have HG4:=hidI (zgp HG3.out hb HG3.out.size)
  have hz:=zpt (k3:Int) (by omega) (by omega)
  clear hb
  go_wp2
  go_ret
  exact⟨_,q3,rfl,by omega,HC4.out,HG4.out⟩
 ·go_wp2
  go_ret
  exact⟨_,q2,rfl,by have y0:(({data:=#[32,40,32,41]}:ByteArray)).size=4:=rfl;simp only[ByteArray.size_append,y0];omega,HC2.out,HG2.out⟩
 ·go_wp2
  go_ret
  exact⟨_,q2,rfl,by have y0:(({data:=#[110,32,46,32]}:ByteArray)).size=4:=rfl;simp only[ByteArray.size_append,y0];omega,HC2.out,HG2.out⟩
 ·go_wp2
  go_ret
  exact⟨_,q2,rfl,by have y0:(({data:=#[110,32,46,32,102,32,40,32,41]}:ByteArray)).size=9:=rfl;omega,HC2.out,HG2.out⟩
 ·by_cases hd0:0<d
  ·go_wp2_with fail
   refine (IH.out hd0 q2 _ HC2.out).mono ?_
   rintro e w3 ⟨x3,q3,rfl,z3,hc,hg⟩
   have HC3:=hidI hc
   have HG3:=hidI (zj HG2.out hg)
   clear hc hg
   go_wp2_with fail
   refine (zdz S hS g _ 100 [{data:=#[43]},{data:=#[45]},{data:=#[42]}] _ HC3.out (by simp) (by simp) (by intro x hx;simp only[List.mem_cons,List.not_mem_nil,or_false] at hx;rcases hx with rfl|rfl|rfl<;>decide)).mono ?_
   rintro e w4 ⟨x4,q4,rfl,z4,hc,hg⟩
   have HC4:=hidI hc
   have HG4:=hidI (zj HG3.out hg)
   clear hc hg
   go_wp2_with fail
   refine (IH.out hd0 q4 _ HC4.out).mono ?_
   rintro e w5 ⟨x5,q5,rfl,z5,hc,hg⟩
   have HC5:=hidI hc
   have HG5:=hidI (zj HG4.out hg)
   clear hc hg
   go_wp2
   go_ret
   exact⟨_,q5,rfl,by have y0:(({data:=#[32]}:ByteArray)).size=1:=rfl;simp only[ByteArray.size_append,y0];omega,HC5.out,HG5.out⟩
  ·have hdz: ¬0<(d:Int):=by omega
   cases scr with
   |false=>
    go_wp2
    go_ret
    exact⟨_,q2,rfl,by omega,HC2.out,HG2.out⟩
   |true=>
    go_wp2_with fail
    refine (zgj S hS g _ 8 _ HC2.out (by omega)).mono ?_
    rintro e w3 ⟨rfl,hc,hg⟩
    obtain⟨q3,hq⟩: ∃q',(bw S q2 8).2=q':=⟨_,rfl⟩
    rw[hq] at hc
    have HC3:=hidI hc
    have HG3:=hidI (zj HG2.out hg)
    clear hc hg hq
    generalize ((bw S q2 8).1==0)=b
    cases b with
    |false=>
     go_wp2
     go_ret
     exact⟨_,q3,rfl,by omega,HC3.out,HG3.out⟩
    |true=>
     go_wp2_with fail
     refine (zdz S hS g _ 100 [{data:=#[117,110,100,101,102]},{data:=#[117,110,100,101,102,32,40,32,41]},{data:=#[97,36,49]},{data:=#[120,36]}] _ HC3.out (by simp) (by simp) (by intro x hx;simp only[List.mem_cons,List.not_mem_nil,or_false] at hx;rcases hx with rfl|rfl|rfl|rfl<;>decide)).mono ?_
     rintro e w4 ⟨x4,q4,rfl,z4,hc,hg⟩
     have HC4:=hidI hc
     have HG4:=hidI (zj HG3.out hg)
     clear hc hg
     go_wp2
     go_ret
     exact⟨_,q4,rfl,by omega,HC4.out,HG4.out⟩
 ·by_cases hd0:0<d
  ·go_wp2_with fail
   refine (IH.out hd0 q2 _ HC2.out).mono ?_
   rintro e w3 ⟨x3,q3,rfl,z3,hc,hg⟩
   have HC3:=hidI hc
   have HG3:=hidI (zj HG2.out hg)
   clear hc hg
   go_wp2_with fail
   refine (zdz S hS g _ 100 [{data:=#[43]},{data:=#[45]},{data:=#[42]}] _ HC3.out (by simp) (by simp) (by intro x hx;simp only[List.mem_cons,List.not_mem_nil,or_false] at hx;rcases hx with rfl|rfl|rfl<;>decide)).mono ?_
   rintro e w4 ⟨x4,q4,rfl,z4,hc,hg⟩
   have HC4:=hidI hc
   have HG4:=hidI (zj HG3.out hg)
   clear hc hg
   go_wp2_with fail
   refine (IH.out hd0 q4 _ HC4.out).mono ?_
   rintro e w5 ⟨x5,q5,rfl,z5,hc,hg⟩
   have HC5:=hidI hc
   have HG5:=hidI (zj HG4.out hg)
   clear hc hg
   go_wp2
   go_ret
   exact⟨_,q5,rfl,by have y0:(({data:=#[32]}:ByteArray)).size=1:=rfl;simp only[ByteArray.size_append,y0];omega,HC5.out,HG5.out⟩
  ·have hdz: ¬0<(d:Int):=by omega
   cases scr with
   |false=>
    go_wp2
    go_ret
    exact⟨_,q2,rfl,by omega,HC2.out,HG2.out⟩
   |true=>
    go_wp2_with fail
    refine (zgj S hS g _ 8 _ HC2.out (by omega)).mono ?_
    rintro e w3 ⟨rfl,hc,hg⟩
    obtain⟨q3,hq⟩: ∃q',(bw S q2 8).2=q':=⟨_,rfl⟩
    rw[hq] at hc
    have HC3:=hidI hc
    have HG3:=hidI (zj HG2.out hg)
    clear hc hg hq
    generalize ((bw S q2 8).1==0)=b
    cases b with
    |false=>
     go_wp2
     go_ret
     exact⟨_,q3,rfl,by omega,HC3.out,HG3.out⟩
    |true=>
     go_wp2_with fail
     refine (zdz S hS g _ 100 [{data:=#[117,110,100,101,102]},{data:=#[117,110,100,101,102,32,40,32,41]},{data:=#[97,36,49]},{data:=#[120,36]}] _ HC3.out (by simp) (by simp) (by intro x hx;simp only[List.mem_cons,List.not_mem_nil,or_false] at hx;rcases hx with rfl|rfl|rfl|rfl<;>decide)).mono ?_
     rintro e w4 ⟨x4,q4,rfl,z4,hc,hg⟩
     have HC4:=hidI hc
     have HG4:=hidI (zj HG3.out hg)
     clear hc hg
     go_wp2
     go_ret
     exact⟨_,q4,rfl,by omega,HC4.out,HG4.out⟩
 ·by_cases hd0:0<d
  ·go_wp2_with fail
   refine (IH.out hd0 q2 _ HC2.out).mono ?_
   rintro e w3 ⟨x3,q3,rfl,z3,hc,hg⟩
   have HC3:=hidI hc
   have HG3:=hidI (zj HG2.out hg)
   clear hc hg
   go_wp2
   go_ret
   exact⟨_,q3,rfl,by have y0:(({data:=#[40,32]}:ByteArray)).size=2:=rfl;have y1:(({data:=#[32,41]}:ByteArray)).size=2:=rfl;simp only[ByteArray.size_append,y0,y1];omega,HC3.out,HG3.out⟩
  ·have hdz: ¬0<(d:Int):=by omega
   cases scr with
   |false=>
    go_wp2
    go_ret
    exact⟨_,q2,rfl,by omega,HC2.out,HG2.out⟩
   |true=>
    go_wp2_with fail
    refine (zgj S hS g _ 8 _ HC2.out (by omega)).mono ?_
    rintro e w3 ⟨rfl,hc,hg⟩
    obtain⟨q3,hq⟩: ∃q',(bw S q2 8).2=q':=⟨_,rfl⟩
    rw[hq] at hc
    have HC3:=hidI hc
    have HG3:=hidI (zj HG2.out hg)
    clear hc hg hq
    generalize ((bw S q2 8).1==0)=b
    cases b with
    |false=>
     go_wp2
     go_ret
     exact⟨_,q3,rfl,by omega,HC3.out,HG3.out⟩
    |true=>
     go_wp2_with fail
     refine (zdz S hS g _ 100 [{data:=#[117,110,100,101,102]},{data:=#[117,110,100,101,102,32,40,32,41]},{data:=#[97,36,49]},{data:=#[120,36]}] _ HC3.out (by simp) (by simp) (by intro x hx;simp only[List.mem_cons,List.not_mem_nil,or_false] at hx;rcases hx with rfl|rfl|rfl|rfl<;>decide)).mono ?_
     rintro e w4 ⟨x4,q4,rfl,z4,hc,hg⟩
     have HC4:=hidI hc
     have HG4:=hidI (zj HG3.out hg)
     clear hc hg
     go_wp2
     go_ret
     exact⟨_,q4,rfl,by omega,HC4.out,HG4.out⟩
 ·cases scr with
  |false=>
   go_wp2
   go_ret
   exact⟨_,q2,rfl,by omega,HC2.out,HG2.out⟩
  |true=>
   go_wp2_with fail
   refine (zgj S hS g _ 8 _ HC2.out (by omega)).mono ?_
   rintro e w3 ⟨rfl,hc,hg⟩
   obtain⟨q3,hq⟩: ∃q',(bw S q2 8).2=q':=⟨_,rfl⟩
   rw[hq] at hc
   have HC3:=hidI hc
   have HG3:=hidI (zj HG2.out hg)
   clear hc hg hq
   generalize ((bw S q2 8).1==0)=b
   cases b with
   |false=>
    go_wp2
    go_ret
    exact⟨_,q3,rfl,by omega,HC3.out,HG3.out⟩
   |true=>
    go_wp2_with fail
    refine (zdz S hS g _ 100 [{data:=#[117,110,100,101,102]},{data:=#[117,110,100,101,102,32,40,32,41]},{data:=#[97,36,49]},{data:=#[120,36]}] _ HC3.out (by simp) (by simp) (by intro x hx;simp only[List.mem_cons,List.not_mem_nil,or_false] at hx;rcases hx with rfl|rfl|rfl|rfl<;>decide)).mono ?_
    rintro e w4 ⟨x4,q4,rfl,z4,hc,hg⟩
    have HC4:=hidI hc
    have HG4:=hidI (zj HG3.out hg)
    clear hc hg
    go_wp2
    go_ret
    exact⟨_,q4,rfl,by omega,HC4.out,HG4.out⟩
theorem zbep (S:Src) (hS:S.ok) (g:Nat) (scr:Bool) (q:Nat×Int) (w:World) (hc:CurW 176 S w g q):Calls Tryz.prog 219 #[.pointer (some ⟨g,0,none⟩),.int .i64 2,.bool scr] w (zmh S g 770 w):=by
 have h0: ∀(q:Nat×Int) (w:World),CurW 176 S w g q→Calls Tryz.prog 219 #[.pointer (some ⟨g,0,none⟩),.int .i64 0,.bool scr] w (zmh S g 110 w):=fun q w hc=>zot S hS g scr 0 0 (by omega) (by omega) (fun h=>absurd h (Nat.lt_irrefl 0)) q w hc
 have h1: ∀(q:Nat×Int) (w:World),CurW 176 S w g q→Calls Tryz.prog 219 #[.pointer (some ⟨g,0,none⟩),.int .i64 1,.bool scr] w (zmh S g 330 w):=fun q w hc=>zot S hS g scr 1 110 (by omega) (by omega) (fun _=>h0) q w hc
 exact zot S hS g scr 2 330 (by omega) (by omega) (fun _=>h1) q w hc
theorem zbeq (S:Src) (hS:S.ok) (g:Nat) (scr:Bool) (q0:Nat×Int) (w0:World) (hc:CurW 176 S w0 g q0):Calls Tryz.prog 134 #[.pointer (some ⟨g,0,none⟩),.bool scr] w0 (zmh S g 1500 w0):=by
 have HC0:=hidI hc
 have HG0:Hid (w0.grownBy w0 (some g)):=⟨rfl,rfl,rfl,Nat.le_refl _,fun _ _ _=>rfl⟩
 clear hc
 go_enter Tryz.func134,Tryz.ntmps134
 go_wp2_with fail
 refine (zdz S hS g _ 100 [{data:=#[97]},{data:=#[98]},{data:=#[120]},{data:=#[102]},{data:=#[103]}] _ HC0.out (by simp) (by simp) (by intro x hx;simp only[List.mem_cons,List.not_mem_nil,or_false] at hx;rcases hx with rfl|rfl|rfl|rfl|rfl<;>decide)).mono ?_
 rintro e w1 ⟨x1,q1,rfl,z1,hc,hg⟩
 have HC1:=hidI hc
 have HG1:=hidI (zj HG0.out hg)
 clear hc hg
 go_wp2_with fail
 refine (zbep S hS g scr q1 _ HC1.out).mono ?_
 rintro e w2 ⟨x2,q2,rfl,z2,hc,hg⟩
 have HC2:=hidI hc
 have HG2:=hidI (zj HG1.out hg)
 clear hc hg
 go_wp2_with fail
 refine (zdz S hS g _ 100 [{data:=#[46,47,98]},{data:=#[46,47,99]},{data:=#[46,47,97]},{data:=#[120]},{data:=#[46,47,100]}] _ HC2.out (by simp) (by simp) (by intro x hx;simp only[List.mem_cons,List.not_mem_nil,or_false] at hx;rcases hx with rfl|rfl|rfl|rfl|rfl<;>decide)).mono ?_
 rintro e w3 ⟨x3,q3,rfl,z3,hc,hg⟩
 have HC3:=hidI hc
 have HG3:=hidI (zj HG2.out hg)
 clear hc hg
 go_wp2_with fail
 refine (zci S hS g _ 16 _ HC3.out (by omega)).mono ?_
 rintro e w4 ⟨rfl,hc,hg⟩
 have hbd:=zko S q3 16 (by omega)
 obtain⟨k4,hk⟩: ∃k:Nat,(bw S q3 16).1=k:=⟨(bw S q3 16).1.toNat,by omega⟩
 obtain⟨q4,hq⟩: ∃q',(bw S q3 16).2=q':=⟨_,rfl⟩
 rw[hk] at hbd ⊢
 rw[hq] at hc
 have HC4:=hidI hc
 have HG4:=hidI (zj HG3.out hg)
 clear hc hg
 have kb4:k4<16:=by omega
 clear hbd hk hq
 cases scr with
 |false=>
  rcases (show k4=0∨k4=1∨k4=2∨k4=3∨k4=4∨k4=5∨k4=6∨k4=7∨k4=8∨k4=9∨k4=10∨k4=11∨k4=12∨k4=13∨k4=14∨k4=15 by omega) with rfl|rfl|rfl|rfl|rfl|rfl|rfl|rfl|rfl|rfl|rfl|rfl|rfl|rfl|rfl|rfl
  ·go_wp2
   go_ret
   exact⟨_,q4,rfl,by have y0:(({data:=#[108,101,116,32]}:ByteArray)).size=4:=rfl;have y1:(({data:=#[32,61,32]}:ByteArray)).size=3:=rfl;have y2:(({data:=#[59]}:ByteArray)).size=1:=rfl;simp only[ByteArray.size_append,y0,y1,y2];omega,HC4.out,HG4.out⟩
  ·go_wp2
   go_ret
   exact⟨_,q4,rfl,by have y0:(({data:=#[108,101,116,32]}:ByteArray)).size=4:=rfl;have y1:(({data:=#[32,61,32]}:ByteArray)).size=3:=rfl;have y2:(({data:=#[59]}:ByteArray)).size=1:=rfl;simp only[ByteArray.size_append,y0,y1,y2];omega,HC4.out,HG4.out⟩
  ·go_wp2
   go_ret
   exact⟨_,q4,rfl,by have y0:(({data:=#[108,101,116,32]}:ByteArray)).size=4:=rfl;have y1:(({data:=#[32,61,32]}:ByteArray)).size=3:=rfl;have y2:(({data:=#[59]}:ByteArray)).size=1:=rfl;simp only[ByteArray.size_append,y0,y1,y2];omega,HC4.out,HG4.out⟩
  ·go_wp2_with fail
   refine (zdz S hS g _ 100 [{data:=#[102]},{data:=#[103]}] _ HC4.out (by simp) (by simp) (by intro x hx;simp only[List.mem_cons,List.not_mem_nil,or_false] at hx;rcases hx with rfl|rfl<;>decide)).mono ?_
   rintro e w5 ⟨x5,q5,rfl,z5,hc,hg⟩
   have HC5:=hidI hc
   have HG5:=hidI (zj HG4.out hg)
   clear hc hg
   go_wp2
   go_ret
   exact⟨_,q5,rfl,by have y0:(({data:=#[102,117,110,99,116,105,111,110,32]}:ByteArray)).size=9:=rfl;have y1:(({data:=#[40,41,32,123,32,114,101,116,117,114,110,32]}:ByteArray)).size=12:=rfl;have y2:(({data:=#[59,32,125]}:ByteArray)).size=3:=rfl;simp only[ByteArray.size_append,y0,y1,y2];omega,HC5.out,HG5.out⟩
  ·go_wp2
   go_ret
   exact⟨_,q4,rfl,by have y0:(({data:=#[32,61,32]}:ByteArray)).size=3:=rfl;have y1:(({data:=#[59]}:ByteArray)).size=1:=rfl;simp only[ByteArray.size_append,y0,y1];omega,HC4.out,HG4.out⟩
  ·go_wp2
   go_ret
   exact⟨_,q4,rfl,by have y0:(({data:=#[112,114,105,110,116,40]}:ByteArray)).size=6:=rfl;have y1:(({data:=#[41,59]}:ByteArray)).size=2:=rfl;simp only[ByteArray.size_append,y0,y1];omega,HC4.out,HG4.out⟩
  ·go_wp2
   go_ret
   exact⟨_,q4,rfl,by have y0:(({data:=#[112,114,105,110,116,40]}:ByteArray)).size=6:=rfl;have y1:(({data:=#[41,59]}:ByteArray)).size=2:=rfl;simp only[ByteArray.size_append,y0,y1];omega,HC4.out,HG4.out⟩
  ·go_wp2
   go_ret
   exact⟨_,q4,rfl,by have y0:(({data:=#[116,104,114,111,119,32]}:ByteArray)).size=6:=rfl;have y1:(({data:=#[59]}:ByteArray)).size=1:=rfl;simp only[ByteArray.size_append,y0,y1];omega,HC4.out,HG4.out⟩
  ·go_wp2_with fail
   refine (zdz S hS g _ 100 [{data:=#[]},{data:=#[32,97,115,32,120]},{data:=#[32,97,115,32,98,44,32,103]}] _ HC4.out (by simp) (by simp) (by intro x hx;simp only[List.mem_cons,List.not_mem_nil,or_false] at hx;rcases hx with rfl|rfl|rfl<;>decide)).mono ?_
   rintro e w5 ⟨x5,q5,rfl,z5,hc,hg⟩
   have HC5:=hidI hc
   have HG5:=hidI (zj HG4.out hg)
   clear hc hg
   go_wp2
   go_ret
   exact⟨_,q5,rfl,by have y0:(({data:=#[105,109,112,111,114,116,32,123,32]}:ByteArray)).size=9:=rfl;have y1:(({data:=#[32,125,32,102,114,111,109,32,34]}:ByteArray)).size=9:=rfl;have y2:(({data:=#[34,59]}:ByteArray)).size=2:=rfl;simp only[ByteArray.size_append,y0,y1,y2];omega,HC5.out,HG5.out⟩
  ·go_wp2
   go_ret
   exact⟨_,q4,rfl,by have y0:(({data:=#[105,109,112,111,114,116,32,42,32,97,115,32,110,32,102,114,111,109,32,34]}:ByteArray)).size=20:=rfl;have y1:(({data:=#[34,59]}:ByteArray)).size=2:=rfl;simp only[ByteArray.size_append,y0,y1];omega,HC4.out,HG4.out⟩
  ·go_wp2
   go_ret
   exact⟨_,q4,rfl,by have y0:(({data:=#[105,109,112,111,114,116,32,100,32,102,114,111,109,32,34]}:ByteArray)).size=15:=rfl;have y1:(({data:=#[34,59]}:ByteArray)).size=2:=rfl;simp only[ByteArray.size_append,y0,y1];omega,HC4.out,HG4.out⟩
  ·go_wp2_with fail
   refine (zdz S hS g _ 100 [{data:=#[]},{data:=#[32,97,115,32,121]},{data:=#[32,97,115,32,100,101,102,97,117,108,116]}] _ HC4.out (by simp) (by simp) (by intro x hx;simp only[List.mem_cons,List.not_mem_nil,or_false] at hx;rcases hx with rfl|rfl|rfl<;>decide)).mono ?_
   rintro e w5 ⟨x5,q5,rfl,z5,hc,hg⟩
   have HC5:=hidI hc
   have HG5:=hidI (zj HG4.out hg)
   clear hc hg
   go_wp2
   go_ret
   exact⟨_,q5,rfl,by have y0:(({data:=#[101,120,112,111,114,116,32,123,32]}:ByteArray)).size=9:=rfl;have y1:(({data:=#[32,125,59]}:ByteArray)).size=3:=rfl;simp only[ByteArray.size_append,y0,y1];omega,HC5.out,HG5.out⟩
  ·go_wp2_with fail
   refine (zdz S hS g _ 100 [{data:=#[]},{data:=#[32,97,115,32,121]},{data:=#[44,32,100,101,102,97,117,108,116]}] _ HC4.out (by simp) (by simp) (by intro x hx;simp only[List.mem_cons,List.not_mem_nil,or_false] at hx;rcases hx with rfl|rfl|rfl<;>decide)).mono ?_
   rintro e w5 ⟨x5,q5,rfl,z5,hc,hg⟩
   have HC5:=hidI hc
   have HG5:=hidI (zj HG4.out hg)
   clear hc hg
   go_wp2
   go_ret
   exact⟨_,q5,rfl,by have y0:(({data:=#[101,120,112,111,114,116,32,123,32]}:ByteArray)).size=9:=rfl;have y1:(({data:=#[32,125,32,102,114,111,109,32,34]}:ByteArray)).size=9:=rfl;have y2:(({data:=#[34,59]}:ByteArray)).size=2:=rfl;simp only[ByteArray.size_append,y0,y1,y2];omega,HC5.out,HG5.out⟩
  ·go_wp2
   go_ret
   exact⟨_,q4,rfl,by have y0:(({data:=#[101,120,112,111,114,116,32,42,32,102,114,111,109,32,34]}:ByteArray)).size=15:=rfl;have y1:(({data:=#[34,59]}:ByteArray)).size=2:=rfl;simp only[ByteArray.size_append,y0,y1];omega,HC4.out,HG4.out⟩
  ·go_wp2
   go_ret
   exact⟨_,q4,rfl,by have y0:(({data:=#[101,120,112,111,114,116,32,100,101,102,97,117,108,116,32]}:ByteArray)).size=15:=rfl;have y1:(({data:=#[59]}:ByteArray)).size=1:=rfl;simp only[ByteArray.size_append,y0,y1];omega,HC4.out,HG4.out⟩
  ·go_wp2_with fail
   refine (zdz S hS g _ 900 [({data:=#[108,101,116,32]}:ByteArray)++x1++({data:=#[32,61,32]}:ByteArray)++x2++({data:=#[59]}:ByteArray),({data:=#[102,117,110,99,116,105,111,110,32,102,40,41,32,123,32,114,101,116,117,114,110,32]}:ByteArray)++x2++({data:=#[59,32,125]}:ByteArray),({data:=#[108,101,116,32,122,32,61,32,49,59]}:ByteArray)] _ HC4.out (by simp) (by simp) (by intro x hx;simp only[List.mem_cons,List.not_mem_nil,or_false] at hx;have y0:(({data:=#[108,101,116,32]}:ByteArray)).size=4:=rfl;have y1:(({data:=#[32,61,32]}:ByteArray)).size=3:=rfl;have y2:(({data:=#[59]}:ByteArray)).size=1:=rfl;have y3:(({data:=#[102,117,110,99,116,105,111,110,32,102,40,41,32,123,32,114,101,116,117,114,110,32]}:ByteArray)).size=22:=rfl;have y4:(({data:=#[59,32,125]}:ByteArray)).size=3:=rfl;have y5:(({data:=#[108,101,116,32,122,32,61,32,49,59]}:ByteArray)).size=10:=rfl;rcases hx with rfl|rfl|rfl<;>simp only[ByteArray.size_append,y0,y1,y2,y3,y4,y5]<;>omega)).mono ?_
   rintro e w5 ⟨x5,q5,rfl,z5,hc,hg⟩
   have HC5:=hidI hc
   have HG5:=hidI (zj HG4.out hg)
   clear hc hg
   go_wp2
   go_ret
   exact⟨_,q5,rfl,by have y0:(({data:=#[101,120,112,111,114,116,32]}:ByteArray)).size=7:=rfl;simp only[ByteArray.size_append,y0];omega,HC5.out,HG5.out⟩
 |true=>
  rcases (show k4=0∨k4=1∨k4=2∨k4=3∨k4=4∨k4=5∨k4=6∨k4=7∨k4=8∨k4=9∨k4=10∨k4=11∨k4=12∨k4=13∨k4=14∨k4=15 by omega) with rfl|rfl|rfl|rfl|rfl|rfl|rfl|rfl|rfl|rfl|rfl|rfl|rfl|rfl|rfl|rfl
  ·go_wp2
   go_ret
   exact⟨_,q4,rfl,by have y0:(({data:=#[108,101,116,32]}:ByteArray)).size=4:=rfl;have y1:(({data:=#[32,61,32]}:ByteArray)).size=3:=rfl;have y2:(({data:=#[59]}:ByteArray)).size=1:=rfl;simp only[ByteArray.size_append,y0,y1,y2];omega,HC4.out,HG4.out⟩
  ·go_wp2
   go_ret
   exact⟨_,q4,rfl,by have y0:(({data:=#[108,101,116,32]}:ByteArray)).size=4:=rfl;have y1:(({data:=#[32,61,32]}:ByteArray)).size=3:=rfl;have y2:(({data:=#[59]}:ByteArray)).size=1:=rfl;simp only[ByteArray.size_append,y0,y1,y2];omega,HC4.out,HG4.out⟩
  ·go_wp2
   go_ret
   exact⟨_,q4,rfl,by have y0:(({data:=#[108,101,116,32]}:ByteArray)).size=4:=rfl;have y1:(({data:=#[32,61,32]}:ByteArray)).size=3:=rfl;have y2:(({data:=#[59]}:ByteArray)).size=1:=rfl;simp only[ByteArray.size_append,y0,y1,y2];omega,HC4.out,HG4.out⟩
  ·go_wp2_with fail
   refine (zdz S hS g _ 100 [{data:=#[102]},{data:=#[103]}] _ HC4.out (by simp) (by simp) (by intro x hx;simp only[List.mem_cons,List.not_mem_nil,or_false] at hx;rcases hx with rfl|rfl<;>decide)).mono ?_
   rintro e w5 ⟨x5,q5,rfl,z5,hc,hg⟩
   have HC5:=hidI hc
   have HG5:=hidI (zj HG4.out hg)
   clear hc hg
   go_wp2
   go_ret
   exact⟨_,q5,rfl,by have y0:(({data:=#[102,117,110,99,116,105,111,110,32]}:ByteArray)).size=9:=rfl;have y1:(({data:=#[40,41,32,123,32,114,101,116,117,114,110,32]}:ByteArray)).size=12:=rfl;have y2:(({data:=#[59,32,125]}:ByteArray)).size=3:=rfl;simp only[ByteArray.size_append,y0,y1,y2];omega,HC5.out,HG5.out⟩
  ·go_wp2
   go_ret
   exact⟨_,q4,rfl,by have y0:(({data:=#[32,61,32]}:ByteArray)).size=3:=rfl;have y1:(({data:=#[59]}:ByteArray)).size=1:=rfl;simp only[ByteArray.size_append,y0,y1];omega,HC4.out,HG4.out⟩
  ·go_wp2
   go_ret
   exact⟨_,q4,rfl,by have y0:(({data:=#[112,114,105,110,116,40]}:ByteArray)).size=6:=rfl;have y1:(({data:=#[41,59]}:ByteArray)).size=2:=rfl;simp only[ByteArray.size_append,y0,y1];omega,HC4.out,HG4.out⟩
  ·go_wp2
   go_ret
   exact⟨_,q4,rfl,by have y0:(({data:=#[112,114,105,110,116,40]}:ByteArray)).size=6:=rfl;have y1:(({data:=#[41,59]}:ByteArray)).size=2:=rfl;simp only[ByteArray.size_append,y0,y1];omega,HC4.out,HG4.out⟩
  ·go_wp2_with fail
   refine (zgj S hS g _ 2 _ HC4.out (by omega)).mono ?_
   rintro e w5 ⟨rfl,hc,hg⟩
   obtain⟨q5,hq⟩: ∃q',(bw S q4 2).2=q':=⟨_,rfl⟩
   rw[hq] at hc
   have HC5:=hidI hc
   have HG5:=hidI (zj HG4.out hg)
   clear hc hg hq
   generalize ((bw S q4 2).1==0)=b
   cases b with
   |false=>
    go_wp2
    go_ret
    exact⟨_,q5,rfl,by have y0:(({data:=#[116,104,114,111,119,32]}:ByteArray)).size=6:=rfl;have y1:(({data:=#[59]}:ByteArray)).size=1:=rfl;simp only[ByteArray.size_append,y0,y1];omega,HC5.out,HG5.out⟩
   |true=>
    go_wp2
    go_ret
    exact⟨_,q5,rfl,by have y0:(({data:=#[102,97,105,108,32]}:ByteArray)).size=5:=rfl;have y1:(({data:=#[59]}:ByteArray)).size=1:=rfl;simp only[ByteArray.size_append,y0,y1];omega,HC5.out,HG5.out⟩
  ·go_wp2
   go_ret
   exact⟨_,q4,rfl,by have y0:(({data:=#[108,101,116,32]}:ByteArray)).size=4:=rfl;have y1:(({data:=#[32,61,32]}:ByteArray)).size=3:=rfl;have y2:(({data:=#[59]}:ByteArray)).size=1:=rfl;simp only[ByteArray.size_append,y0,y1,y2];omega,HC4.out,HG4.out⟩
  ·go_wp2
   go_ret
   exact⟨_,q4,rfl,by have y0:(({data:=#[108,101,116,32]}:ByteArray)).size=4:=rfl;have y1:(({data:=#[32,61,32]}:ByteArray)).size=3:=rfl;have y2:(({data:=#[59]}:ByteArray)).size=1:=rfl;simp only[ByteArray.size_append,y0,y1,y2];omega,HC4.out,HG4.out⟩
  ·go_wp2
   go_ret
   exact⟨_,q4,rfl,by have y0:(({data:=#[108,101,116,32]}:ByteArray)).size=4:=rfl;have y1:(({data:=#[32,61,32]}:ByteArray)).size=3:=rfl;have y2:(({data:=#[59]}:ByteArray)).size=1:=rfl;simp only[ByteArray.size_append,y0,y1,y2];omega,HC4.out,HG4.out⟩
  ·go_wp2_with fail
   refine (zdz S hS g _ 100 [{data:=#[102]},{data:=#[103]}] _ HC4.out (by simp) (by simp) (by intro x hx;simp only[List.mem_cons,List.not_mem_nil,or_false] at hx;rcases hx with rfl|rfl<;>decide)).mono ?_
   rintro e w5 ⟨x5,q5,rfl,z5,hc,hg⟩
   have HC5:=hidI hc
   have HG5:=hidI (zj HG4.out hg)
   clear hc hg
   go_wp2
   go_ret
   exact⟨_,q5,rfl,by have y0:(({data:=#[102,117,110,99,116,105,111,110,32]}:ByteArray)).size=9:=rfl;have y1:(({data:=#[40,41,32,123,32,114,101,116,117,114,110,32]}:ByteArray)).size=12:=rfl;have y2:(({data:=#[59,32,125]}:ByteArray)).size=3:=rfl;simp only[ByteArray.size_append,y0,y1,y2];omega,HC5.out,HG5.out⟩
  ·go_wp2
   go_ret
   exact⟨_,q4,rfl,by have y0:(({data:=#[32,61,32]}:ByteArray)).size=3:=rfl;have y1:(({data:=#[59]}:ByteArray)).size=1:=rfl;simp only[ByteArray.size_append,y0,y1];omega,HC4.out,HG4.out⟩
  ·go_wp2
   go_ret
   exact⟨_,q4,rfl,by have y0:(({data:=#[112,114,105,110,116,40]}:ByteArray)).size=6:=rfl;have y1:(({data:=#[41,59]}:ByteArray)).size=2:=rfl;simp only[ByteArray.size_append,y0,y1];omega,HC4.out,HG4.out⟩
  ·go_wp2
   go_ret
   exact⟨_,q4,rfl,by have y0:(({data:=#[112,114,105,110,116,40]}:ByteArray)).size=6:=rfl;have y1:(({data:=#[41,59]}:ByteArray)).size=2:=rfl;simp only[ByteArray.size_append,y0,y1];omega,HC4.out,HG4.out⟩
  ·go_wp2_with fail
   refine (zgj S hS g _ 2 _ HC4.out (by omega)).mono ?_
   rintro e w5 ⟨rfl,hc,hg⟩
   obtain⟨q5,hq⟩: ∃q',(bw S q4 2).2=q':=⟨_,rfl⟩
   rw[hq] at hc
   have HC5:=hidI hc
   have HG5:=hidI (zj HG4.out hg)
   clear hc hg hq
   generalize ((bw S q4 2).1==0)=b
   cases b with
   |false=>
    go_wp2
    go_ret
    exact⟨_,q5,rfl,by have y0:(({data:=#[116,104,114,111,119,32]}:ByteArray)).size=6:=rfl;have y1:(({data:=#[59]}:ByteArray)).size=1:=rfl;simp only[ByteArray.size_append,y0,y1];omega,HC5.out,HG5.out⟩
   |true=>
    go_wp2
    go_ret
    exact⟨_,q5,rfl,by have y0:(({data:=#[102,97,105,108,32]}:ByteArray)).size=5:=rfl;have y1:(({data:=#[59]}:ByteArray)).size=1:=rfl;simp only[ByteArray.size_append,y0,y1];omega,HC5.out,HG5.out⟩
/-- What stands behind some letters: those that are drawn yet make the text whole. -/
def TxAt (S:Src) (y:Int) (T:List Int×(Nat×Int)) (acc:List Int) (n:Nat) (q:Nat×Int):Prop:=acc++(txGo S y n q).1=T.1∧(txGo S y n q).2=T.2
theorem zrs {S:Src} {y:Int} {T:List Int×(Nat×Int)} {acc:List Int} {n:Nat} {q:Nat×Int} (h:TxAt S y T acc (n+1) q):TxAt S y T (acc++[chr y (cb S q).1]) n (cb S q).2:=by
 obtain⟨a,b⟩:=h
 rw[txGo] at a b
 exact⟨by rw[List.append_assoc];exact a,b⟩
theorem zbpj {S:Src} {y:Int} {T:List Int×(Nat×Int)} {acc:List Int} {q:Nat×Int} (h:TxAt S y T acc 0 q):acc=T.1∧q=T.2:=by
 obtain⟨a,b⟩:=h
 rw[txGo] at a b
 exact⟨by simpa using a,b⟩
theorem zbin (S:Src) (hS:S.ok) (g:Nat) (q:Nat×Int) (most:Int) (w:World) (hc:CurW 176 S w g q) (hm0:0≤most) (hm1:most≤1000):
  Calls Tryz.prog 220 #[.pointer (some ⟨g,0,none⟩),.int .i64 most] w fun e w'=>e= .returned (.string (strOfNums (tx S q most).1))∧CurW 176 S w' g (tx S q most).2∧w.grownBy w' (some g):=by
 obtain⟨i0,hi,hz0,hz1,hz2⟩:=info_parts Tryz.infoByte
 have hgw:=zle hc
 have hbn:=zko S (bw S q 4).2 (most+1) (by omega)
 have HT:Hid (tx S q most=txGo S (bw S q 4).1 (bw S (bw S q 4).2 (most+1)).1.toNat (bw S (bw S q 4).2 (most+1)).2):=rfl
 go_enter Tryz.func220,Tryz.ntmps220
 go_wp2_with fail
 refine (zci S hS g q 4 _ (zgh hc ((Below.refl w.heap.size w).alloc (Nat.le_refl _) _) hgw) (by omega)).mono ?_
 rintro e w1 ⟨rfl,hc1,hg1⟩
 go_wp2_with fail
 refine (zci S hS g _ (most+1) _ hc1 (by omega)).mono ?_
 rintro e w2 ⟨rfl,hc2,hg2⟩
 have hown:OwnB w2 w.heap.size 5 (.slice (some ⟨w.heap.size,0,none⟩) 0 0) 0 []:=by
  have h0:OwnB (w.alloc (.cells #[] 5)) w.heap.size 5 (.slice (some ⟨w.heap.size,0,none⟩) 0 0) 0 []:=World.ownsRow_lit w #[] 0 (Nat.le_refl _) (by unfold maxLen;omega) rfl
  exact zkp (zkp h0 hg1 hgw) hg2 hgw
 have hgr:w.grownBy w2 (some g):=zj (zj (zgp (World.grownBy.refl w _) ((Below.refl w.heap.size w).alloc (Nat.le_refl _) (.cells #[] 5)) (Nat.le_refl _)) hg1) hg2
 obtain⟨m0,hm0e⟩: ∃m:Nat,(bw S (bw S q 4).2 (most+1)).1=m:=⟨(bw S (bw S q 4).2 (most+1)).1.toNat,by omega⟩
 rw[hm0e]
 have HST:Hid (TxAt S (bw S q 4).1 (tx S q most) [] m0 (bw S (bw S q 4).2 (most+1)).2):=by
  show TxAt _ _ _ _ _ _
  have e:=HT.out
  rw[hm0e,Int.toNat_natCast] at e
  rw[e]
  exact⟨rfl,rfl⟩
 have hm0b:m0≤1000:=by omega
 clear hm0e HT hbn hc hc1 hg1 hg2
 go_wp2
 go_loopw [5,7,8] (fun v n _ wr=>∃(k:Nat) (acc:List Int) (m:Nat) (p:Nat×Int),n= .int .i64 m∧k+m≤1000∧TxAt S (bw S q 4).1 (tx S q most) acc m p∧OwnB wr w.heap.size 5 v k acc∧CurW 176 S wr g p∧w.grownBy wr (some g)) (fun _ n _ _=>(intOf n).toNat)
 case atStart=>exact⟨0,[],m0,_,rfl,by omega,HST.out,hown,hc2,hgr⟩
 case round=>
  obtain⟨k,acc,m,p,rfl,hkm,hat,hownr,hcr,hgrr⟩:=hrel
  have HAT:=hat
  clear hat hown hc2 hgr
  match m,hkm,HAT with
  |0,hkm,HAT=>
   obtain⟨e1,e2⟩:=zbpj HAT
   have HE1:Hid (acc=(tx S q most).1):=e1
   have HE2:Hid (p=(tx S q most).2):=e2
   clear e1 e2 HAT
   rw[HE1.out] at hownr
   have hst:=zlc (P:=Tryz.prog) (src:=49) (dst:=9) Tryz.underlying49 Tryz.underlying5 Tryz.underlying9 hownr
   go_wp2
   go_ret
   exact⟨rfl,by rw[←HE2.out];exact hcr,hgrr⟩
  |m+1,hkm,HAT0=>
   have HAT:Hid (TxAt S (bw S q 4).1 (tx S q most) acc (m+1) p):=HAT0
   clear HAT0
   have hcb:=zpq S p
   by_cases h1:(bw S q 4).1=1
   ·have q1:((bw S q 4).1==1)=true:=by simpa using h1
    have q2:((bw S q 4).1==2)=false:=by rw[h1];rfl
    have HCH:Hid (chr (bw S q 4).1 (cb S p).1=(cb S p).1%2):=by show chr _ _=_;rw[chr,if_pos h1]
    clear h1
    go_wp2_with (first|(go_at_call 122;refine (zgi S hS g p _ hcr).mono ?_;rintro e w3 ⟨rfl,hc3,hg3⟩;have hown3:=zkp hownr hg3 hgw;have hsz3:=Nat.le_trans hgrr.size hg3.size)|(at_builtin;refine zty w3 rfl _ _ 49 rfl w.heap.size 5 i0 Tryz.underlying49 hi hz0 hz1 hz2 _ k acc (by rfl) hown3 ((cb S p).1%2) (by rfl) (by omega) hsz3 ?_))
    intro v' w4 hown4 hb4
    go_wp2
    go_roundw
    case rel=>exact⟨k+1,acc++[(cb S p).1%2],m,(cb S p).2,by go_num,by omega,by rw[←HCH.out];exact zrs HAT.out,hown4,zgh hc3 hb4 hgw,zgp (zj hgrr hg3) hb4 (Nat.le_refl _)⟩
    case measure=>simp[intOf]
   ·have q1:((bw S q 4).1==1)=false:=by simpa using h1
    by_cases h2:(bw S q 4).1=2
    ·have q2:((bw S q 4).1==2)=true:=by simpa using h2
     have HCH:Hid (chr (bw S q 4).1 (cb S p).1=97+(cb S p).1%4):=by show chr _ _=_;rw[chr,if_neg h1,if_pos h2]
     clear h1 h2
     go_wp2_with (first|(go_at_call 122;refine (zgi S hS g p _ hcr).mono ?_;rintro e w3 ⟨rfl,hc3,hg3⟩;have hown3:=zkp hownr hg3 hgw;have hsz3:=Nat.le_trans hgrr.size hg3.size)|(at_builtin;refine zty w3 rfl _ _ 49 rfl w.heap.size 5 i0 Tryz.underlying49 hi hz0 hz1 hz2 _ k acc (by rfl) hown3 (97+(cb S p).1%4) (by rfl) (by omega) hsz3 ?_))
     intro v' w4 hown4 hb4
     go_wp2
     go_roundw
     case rel=>exact⟨k+1,acc++[97+(cb S p).1%4],m,(cb S p).2,by go_num,by omega,by rw[←HCH.out];exact zrs HAT.out,hown4,zgh hc3 hb4 hgw,zgp (zj hgrr hg3) hb4 (Nat.le_refl _)⟩
     case measure=>simp[intOf]
    ·have q2:((bw S q 4).1==2)=false:=by simpa using h2
     have HCH:Hid (chr (bw S q 4).1 (cb S p).1=(cb S p).1):=by show chr _ _=_;rw[chr,if_neg h1,if_neg h2]
     clear h1 h2
     go_wp2_with (first|(go_at_call 122;refine (zgi S hS g p _ hcr).mono ?_;rintro e w3 ⟨rfl,hc3,hg3⟩;have hown3:=zkp hownr hg3 hgw;have hsz3:=Nat.le_trans hgrr.size hg3.size)|(at_builtin;refine zty w3 rfl _ _ 49 rfl w.heap.size 5 i0 Tryz.underlying49 hi hz0 hz1 hz2 _ k acc (by rfl) hown3 ((cb S p).1) (by rfl) (by omega) hsz3 ?_))
     intro v' w4 hown4 hb4
     go_wp2
     go_roundw
     case rel=>exact⟨k+1,acc++[(cb S p).1],m,(cb S p).2,by go_num,by omega,by rw[←HCH.out];exact zrs HAT.out,hown4,zgh hc3 hb4 hgw,zgp (zj hgrr hg3) hb4 (Nat.le_refl _)⟩
     case measure=>simp[intOf]
theorem zbsq {S:Src} {q:Nat×Int} {s:ByteArray} (h:s.size=0):zfn S q s=(strOfNums (tx S q 3).1,(tx S q 3).2):=by rw[zfn,if_pos h]
theorem zbsr {S:Src} {q:Nat×Int} {s:ByteArray} {k:Nat} (h:s.size≠0) (hk:(bw S q s.size).1=k) (hm:(bw S (bw S q s.size).2 4).1=0):zfn S q s=(s.extract 0 k++s.extract (k+1) s.size,(bw S (bw S q s.size).2 4).2):=by
 rw[zfn,if_neg h,if_pos hm,hk];rfl
theorem zbss {S:Src} {q:Nat×Int} {s:ByteArray} {k:Nat} (h:s.size≠0) (hk:(bw S q s.size).1=k) (hm:(bw S (bw S q s.size).2 4).1=1):zfn S q s=(s.extract 0 k++strOfNums [(cb S (bw S (bw S q s.size).2 4).2).1]++s.extract k s.size,(cb S (bw S (bw S q s.size).2 4).2).2):=by
 rw[zfn,if_neg h,if_neg (by omega),if_pos hm,hk];rfl
theorem zbst {S:Src} {q:Nat×Int} {s:ByteArray} {k:Nat} (h:s.size≠0) (hk:(bw S q s.size).1=k) (hm:(bw S (bw S q s.size).2 4).1=2):zfn S q s=(s.extract 0 k,(bw S (bw S q s.size).2 4).2):=by
 rw[zfn,if_neg h,if_neg (by omega),if_neg (by omega),if_pos hm,hk];rfl
theorem zbsu {S:Src} {q:Nat×Int} {s:ByteArray} {k:Nat} (h:s.size≠0) (hk:(bw S q s.size).1=k) (h0:(bw S (bw S q s.size).2 4).1≠0) (h1:(bw S (bw S q s.size).2 4).1≠1) (h2:(bw S (bw S q s.size).2 4).1≠2):
  zfn S q s=(s.extract 0 k++strOfNums [IntKind.u8.wrap (bits .xor .i64 (bt s k) (1+(bw S (bw S (bw S q s.size).2 4).2 255).1))]++s.extract (k+1) s.size,(bw S (bw S (bw S q s.size).2 4).2 255).2):=by
 rw[zfn,if_neg h,if_neg h0,if_neg h1,if_neg h2,hk];rfl
theorem zber (S:Src) (hS:S.ok) (g:Nat) (q:Nat×Int) (s:ByteArray) (w:World) (hc:CurW 176 S w g q) (hs:s.size≤100000):
  Calls Tryz.prog 135 #[.pointer (some ⟨g,0,none⟩),.string s] w fun e w'=>e= .returned (.string (zfn S q s).1)∧CurW 176 S w' g (zfn S q s).2∧w.grownBy w' (some g):=by
 by_cases h0:s.size=0
 ·have HS:Hid (zfn S q s=(strOfNums (tx S q 3).1,(tx S q 3).2)):=zbsq h0
  have hq:((s.size:Int)==0)=true:=by rw[h0];rfl
  clear h0
  go_enter Tryz.func135,Tryz.ntmps135
  go_wp2_with fail
  refine (zbin S hS g q 3 _ hc (by omega) (by omega)).mono ?_
  rintro e w1 ⟨rfl,hc1,hg1⟩
  go_wp2
  go_ret
  exact⟨zkf (by rw[HS.out]),by rw[HS.out];exact hc1,hg1⟩
 ·have hq:((s.size:Int)==0)=false:=beq_eq_false_iff_ne.2 (by omega)
  have hbk:=zko S q s.size (by omega)
  obtain⟨k,hk⟩: ∃k:Nat,(bw S q s.size).1=k:=⟨(bw S q s.size).1.toNat,by omega⟩
  have HK:Hid ((bw S q s.size).1=k):=hk
  have hks:k<s.size:=by omega
  have hbm:=zko S (bw S q s.size).2 4 (by omega)
  have hb:=get_bt s
  have hb0:=bt_nonneg s k
  have hb1:=bt_le s k
  have e1:IntKind.i64.wrap ((k:Int)+1)=(k:Int)+1:=IntWalk.i64_in _ ⟨by omega,by omega⟩
  have e2:IntKind.i64.wrap (bt s k)=bt s k:=IntWalk.i64_in _ ⟨by omega,by omega⟩
  have l1:(0:Int)≤(k:Int):=by omega
  have l2:(k:Int)≤s.size:=by omega
  have l3:(0:Int)≤(k:Int)+1:=by omega
  have l4:(k:Int)+1≤s.size:=by omega
  have z1:(s.extract 0 k).size≤100000:=by simp;omega
  have z2:(s.extract (k+1) s.size).size≤100000:=by simp;omega
  have z3:(s.extract k s.size).size≤100000:=by simp;omega
  have hst:=fun (w:World) (x:Int)=>zld (P:=Tryz.prog) (src:=49) (dst:=9) Tryz.underlying49 Tryz.underlying5 Tryz.underlying9 w x
  have hone:=fun x=>strOfNums_size [x]
  have y1: ¬(9223372036854775807<min k s.size+1):=by omega
  have y2: ¬(9223372036854775807<min k s.size+1+(s.size-k)):=by omega
  have y3: ¬(9223372036854775807<min k s.size+1+(s.size-(k+1))):=by omega
  clear hbk
  by_cases m0:(bw S (bw S q s.size).2 4).1=0
  ·have HS:Hid (zfn S q s=(s.extract 0 k++s.extract (k+1) s.size,(bw S (bw S q s.size).2 4).2)):=zbsr h0 hk m0
   have q0:((bw S (bw S q s.size).2 4).1==0)=true:=by simpa using m0
   clear hk m0 h0
   go_enter Tryz.func135,Tryz.ntmps135
   go_wp2_with fail
   refine (zci S hS g q s.size _ hc (by omega)).mono ?_
   rintro e w1 ⟨rfl,hc1,hg1⟩
   rw[HK.out]
   go_wp2_with fail
   refine (zci S hS g _ 4 _ hc1 (by omega)).mono ?_
   rintro e w2 ⟨rfl,hc2,hg2⟩
   go_wp2
   go_quiet (fail)
   go_wp2
   go_ret
   exact⟨zkf (by rw[HS.out]),by rw[HS.out];exact zms hc2 _,zih (zj hg1 hg2) _⟩
  ·have q0:((bw S (bw S q s.size).2 4).1==0)=false:=by simpa using m0
   by_cases m1:(bw S (bw S q s.size).2 4).1=1
   ·have HS:Hid (zfn S q s=(s.extract 0 k++strOfNums [(cb S (bw S (bw S q s.size).2 4).2).1]++s.extract k s.size,(cb S (bw S (bw S q s.size).2 4).2).2)):=zbss h0 hk m1
    have q1:((bw S (bw S q s.size).2 4).1==1)=true:=by simpa using m1
    have hcb:=zpq S (bw S (bw S q s.size).2 4).2
    have e3:IntKind.u8.wrap (cb S (bw S (bw S q s.size).2 4).2).1=(cb S (bw S (bw S q s.size).2 4).2).1:=IntWalk.u8_in _ hcb
    have z4:(s.extract 0 k++strOfNums [(cb S (bw S (bw S q s.size).2 4).2).1]).size≤100001:=by rw[ByteArray.size_append,strOfNums_size];simp;omega
    clear hk m0 m1 h0
    go_enter Tryz.func135,Tryz.ntmps135
    go_wp2_with fail
    refine (zci S hS g q s.size _ hc (by omega)).mono ?_
    rintro e w1 ⟨rfl,hc1,hg1⟩
    rw[HK.out]
    go_wp2_with fail
    refine (zci S hS g _ 4 _ hc1 (by omega)).mono ?_
    rintro e w2 ⟨rfl,hc2,hg2⟩
    go_wp2
    have hcd:CurW 176 S w2.drew g (bw S (bw S q s.size).2 4).2:=zod hc2 fun _ _=>rfl
    have hgd:w.grownBy w2.drew (some g):=zih (zj hg1 hg2) 1
    have hgs:=zle hcd
    go_region_law (go_simp;go_wp2_with (go_at_call 122;refine (zgi S hS g _ _ hcd).mono ?_;rintro e w3 ⟨rfl,hc3,hg3⟩))
    all_goals
     go_wp2
     go_ret
     refine⟨zkf (by rw[HS.out]),?_,zgp (zj hgd hg3) ((Below.refl w3.heap.size w3).alloc (Nat.le_refl _) _) (Nat.le_trans hgd.size hg3.size)⟩
     rw[HS.out]
     exact zgh hc3 ((Below.refl w3.heap.size w3).alloc (Nat.le_refl _) _) (Nat.lt_of_lt_of_le hgs hg3.size)
   ·have q1:((bw S (bw S q s.size).2 4).1==1)=false:=by simpa using m1
    by_cases m2:(bw S (bw S q s.size).2 4).1=2
    ·have HS:Hid (zfn S q s=(s.extract 0 k,(bw S (bw S q s.size).2 4).2)):=zbst h0 hk m2
     have q2:((bw S (bw S q s.size).2 4).1==2)=true:=by simpa using m2
     clear hk m0 m1 m2 h0
     go_enter Tryz.func135,Tryz.ntmps135
     go_wp2_with fail
     refine (zci S hS g q s.size _ hc (by omega)).mono ?_
     rintro e w1 ⟨rfl,hc1,hg1⟩
     rw[HK.out]
     go_wp2_with fail
     refine (zci S hS g _ 4 _ hc1 (by omega)).mono ?_
     rintro e w2 ⟨rfl,hc2,hg2⟩
     go_wp2
     go_ret
     exact⟨zkf (by rw[HS.out]),by rw[HS.out];exact hc2,zj hg1 hg2⟩
    ·have q2:((bw S (bw S q s.size).2 4).1==2)=false:=by simpa using m2
     have HS:Hid (zfn S q s=(s.extract 0 k++strOfNums [IntKind.u8.wrap (bits .xor .i64 (bt s k) (1+(bw S (bw S (bw S q s.size).2 4).2 255).1))]++s.extract (k+1) s.size,(bw S (bw S (bw S q s.size).2 4).2 255).2)):=zbsu h0 hk m0 m1 m2
     have hcb:=zko S (bw S (bw S q s.size).2 4).2 255 (by omega)
     have e3:IntKind.i64.wrap (1+(bw S (bw S (bw S q s.size).2 4).2 255).1)=1+(bw S (bw S (bw S q s.size).2 4).2 255).1:=IntWalk.i64_in _ ⟨by omega,by omega⟩
     have z4:(s.extract 0 k++strOfNums [IntKind.u8.wrap (bits .xor .i64 (bt s k) (1+(bw S (bw S (bw S q s.size).2 4).2 255).1))]).size≤100001:=by rw[ByteArray.size_append,strOfNums_size];simp;omega
     clear hk m0 m1 m2 h0
     go_enter Tryz.func135,Tryz.ntmps135
     go_wp2_with fail
     refine (zci S hS g q s.size _ hc (by omega)).mono ?_
     rintro e w1 ⟨rfl,hc1,hg1⟩
     rw[HK.out]
     go_wp2_with fail
     refine (zci S hS g _ 4 _ hc1 (by omega)).mono ?_
     rintro e w2 ⟨rfl,hc2,hg2⟩
     go_wp2
     have hcd:CurW 176 S w2.drew g (bw S (bw S q s.size).2 4).2:=zod hc2 fun _ _=>rfl
     have hgd:w.grownBy w2.drew (some g):=zih (zj hg1 hg2) 1
     have hgs:=zle hcd
     go_region_law (go_simp;go_wp2_with (go_at_call 72;refine (zci S hS g _ 255 _ hcd (by omega)).mono ?_;rintro e w3 ⟨rfl,hc3,hg3⟩))
     all_goals
      go_wp2
      go_ret
      refine⟨zkf (by rw[HS.out]),?_,zgp (zj hgd hg3) ((Below.refl w3.heap.size w3).alloc (Nat.le_refl _) _) (Nat.le_trans hgd.size hg3.size)⟩
      rw[HS.out]
      exact zgh hc3 ((Below.refl w3.heap.size w3).alloc (Nat.le_refl _) _) (Nat.lt_of_lt_of_le hgs hg3.size)
theorem zbpk (S:Src) (q:Nat×Int) (s:ByteArray):(zfn S q s).1.size≤s.size+4:=by
 have h3:=zbvn S q 3 (by omega)
 unfold zfn
 split
 ·simp only[strOfNums_size];omega
 ·split
  ·simp only[ByteArray.size_append,ByteArray.size_extract];omega
  ·split
   ·simp only[ByteArray.size_append,ByteArray.size_extract,strOfNums_size,List.length_cons,List.length_nil];omega
   ·split
    ·simp only[ByteArray.size_extract];omega
    ·simp only[ByteArray.size_append,ByteArray.size_extract,strOfNums_size,List.length_cons,List.length_nil];omega
theorem zbes (S:Src) (hS:S.len≤9223372036854775807) (most:Int) (h0:2≤most) (h1:most≤1000) (w:World):
  Calls Tryz.prog 70 #[.slice S.a S.len S.cap,.int .i64 most] w fun e w'=>(∃r:Nat,e= .returned (.int .i64 (r:Int))∧(r:Int)≤most)∧w'=w:=by
 go_enter Tryz.func70,Tryz.ntmps70
 by_cases h:most<2+(S.len:Int)/20
 ·go_wp2
  go_ret
  exact⟨⟨most.toNat,by rw[Int.toNat_of_nonneg (by omega)];rfl,by omega⟩,rfl⟩
 ·go_wp2
  go_ret
  exact⟨⟨(2+(S.len:Int)/20).toNat,by rw[Int.toNat_of_nonneg (by omega)];rfl,by omega⟩,rfl⟩
theorem zbet (S:Src) (hS:S.ok) (g:Nat) (most:Nat) (hm:most≤10) (scr:Bool) (q0:Nat×Int) (w0:World) (hc:CurW 176 S w0 g q0):
  Calls Tryz.prog 85 #[.pointer (some ⟨g,0,none⟩),.int .i64 (most:Int),.bool scr] w0 (zmh S g 20000 w0):=by
 have HC0:=hidI hc
 have HG0:Hid (w0.grownBy w0 (some g)):=⟨rfl,rfl,rfl,Nat.le_refl _,fun _ _ _=>rfl⟩
 clear hc
 go_enter Tryz.func85,Tryz.ntmps85
 go_wp2_with fail
 refine (zci S hS g q0 ((most:Int)+1) _ HC0.out (by omega)).mono ?_
 rintro e w1 ⟨rfl,hc,hg⟩
 have hbd:=zko S q0 ((most:Int)+1) (by omega)
 obtain⟨k1,hk⟩: ∃k:Nat,(bw S q0 ((most:Int)+1)).1=k:=⟨(bw S q0 ((most:Int)+1)).1.toNat,by omega⟩
 obtain⟨q1,hq⟩: ∃q',(bw S q0 ((most:Int)+1)).2=q':=⟨_,rfl⟩
 rw[hk] at hbd ⊢
 rw[hq] at hc
 have HC1:=hidI hc
 have HG1:=hidI (zj HG0.out hg)
 have kb:k1≤10:=by omega
 clear hc hg hbd hk hq
 go_wp2
 go_loopg [7,8] k1 (fun k sv nv wr=>∃(x:ByteArray) (q:Nat×Int),nv= .int .i64 (k:Int)∧sv= .string x∧k≤10∧x.size+1501*k≤15010∧CurW 176 S wr g q∧w0.grownBy wr (some g))
 case atStart=>exact⟨_,q1,rfl,rfl,kb,by have:({data:=#[]}:ByteArray).size=0:=rfl;omega,HC1.out,HG1.out⟩
 case round=>
  obtain⟨x,q,rfl,rfl,hk,hx,hcr,hgr⟩:=hrel
  clear HC1 HG1
  have HC1:=hidI hcr
  have HG1:=hidI hgr
  clear hcr hgr
  by_cases hpos:0<gk
  ·have hpi:0<(gk:Int):=by omega
   go_wp2_with fail
   refine (zbeq S hS g scr q _ HC1.out).mono ?_
   rintro e w2 ⟨x2,q2,rfl,z2,hc,hg⟩
   have HC2:=hidI hc
   have HG2:=hidI (zj HG1.out hg)
   clear hc hg
   have hz:(x++x2++({data:=#[10]}:ByteArray)).size=x.size+x2.size+1:=by rw[ByteArray.size_append,ByteArray.size_append];rfl
   have hz1:(x++x2).size=x.size+x2.size:=ByteArray.size_append
   have ek:(gk:Int)-1=((gk-1:Nat):Int):=by omega
   go_wp2
   go_roundg (gk-1)
   case rel=>exact⟨_,q2,rfl,rfl,by omega,by omega,HC2.out,HG2.out⟩
   case measure=>omega
  ·have hpi: ¬0<(gk:Int):=by omega
   go_wp2_with fail
   refine (zgj S hS g _ 6 _ HC1.out (by omega)).mono ?_
   rintro e w2 ⟨rfl,hc,hg⟩
   obtain⟨q2,hq⟩: ∃q',(bw S q 6).2=q':=⟨_,rfl⟩
   rw[hq] at hc
   have HC2:=hidI hc
   have HG2:=hidI (zj HG1.out hg)
   clear hc hg hq
   generalize ((bw S q 6).1==0)=b
   cases b with
   |true=>
    go_wp2_with fail
    refine (zber S hS g q2 x _ HC2.out (by omega)).mono ?_
    rintro e w3 ⟨rfl,hc,hg⟩
    have hs:=zbpk S q2 x
    have HC3:=hidI hc
    have HG3:=hidI (zj HG2.out hg)
    clear hc hg
    generalize zfn S q2 x=y at*
    go_wp2
    go_ret
    exact⟨y.1,y.2,rfl,by omega,HC3.out,HG3.out⟩
   |false=>
    go_wp2_with fail
    refine (zgj S hS g _ 15 _ HC2.out (by omega)).mono ?_
    rintro e w3 ⟨rfl,hc,hg⟩
    obtain⟨q3,hq⟩: ∃q',(bw S q2 15).2=q':=⟨_,rfl⟩
    rw[hq] at hc
    have HC3:=hidI hc
    have HG3:=hidI (zj HG2.out hg)
    clear hc hg hq
    generalize ((bw S q2 15).1==0)=b
    cases b with
    |true=>
     go_wp2_with fail
     refine (zdz S hS g _ 100 [{data:=#[105,109,112,111,114,116,32,100,101,102,97,117,108,116,32,102,114,111,109,32,34,120,34,59]},{data:=#[101,120,112,111,114,116,32,123,32,100,101,102,97,117,108,116,32,125,59]},{data:=#[105,109,112,111,114,116,32,123,32,100,101,102,97,117,108,116,32,125,32,102,114,111,109,32,34,120,34,59]},{data:=#[108,101,116,32,108,101,116,32,61,32,49,59]},{data:=#[112,114,105,110,116,40,49,59]},{data:=#[97,32,61,32,59]},{data:=#[101,120,112,111,114,116]},{data:=#[102,97,105,108,32,49,59]},{data:=#[108,101,116,32,117,110,100,101,102,32,61,32,49,59]},{data:=#[105,109,112,111,114,116,32,123,32,97,32,97,115,32,100,101,102,97,117,108,116,32,125,32,102,114,111,109,32,34,120,34,59]},{data:=#[112,114,105,110,116,40,40,40,40,40,40,40,40,40,40,40,40,40,40,40,40,40,40,40,40,40,40,49,41,41,41,41,41,41,41,41,41,41,41,41,41,41,41,41,41,41,41,41,41,41,59]}] _ HC3.out (by simp) (by simp) (by intro x hx;simp only[List.mem_cons,List.not_mem_nil,or_false] at hx;rcases hx with rfl|rfl|rfl|rfl|rfl|rfl|rfl|rfl|rfl|rfl|rfl<;>decide)).mono ?_
     rintro e w4 ⟨x4,q4,rfl,z4,hc,hg⟩
     have HC4:=hidI hc
     have HG4:=hidI (zj HG3.out hg)
     clear hc hg
     have hz:(x++x4).size=x.size+x4.size:=ByteArray.size_append
     go_wp2
     go_ret
     exact⟨_,q4,rfl,by omega,HC4.out,HG4.out⟩
    |false=>
     go_wp2
     go_ret
     exact⟨x,q3,rfl,by omega,HC3.out,HG3.out⟩
open Go.Sort
theorem zxb (S:Src) (hS:S.ok) (w:World) (hc:CodeW S w) (hl:S.lim≤w.heap.size):
  Calls Tryz.prog 38 #[.slice S.a S.len S.cap] w fun e w'=>∃s scr,e= .returned (.tuple #[.string s,.bool scr])∧s.size≤20000∧Below w.heap.size w w':=by
 have hlen:S.len≤9223372036854775807:=by have:=hS.1;omega
 go_enter Tryz.func38,Tryz.ntmps38
 go_wp2_with fail
 refine (zbkw S hS _ hc hl).mono ?_
 rintro e w1 ⟨rfl,hc1,hb1⟩
 have B1:=hidI hb1
 clear hc hb1
 go_wp2_with fail
 refine (zgj S hS _ _ 3 _ hc1 (by omega)).mono ?_
 rintro e w2 ⟨rfl,hc2,hg2⟩
 have B2:=hidI (ztl B1.out hg2 (Nat.le_refl _) B1.out.size)
 have HC2:=hidI hc2
 clear hc1 hg2 hc2
 generalize ((bw S (start S) 3).1==0)=scr
 go_wp2_with fail
 refine (zbes S hlen 10 (by omega) (by omega) _).mono ?_
 rintro e w3 ⟨⟨r,rfl,hr⟩,hw⟩
 rw[hw]
 clear hw
 go_wp2_with fail
 refine (zbet S hS w.heap.size r (by omega) scr _ _ HC2.out).mono ?_
 rintro e w4 ⟨x,q4,rfl,hx,hc4,hg4⟩
 have B4:=hidI (ztl B2.out hg4 (Nat.le_refl _) B2.out.size)
 clear hc4 hg4
 go_wp2
 go_ret2
 exact⟨x,scr,rfl,hx,B4.out⟩
theorem zvq (S:Src) (hS:S.ok) (k:Nat) (w:World) (hc:CodeW S w) (hk:k≤4000):
  Calls Tryz.prog 44 #[.slice S.a S.len S.cap,.int .i64 k] w fun e w'=>(∃z:Int,e= .returned (.int .i64 z)∧0≤z∧z≤255)∧w'=w:=by
 have hlen:=hS.1
 by_cases h:k<S.len
 ·obtain⟨b,off,ha,hb,hcell⟩:=hc k h
  have hz:=hS.2 k
  rw[ha]
  go_enter Tryz.func44,Tryz.ntmps44
  go_wp2
  go_ret
  exact⟨⟨S.Z k,by go_num,hz.1,hz.2⟩,rfl⟩
 ·go_enter Tryz.func44,Tryz.ntmps44
  go_wp2
  go_ret
  exact⟨⟨_,rfl,by omega,by omega⟩,rfl⟩
/-- A token without its place. -/
structure Tn where
 kind:Int
 text:ByteArray
 num:Int
def stpT (t:Tk):Tn:=⟨t.kind,t.text,t.num⟩
def ib (b:UInt8):Int:=(b.toNat:Int)
def renT (t:Tn):List UInt8:=if t.kind==2 then (strOfNums (decL t.num)).data.toList else if t.kind==3 then 34::(t.text.data.toList++[34]) else t.text.data.toList
/-- A token that Lex may tell. -/
inductive GoodT (scr:Bool):Tn→Prop
 |name {x:ByteArray} {c:UInt8} {cs:List UInt8} (hx:x.data.toList=c::cs) (h:letB (ib c) scr=true) (hs: ∀b∈cs,worB scr (ib b)=true):GoodT scr ⟨1,x,0⟩
 |num {n:Int} (h0:0≤n) (h1:n≤1000000):GoodT scr ⟨2,{data:=#[]},n⟩
 |str {x:ByteArray} (h0:x.size≤40) (hs: ∀b∈x.data.toList,zgk (ib b)):GoodT scr ⟨3,x,0⟩
 |sign {x:ByteArray} {c:UInt8} (hx:x.data.toList=[c]) (h:Sign (ib c)):GoodT scr ⟨4,x,0⟩
def zep (t:Tn):Bool:=t.kind==1||t.kind==2
inductive Pc
 |tok (t:Tn)
 |sep (x:List UInt8)
def txtP:List Pc→List UInt8
 |[]=>[]
 | .tok t::l=>renT t++txtP l
 | .sep x::l=>x++txtP l
def tksP:List Pc→List Tn
 |[]=>[]
 | .tok t::l=>t::tksP l
 | .sep _::l=>tksP l
theorem zej (a b:List Pc):txtP (a++b)=txtP a++txtP b:=by
 induction a with
 |nil=>rfl
 |cons p l ih=>cases p<;>simp[txtP,ih]
theorem zck (a b:List Pc):tksP (a++b)=tksP a++tksP b:=by
 induction a with
 |nil=>rfl
 |cons p l ih=>cases p<;>simp[tksP,ih]
abbrev sp1:List UInt8:=[32]
abbrev nl1:List UInt8:=[10]
abbrev cm1:List UInt8:=[32,47,47,32,120,10]
def zsv (x:List UInt8):Prop:=x=sp1∨x=nl1∨x=cm1
/-- Tokens and blanks that stand one behind the other so that no two words meet. -/
def adj (w:Bool):List Pc→Prop
 |[]=>True
 | .sep _::l=>adj false l
 | .tok t::l=>(w=true→zep t=false)∧adj (zep t) l
theorem zbgk {a b:List Pc} (hb: ∀w,adj w b): ∀w,adj w a→adj w (a++b):=by
 induction a with
 |nil=>intro w _;exact hb w
 |cons p l ih=>
  intro w h
  cases p with
  |tok t=>exact⟨h.1,ih _ h.2⟩
  |sep x=>exact ih _ h
/-- zmb of a piece that is no word. -/
theorem zbbm {t:Tn} {b:List Pc} (ht:zep t=false) (hb:adj false b): ∀w,adj w (.tok t::b):=fun w=>⟨fun _=>ht,by rw[ht];exact hb⟩
theorem zbgl {x:List UInt8} {b:List Pc} (hb:adj false b): ∀w,adj w (.sep x::b):=fun _=>hb
/-- What is known of each piece. -/
def GoodP (scr:Bool) (l:List Pc):Prop:=∀p∈l,match p with
 | .tok t=>GoodT scr t
 | .sep x=>zsv x
theorem GoodP.app {scr:Bool} {a b:List Pc} (ha:GoodP scr a) (hb:GoodP scr b):GoodP scr (a++b):=fun p hp=>(List.mem_append.1 hp).elim (ha p) (hb p)
theorem zsw (s:ByteArray) (k:Nat):bt s k=ib (s.data.toList.getD k 0):=by
 rw[ziy]
 simp only[List.getD,List.getElem?_map]
 cases s.data.toList[k]? <;>rfl
theorem zdk (s:ByteArray):s.data.toList.length=s.size:=Array.length_toList
theorem zhc {s:ByteArray} {pre x post:List UInt8} (h:s.data.toList=pre++(x++post)) {i:Nat} (hi:i<x.length):bt s (pre.length+i)=ib x[i]:=by
 rw[zsw,h]
 simp only[List.getD]
 rw[List.getElem?_append_right (by omega),List.getElem?_append_left (by omega),Nat.add_sub_cancel_left,List.getElem?_eq_getElem hi]
 rfl
theorem zxc {s:ByteArray} {pre x:List UInt8} {c:UInt8} {cs:List UInt8} (h:s.data.toList=pre++(x++c::cs)):bt s (pre.length+x.length)=ib c:=by
 rw[zsw,h]
 simp only[List.getD]
 rw[List.getElem?_append_right (by omega),List.getElem?_append_right (by omega),Nat.add_sub_cancel_left,Nat.sub_self]
 rfl
theorem zpy {s:ByteArray} {pre x post:List UInt8} (h:s.data.toList=pre++(x++post)):s.size=pre.length+x.length+post.length:=by
 rw[←zdk,h,List.length_append,List.length_append]
 omega
theorem zou {s:ByteArray} {pre x post:List UInt8} (h:s.data.toList=pre++(x++post)) {y:ByteArray} (hy:y.data.toList=x):s.extract pre.length (pre.length+x.length)=y:=by
 apply zoc
 rw[Lib.extract_data,h,hy,List.drop_append_of_le_length (Nat.le_refl _),List.drop_eq_nil_of_le (Nat.le_refl _),List.nil_append,Nat.add_sub_cancel_left,List.take_append_of_le_length (Nat.le_refl _),List.take_of_length_le (Nat.le_refl _)]
/-- What stands behind a word. -/
def zbbn (scr:Bool) (post:List UInt8):Prop:=∀c cs,post=c::cs→worB scr (ib c)=false
theorem zbgm {s:ByteArray} {pre x post:List UInt8} (h:s.data.toList=pre++(x++post)) {p:Int→Bool} (hx: ∀b∈x,p (ib b)=true) (hp: ∀c cs,post=c::cs→p (ib c)=false):zcx p s pre.length (pre.length+x.length):=by
 have hz:=zpy h
 refine⟨by omega,by omega,fun j h1 h2=>?_,fun h1=>?_⟩
 ·obtain⟨i,rfl⟩: ∃i,j=pre.length+i:=⟨j-pre.length,by omega⟩
  have hi:i<x.length:=by omega
  rw[zhc h hi]
  exact hx _ (List.getElem_mem hi)
 ·cases post with
  |nil=>rw[List.length_nil] at hz;omega
  |cons c cs=>rw[zxc h];exact hp c cs rfl
/-- The digits of a number. -/
theorem zbbo {n:Int} (h0:0≤n):(strOfNums (decL n)).data.toList=(dgk n (dcn n)).map fun k=>UInt8.ofNat k.toNat:=by rw[strOfNums_data,zps h0]
theorem zblt {n:Int} (h0:0≤n) {i:Nat} (hi:i<((strOfNums (decL n)).data.toList).length):ib ((strOfNums (decL n)).data.toList)[i]=48+n/10^(dcn n-1-i)%10:=by
 have e:=zbbo h0
 have hl:((strOfNums (decL n)).data.toList).length=dcn n:=by rw[e,List.length_map,zdr]
 have h1:((strOfNums (decL n)).data.toList)[i]? =some (UInt8.ofNat (48+n/10^(dcn n-1-i)%10).toNat):=by
  rw[e,List.getElem?_map]
  have:=zbap n (dcn n) (dcn n-1-i) (by omega)
  rw[show dcn n-1-(dcn n-1-i)=i from by omega] at this
  rw[this]
  rfl
 rw[List.getElem?_eq_getElem hi] at h1
 rw[Option.some.inj h1]
 unfold ib
 rw[UInt8.toNat_ofNat']
 omega
theorem zbpl {s:ByteArray} {a c:Nat} {n:Int} (h0:0≤n) (hn:n<10^c) (h: ∀i,i<c→bt s (a+i)=48+n/10^(c-1-i)%10): ∀k,k≤c→dval s a k=n/10^(c-k):=by
 intro k
 induction k with
 |zero=>intro _;rw[dval,Nat.sub_zero,Int.ediv_eq_zero_of_lt h0 hn]
 |succ k ih=>
  intro hk
  rw[dval,ih (by omega),h k (by omega),show c-(k+1)=c-1-k from by omega,show c-k=(c-1-k)+1 from by omega,←zpr]
  omega
theorem zbsv {s:ByteArray} {pre post:List UInt8} {scr:Bool} {n:Int} (h0:0≤n) (h1:n≤1000000) (h:s.data.toList=pre++((strOfNums (decL n)).data.toList++post)) (hp:zbbn scr post):zfe s pre.length scr n (pre.length+((strOfNums (decL n)).data.toList).length)∧digB (bt s pre.length)=true:=by
 have hl:((strOfNums (decL n)).data.toList).length=dcn n:=by rw[zbbo h0,List.length_map,zdr]
 obtain⟨a1,a2,a3,a4⟩:=zfu n h0 (by omega)
 have hb: ∀i,i<dcn n→bt s (pre.length+i)=48+n/10^(dcn n-1-i)%10:=fun i hi=>by
  rw[zhc h (by omega),zblt h0]
 have hd: ∀b∈(strOfNums (decL n)).data.toList,digB (ib b)=true:=by
  intro b hb
  obtain⟨i,hi,rfl⟩:=List.getElem_of_mem hb
  rw[zblt h0,zei]
  omega
 have hz:=zpy h
 refine⟨⟨zbgm h hd fun c cs e=>?_,by omega,?_,?_,h1,fun hlt=>?_⟩,?_⟩
 ·have:=hp c cs e
  simp only[worB,Bool.or_eq_false_iff] at this
  exact this.2
 ·rcases a4 with a4|a4
  ·left;rw[hl,a4]
  ·right
   have:=hb 0 (by omega)
   rw[Nat.add_zero,Nat.sub_zero] at this
   rw[this]
   have e1:1≤n/10^(dcn n-1):=by rw[Int.le_ediv_iff_mul_le (zha _),Int.one_mul];exact a4
   have e2:n/10^(dcn n-1)<10:=by
    rw[Int.ediv_lt_iff_lt_mul (zha _),Int.mul_comm,←zmt,show dcn n-1+1=dcn n from by omega]
    exact a3
   omega
 ·rw[Nat.add_sub_cancel_left,hl,zbpl h0 a3 hb _ (Nat.le_refl _),Nat.sub_self,Int.pow_zero,Int.ediv_one]
 ·cases post with
  |nil=>rw[List.length_nil] at hz;omega
  |cons c cs=>
   rw[zxc h]
   have:=hp c cs rfl
   simp only[worB,Bool.or_eq_false_iff] at this
   exact this.1
 ·have:=hb 0 (by omega)
  rw[Nat.add_zero] at this
  rw[this,zei]
  omega
theorem zbsw {s:ByteArray} {pre post:List UInt8} {scr:Bool} {t:Tn} (ht:GoodT scr t) (h:s.data.toList=pre++(renT t++post)) (hp:zep t=true→zbbn scr post):
  Tok s scr pre.length ⟨t.kind,t.text,t.num,pre.length⟩ (pre.length+(renT t).length)∧pre.length<s.size∧¬zkq (bt s pre.length)∧¬zkh s pre.length:=by
 have hz:=zpy h
 cases ht with
 | @name x c cs hx hc hs=>
  have hr:renT ⟨1,x,0⟩=c::cs:=hx
  rw[hr] at h hz ⊢
  have h0:bt s pre.length=ib c:=by have:=zhc h (i:=0) (by simp);simpa using this
  have hw: ∀b∈c::cs,worB scr (ib b)=true:=by
   intro b hb
   rcases List.mem_cons.1 hb with rfl|hb
   ·unfold worB;rw[hc];rfl
   ·exact hs b hb
  have:=Tok.name (s:=s) (scr:=scr) (a:=pre.length) (by rw[h0];exact hc) (zbgm h hw (hp rfl))
  rw[zou h hx] at this
  rw[ziq] at hc
  refine⟨this,by simp at hz;omega,?_,fun k=>?_⟩
  ·rw[h0];unfold zkq;omega
  ·have:=k.1;rw[h0] at this;omega
 | @num n h0 h1=>
  have hr:renT ⟨2,{data:=#[]},n⟩=(strOfNums (decL n)).data.toList:=rfl
  rw[hr] at h hz ⊢
  obtain⟨h2,h3⟩:=zbsv h0 h1 h (hp rfl)
  have:=Tok.num (s:=s) (scr:=scr) (a:=pre.length) h3 h2
  rw[zei] at h3
  refine⟨this,by have:=h2.1.2.1;have:=h2.2.1;omega,by unfold zkq;omega,fun k=>by have:=k.1;omega⟩
 | @str x h0 hs=>
  have hr:renT ⟨3,x,0⟩=34::(x.data.toList++[34]):=rfl
  rw[hr] at h hz ⊢
  have hl:=zdk x
  have b0:bt s pre.length=34:=by have:=zhc h (i:=0) (by simp);simpa [ib] using this
  have e1:(34::(x.data.toList++[34]):List UInt8).length=x.size+2:=by simp[hl]
  rw[e1] at hz ⊢
  have h':s.data.toList=(pre++[34])++(x.data.toList++([34]++post)):=by rw[h];simp
  have hj: ∀i,(hi:i<x.data.toList.length)→bt s (pre.length+1+i)=ib x.data.toList[i]:=fun i hi=>by
   have:=zhc h' (i:=i) hi
   rw[List.length_append] at this
   exact this
  have hx:s.extract (pre.length+1) (pre.length+(x.size+2)-1)=x:=by
   have:=zou h' (y:=x) rfl
   rw[List.length_append,hl] at this
   rw[show pre.length+(x.size+2)-1=pre.length+[(34:UInt8)].length+x.size from by simp;omega]
   exact this
  have he:bt s (pre.length+(x.size+2)-1)=34:=by
   have:=zxc (s:=s) (pre:=pre++[34]) (x:=x.data.toList) (c:=34) (cs:=post) (by rw[h'];simp)
   rw[List.length_append,hl] at this
   rw[show pre.length+(x.size+2)-1=pre.length+[(34:UInt8)].length+x.size from by simp;omega]
   exact this
  have:=Tok.str (s:=s) (scr:=scr) (a:=pre.length) (e:=pre.length+(x.size+2)) b0 ⟨by omega,by omega,by omega,he,fun j g1 g2=>by
   obtain⟨i,rfl⟩: ∃i,j=pre.length+1+i:=⟨j-pre.length-1,by omega⟩
   rw[hj i (by omega)]
   exact hs _ (List.getElem_mem _)⟩
  rw[hx] at this
  refine⟨this,by omega,by rw[b0];unfold zkq;omega,fun k=>by have:=k.1;omega⟩
 | @sign x c hx hc=>
  have hr:renT ⟨4,x,0⟩=[c]:=hx
  rw[hr] at h hz ⊢
  have h0:bt s pre.length=ib c:=by have:=zhc h (i:=0) (by simp);simpa using this
  have:=Tok.sign (s:=s) (scr:=scr) (a:=pre.length) (by rw[h0];exact hc)
  have e:=zou h hx
  simp only[List.length_cons,List.length_nil,Nat.zero_add] at e hz
  rw[e] at this
  refine⟨this,by omega,?_,fun k=>?_⟩
  ·rw[h0];unfold Sign at hc;unfold zkq;omega
  ·have:=k.1;rw[h0] at this;unfold Sign at hc;omega
theorem zbpm {s:ByteArray} {pre x post:List UInt8} (hx:zsv x) (h:s.data.toList=pre++(x++post)) {b:Nat} (hs:Skip s (pre.length+x.length) b):Skip s pre.length b:=by
 have hz:=zpy h
 rcases hx with rfl|rfl|rfl
 ·have h0:bt s pre.length=32:=by have:=zhc h (i:=0) (by simp);simpa [ib] using this
  simp at hz hs
  exact .blank (by omega) (by rw[h0];exact .inr (.inr (.inr rfl))) hs
 ·have h0:bt s pre.length=10:=by have:=zhc h (i:=0) (by simp);simpa [ib] using this
  simp at hz hs
  exact .blank (by omega) (by rw[h0];exact .inr (.inl rfl)) hs
 ·have h0:bt s pre.length=32:=by have:=zhc h (i:=0) (by simp);simpa [ib] using this
  have h1:bt s (pre.length+1)=47:=by have:=zhc h (i:=1) (by simp);simpa [ib] using this
  have h2:bt s (pre.length+2)=47:=by have:=zhc h (i:=2) (by simp);simpa [ib] using this
  have h3:bt s (pre.length+3)=32:=by have:=zhc h (i:=3) (by simp);simpa [ib] using this
  have h4:bt s (pre.length+4)=120:=by have:=zhc h (i:=4) (by simp);simpa [ib] using this
  have h5:bt s (pre.length+5)=10:=by have:=zhc h (i:=5) (by simp);simpa [ib] using this
  simp at hz hs
  refine .blank (by omega) (by rw[h0];exact .inr (.inr (.inr rfl))) ?_
  refine .comment (c:=pre.length+5) (by omega) ⟨h1,by omega,h2⟩ ⟨by omega,by omega,fun j g1 g2=>?_,fun _=>by rw[h5];rfl⟩ ?_
  ·obtain k|k|k|k:j=pre.length+1∨j=pre.length+2∨j=pre.length+3∨j=pre.length+4:=by omega
   ·rw[k,h1];rfl
   ·rw[k,h2];rfl
   ·rw[k,h3];rfl
   ·rw[k,h4];rfl
  ·exact .blank (by omega) (by rw[h5];exact .inr (.inl rfl)) hs
theorem zbsx {scr:Bool} {l:List Pc} (hg:GoodP scr l) (ha:adj true l):zbbn scr (txtP l):=by
 intro c cs e
 cases l with
 |nil=>cases e
 |cons p l=>
  cases p with
  |sep x=>
   have hx:zsv x:=hg (.sep x) (List.mem_cons_self ..)
   simp only[txtP] at e
   rcases hx with rfl|rfl|rfl<;>simp only[List.cons_append] at e<;>cases e<;>cases scr<;>rfl
  |tok t=>
   have ht:GoodT scr t:=hg (.tok t) (List.mem_cons_self ..)
   have hw:=ha.1 rfl
   simp only[txtP] at e
   cases ht with
   |name _ _ _=>cases hw
   |num _ _=>cases hw
   |str _ _=>simp[renT] at e;rw[←e.1];cases scr<;>rfl
   | @sign x c' hx hc=>
    have hr:renT ⟨4,x,0⟩=[c']:=hx
    rw[hr] at e
    simp at e
    rw[←e.1]
    simp only[worB,Bool.or_eq_false_iff]
    have h1:letB (ib c') scr=false:=by
     cases hl:letB (ib c') scr with
     |false=>rfl
     |true=>exact absurd hc (zlf hl).2.2
    have h2:digB (ib c')=false:=by
     cases hl:digB (ib c') with
     |false=>rfl
     |true=>exact absurd hc (zlg hl).2
    exact⟨h1,h2⟩
theorem zbpn {scr:Bool} {s:ByteArray} (P:List Pc): ∀(w:Bool) (pre:List UInt8) (n:Nat),s.data.toList=pre++txtP P→GoodP scr P→adj w P→n+(tksP P).length≤4000→
  ∃b ts,Skip s pre.length b∧Lx s scr b n (.ok ts)∧ts.map stpT=tksP P:=by
 induction P with
 |nil=>
  intro w pre n h _ _ _
  have hz:s.size=pre.length:=by rw[←zdk,h];simp[txtP]
  refine⟨pre.length,[],?_,?_,rfl⟩
  ·rw[←hz];exact .done
  ·rw[←hz];exact .done
 |cons p l ih=>
  intro w pre n h hg ha hn
  have hg':GoodP scr l:=fun q hq=>hg q (List.mem_cons_of_mem _ hq)
  cases p with
  |sep x=>
   have hx:zsv x:=hg (.sep x) (List.mem_cons_self ..)
   simp only[txtP] at h
   obtain⟨b,ts,h1,h2,h3⟩:=ih false (pre++x) n (by rw[h,List.append_assoc]) hg' ha hn
   rw[List.length_append] at h1
   exact⟨b,ts,zbpm hx h h1,h2,h3⟩
  |tok t=>
   have ht:GoodT scr t:=hg (.tok t) (List.mem_cons_self ..)
   simp only[txtP] at h
   simp only[tksP,List.length_cons] at hn
   obtain⟨b,ts,h1,h2,h3⟩:=ih (zep t) (pre++renT t) (n+1) (by rw[h,List.append_assoc]) hg' ha.2 (by omega)
   obtain⟨k1,k2,k3,k4⟩:=zbsw ht h fun hw=>zbsx hg' (by have:=ha.2;rw[hw] at this;exact this)
   rw[List.length_append] at h1
   refine⟨pre.length,_,.stop k2 k3 k4,.tok (r:=.ok ts) k2 (by omega) k1 h1 h2,?_⟩
   simp only[List.map_cons,h3,tksP]
   rfl
theorem zbbp {scr:Bool} {s:ByteArray} {P:List Pc} (h:s.data.toList=txtP P) (hg:GoodP scr P) (ha:adj false P) (hn:(tksP P).length≤4000): ∃ts,LexR s scr (.ok ts)∧ts.map stpT=tksP P:=by
 obtain⟨b,ts,h1,h2,h3⟩:=zbpn P false [] 0 (by rw[h];rfl) hg ha (by omega)
 exact⟨ts,⟨b,h1,h2⟩,h3⟩
/-- Each token that Lex tells is such a one. -/
theorem zbpo {s:ByteArray} {scr:Bool} {a e:Nat} {t:Tk} (ha:a<s.size) (h:Tok s scr a t e):GoodT scr (stpT t):=by
 have hcut: ∀e,a≤e→e≤s.size→∀b∈(s.extract a e).data.toList,∃j,a≤j∧j<e∧ib b=bt s j:=by
  intro e h1 h2 b hb
  rw[Lib.extract_data] at hb
  obtain⟨i,hi,rfl⟩:=List.getElem_of_mem hb
  rw[List.length_take,List.length_drop,zdk] at hi
  refine⟨a+i,by omega,by omega,?_⟩
  rw[zsw,List.getElem_take,List.getElem_drop]
  simp only[List.getD]
  rw[List.getElem?_eq_getElem (by rw[zdk];omega)]
  rfl
 have he:=zkg ha h
 cases h with
 |name h he'=>
  have hl:(s.extract a e).data.toList=s.data.toList[a]'(by rw[zdk];exact ha)::((s.data.toList.drop (a+1)).take (e-a-1)):=by
   rw[Lib.extract_data,List.drop_eq_getElem_cons (by rw[zdk];exact ha),show e-a=(e-a-1)+1 from by omega,List.take_succ_cons]
   rfl
  have hb:ib (s.data.toList[a]'(by rw[zdk];exact ha))=bt s a:=by
   rw[zsw]
   simp only[List.getD]
   rw[List.getElem?_eq_getElem (by rw[zdk];exact ha)]
   rfl
  refine GoodT.name hl (by rw[hb];exact h) fun b hb=>?_
  obtain⟨j,j1,j2,j3⟩:=hcut e (by omega) he.2.1 b (by rw[hl];exact List.mem_cons_of_mem _ hb)
  rw[j3]
  exact he'.2.2.1 j j1 j2
 | @num n _ h he'=>
  refine GoodT.num ?_ he'.2.2.2.2.1
  rw[he'.2.2.2.1]
  refine (zoe (e-a) (e-a) (fun j hj=>?_) (Nat.le_refl _)).1
  have:=he'.1.2.2.1 (a+j) (by omega) (by omega)
  rw[zei] at this
  exact this.1
 |str h he'=>
  obtain⟨h1,h2,h3,h4,h5⟩:=he'
  refine GoodT.str ?_ fun b hb=>?_
  ·rw[←zdk,Lib.extract_data,List.length_take,List.length_drop,zdk]
   omega
  ·rw[Lib.extract_data] at hb
   obtain⟨i,hi,rfl⟩:=List.getElem_of_mem hb
   rw[List.length_take,List.length_drop,zdk] at hi
   have:=h5 (a+1+i) (by omega) (by omega)
   rw[zsw] at this
   simp only[List.getD] at this
   rw[List.getElem?_eq_getElem (by rw[zdk];omega)] at this
   rw[List.getElem_take,List.getElem_drop]
   exact this
 |sign h=>
  have hl:(s.extract a (a+1)).data.toList=[s.data.toList[a]'(by rw[zdk];exact ha)]:=by
   rw[Lib.extract_data,List.drop_eq_getElem_cons (by rw[zdk];exact ha),Nat.add_sub_cancel_left,List.take_succ_cons]
   rfl
  have hb:ib (s.data.toList[a]'(by rw[zdk];exact ha))=bt s a:=by
   rw[zsw]
   simp only[List.getD]
   rw[List.getElem?_eq_getElem (by rw[zdk];exact ha)]
   rfl
  exact GoodT.sign hl (by rw[hb];exact h)
theorem zbgn {s:ByteArray} {scr:Bool} {a n:Nat} {r:Except Nat (List Tk)} (h:Lx s scr a n r): ∀ts,r= .ok ts→∀t∈ts,GoodT scr (stpT t):=by
 induction h with
 |done=>intro ts hr t ht;cases hr;cases ht
 |bad _ _=>intro ts hr;cases hr
 | @tok a n e b t r h hn ht hs hr ih=>
  intro ts hts u hu
  cases r with
  |error p=>simp[Except.map] at hts
  |ok l=>
   simp only[Except.map,Except.ok.injEq] at hts
   subst hts
   rcases List.mem_cons.1 hu with rfl|hu
   ·exact zbpo h ht
   ·exact ih l rfl u hu
inductive Tr
 |leaf (x:Ex)
 |two (k:Int) (l r:Tr)
def Tr.size:Tr→Nat
 |leaf _=>1
 |two _ l r=>l.size+r.size+1
def Tr.kind:Tr→Int
 |leaf x=>x.kind
 |two k _ _=>k
/-- The row of a tree that begins at place o. -/
def Tr.flat:Tr→Nat→List Ex
 |leaf x,_=>[x]
 |two k l r,o=>l.flat o++(r.flat (o+l.size)++[⟨k,0,sNone,sNone,((o+l.size:Nat):Int)-1,((o+l.size+r.size:Nat):Int)-1⟩])
theorem Tr.flat_len (t:Tr): ∀o,(t.flat o).length=t.size:=by
 induction t with
 |leaf x=>intro o;rfl
 |two k l r hl hr=>intro o;simp only[flat,size,List.length_append,hl,hr,List.length_cons,List.length_nil];omega
theorem Tr.pos (t:Tr):0<t.size:=by cases t<;>simp only[size]<;>omega
/-- How deep ( ) have to be in its text. -/
def Tr.dp:Tr→Nat
 |leaf _=>0
 |two k l r=>if k==8 then max ((if sumK l.kind then 1 else 0)+l.dp) ((if twoK r.kind then 1 else 0)+r.dp) else max l.dp ((if sumK r.kind then 1 else 0)+r.dp)
def dpS (b:Bool) (t:Tr):Nat:=(if b then 1 else 0)+t.dp
theorem zblu {k:Int} (h:k=6∨k=7) (l r:Tr):(Tr.two k l r).dp=max l.dp (dpS (sumK r.kind) r):=by rcases h with rfl|rfl<;>rfl
theorem zbgo (l r:Tr):(Tr.two 8 l r).dp=max (dpS (sumK l.kind) l) (dpS (twoK r.kind) r):=rfl
theorem zbwc (b:Bool) (t:Tr):dpS b t≤t.dp+1:=by unfold dpS;split<;>omega
theorem zbwd (b:Bool) (t:Tr):t.dp≤dpS b t:=by unfold dpS;omega
theorem zbsy {k:Int} (h:sumK k=true):twoK k=true:=by
 unfold sumK at h
 unfold twoK
 rw[h]
 rfl
theorem zbsz (t:Tr):dpS (sumK t.kind) t≤dpS (twoK t.kind) t:=by
 unfold dpS
 cases h:sumK t.kind with
 |false=>simp
 |true=>rw[zbsy h];exact Nat.le_refl _
/-- A name that may stand alone; one that may stand behind a point. -/
def NameG (scr:Bool) (x:ByteArray):Prop:=GoodT scr ⟨1,x,0⟩∧resB x scr=false
def FieldG (scr:Bool) (x:ByteArray):Prop:=GoodT scr ⟨1,x,0⟩∧(resB x scr=false∨x.toList=[100,101,102,97,117,108,116])
def zvr (scr:Bool) (x:ByteArray):Prop:=NameG scr x∨(scr=true∧x=sUndef)
inductive LeafOk (scr:Bool):Ex→Prop
 |num {n:Int} (h0:0≤n) (h1:n≤1000000):LeafOk scr ⟨1,n,sNone,sNone,0,0⟩
 |name {x:ByteArray} (h:zvr scr x):LeafOk scr ⟨2,0,x,sNone,0,0⟩
 |call {x:ByteArray} (h:zvr scr x):LeafOk scr ⟨3,0,x,sNone,0,0⟩
 |mem {x f:ByteArray} (h:NameG scr x) (hf:FieldG scr f):LeafOk scr ⟨4,0,x,f,0,0⟩
 |memCall {x f:ByteArray} (h:NameG scr x) (hf:FieldG scr f):LeafOk scr ⟨5,0,x,f,0,0⟩
def TrOk (scr:Bool):Tr→Prop
 | .leaf x=>LeafOk scr x
 | .two k l r=>(k=6∨k=7∨k=8)∧TrOk scr l∧TrOk scr r
theorem zuh {scr:Bool} {x:Ex} (h:LeafOk scr x):twoK x.kind=false:=by cases h<;>rfl
/-- All tokens are such as Lex may tell. -/
def zgd (C:Cx):Prop:=∀t∈C.ts,GoodT C.scr (stpT t)
theorem zsx {C:Cx} (h:zgd C) {i:Nat} (hi:i<C.ts.length):GoodT C.scr (stpT (zd C i)):=by
 unfold zd
 simp only[List.getD]
 rw[List.getElem?_eq_getElem hi]
 exact h _ (List.getElem_mem hi)
theorem zye {scr:Bool} {t:Tn} (h:GoodT scr t) (hk:t.kind=1):GoodT scr ⟨1,t.text,0⟩:=by
 cases h with
 |name hx h hs=>exact .name hx h hs
 |num _ _=>cases hk
 |str _ _=>cases hk
 |sign _ _=>cases hk
theorem zpz {C:Cx} (h:zgd C) {i:Nat} (hp:plainB C i false=true):NameG C.scr (zd C i).text:=by
 have hl:=zjs hp
 simp only[plainB,Bool.and_eq_true,beq_iff_eq,Bool.false_and,Bool.or_false,Bool.not_eq_true'] at hp
 exact⟨zye (zsx h hl) hp.1,hp.2⟩
theorem ztp {C:Cx} (h:zgd C) {i:Nat} {o:Bool} (hp:plainB C i o=true):FieldG C.scr (zd C i).text:=by
 have hl:=zjs hp
 simp only[plainB,Bool.and_eq_true,beq_iff_eq,Bool.or_eq_true,Bool.not_eq_true'] at hp
 refine⟨zye (zsx h hl) hp.1,?_⟩
 rcases hp.2 with k|k
 ·exact .inl k
 ·exact .inr k.2
/-- All rows but that of expressions stay. -/
structure Sm5 (q q':PS):Prop where
 rq:q'.rq=q.rq
 im:q'.im=q.im
 ep:q'.ep=q.ep
 st:q'.st=q.st
 la:q'.la=q.la
theorem Sm5.refl (q:PS):Sm5 q q:=⟨rfl,rfl,rfl,rfl,rfl⟩
theorem Sm5.trans {a b c:PS} (h:Sm5 a b) (k:Sm5 b c):Sm5 a c:=⟨k.rq.trans h.rq,k.im.trans h.im,k.ep.trans h.ep,k.st.trans h.st,k.la.trans h.la⟩
theorem Sm5.adv (q:PS):Sm5 q (adv q):=⟨rfl,rfl,rfl,rfl,rfl⟩
def LeafRes (C:Cx) (q q':PS):Prop:=∃x,LeafOk C.scr x∧q'.ex=q.ex++[x]∧Sm5 q q'∧q'.ex.length≤300
theorem zno {C:Cx} {x:Ex} {q q':PS} (h:zbm C x q= .ok q') (hx:LeafOk C.scr x):LeafRes C q q':=by
 obtain⟨rfl,hl⟩:=zdg h
 exact⟨x,hx,rfl,⟨rfl,rfl,rfl,rfl,rfl⟩,by simp;omega⟩
theorem zvs {C:Cx} {n:ByteArray} {q q':PS} (h:zcr C n q= .ok q') (hn:zvr C.scr n):LeafRes C q q':=by
 unfold zcr at h
 split at h
 ·obtain⟨a,h1,h2⟩:=zc h
  obtain⟨b,h3,h4⟩:=zc h1
  obtain⟨rfl,_⟩:=zdf h3
  obtain⟨rfl,_⟩:=zdf h4
  obtain⟨x,a1,a2,a3,a4⟩:=zno h2 (.call hn)
  exact⟨x,a1,a2,(Sm5.adv _).trans ((Sm5.adv _).trans a3),a4⟩
 ·exact zno h (.name hn)
theorem zblv {C:Cx} {n f:ByteArray} {q q':PS} (h:memP C n f q= .ok q') (hn:NameG C.scr n) (hf:FieldG C.scr f):LeafRes C q q':=by
 unfold memP at h
 split at h
 ·obtain⟨a,h1,h2⟩:=zc h
  obtain⟨b,h3,h4⟩:=zc h1
  obtain⟨rfl,_⟩:=zdf h3
  obtain⟨rfl,_⟩:=zdf h4
  obtain⟨x,a1,a2,a3,a4⟩:=zno h2 (.memCall hn hf)
  exact⟨x,a1,a2,(Sm5.adv _).trans ((Sm5.adv _).trans a3),a4⟩
 ·exact zno h (.mem hn hf)
/-- What was read stands behind A as the row of a tree that keeps to the depth. -/
def zni (C:Cx) (A:List Ex) (m:Tr→Nat) (d:Nat) (q q':PS):Prop:=∃t,TrOk C.scr t∧q'.ex=A++t.flat A.length∧d+m t≤20∧Sm5 q q'∧q'.ex.length≤300
def mSum (t:Tr):Nat:=t.dp
def zvt (t:Tr):Nat:=dpS (sumK t.kind) t
def zbaf (t:Tr):Nat:=dpS (twoK t.kind) t
def Res (C:Cx):NT→Nat→PS→PS→Prop
 | .sum,d,q,q'=>zni C q.ex mSum d q q'
 | .prod,d,q,q'=>zni C q.ex zvt d q q'
 | .part,d,q,q'=>zni C q.ex zbaf d q q'
 | .sumT,d,q,q'=>∀A t0,TrOk C.scr t0→q.ex=A++t0.flat A.length→d+mSum t0≤20→q.ex.length≤300→zni C A mSum d q q'
 | .prodT,d,q,q'=>∀A t0,TrOk C.scr t0→q.ex=A++t0.flat A.length→d+zvt t0≤20→q.ex.length≤300→zni C A zvt d q q'
theorem zui {A:List Ex} {t0 t1:Tr} {k:Int} {q q1:PS} (h0:q.ex=A++t0.flat A.length) (h1:q1.ex=q.ex++t1.flat q.ex.length):
  q1.ex++[⟨k,0,sNone,sNone,(q.ex.length:Int)-1,(q1.ex.length:Int)-1⟩]=A++(Tr.two k t0 t1).flat A.length:=by
 have e0:q.ex.length=A.length+t0.size:=by rw[h0,List.length_append,Tr.flat_len]
 have e1:q1.ex.length=A.length+t0.size+t1.size:=by rw[h1,List.length_append,Tr.flat_len,e0]
 rw[e1,h1,e0,h0,Tr.flat]
 simp only[List.append_assoc]
theorem zoi {C:Cx} {q q':PS} {d:Nat} (hd:d≤20) (h:LeafRes C q q'):zni C q.ex zbaf d q q':=by
 obtain⟨x,h1,h2,h3,h4⟩:=h
 refine⟨.leaf x,h1,h2,?_,h3,h4⟩
 have:zbaf (.leaf x)=0:=by
  unfold zbaf dpS
  rw[show (Tr.leaf x).kind=x.kind from rfl,zuh h1]
  rfl
 omega
theorem LeafRes.from {C:Cx} {q q1 q':PS} (h:LeafRes C q1 q') (he:q1.ex=q.ex) (hs:Sm5 q q1):LeafRes C q q':=by
 obtain⟨x,h1,h2,h3,h4⟩:=h
 exact⟨x,h1,by rw[h2,he],hs.trans h3,h4⟩
theorem zbta {C:Cx} (hC:zgd C) (f:Nat): ∀(nt:NT) (d:Nat) (q q':PS),d≤20→ev C f nt d q= .ok q'→Res C nt d q q':=by
 induction f with
 |zero=>intro nt d q q' _ h;cases nt<;>cases h
 |succ f ih=>
  intro nt d q q' hd h
  cases nt with
  |sum=>
   rw[ev] at h
   obtain⟨a,h1,h2⟩:=zc h
   obtain⟨t,a1,a2,a3,a4,a5⟩:=ih _ _ _ _ hd h1
   obtain⟨t',b1,b2,b3,b4,b5⟩:=ih _ _ _ _ hd h2 _ t a1 a2 (Nat.le_trans (Nat.add_le_add_left (zbwd _ _) _) a3) a5
   exact⟨t',b1,b2,b3,a4.trans b4,b5⟩
  |prod=>
   rw[ev] at h
   obtain⟨a,h1,h2⟩:=zc h
   obtain⟨t,a1,a2,a3,a4,a5⟩:=ih _ _ _ _ hd h1
   obtain⟨t',b1,b2,b3,b4,b5⟩:=ih _ _ _ _ hd h2 _ t a1 a2 (Nat.le_trans (Nat.add_le_add_left (zbsz t) _) a3) a5
   exact⟨t',b1,b2,b3,a4.trans b4,b5⟩
  |sumT=>
   intro A t0 k1 k2 k3 k4
   rw[ev] at h
   split at h
   ·obtain⟨a,h1,h2⟩:=zc h
    obtain⟨b,h3,h4⟩:=zc h1
    obtain⟨t,a1,a2,a3,a4,a5⟩:=ih _ _ _ _ hd h3
    obtain⟨rfl,hl⟩:=zdg h4
    have hk:zeu C q.pos=6∨zeu C q.pos=7:=by unfold zeu;split<;>simp
    have hm:d+mSum (Tr.two (zeu C q.pos) t0 t)≤20:=by
     have e:mSum (Tr.two (zeu C q.pos) t0 t)=max t0.dp (dpS (sumK t.kind) t):=zblu hk _ _
     rw[e]
     have:d+dpS (sumK t.kind) t≤20:=a3
     have:d+t0.dp≤20:=k3
     omega
    obtain⟨t',b1,b2,b3,b4,b5⟩:=ih _ _ _ _ hd h2 A (.two (zeu C q.pos) t0 t) ⟨by rcases hk with e|e<;>simp[e],k1,a1⟩ (zui k2 a2) hm (by simp;omega)
    exact⟨t',b1,b2,b3,(Sm5.adv _).trans (a4.trans ⟨b4.rq,b4.im,b4.ep,b4.st,b4.la⟩),b5⟩
   ·cases h
    exact⟨t0,k1,k2,k3,Sm5.refl _,k4⟩
  |prodT=>
   intro A t0 k1 k2 k3 k4
   rw[ev] at h
   split at h
   ·obtain⟨a,h1,h2⟩:=zc h
    obtain⟨b,h3,h4⟩:=zc h1
    obtain⟨t,a1,a2,a3,a4,a5⟩:=ih _ _ _ _ hd h3
    obtain⟨rfl,hl⟩:=zdg h4
    have hm:d+zvt (Tr.two 8 t0 t)≤20:=by
     have e:zvt (Tr.two 8 t0 t)=max (dpS (sumK t0.kind) t0) (dpS (twoK t.kind) t):=(Nat.zero_add _).trans (zbgo _ _)
     rw[e]
     have:d+dpS (twoK t.kind) t≤20:=a3
     have:d+dpS (sumK t0.kind) t0≤20:=k3
     omega
    obtain⟨t',b1,b2,b3,b4,b5⟩:=ih _ _ _ _ hd h2 A (.two 8 t0 t) ⟨.inr (.inr rfl),k1,a1⟩ (zui k2 a2) hm (by simp;omega)
    exact⟨t',b1,b2,b3,(Sm5.adv _).trans (a4.trans ⟨b4.rq,b4.im,b4.ep,b4.st,b4.la⟩),b5⟩
   ·cases h
    exact⟨t0,k1,k2,k3,Sm5.refl _,k4⟩
  |part=>
   rw[ev] at h
   split at h
   ·next hk=>
    have hl:=zne hk (by decide)
    have hg:=zsx hC hl
    rw[beq_iff_eq] at hk
    refine zoi hd ((zno h ?_).from rfl (Sm5.adv _))
    generalize hT:stpT (zd C q.pos)=T at hg
    have h1:T.kind=2:=by rw[←hT];exact hk
    have h2:T.num=(zd C q.pos).num:=by rw[←hT];rfl
    rw[←h2]
    cases hg with
    |name _ _ _=>cases h1
    |num k0 k1=>exact .num k0 k1
    |str _ _=>cases h1
    |sign _ _=>cases h1
   ·split at h
    ·split at h
     ·cases h
     ·obtain⟨a,h1,h2⟩:=zc h
      obtain⟨t,a1,a2,a3,a4,a5⟩:=ih _ _ _ _ (by omega) h1
      obtain⟨rfl,_⟩:=zdf h2
      refine⟨t,a1,a2,?_,(Sm5.adv _).trans (a4.trans (Sm5.adv _)),a5⟩
      have h3:=zbwc (twoK t.kind) t
      have h4:d+1+t.dp≤20:=a3
      show d+dpS _ _≤20
      omega
    ·split at h
     ·next hs=>
      rw[Bool.and_eq_true] at hs
      exact zoi hd ((zvs h (.inr ⟨hs.1,rfl⟩)).from rfl (Sm5.adv _))
     ·obtain⟨y,h1,h2⟩:=zc h
      obtain⟨rfl,hp⟩:=zcj h1
      simp only at h2
      split at h2
      ·obtain⟨z,h3,h4⟩:=zc h2
       obtain⟨rfl,hp2⟩:=zcj h3
       exact zoi hd ((zblv h4 (zpz hC hp) (ztp hC hp2)).from rfl ((Sm5.adv _).trans ((Sm5.adv _).trans (Sm5.adv _))))
      ·exact zoi hd ((zvs h2 (.inl (zpz hC hp))).from rfl (Sm5.adv _))
theorem zbgp {C:Cx} (hC:zgd C) {q q':PS} (h:pE C .sum 0 q= .ok q'): ∃t,TrOk C.scr t∧q'.ex=q.ex++t.flat q.ex.length∧t.dp≤20∧Sm5 q q'∧q'.ex.length≤300:=by
 obtain⟨t,h1,h2,h3,h4⟩:=zbta hC _ .sum 0 q q' (by omega) h
 exact⟨t,h1,h2,by rw[Nat.zero_add] at h3;exact h3,h4⟩
def zh (x:ByteArray):Tn:=⟨4,x,0⟩
def zn (x:ByteArray):Tn:=⟨1,x,0⟩
def zfg (x:Ex):List Pc:=
 if x.kind==1 then [.tok ⟨2,sNone,x.num⟩]
 else if x.kind==2 then [.tok (zn x.name)]
 else if x.kind==3 then [.tok (zn x.name),.tok (zh cOpen),.tok (zh zbw)]
 else if x.kind==4 then [.tok (zn x.name),.tok (zh cPoint),.tok (zn x.field)]
 else [.tok (zn x.name),.tok (zh cPoint),.tok (zn x.field),.tok (zh cOpen),.tok (zh zbw)]
def zed (b:Bool) (l:List Pc):List Pc:=if b then .tok (zh cOpen)::(l++[.tok (zh zbw)]) else l
def opP (k:Int):ByteArray:=if k==8 then zw else if k==7 then zcy else zfo
def Tr.pcs:Tr→List Pc
 |leaf x=>zfg x
 |two k l r=>zed (k==8&&sumK l.kind) l.pcs++(.sep sp1:: .tok (zh (opP k)):: .sep sp1::zed (if k==8 then twoK r.kind else sumK r.kind) r.pcs)
/-- These tokens stand from place p on to the end. -/
def Rem (C:Cx) (p:Nat) (l:List Tn):Prop:=(C.ts.drop p).map stpT=l
theorem Rem.next {C:Cx} {p:Nat} {t:Tn} {l:List Tn} (h:Rem C p (t::l)):stpT (zd C p)=t∧Rem C (p+1) l∧p<C.ts.length:=by
 unfold Rem at h
 have hp:p<C.ts.length:=by
  rcases Nat.lt_or_ge p C.ts.length with k|k
  ·exact k
  ·rw[List.drop_eq_nil_of_le k] at h;cases h
 rw[List.drop_eq_getElem_cons hp,List.map_cons] at h
 injection h with h1 h2
 refine⟨?_,h2,hp⟩
 rw[←h1]
 unfold zd
 simp only[List.getD]
 rw[List.getElem?_eq_getElem hp]
 rfl
theorem Rem.none {C:Cx} {p:Nat} (h:Rem C p []):C.ts.length≤p:=by
 unfold Rem at h
 have:=congrArg List.length h
 rw[List.length_map,List.length_drop,List.length_nil] at this
 omega
def hd (l:List Tn) (k:Int) (x:ByteArray):Bool:=match l with
 |[]=>false
 |t::_=>t.kind==k&&t.text.toList==x.toList
theorem Rem.is {C:Cx} {p:Nat} {l:List Tn} (h:Rem C p l) {k:Int} (hk:k≠0) (x:ByteArray):isT C p k x=hd l k x:=by
 cases l with
 |nil=>
  cases hi:isT C p k x with
  |false=>rfl
  |true=>have:=zcm hi hk;have:=h.none;omega
 |cons t l=>
  obtain⟨h1,_⟩:=h.next
  unfold isT hd
  rw[←h1]
  rfl
theorem Rem.app {C:Cx} {a:List Tn}: ∀{p:Nat} {l:List Tn},Rem C p (a++l)→Rem C (p+a.length) l:=by
 induction a with
 |nil=>intro p l h;exact h
 |cons t a ih=>
  intro p l h
  have:=ih h.next.2.1
  rw[List.length_cons,show p+(a.length+1)=p+1+a.length from by omega]
  exact this
theorem Rem.kind {C:Cx} {p:Nat} {t:Tn} {l:List Tn} (h:Rem C p (t::l)):(zd C p).kind=t.kind∧(zd C p).text=t.text∧(zd C p).num=t.num:=by
 rw[←h.next.1]
 exact⟨rfl,rfl,rfl⟩
theorem zjx {C:Cx} {t:Tn} {l:List Tn} {q:PS} {k:Int} {x:ByteArray} (h:Rem C q.pos (t::l)) (hk:k≠0) (ht:hd (t::l) k x=true):tokP C k x q= .ok (adv q):=by
 unfold tokP
 rw[if_pos (by rw[h.is hk];exact ht)]
theorem zbgq (k:Int) (x:ByteArray) (n:Int) (l:List Tn):hd (⟨k,x,n⟩::l) k x=true:=by simp[hd]
theorem zfj (x:ByteArray) (l:List Tn):hd (zh x::l) 4 x=true:=zbgq 4 x 0 l
theorem zbgr (x:ByteArray) (l:List Tn):hd (zn x::l) 1 x=true:=zbgq 1 x 0 l
theorem zpf {t:Tn} {l:List Tn} {k:Int} {x:ByteArray} (h:t.kind≠k):hd (t::l) k x=false:=by
 unfold hd
 simp only
 rw[beq_eq_false_iff_ne.2 h]
 rfl
theorem zhu {C:Cx} {x:ByteArray} {l:List Tn} {p:Nat} (h:Rem C p (zn x::l)) (hx:NameG C.scr x) (o:Bool):plainB C p o=true:=by
 obtain⟨h1,h2,_⟩:=h.kind
 unfold plainB
 rw[h1,h2,show (zn x).text=x from rfl,hx.2]
 rfl
theorem zmi {C:Cx} {x:ByteArray} {l:List Tn} {p:Nat} (h:Rem C p (zn x::l)) (hx:FieldG C.scr x):plainB C p true=true:=by
 obtain⟨h1,h2,_⟩:=h.kind
 unfold plainB
 rw[h1,h2,show (zn x).text=x from rfl]
 rcases hx.2 with k|k
 ·rw[k];rfl
 ·rw[k];simp[zn]
theorem zfw {C:Cx} {x:ByteArray} {l:List Tn} {q:PS} {o:Bool} (h:Rem C q.pos (zn x::l)) (hp:plainB C q.pos o=true):zk C o q= .ok (adv q,x):=by
 unfold zk
 rw[if_pos hp,h.kind.2.1]
 rfl
/-- No ( and no point is the first of these. -/
def znp (l:List Tn):Prop:=hd l 4 cOpen=false∧hd l 4 cPoint=false
def aft (q:PS) (n:Nat) (t:Tr):PS:={q with pos:=q.pos+n,ex:=q.ex++t.flat q.ex.length}
theorem zhz {C:Cx} {x:Ex} {q:PS} (h:q.ex.length<300):zbm C x q= .ok {q with ex:=q.ex++[x]}:=by unfold zbm;rw[if_neg (by omega)]
theorem zblw (scr:Bool):resB sUndef scr=scr:=by
 have e:sUndef.toList=[117,110,100,101,102]:=by rw[Lib.toList_data]
 unfold resB
 rw[e]
 cases scr<;>rfl
theorem zbpp {x:ByteArray} {scr:Bool} (hx:resB x scr=false) (hs:scr=true):(x.toList==sUndef.toList)=false:=by
 cases h:x.toList==sUndef.toList with
 |false=>rfl
 |true=>
  have:=(zgx _ _).1 h
  rw[this,zblw,hs] at hx
  cases hx
theorem zbio {C:Cx} {x:ByteArray} {l:List Tn} {q:PS} (h:Rem C q.pos l) (hl:znp l) (hr:q.ex.length<300):zcr C x q= .ok {q with ex:=q.ex++[⟨2,0,x,sNone,0,0⟩]}:=by
 unfold zcr
 rw[if_neg (by rw[h.is (by decide),hl.1];decide),zhz hr]
theorem zbip {C:Cx} {x:ByteArray} {l:List Tn} {q:PS} (h:Rem C q.pos (zh cOpen::zh zbw::l)) (hr:q.ex.length<300):zcr C x q= .ok {q with pos:=q.pos+2,ex:=q.ex++[⟨3,0,x,sNone,0,0⟩]}:=by
 unfold zcr
 rw[if_pos (by rw[h.is (by decide)];exact zfj _ _),zjx h (by decide) (zfj _ _),zg,zjx (q:=adv q) h.next.2.1 (by decide) (zfj _ _),zg]
 exact zhz hr
theorem zblx {C:Cx} {x f:ByteArray} {l:List Tn} {q:PS} (h:Rem C q.pos l) (hl:znp l) (hr:q.ex.length<300):memP C x f q= .ok {q with ex:=q.ex++[⟨4,0,x,f,0,0⟩]}:=by
 unfold memP
 rw[if_neg (by rw[h.is (by decide),hl.1];decide),zhz hr]
theorem zbly {C:Cx} {x f:ByteArray} {l:List Tn} {q:PS} (h:Rem C q.pos (zh cOpen::zh zbw::l)) (hr:q.ex.length<300):memP C x f q= .ok {q with pos:=q.pos+2,ex:=q.ex++[⟨5,0,x,f,0,0⟩]}:=by
 unfold memP
 rw[if_pos (by rw[h.is (by decide)];exact zfj _ _),zjx h (by decide) (zfj _ _),zg,zjx (q:=adv q) h.next.2.1 (by decide) (zfj _ _),zg]
 exact zhz hr
theorem zbiq:cOpen.toList≠cPoint.toList:=by rw[Lib.toList_data,Lib.toList_data];decide
theorem zzk (l:List Tn):hd (zh cOpen::l) 4 cPoint=false:=by
 unfold hd zh
 simp only[beq_self_eq_true,Bool.true_and]
 exact beq_eq_false_iff_ne.2 zbiq
/-- A word at the beginning of a part: no number, no (. -/
theorem zyf {C:Cx} {x:ByteArray} {l:List Tn} {q:PS} {d:Nat} (h:Rem C q.pos (zn x::l)):
  pE C .part d q=if C.scr&&isT C q.pos 1 sUndef then zcr C sUndef (adv q)
   else bd (zk C false q) fun y=>if isT C y.1.pos 4 cPoint then bd (zk C true (adv y.1)) fun z=>memP C y.2 z.2 z.1 else zcr C y.2 y.1:=by
 rw[zdw,if_neg (by rw[h.kind.1];exact (by decide: ¬(((1:Int)==2)=true))),if_neg (by rw[h.is (by decide),zpf (show (1:Int)≠4 by decide)];decide)]
theorem zqa {C:Cx} {x:ByteArray} {l:List Tn} {q:PS} {d:Nat} (h:Rem C q.pos (zn x::l)) (hx:NameG C.scr x):
  pE C .part d q=if hd l 4 cPoint then bd (zk C true (adv (adv q))) fun z=>memP C x z.2 z.1 else zcr C x (adv q):=by
 rw[zyf h]
 have h1:(C.scr&&isT C q.pos 1 sUndef)=false:=by
  cases hs:C.scr with
  |false=>rfl
  |true=>
   rw[h.is (by decide)]
   unfold hd
   simp only[zn,zbpp hx.2 hs,Bool.and_false]
 rw[h1,if_neg (by decide),zfw h (zhu h hx false),zg]
 simp only
 rw[show (adv q).pos=q.pos+1 from rfl,h.next.2.1.is (by decide)]
theorem zyg {C:Cx} {x:ByteArray} {l:List Tn} {q:PS} {d:Nat} (h:Rem C q.pos (zn x::l)) (hx:zvr C.scr x) (hl:hd l 4 cPoint=false):pE C .part d q=zcr C x (adv q):=by
 rcases hx with hx|⟨hs,rfl⟩
 ·rw[zqa h hx,if_neg (by rw[hl];decide)]
 ·rw[zyf h,if_pos (by rw[hs,h.is (by decide),zbgr];rfl)]
theorem zyh {C:Cx} {x:Ex} {l:List Tn} {q:PS} {d:Nat} (hx:LeafOk C.scr x) (h:Rem C q.pos (tksP (zfg x)++l)) (hl:znp l) (hr:q.ex.length<300):pE C .part d q= .ok (aft q (tksP (zfg x)).length (.leaf x)):=by
 cases hx with
 | @num n h0 h1=>
  have h':Rem C q.pos (⟨2,sNone,n⟩::l):=h
  rw[zdw,if_pos (by rw[h'.kind.1];rfl),h'.kind.2.2]
  exact zhz hr
 | @name y hy=>
  have h':Rem C q.pos (zn y::l):=h
  rw[zyg h' hy hl.2]
  exact zbio (q:=adv q) h'.next.2.1 hl hr
 | @call y hy=>
  have h':Rem C q.pos (zn y::zh cOpen::zh zbw::l):=h
  rw[zyg h' hy (zzk _),zbip (q:=adv q) h'.next.2.1 hr]
  rfl
 | @mem y f hy hf=>
  have h':Rem C q.pos (zn y::zh cPoint::zn f::l):=h
  have h2:=h'.next.2.1.next.2.1
  rw[zqa h' hy,if_pos (zfj _ _),zfw (q:=adv (adv q)) h2 (zmi h2 hf),zg]
  simp only
  rw[zblx (q:=adv (adv (adv q))) h2.next.2.1 hl hr]
  rfl
 | @memCall y f hy hf=>
  have h':Rem C q.pos (zn y::zh cPoint::zn f::zh cOpen::zh zbw::l):=h
  have h2:=h'.next.2.1.next.2.1
  rw[zqa h' hy,if_pos (zfj _ _),zfw (q:=adv (adv q)) h2 (zmi h2 hf),zg]
  simp only
  rw[zbly (q:=adv (adv (adv q))) h2.next.2.1 hr]
  rfl
theorem zbbq {C:Cx} {l:List Tn} {q:PS} {d:Nat} (h:Rem C q.pos l) (h1:hd l 4 zfo=false) (h2:hd l 4 zcy=false):pE C .sumT d q= .ok q:=by
 rw[zlj,if_neg (by rw[h.is (by decide),h.is (by decide),h1,h2];decide)]
theorem zrt {C:Cx} {l:List Tn} {q:PS} {d:Nat} (h:Rem C q.pos l) (h1:hd l 4 zw=false):pE C .prodT d q= .ok q:=by
 rw[zlk,if_neg (by rw[h.is (by decide),h1];decide)]
/-- One sign is not another one. -/
theorem zfa {x y:ByteArray} (h:x.data.toList≠y.data.toList) (l:List Tn):hd (zh x::l) 4 y=false:=by
 unfold hd zh
 simp only[beq_self_eq_true,Bool.true_and]
 refine beq_eq_false_iff_ne.2 fun e=>h ?_
 rw[←Lib.toList_data,←Lib.toList_data]
 exact e
def zbag (C:Cx) (t:Tr):Prop:=∀(d:Nat) (q:PS) (l:List Tn),d+t.dp≤20→Rem C q.pos (tksP t.pcs++l)→znp l→hd l 4 zw=false→q.ex.length+t.size≤300→pE C .sum d q=pE C .sumT d (aft q (tksP t.pcs).length t)
def zbah (C:Cx) (t:Tr):Prop:=∀(d:Nat) (q:PS) (l:List Tn),d+t.dp≤20→Rem C q.pos (tksP t.pcs++l)→znp l→q.ex.length+t.size≤300→pE C .prod d q=pE C .prodT d (aft q (tksP t.pcs).length t)
theorem zbbr (b:Bool) (l:List Pc):tksP (zed b l)=if b then zh cOpen::(tksP l++[zh zbw]) else tksP l:=by
 unfold zed
 split
 ·simp only[tksP,zck]
 ·rfl
/-- A side in ( ). -/
theorem zqb {C:Cx} {t:Tr} (hs:zbag C t) {l:List Tn} {q:PS} {d:Nat} (hd20:d+1+t.dp≤20) (h:Rem C q.pos (tksP (zed true t.pcs)++l)) (hr:q.ex.length+t.size≤300):pE C .part d q= .ok (aft q (tksP (zed true t.pcs)).length t):=by
 rw[zbbr,if_pos rfl] at h ⊢
 have h':Rem C q.pos (zh cOpen::(tksP t.pcs++(zh zbw::l))):=by simpa using h
 rw[zdw,if_neg (by rw[h'.kind.1];decide),if_pos (by rw[h'.is (by decide)];exact zfj _ _),if_neg (by omega)]
 have h2:=h'.next.2.1
 have h3:=h2.app
 rw[hs (d+1) (adv q) _ hd20 h2 ⟨zfa (by decide) _,zfa (by decide) _⟩ (zfa (by decide) _) hr,zbbq (q:=aft (adv q) _ t) h3 (zfa (by decide) _) (zfa (by decide) _),zg,zjx (q:=aft (adv q) _ t) h3 (by decide) (zfj _ _)]
 simp only[List.length_cons,List.length_append,List.length_nil,aft,adv]
 congr 2
 omega
/-- A side of a product. -/
theorem zblz {C:Cx} {t:Tr} (hok:TrOk C.scr t) (hs:zbag C t) {l:List Tn} {q:PS} {d:Nat} {b:Bool} (hb:b=false→twoK t.kind=false) (hd20:d+dpS b t≤20) (h:Rem C q.pos (tksP (zed b t.pcs)++l)) (hl:znp l) (hr:q.ex.length+t.size≤300):
  pE C .part d q= .ok (aft q (tksP (zed b t.pcs)).length t):=by
 cases b with
 |true=>exact zqb hs (by unfold dpS at hd20;simp at hd20;omega) h hr
 |false=>
  have hk:=hb rfl
  cases t with
  |leaf x=>exact zyh hok h hl (by simp only[Tr.size] at hr;omega)
  |two k a c=>
   obtain⟨rfl|rfl|rfl,_⟩:=hok<;>cases hk
theorem zbgs (q:PS) (n m:Nat) (k:Int) (a c:Tr):
  ({aft (adv (aft q n a)) m c with ex:=(aft (adv (aft q n a)) m c).ex++[⟨k,0,sNone,sNone,((aft q n a).ex.length:Int)-1,((aft (adv (aft q n a)) m c).ex.length:Int)-1⟩]}:PS)=aft q (n+1+m) (.two k a c):=by
 have e1:=zui (A:=q.ex) (t0:=a) (t1:=c) (k:=k) (q:=aft q n a) (q1:=aft (adv (aft q n a)) m c) rfl rfl
 rw[e1]
 simp only[aft,adv]
 congr 1
 omega
theorem zxd (k:Int) (a c:Tr):tksP (Tr.two k a c).pcs=tksP (zed (k==8&&sumK a.kind) a.pcs)++(zh (opP k)::tksP (zed (if k==8 then twoK c.kind else sumK c.kind) c.pcs)):=by
 rw[Tr.pcs,zck]
 rfl
theorem zxe (q:PS) (n:Nat) (t:Tr):(aft q n t).ex.length=q.ex.length+t.size:=by simp only[aft,List.length_append,Tr.flat_len]
theorem zqc (q:PS) (n:Nat) (t:Tr):(adv (aft q n t)).ex.length=q.ex.length+t.size:=zxe q n t
theorem zbgt {k:Int} (l:List Tn):znp (zh (opP k)::l):=by
 unfold opP
 split
 ·exact⟨zfa (by decide) _,zfa (by decide) _⟩
 ·split
  ·exact⟨zfa (by decide) _,zfa (by decide) _⟩
  ·exact⟨zfa (by decide) _,zfa (by decide) _⟩
theorem zbma {C:Cx} (t:Tr):TrOk C.scr t→zbag C t∧(sumK t.kind=false→zbah C t):=by
 have fromP: ∀t,zbah C t→zbag C t:=fun t hp d q l h1 h2 h3 h4 h5=>by
  rw[zbau,hp d q l h1 h2 h3 h5,zrt (q:=aft q _ t) h2.app h4,zg]
 induction t with
 |leaf x=>
  intro hok
  have hp:zbah C (.leaf x):=fun d q l h1 h2 h3 h5=>by
   rw[zpa,zyh (d:=d) hok h2 h3 (by simp only[Tr.size] at h5;omega),zg]
   rfl
  exact⟨fromP _ hp,fun _=>hp⟩
 |two k a c iha ihc=>
  intro hok
  obtain⟨hk,ha,hc⟩:=hok
  obtain⟨sa,pa⟩:=iha ha
  obtain⟨sc,pc⟩:=ihc hc
  by_cases k8:k=8
  ·subst k8
   have hp:zbah C (.two 8 a c):=fun d q l h1 h2 h3 h5=>by
    rw[zbgo] at h1
    rw[zxd] at h2 ⊢
    simp only[show ((8:Int)==8)=true from rfl,Bool.true_and,if_true] at h2 ⊢
    rw[List.append_assoc,List.cons_append] at h2
    simp only[Tr.size] at h5
    have h6:=h2.app
    have hda:d+dpS (sumK a.kind) a≤20:=by omega
    have hdc:d+dpS (twoK c.kind) c≤20:=by omega
    have step:pE C .prod d q=pE C .prodT d (aft q (tksP (zed (sumK a.kind) a.pcs)).length a):=by
     cases hs:sumK a.kind with
     |true=>
      rw[hs] at h2 hda
      rw[zpa,zqb sa (by unfold dpS at hda;simp at hda;omega) h2 (by omega),zg]
     |false=>
      rw[hs] at h2 hda
      exact pa hs d q _ (by unfold dpS at hda;simp at hda;omega) h2 (zbgt _) (by omega)
    have h7:Rem C (adv (aft q (tksP (zed (sumK a.kind) a.pcs)).length a)).pos (tksP (zed (twoK c.kind) c.pcs)++l):=h6.next.2.1
    have hpc:=zblz hc sc (q:=adv (aft q (tksP (zed (sumK a.kind) a.pcs)).length a)) (fun h=>h) hdc h7 h3 (by rw[zqc];omega)
    rw[step,zlk,if_pos (by rw[show (aft q (tksP (zed (sumK a.kind) a.pcs)).length a).pos=q.pos+(tksP (zed (sumK a.kind) a.pcs)).length from rfl,h6.is (by decide)];exact zfj _ _),hpc,zg,zhz (by rw[zxe,zqc];omega),zg,zbgs]
    rw[List.length_append,List.length_cons,Nat.add_assoc,Nat.add_comm 1]
   exact⟨fromP _ hp,fun _=>hp⟩
  ·have k67:k=6∨k=7:=by omega
   have hk8:(k==8)=false:=beq_eq_false_iff_ne.2 k8
   refine⟨fun d q l h1 h2 h3 h4 h5=>?_,fun hs=>by rcases k67 with rfl|rfl<;>cases hs⟩
   rw[zblu k67] at h1
   rw[zxd] at h2 ⊢
   simp only[hk8,Bool.false_and,Bool.false_eq_true,if_false] at h2 ⊢
   rw[List.append_assoc,List.cons_append] at h2
   simp only[Tr.size] at h5
   have e0:zed false a.pcs=a.pcs:=rfl
   rw[e0] at h2 ⊢
   have h6:=h2.app
   have hdc:d+dpS (sumK c.kind) c≤20:=by omega
   have hstar:hd (zh (opP k)::(tksP (zed (sumK c.kind) c.pcs)++l)) 4 zw=false:=by rcases k67 with rfl|rfl<;>exact zfa (by decide) _
   have h7:Rem C (adv (aft q (tksP a.pcs).length a)).pos (tksP (zed (sumK c.kind) c.pcs)++l):=h6.next.2.1
   have h8:=h7.app
   have hpc:pE C .prod d (adv (aft q (tksP a.pcs).length a))= .ok (aft (adv (aft q (tksP a.pcs).length a)) (tksP (zed (sumK c.kind) c.pcs)).length c):=by
    have hroom:(adv (aft q (tksP a.pcs).length a)).ex.length+c.size≤300:=by rw[zqc];omega
    cases hs:sumK c.kind with
    |true=>
     rw[hs] at h7 h8 hdc
     rw[zpa,zqb sc (by unfold dpS at hdc;simp at hdc;omega) h7 hroom,zg]
     exact zrt (q:=aft _ _ c) h8 h4
    |false=>
     rw[hs] at h7 h8 hdc
     have e1:zed false c.pcs=c.pcs:=rfl
     rw[e1] at h7 h8 ⊢
     rw[pc hs d _ l (by unfold dpS at hdc;simp at hdc;omega) h7 h3 hroom]
     exact zrt (q:=aft _ _ c) h8 h4
   have hpm:(isT C (aft q (tksP a.pcs).length a).pos 4 zfo||isT C (aft q (tksP a.pcs).length a).pos 4 zcy)=true∧zeu C (aft q (tksP a.pcs).length a).pos=k:=by
    unfold zeu
    rw[show (aft q (tksP a.pcs).length a).pos=q.pos+(tksP a.pcs).length from rfl,h6.is (by decide),h6.is (by decide)]
    rcases k67 with rfl|rfl
    ·exact⟨by rw[show opP 6=zfo from rfl,zfj];rfl,by rw[show opP 6=zfo from rfl,zfa (by decide)];rfl⟩
    ·exact⟨by rw[show opP 7=zcy from rfl,zfj];simp,by rw[show opP 7=zcy from rfl,zfj];rfl⟩
   rw[sa d q _ (by omega) h2 (zbgt _) hstar (by omega),zlj,if_pos hpm.1,hpm.2,hpc,zg,zhz (by rw[zxe,zqc];omega),zg,zbgs]
   rw[List.length_append,List.length_cons,Nat.add_assoc,Nat.add_comm 1]
/-- An expression is read where ; or ) stands behind it. -/
theorem zoj {C:Cx} {t:Tr} {x:ByteArray} {l:List Tn} {q:PS} (hok:TrOk C.scr t) (hdp:t.dp≤20) (hx:x=cSemi∨x=zbw) (h:Rem C q.pos (tksP t.pcs++zh x::l)) (hr:q.ex.length+t.size≤300):pE C .sum 0 q= .ok (aft q (tksP t.pcs).length t):=by
 have hn: ∀y,y=cOpen∨y=cPoint∨y=zw∨y=zfo∨y=zcy→hd (zh x::l) 4 y=false:=by
  intro y hy
  rcases hx with rfl|rfl<;>rcases hy with rfl|rfl|rfl|rfl|rfl<;>exact zfa (by decide) _
 rw[(zbma t hok).1 0 q _ (by omega) h ⟨hn _ (by simp),hn _ (by simp)⟩ (hn _ (by simp)) hr]
 exact zbbq (q:=aft q _ t) h.app (hn _ (by simp)) (hn _ (by simp))
/-- What was read, whatever the place where it ended. -/
def er {α:Type} (x:Except Nat α):Option α:=match x with
 | .ok a=>some a
 | .error _=>none
theorem zcp {α β:Type} (x:Except Nat α) (f:α→Except Nat β):er (bd x f)=(er x).bind fun a=>er (f a):=by cases x<;>rfl
theorem zbxj {α:Type} {x:Except Nat α} {a:α}:er x=some a↔x= .ok a:=by
 cases x with
 |ok b=>simp[er]
 |error e=>simp[er]
/-- The same tokens. -/
structure SameC (C D:Cx):Prop where
 ts:C.ts.map stpT=D.ts.map stpT
 scr:C.scr=D.scr
theorem SameC.len {C D:Cx} (h:SameC C D):C.ts.length=D.ts.length:=by
 have:=congrArg List.length h.ts
 simpa using this
theorem SameC.tok {C D:Cx} (h:SameC C D) (i:Nat):(zd C i).kind=(zd D i).kind∧(zd C i).text=(zd D i).text∧(zd C i).num=(zd D i).num:=by
 have hl:=h.len
 rcases Nat.lt_or_ge i C.ts.length with k|k
 ·have e:=congrArg (fun l=>l[i]?) h.ts
  simp only[List.getElem?_map,List.getElem?_eq_getElem k,List.getElem?_eq_getElem (hl▸k),Option.map_some,Option.some.injEq] at e
  unfold zd
  simp only[List.getD,List.getElem?_eq_getElem k,List.getElem?_eq_getElem (hl▸k),Option.getD_some]
  exact⟨congrArg Tn.kind e,congrArg Tn.text e,congrArg Tn.num e⟩
 ·rw[zfp k,zfp (by omega)]
  exact⟨rfl,rfl,rfl⟩
theorem SameC.isT {C D:Cx} (h:SameC C D) (i:Nat) (k:Int) (x:ByteArray):isT C i k x=isT D i k x:=by
 unfold Go.Proofs.YtlnohpdiiileeaaGreat.isT
 rw[(h.tok i).1,(h.tok i).2.1]
theorem SameC.plainB {C D:Cx} (h:SameC C D) (i:Nat) (o:Bool):plainB C i o=plainB D i o:=by
 unfold Go.Proofs.YtlnohpdiiileeaaGreat.plainB
 rw[(h.tok i).1,(h.tok i).2.1,h.scr]
theorem zee {C D:Cx} (h:SameC C D) (k:Int) (x:ByteArray) (q:PS):er (tokP C k x q)=er (tokP D k x q):=by
 unfold tokP
 rw[h.isT]
 split<;>rfl
theorem zia {C D:Cx} (h:SameC C D) (o:Bool) (q:PS):er (zk C o q)=er (zk D o q):=by
 unfold zk
 rw[h.plainB,(h.tok _).2.1]
 split<;>rfl
theorem zbbs {C D:Cx} (h:SameC C D) (q:PS):er (zbf C q)=er (zbf D q):=by
 unfold zbf
 rw[(h.tok _).1,(h.tok _).2.1]
 split
 ·split
  ·rfl
  ·split<;>rfl
 ·rfl
theorem zuj (C D:Cx) (x:Im) (q:PS):er (zbx C x q)=er (zbx D x q):=by unfold zbx;split<;>rfl
theorem zlp (C D:Cx) (x:Ep) (q:PS):er (zo C x q)=er (zo D x q):=by
 unfold zo
 split
 ·rfl
 ·split<;>rfl
theorem zjy (C D:Cx) (k:Int) (n:ByteArray) (q:PS):er (zbi C k n q)=er (zbi D k n q):=by unfold zbi;split<;>rfl
theorem zjz (C D:Cx) (x:Ex) (q:PS):er (zbm C x q)=er (zbm D x q):=by unfold zbm;split<;>rfl
theorem zbbt {C D:Cx} (h:SameC C D) (n:ByteArray) (q:PS):er (zcr C n q)=er (zcr D n q):=by
 unfold zcr
 rw[h.isT]
 split
 ·simp only[zcp,zee h,zjz C D]
 ·exact zjz C D _ _
theorem zbtb {C D:Cx} (h:SameC C D) (n f:ByteArray) (q:PS):er (memP C n f q)=er (memP D n f q):=by
 unfold memP
 rw[h.isT]
 split
 ·simp only[zcp,zee h,zjz C D]
 ·exact zjz C D _ _
theorem zbxk {C D:Cx} (h:SameC C D) (f:Nat): ∀nt d q,er (ev C f nt d q)=er (ev D f nt d q):=by
 induction f with
 |zero=>intro nt d q;cases nt<;>rfl
 |succ f ih=>
  intro nt d q
  cases nt with
  |sum=>simp only[ev,zcp,ih]
  |prod=>simp only[ev,zcp,ih]
  |sumT=>
   have hk:zeu C q.pos=zeu D q.pos:=by unfold zeu;rw[h.isT]
   simp only[ev,h.isT]
   split
   ·simp only[zcp,ih,zjz C D,hk]
   ·rfl
  |prodT=>
   simp only[ev,h.isT]
   split
   ·simp only[zcp,ih,zjz C D]
   ·rfl
  |part=>
   simp only[ev,h.isT,(h.tok _).1,(h.tok _).2.2,h.scr]
   split
   ·exact zjz C D _ _
   ·split
    ·split
     ·rfl
     ·simp only[zcp,ih,zee h]
    ·split
     ·exact zbbt h _ _
     ·simp only[zcp,zia h]
      congr 1
      funext x
      split
      ·simp only[zcp,zia h,zbtb h]
      ·exact zbbt h _ _
theorem zqd {C D:Cx} (h:SameC C D) (nt:NT) (d:Nat) (q:PS):er (pE C nt d q)=er (pE D nt d q):=by
 unfold pE nd
 rw[h.len]
 exact zbxk h _ _ _ _
theorem zbwe {C D:Cx} (h:SameC C D) (exp:Bool) (a:PS×ByteArray):er (asP C exp a)=er (asP D exp a):=by
 unfold asP
 rw[h.isT]
 split
 ·exact zia h _ _
 ·split<;>rfl
theorem zbpq {C D:Cx} (h:SameC C D) (exp:Bool) (f:Nat): ∀q acc,er (zgw C exp f q acc)=er (zgw D exp f q acc):=by
 induction f with
 |zero=>intro q acc;rfl
 |succ f ih=>
  intro q acc
  simp only[zgw,zcp,zia h,zbwe h,h.isT]
  congr 1
  funext a
  congr 1
  funext b
  split
  ·exact ih _ _
  ·simp only[zcp,zee h]
theorem zbbu {C D:Cx} (h:SameC C D) (exp:Bool) (q:PS):er (zgl C exp q)=er (zgl D exp q):=by
 unfold zgl zdd
 simp only[zcp,zee h,h.len,zbpq h]
theorem zpg {C D:Cx} (h:SameC C D) {x y:PR} (hx:er x=er y):er (zdt C (zcs C x))=er (zdt D (zcs D y)):=by
 unfold zdt zcs
 simp only[zcp,hx,zee h,zbbs h]
theorem zru {α:Type} {f g:α→PS→PR} (hf: ∀a q,er (f a q)=er (g a q)) (l:List α): ∀x y,er x=er y→er (zbb f l x)=er (zbb g l y):=by
 induction l with
 |nil=>intro x y hx;exact hx
 |cons a l ih=>
  intro x y hx
  refine ih _ _ ?_
  simp only[zcp,hx,hf]
theorem zbir {C D:Cx} (h:SameC C D) (q:PS):er (zcd C q)=er (zcd D q):=by
 unfold zcd
 simp only[zcp,zee h]
 congr 1
 funext q1
 rw[h.isT,h.isT,h.plainB]
 split
 ·simp only[zcp,zbbu h]
  congr 1
  funext a
  rw[zpg h rfl]
  congr 1
  funext b
  exact zru (fun a q=>zuj C D _ _) _ _ _ rfl
 ·split
  ·simp only[zcp,zee h,zia h]
   congr 1
   funext a
   rw[zpg h rfl]
   congr 1
   funext b
   exact zuj C D _ _
  ·split
   ·simp only[zcp,zia h]
    congr 1
    funext a
    rw[zpg h rfl]
    congr 1
    funext b
    exact zuj C D _ _
   ·simp only[zcp,zbbs h,zee h]
theorem zbgu {C D:Cx} (h:SameC C D) (q:PS):er (letP C q)=er (letP D q):=by
 unfold letP withN
 simp only[zcp,zee h,zia h,zqd h,zjy C D]
theorem zbmb {C D:Cx} (h:SameC C D) (q:PS):er (fnP C q)=er (fnP D q):=by
 unfold fnP withN
 simp only[zcp,zee h,zia h,zqd h,zjy C D]
theorem zbis {C D:Cx} (h:SameC C D) (q:PS):er (zbc C q)=er (zbc D q):=by
 unfold zbc
 simp only[zcp,zee h]
 congr 1
 funext q1
 rw[h.isT,h.isT,h.isT,h.isT,h.isT]
 split
 ·simp only[zcp,zbbu h]
  congr 1
  funext a
  rw[h.isT]
  split
  ·simp only[zcp,zee h]
   congr 1
   funext b
   exact zru (fun a q=>zlp C D _ _) _ _ _ rfl
  ·rw[zcp,zcp,zpg h rfl]
   congr 1
   funext b
   exact zru (fun a q=>zlp C D _ _) _ _ _ rfl
 ·split
  ·rw[zcp,zcp,zpg h (zee h 4 zw q1)]
   congr 1
   funext b
   exact zlp C D _ _
  ·split
   ·simp only[zcp,zee h,zqd h,zjy C D,zlp C D]
   ·split
    ·simp only[zcp,zbgu h,zlp C D]
    ·split
     ·simp only[zcp,zbmb h,zlp C D]
     ·rfl
theorem zbpr {C D:Cx} (h:SameC C D) (q:PS):er (zu C q)=er (zu D q):=by
 unfold zu fstP
 rw[h.scr]
 simp only[h.isT]
 split
 ·exact zbir h q
 ·split
  ·exact zbis h q
  ·split
   ·simp only[zcp,zbgu h]
   ·split
    ·simp only[zcp,zbmb h]
    ·split
     ·simp only[zcp,zee h,zqd h,zjy C D]
     ·split
      ·simp only[zcp,zee h,zqd h,zjy C D]
      ·split
       ·simp only[zcp,zee h,zqd h,zjy C D]
       ·simp only[zcp,zee h,zia h,zqd h,zjy C D]
theorem zbmc {C D:Cx} (h:SameC C D) (f:Nat): ∀q,er (zfh C f q)=er (zfh D f q):=by
 induction f with
 |zero=>intro q;rfl
 |succ f ih=>
  intro q
  simp only[zfh,h.len]
  split
  ·simp only[zcp,zbpr h,ih]
  ·rfl
/-- Two texts of the same tokens are one program. -/
theorem zbeu {s t:ByteArray} {scr:Bool} {ts us:List Tk} {q:PS} (hs:LexR s scr (.ok ts)) (ht:LexR t scr (.ok us)) (he:us.map stpT=ts.map stpT) (h:zct s scr (.ok q)):zct t scr (.ok q):=by
 obtain⟨r,hr,e⟩:=h
 obtain rfl:=ztz hr hs
 refine⟨.ok us,ht,?_⟩
 have hc:SameC ⟨ts,s.size,scr⟩ ⟨us,t.size,scr⟩:=⟨he.symm,rfl⟩
 have:=zbmc hc (ts.length-startP.pos+1) startP
 have e1:zbg ⟨ts,s.size,scr⟩ startP= .ok q:=e.symm
 unfold zbg at e1
 rw[e1] at this
 have e2:=zbxj.1 this.symm
 show Except.ok q=zbg ⟨us,t.size,scr⟩ startP
 unfold zbg
 rw[←hc.len]
 exact e2.symm
def zda (s:ByteArray):ByteArray:=({data:=#[34]}:ByteArray)++s++({data:=#[34]}:ByteArray)
def asT (a b:ByteArray):ByteArray:=if a.toList==b.toList then a else a++({data:=#[32,97,115,32]}:ByteArray)++b
def impT (x:Im):ByteArray:=
 if x.first.toList==[42] then ({data:=#[105,109,112,111,114,116,32,42,32,97,115,32]}:ByteArray)++x.loc++({data:=#[32,102,114,111,109,32]}:ByteArray)++zda x.spec++({data:=#[59,10]}:ByteArray)
 else if x.first.toList==[100,101,102,97,117,108,116] then ({data:=#[105,109,112,111,114,116,32]}:ByteArray)++x.loc++({data:=#[32,102,114,111,109,32]}:ByteArray)++zda x.spec++({data:=#[59,10]}:ByteArray)
 else ({data:=#[105,109,112,111,114,116,32,123,32]}:ByteArray)++asT x.first x.loc++({data:=#[32,125,32,102,114,111,109,32]}:ByteArray)++zda x.spec++({data:=#[59,10]}:ByteArray)
def expT (x:Ep):ByteArray:=
 if x.kind==3 then ({data:=#[101,120,112,111,114,116,32,42,32,102,114,111,109,32]}:ByteArray)++zda x.spec++({data:=#[59,10]}:ByteArray)
 else if x.kind==2 then ({data:=#[101,120,112,111,114,116,32,123,32]}:ByteArray)++asT x.loc x.name++({data:=#[32,125,32,102,114,111,109,32]}:ByteArray)++zda x.spec++({data:=#[59,10]}:ByteArray)
 else ({data:=#[101,120,112,111,114,116,32,123,32]}:ByteArray)++asT x.loc x.name++({data:=#[32,125,59,10]}:ByteArray)
def zmx (k:Int) (n e:ByteArray):ByteArray:=
 if k==1 then (if n.toList==[42,100,101,102,97,117,108,116] then ({data:=#[101,120,112,111,114,116,32,100,101,102,97,117,108,116,32]}:ByteArray)++e++({data:=#[59,10]}:ByteArray) else ({data:=#[108,101,116,32]}:ByteArray)++n++({data:=#[32,61,32]}:ByteArray)++e++({data:=#[59,10]}:ByteArray))
 else if k==2 then ({data:=#[102,117,110,99,116,105,111,110,32]}:ByteArray)++n++({data:=#[40,41,32,123,32,114,101,116,117,114,110,32]}:ByteArray)++e++({data:=#[59,32,125,10]}:ByteArray)
 else if k==3 then n++({data:=#[32,61,32]}:ByteArray)++e++({data:=#[59,10]}:ByteArray)
 else if k==4 then ({data:=#[112,114,105,110,116,40]}:ByteArray)++e++({data:=#[41,59,10]}:ByteArray)
 else if k==5 then ({data:=#[116,104,114,111,119,32]}:ByteArray)++e++({data:=#[59,10]}:ByteArray)
 else ({data:=#[102,97,105,108,32]}:ByteArray)++e++({data:=#[59,10]}:ByteArray)
/-- impl's: of DefaultName export default, whatever the kind. -/
def zjn (k:Int) (n e:ByteArray):ByteArray:=if n.toList==[42,100,101,102,97,117,108,116] then ({data:=#[101,120,112,111,114,116,32,100,101,102,97,117,108,116,32]}:ByteArray)++e++({data:=#[59,10]}:ByteArray) else zmx k n e
def rqT (s:ByteArray):ByteArray:=({data:=#[105,109,112,111,114,116,32]}:ByteArray)++zda s++({data:=#[59,10]}:ByteArray)
/-- Pieces laid behind a text. -/
def acc {α:Type} (f:α→ByteArray) (l:List α) (t:ByteArray):ByteArray:=l.foldl (fun t x=>t++f x) t
theorem zib {α:Type} (f:α→ByteArray) {l:List α} {j:Nat} {x:α} (h:l[j]? =some x) (t:ByteArray):acc f (l.take (j+1)) t=acc f (l.take j) t++f x:=by
 obtain⟨hj,rfl⟩:=List.getElem?_eq_some_iff.1 h
 rw[List.take_succ_eq_append_getElem hj,acc,List.foldl_append]
 rfl
theorem zqe {α:Type} (f:α→ByteArray) (l:List α): ∀t:ByteArray,t.size≤(acc f l t).size:=by
 induction l with
 |nil=>intro t;exact Nat.le_refl _
 |cons x l ih=>
  intro t
  refine Nat.le_trans ?_ (ih (t++f x))
  rw[ByteArray.size_append]
  omega
theorem zbtc {α:Type} (f:α→ByteArray) (a b:List α) (t:ByteArray):acc f (a++b) t=acc f b (acc f a t):=by rw[acc,List.foldl_append];rfl
theorem zqf {α:Type} (f:α→ByteArray) (l:List α) (j:Nat) (t:ByteArray):(acc f (l.take j) t).size≤(acc f l t).size:=by
 have:acc f l t=acc f (l.drop j) (acc f (l.take j) t):=by rw[←zbtc,List.take_append_drop]
 rw[this]
 exact zqe f _ _
def epF (x:Ep):ByteArray:=if x.loc.toList==[42,100,101,102,97,117,108,116] then sNone else expT x
def stF (ex:List Ex) (s:Sm):ByteArray:=zmx s.kind s.name (prX ex s.expr.toNat)
def stFI (ex:List Ex) (s:Sm):ByteArray:=zjn s.kind s.name (prX ex s.expr.toNat)
def zme (m:Md):ByteArray:=acc epF m.ep (acc impT m.im (acc rqT m.rq sNone))
/-- The specification's text, and impl's. -/
def zje (m:Md):ByteArray:=acc (stF m.ex) m.st (zme m)
def zhl (m:Md):ByteArray:=acc (stFI m.ex) m.st (zme m)
/-- What Print may tell. -/
def PrintOut (T:ByteArray) (m:Md) (e:Ending):Prop:=(Tree m∧e= .returned (.string T))∨(¬Tree m∧e= .returned (.string sNone))
/-- No name is longer than a text may be. -/
structure Small (m:Md):Prop where
 rq: ∀x∈m.rq,x.size≤4294967296
 im: ∀x∈m.im,x.spec.size≤4294967296∧x.first.size≤4294967296∧x.loc.size≤4294967296
 ep: ∀x∈m.ep,x.spec.size≤4294967296∧x.name.size≤4294967296∧x.loc.size≤4294967296
 st: ∀x∈m.st,x.name.size≤4294967296
 nums:Nums m.ex
 few:m.rq.length≤4294967296∧m.im.length≤4294967296∧m.ep.length≤4294967296∧m.st.length≤4294967296∧m.ex.length≤4294967296
end Go.Proofs.YtlnohpdiiileeaaGreat
