/-
  What the specification's draws of programs tell: some text,not a long one: the walks.
  What the specification's draw of an item tells: some text,not a long one: the walk.
  The row of the type byte.
  What l1Text of the specification tells: the walk.
  What spec.l1Spoil tells: the walk.
  What the specification's draw of a program's text tells: some text,not a long one: the walk.
  A program that was read has no name longer than its text,and no number that is great. No program is spoken of.
  A program that was read has no statement of DefaultName that is no let. No program is spoken of.
  The specification's draw of a program in memory. No program is spoken of but for the numbers of its types.
  What spec's l4Spec answers: the walk.
-/
import Derived.Test.YtmnemfookpjhiaaGreatClDrawBaseToTokMem
import Derived.Test.YtmnemfookpjhiaaGreatClImplParseJToMdMem
import Derived.Test.YtmnemfookpjhiaaGreatProg
import Derived.WalkKit
import Derived.WalkLawsBesides
import Derived.Test.YtmnemfookpjhiaaGreatClAid
import Derived.Test.YtmnemfookpjhiaaGreatClParseMemToModMem
import Derived.Test.YtmnemfookpjhiaaGreatClImplParseEToImplParseG
namespace Go.Proofs.YtmnemfookpjhiaaGreat
set_option maxRecDepth 100000
set_option maxHeartbeats 12800000
open Go.RowKit Go.PlainAid
/-- A draw of a text of at most N bytes. -/
def zif (S:Src) (g N:Nat) (w:World) (e:Ending) (w':World):Prop:=∃x q',e= .returned (.string x)∧x.size≤N∧CurW 152 S w' g q'∧w.grownBy w' (some g)
theorem zig (w:World) (o:Obj) (r:Option Nat):w.grownBy (w.alloc o) r:=⟨rfl,rfl,rfl,by rw[ze];omega,fun k hk _=>heap_alloc_old w o hk⟩
theorem zko {S:Src} {w:World} {g:Nat} {q:Nat×Int} (h:CurW 152 S w g q) (o:Obj):CurW 152 S (w.alloc o) g q:=zew h ((Below.refl w.heap.size w).alloc (Nat.le_refl _) _) (zhi h)
/-- One of the texts of a row just made. -/
theorem zde (S:Src) (hS:S.ok) (g:Nat) (q:Nat×Int) (N:Nat) (l:List ByteArray) (w:World) (hc:CurW 152 S w g q) (h1:1≤l.length) (h2:l.length≤1000) (hl: ∀x∈l,x.size≤N):
  Calls Tryz.prog 104 #[.pointer (some ⟨g,0,none⟩),.slice (some ⟨w.heap.size,0,none⟩) l.length l.length] (w.alloc (.cells (l.map Value.string).toArray 9)) (zif S g N w):=by
 have hg:=zhi hc
 refine (zon S hS g q w.heap.size l.length N _ (zko hc _) h1 h2 (by rw[ze];omega) (by omega) ?_).mono ?_
 ·intro j hj
  rw[World.cell?_alloc_new]
  refine⟨l[j],?_,hl _ (List.getElem_mem hj)⟩
  simp[List.getElem?_eq_getElem hj]
 ·rintro e w' ⟨x,q',rfl,hx,hcx,hgx⟩
  exact⟨x,q',rfl,hx,hcx,zk (zig w _ _) hgx⟩
theorem zmp (S:Src) (hS:S.ok) (g:Nat) (scr:Bool) (d N:Nat) (hd:d≤2) (hN:N≤100000) (ih:0<d→∀(q:Nat×Int) (w:World),CurW 152 S w g q→Calls Tryz.prog 177 #[.pointer (some ⟨g,0,none⟩),.int .i64 ((d:Int)-1),.bool scr] w (zif S g N w))
  (q0:Nat×Int) (w0:World) (hc:CurW 152 S w0 g q0):Calls Tryz.prog 177 #[.pointer (some ⟨g,0,none⟩),.int .i64 (d:Int),.bool scr] w0 (zif S g (2*N+110) w0):=by
 have HC0:=hidI hc
 have HG0:Hid (w0.grownBy w0 (some g)):=⟨rfl,rfl,rfl,Nat.le_refl _,fun _ _ _=>rfl⟩
 have IH:=hidI ih
 clear hc ih
 go_enter Tryz.func177,Tryz.ntmps177
 go_wp2_with fail
 refine (zde S hS g _ 100 [{data:=#[97]},{data:=#[98]},{data:=#[120]},{data:=#[102]},{data:=#[103]},{data:=#[110]},{data:=#[100]}] _ HC0.out (by simp) (by simp) (by intro x hx;simp only[List.mem_cons,List.not_mem_nil,or_false] at hx;rcases hx with rfl|rfl|rfl|rfl|rfl|rfl|rfl<;>decide)).mono ?_
 rintro e w1 ⟨x1,q1,rfl,z1,hc,hg⟩
 have HC1:=hidI hc
 have HG1:=hidI (zk HG0.out hg)
 clear hc hg
 go_wp2_with fail
 refine (zbf S hS g _ 9 _ HC1.out (by omega)).mono ?_
 rintro e w2 ⟨rfl,hc,hg⟩
 have hbd:=zeu S q1 9 (by omega)
 obtain⟨k2,hk⟩: ∃k:Nat,(bw S q1 9).1=k:=⟨(bw S q1 9).1.toNat,by omega⟩
 obtain⟨q2,hq⟩: ∃q',(bw S q1 9).2=q':=⟨_,rfl⟩
 rw[hk] at hbd ⊢
 rw[hq] at hc
 have HC2:=hidI hc
 have HG2:=hidI (zk HG1.out hg)
 clear hc hg
 have kb2:k2<9:=by omega
 clear hbd hk hq
 have TAIL:True:=trivial
 clear TAIL
 rcases (show k2=0∨k2=1∨k2=2∨k2=3∨k2=4∨k2=5∨k2=6∨k2=7∨k2=8 by omega) with rfl|rfl|rfl|rfl|rfl|rfl|rfl|rfl|rfl
 ·go_wp2_with fail
  refine (zbf S hS g _ 9 _ HC2.out (by omega)).mono ?_
  rintro e w3 ⟨rfl,hc,hg⟩
  have hbd:=zeu S q2 9 (by omega)
  obtain⟨k3,hk⟩: ∃k:Nat,(bw S q2 9).1=k:=⟨(bw S q2 9).1.toNat,by omega⟩
  obtain⟨q3,hq⟩: ∃q',(bw S q2 9).2=q':=⟨_,rfl⟩
  rw[hk] at hbd ⊢
  rw[hq] at hc
  have HC3:=hidI hc
  have HG3:=hidI (zk HG2.out hg)
  clear hc hg
  have kb3:k3<9:=by omega
  clear hbd hk hq
  go_wp2_with fail
  refine (zqv (k3:Int) _ (by omega)).mono ?_
  rintro e w4 ⟨rfl,hb⟩
  have HC4:=hidI (zew HC3.out hb (zhi HC3.out))
  have HG4:=hidI (zex HG3.out hb HG3.out.size)
  have hz:=zqx (k3:Int) (by omega) (by omega)
  clear hb
  go_wp2
  go_ret
  exact⟨_,q3,rfl,by omega,HC4.out,HG4.out⟩
 ·go_wp2_with fail
  refine (zbf S hS g _ 9 _ HC2.out (by omega)).mono ?_
  rintro e w3 ⟨rfl,hc,hg⟩
  have hbd:=zeu S q2 9 (by omega)
  obtain⟨k3,hk⟩: ∃k:Nat,(bw S q2 9).1=k:=⟨(bw S q2 9).1.toNat,by omega⟩
  obtain⟨q3,hq⟩: ∃q',(bw S q2 9).2=q':=⟨_,rfl⟩
  rw[hk] at hbd ⊢
  rw[hq] at hc
  have HC3:=hidI hc
  have HG3:=hidI (zk HG2.out hg)
  clear hc hg
  have kb3:k3<9:=by omega
  clear hbd hk hq
  go_wp2_with fail
  refine (zqv (k3:Int) _ (by omega)).mono ?_
  rintro e w4 ⟨rfl,hb⟩
  have HC4:=hidI (zew HC3.out hb (zhi HC3.out))
  have HG4:=hidI (zex HG3.out hb HG3.out.size)
  have hz:=zqx (k3:Int) (by omega) (by omega)
  clear hb
  go_wp2
  go_ret
  exact⟨_,q3,rfl,by omega,HC4.out,HG4.out⟩
 ·go_wp2
  go_ret
  exact⟨_,q2,rfl,by have y0:(({data:=#[32,40,32,41]}:ByteArray)).size=4:=rfl;simp only[ByteArray.size_append,y0];omega,HC2.out,HG2.out⟩
 ·go_wp2
  go_ret
  exact⟨_,q2,rfl,by have y0:(({data:=#[110,32,46,32]}:ByteArray)).size=4:=rfl;simp only[ByteArray.size_append,y0];omega,HC2.out,HG2.out⟩
 ·go_wp2
  go_ret
  exact⟨_,q2,rfl,by have y0:(({data:=#[110,32,46,32,102,32,40,32,41]}:ByteArray)).size=9:=rfl;omega,HC2.out,HG2.out⟩
 ·by_cases hd0:0<d
  ·go_wp2_with fail
   refine (IH.out hd0 q2 _ HC2.out).mono ?_
   rintro e w3 ⟨x3,q3,rfl,z3,hc,hg⟩
   have HC3:=hidI hc
   have HG3:=hidI (zk HG2.out hg)
   clear hc hg
   go_wp2_with fail
   refine (zde S hS g _ 100 [{data:=#[43]},{data:=#[45]},{data:=#[42]}] _ HC3.out (by simp) (by simp) (by intro x hx;simp only[List.mem_cons,List.not_mem_nil,or_false] at hx;rcases hx with rfl|rfl|rfl<;>decide)).mono ?_
   rintro e w4 ⟨x4,q4,rfl,z4,hc,hg⟩
   have HC4:=hidI hc
   have HG4:=hidI (zk HG3.out hg)
   clear hc hg
   go_wp2_with fail
   refine (IH.out hd0 q4 _ HC4.out).mono ?_
   rintro e w5 ⟨x5,q5,rfl,z5,hc,hg⟩
   have HC5:=hidI hc
   have HG5:=hidI (zk HG4.out hg)
   clear hc hg
   go_wp2
   go_ret
   exact⟨_,q5,rfl,by have y0:(({data:=#[32]}:ByteArray)).size=1:=rfl;simp only[ByteArray.size_append,y0];omega,HC5.out,HG5.out⟩
  ·have hdz: ¬0<(d:Int):=by omega
   cases scr with
   |false=>
    go_wp2
    go_ret
    exact⟨_,q2,rfl,by omega,HC2.out,HG2.out⟩
   |true=>
    go_wp2_with fail
    refine (zey S hS g _ 8 _ HC2.out (by omega)).mono ?_
    rintro e w3 ⟨rfl,hc,hg⟩
    obtain⟨q3,hq⟩: ∃q',(bw S q2 8).2=q':=⟨_,rfl⟩
    rw[hq] at hc
    have HC3:=hidI hc
    have HG3:=hidI (zk HG2.out hg)
    clear hc hg hq
    generalize ((bw S q2 8).1==0)=b
    cases b with
    |false=>
     go_wp2
     go_ret
     exact⟨_,q3,rfl,by omega,HC3.out,HG3.out⟩
    |true=>
     go_wp2_with fail
     refine (zde S hS g _ 100 [{data:=#[117,110,100,101,102]},{data:=#[117,110,100,101,102,32,40,32,41]},{data:=#[97,36,49]},{data:=#[120,36]}] _ HC3.out (by simp) (by simp) (by intro x hx;simp only[List.mem_cons,List.not_mem_nil,or_false] at hx;rcases hx with rfl|rfl|rfl|rfl<;>decide)).mono ?_
     rintro e w4 ⟨x4,q4,rfl,z4,hc,hg⟩
     have HC4:=hidI hc
     have HG4:=hidI (zk HG3.out hg)
     clear hc hg
     go_wp2
     go_ret
     exact⟨_,q4,rfl,by omega,HC4.out,HG4.out⟩
 ·by_cases hd0:0<d
  ·go_wp2_with fail
   refine (IH.out hd0 q2 _ HC2.out).mono ?_
   rintro e w3 ⟨x3,q3,rfl,z3,hc,hg⟩
   have HC3:=hidI hc
   have HG3:=hidI (zk HG2.out hg)
   clear hc hg
   go_wp2_with fail
   refine (zde S hS g _ 100 [{data:=#[43]},{data:=#[45]},{data:=#[42]}] _ HC3.out (by simp) (by simp) (by intro x hx;simp only[List.mem_cons,List.not_mem_nil,or_false] at hx;rcases hx with rfl|rfl|rfl<;>decide)).mono ?_
   rintro e w4 ⟨x4,q4,rfl,z4,hc,hg⟩
   have HC4:=hidI hc
   have HG4:=hidI (zk HG3.out hg)
   clear hc hg
   go_wp2_with fail
   refine (IH.out hd0 q4 _ HC4.out).mono ?_
   rintro e w5 ⟨x5,q5,rfl,z5,hc,hg⟩
   have HC5:=hidI hc
   have HG5:=hidI (zk HG4.out hg)
   clear hc hg
   go_wp2
   go_ret
   exact⟨_,q5,rfl,by have y0:(({data:=#[32]}:ByteArray)).size=1:=rfl;simp only[ByteArray.size_append,y0];omega,HC5.out,HG5.out⟩
  ·have hdz: ¬0<(d:Int):=by omega
   cases scr with
   |false=>
    go_wp2
    go_ret
    exact⟨_,q2,rfl,by omega,HC2.out,HG2.out⟩
   |true=>
    go_wp2_with fail
    refine (zey S hS g _ 8 _ HC2.out (by omega)).mono ?_
    rintro e w3 ⟨rfl,hc,hg⟩
    obtain⟨q3,hq⟩: ∃q',(bw S q2 8).2=q':=⟨_,rfl⟩
    rw[hq] at hc
    have HC3:=hidI hc
    have HG3:=hidI (zk HG2.out hg)
    clear hc hg hq
    generalize ((bw S q2 8).1==0)=b
    cases b with
    |false=>
     go_wp2
     go_ret
     exact⟨_,q3,rfl,by omega,HC3.out,HG3.out⟩
    |true=>
     go_wp2_with fail
     refine (zde S hS g _ 100 [{data:=#[117,110,100,101,102]},{data:=#[117,110,100,101,102,32,40,32,41]},{data:=#[97,36,49]},{data:=#[120,36]}] _ HC3.out (by simp) (by simp) (by intro x hx;simp only[List.mem_cons,List.not_mem_nil,or_false] at hx;rcases hx with rfl|rfl|rfl|rfl<;>decide)).mono ?_
     rintro e w4 ⟨x4,q4,rfl,z4,hc,hg⟩
     have HC4:=hidI hc
     have HG4:=hidI (zk HG3.out hg)
     clear hc hg
     go_wp2
     go_ret
     exact⟨_,q4,rfl,by omega,HC4.out,HG4.out⟩
 ·by_cases hd0:0<d
  ·go_wp2_with fail
   refine (IH.out hd0 q2 _ HC2.out).mono ?_
   rintro e w3 ⟨x3,q3,rfl,z3,hc,hg⟩
   have HC3:=hidI hc
   have HG3:=hidI (zk HG2.out hg)
   clear hc hg
   go_wp2
   go_ret
   exact⟨_,q3,rfl,by have y0:(({data:=#[40,32]}:ByteArray)).size=2:=rfl;have y1:(({data:=#[32,41]}:ByteArray)).size=2:=rfl;simp only[ByteArray.size_append,y0,y1];omega,HC3.out,HG3.out⟩
  ·have hdz: ¬0<(d:Int):=by omega
   cases scr with
   |false=>
    go_wp2
    go_ret
    exact⟨_,q2,rfl,by omega,HC2.out,HG2.out⟩
   |true=>
    go_wp2_with fail
    refine (zey S hS g _ 8 _ HC2.out (by omega)).mono ?_
    rintro e w3 ⟨rfl,hc,hg⟩
    obtain⟨q3,hq⟩: ∃q',(bw S q2 8).2=q':=⟨_,rfl⟩
    rw[hq] at hc
    have HC3:=hidI hc
    have HG3:=hidI (zk HG2.out hg)
    clear hc hg hq
    generalize ((bw S q2 8).1==0)=b
    cases b with
    |false=>
     go_wp2
     go_ret
     exact⟨_,q3,rfl,by omega,HC3.out,HG3.out⟩
    |true=>
     go_wp2_with fail
     refine (zde S hS g _ 100 [{data:=#[117,110,100,101,102]},{data:=#[117,110,100,101,102,32,40,32,41]},{data:=#[97,36,49]},{data:=#[120,36]}] _ HC3.out (by simp) (by simp) (by intro x hx;simp only[List.mem_cons,List.not_mem_nil,or_false] at hx;rcases hx with rfl|rfl|rfl|rfl<;>decide)).mono ?_
     rintro e w4 ⟨x4,q4,rfl,z4,hc,hg⟩
     have HC4:=hidI hc
     have HG4:=hidI (zk HG3.out hg)
     clear hc hg
     go_wp2
     go_ret
     exact⟨_,q4,rfl,by omega,HC4.out,HG4.out⟩
 ·cases scr with
  |false=>
   go_wp2
   go_ret
   exact⟨_,q2,rfl,by omega,HC2.out,HG2.out⟩
  |true=>
   go_wp2_with fail
   refine (zey S hS g _ 8 _ HC2.out (by omega)).mono ?_
   rintro e w3 ⟨rfl,hc,hg⟩
   obtain⟨q3,hq⟩: ∃q',(bw S q2 8).2=q':=⟨_,rfl⟩
   rw[hq] at hc
   have HC3:=hidI hc
   have HG3:=hidI (zk HG2.out hg)
   clear hc hg hq
   generalize ((bw S q2 8).1==0)=b
   cases b with
   |false=>
    go_wp2
    go_ret
    exact⟨_,q3,rfl,by omega,HC3.out,HG3.out⟩
   |true=>
    go_wp2_with fail
    refine (zde S hS g _ 100 [{data:=#[117,110,100,101,102]},{data:=#[117,110,100,101,102,32,40,32,41]},{data:=#[97,36,49]},{data:=#[120,36]}] _ HC3.out (by simp) (by simp) (by intro x hx;simp only[List.mem_cons,List.not_mem_nil,or_false] at hx;rcases hx with rfl|rfl|rfl|rfl<;>decide)).mono ?_
    rintro e w4 ⟨x4,q4,rfl,z4,hc,hg⟩
    have HC4:=hidI hc
    have HG4:=hidI (zk HG3.out hg)
    clear hc hg
    go_wp2
    go_ret
    exact⟨_,q4,rfl,by omega,HC4.out,HG4.out⟩
theorem zzo (S:Src) (hS:S.ok) (g:Nat) (scr:Bool) (q:Nat×Int) (w:World) (hc:CurW 152 S w g q):Calls Tryz.prog 177 #[.pointer (some ⟨g,0,none⟩),.int .i64 2,.bool scr] w (zif S g 770 w):=by
 have h0: ∀(q:Nat×Int) (w:World),CurW 152 S w g q→Calls Tryz.prog 177 #[.pointer (some ⟨g,0,none⟩),.int .i64 0,.bool scr] w (zif S g 110 w):=fun q w hc=>zmp S hS g scr 0 0 (by omega) (by omega) (fun h=>absurd h (Nat.lt_irrefl 0)) q w hc
 have h1: ∀(q:Nat×Int) (w:World),CurW 152 S w g q→Calls Tryz.prog 177 #[.pointer (some ⟨g,0,none⟩),.int .i64 1,.bool scr] w (zif S g 330 w):=fun q w hc=>zmp S hS g scr 1 110 (by omega) (by omega) (fun _=>h0) q w hc
 exact zmp S hS g scr 2 330 (by omega) (by omega) (fun _=>h1) q w hc
theorem zzp (S:Src) (hS:S.ok) (g:Nat) (scr:Bool) (q0:Nat×Int) (w0:World) (hc:CurW 152 S w0 g q0):Calls Tryz.prog 105 #[.pointer (some ⟨g,0,none⟩),.bool scr] w0 (zif S g 1500 w0):=by
 have HC0:=hidI hc
 have HG0:Hid (w0.grownBy w0 (some g)):=⟨rfl,rfl,rfl,Nat.le_refl _,fun _ _ _=>rfl⟩
 clear hc
 go_enter Tryz.func105,Tryz.ntmps105
 go_wp2_with fail
 refine (zde S hS g _ 100 [{data:=#[97]},{data:=#[98]},{data:=#[120]},{data:=#[102]},{data:=#[103]}] _ HC0.out (by simp) (by simp) (by intro x hx;simp only[List.mem_cons,List.not_mem_nil,or_false] at hx;rcases hx with rfl|rfl|rfl|rfl|rfl<;>decide)).mono ?_
 rintro e w1 ⟨x1,q1,rfl,z1,hc,hg⟩
 have HC1:=hidI hc
 have HG1:=hidI (zk HG0.out hg)
 clear hc hg
 go_wp2_with fail
 refine (zzo S hS g scr q1 _ HC1.out).mono ?_
 rintro e w2 ⟨x2,q2,rfl,z2,hc,hg⟩
 have HC2:=hidI hc
 have HG2:=hidI (zk HG1.out hg)
 clear hc hg
 go_wp2_with fail
 refine (zde S hS g _ 100 [{data:=#[46,47,98]},{data:=#[46,47,99]},{data:=#[46,47,97]},{data:=#[120]},{data:=#[46,47,100]}] _ HC2.out (by simp) (by simp) (by intro x hx;simp only[List.mem_cons,List.not_mem_nil,or_false] at hx;rcases hx with rfl|rfl|rfl|rfl|rfl<;>decide)).mono ?_
 rintro e w3 ⟨x3,q3,rfl,z3,hc,hg⟩
 have HC3:=hidI hc
 have HG3:=hidI (zk HG2.out hg)
 clear hc hg
 go_wp2_with fail
 refine (zbf S hS g _ 16 _ HC3.out (by omega)).mono ?_
 rintro e w4 ⟨rfl,hc,hg⟩
 have hbd:=zeu S q3 16 (by omega)
 obtain⟨k4,hk⟩: ∃k:Nat,(bw S q3 16).1=k:=⟨(bw S q3 16).1.toNat,by omega⟩
 obtain⟨q4,hq⟩: ∃q',(bw S q3 16).2=q':=⟨_,rfl⟩
 rw[hk] at hbd ⊢
 rw[hq] at hc
 have HC4:=hidI hc
 have HG4:=hidI (zk HG3.out hg)
 clear hc hg
 have kb4:k4<16:=by omega
 clear hbd hk hq
 cases scr with
 |false=>
  rcases (show k4=0∨k4=1∨k4=2∨k4=3∨k4=4∨k4=5∨k4=6∨k4=7∨k4=8∨k4=9∨k4=10∨k4=11∨k4=12∨k4=13∨k4=14∨k4=15 by omega) with rfl|rfl|rfl|rfl|rfl|rfl|rfl|rfl|rfl|rfl|rfl|rfl|rfl|rfl|rfl|rfl
  ·go_wp2
   go_ret
   exact⟨_,q4,rfl,by have y0:(({data:=#[108,101,116,32]}:ByteArray)).size=4:=rfl;have y1:(({data:=#[32,61,32]}:ByteArray)).size=3:=rfl;have y2:(({data:=#[59]}:ByteArray)).size=1:=rfl;simp only[ByteArray.size_append,y0,y1,y2];omega,HC4.out,HG4.out⟩
  ·go_wp2
   go_ret
   exact⟨_,q4,rfl,by have y0:(({data:=#[108,101,116,32]}:ByteArray)).size=4:=rfl;have y1:(({data:=#[32,61,32]}:ByteArray)).size=3:=rfl;have y2:(({data:=#[59]}:ByteArray)).size=1:=rfl;simp only[ByteArray.size_append,y0,y1,y2];omega,HC4.out,HG4.out⟩
  ·go_wp2
   go_ret
   exact⟨_,q4,rfl,by have y0:(({data:=#[108,101,116,32]}:ByteArray)).size=4:=rfl;have y1:(({data:=#[32,61,32]}:ByteArray)).size=3:=rfl;have y2:(({data:=#[59]}:ByteArray)).size=1:=rfl;simp only[ByteArray.size_append,y0,y1,y2];omega,HC4.out,HG4.out⟩
  ·go_wp2_with fail
   refine (zde S hS g _ 100 [{data:=#[102]},{data:=#[103]}] _ HC4.out (by simp) (by simp) (by intro x hx;simp only[List.mem_cons,List.not_mem_nil,or_false] at hx;rcases hx with rfl|rfl<;>decide)).mono ?_
   rintro e w5 ⟨x5,q5,rfl,z5,hc,hg⟩
   have HC5:=hidI hc
   have HG5:=hidI (zk HG4.out hg)
   clear hc hg
   go_wp2
   go_ret
   exact⟨_,q5,rfl,by have y0:(({data:=#[102,117,110,99,116,105,111,110,32]}:ByteArray)).size=9:=rfl;have y1:(({data:=#[40,41,32,123,32,114,101,116,117,114,110,32]}:ByteArray)).size=12:=rfl;have y2:(({data:=#[59,32,125]}:ByteArray)).size=3:=rfl;simp only[ByteArray.size_append,y0,y1,y2];omega,HC5.out,HG5.out⟩
  ·go_wp2
   go_ret
   exact⟨_,q4,rfl,by have y0:(({data:=#[32,61,32]}:ByteArray)).size=3:=rfl;have y1:(({data:=#[59]}:ByteArray)).size=1:=rfl;simp only[ByteArray.size_append,y0,y1];omega,HC4.out,HG4.out⟩
  ·go_wp2
   go_ret
   exact⟨_,q4,rfl,by have y0:(({data:=#[112,114,105,110,116,40]}:ByteArray)).size=6:=rfl;have y1:(({data:=#[41,59]}:ByteArray)).size=2:=rfl;simp only[ByteArray.size_append,y0,y1];omega,HC4.out,HG4.out⟩
  ·go_wp2
   go_ret
   exact⟨_,q4,rfl,by have y0:(({data:=#[112,114,105,110,116,40]}:ByteArray)).size=6:=rfl;have y1:(({data:=#[41,59]}:ByteArray)).size=2:=rfl;simp only[ByteArray.size_append,y0,y1];omega,HC4.out,HG4.out⟩
  ·go_wp2
   go_ret
   exact⟨_,q4,rfl,by have y0:(({data:=#[116,104,114,111,119,32]}:ByteArray)).size=6:=rfl;have y1:(({data:=#[59]}:ByteArray)).size=1:=rfl;simp only[ByteArray.size_append,y0,y1];omega,HC4.out,HG4.out⟩
  ·go_wp2_with fail
   refine (zde S hS g _ 100 [{data:=#[]},{data:=#[32,97,115,32,120]},{data:=#[32,97,115,32,98,44,32,103]}] _ HC4.out (by simp) (by simp) (by intro x hx;simp only[List.mem_cons,List.not_mem_nil,or_false] at hx;rcases hx with rfl|rfl|rfl<;>decide)).mono ?_
   rintro e w5 ⟨x5,q5,rfl,z5,hc,hg⟩
   have HC5:=hidI hc
   have HG5:=hidI (zk HG4.out hg)
   clear hc hg
   go_wp2
   go_ret
   exact⟨_,q5,rfl,by have y0:(({data:=#[105,109,112,111,114,116,32,123,32]}:ByteArray)).size=9:=rfl;have y1:(({data:=#[32,125,32,102,114,111,109,32,34]}:ByteArray)).size=9:=rfl;have y2:(({data:=#[34,59]}:ByteArray)).size=2:=rfl;simp only[ByteArray.size_append,y0,y1,y2];omega,HC5.out,HG5.out⟩
  ·go_wp2
   go_ret
   exact⟨_,q4,rfl,by have y0:(({data:=#[105,109,112,111,114,116,32,42,32,97,115,32,110,32,102,114,111,109,32,34]}:ByteArray)).size=20:=rfl;have y1:(({data:=#[34,59]}:ByteArray)).size=2:=rfl;simp only[ByteArray.size_append,y0,y1];omega,HC4.out,HG4.out⟩
  ·go_wp2
   go_ret
   exact⟨_,q4,rfl,by have y0:(({data:=#[105,109,112,111,114,116,32,100,32,102,114,111,109,32,34]}:ByteArray)).size=15:=rfl;have y1:(({data:=#[34,59]}:ByteArray)).size=2:=rfl;simp only[ByteArray.size_append,y0,y1];omega,HC4.out,HG4.out⟩
  ·go_wp2_with fail
   refine (zde S hS g _ 100 [{data:=#[]},{data:=#[32,97,115,32,121]},{data:=#[32,97,115,32,100,101,102,97,117,108,116]}] _ HC4.out (by simp) (by simp) (by intro x hx;simp only[List.mem_cons,List.not_mem_nil,or_false] at hx;rcases hx with rfl|rfl|rfl<;>decide)).mono ?_
   rintro e w5 ⟨x5,q5,rfl,z5,hc,hg⟩
   have HC5:=hidI hc
   have HG5:=hidI (zk HG4.out hg)
   clear hc hg
   go_wp2
   go_ret
   exact⟨_,q5,rfl,by have y0:(({data:=#[101,120,112,111,114,116,32,123,32]}:ByteArray)).size=9:=rfl;have y1:(({data:=#[32,125,59]}:ByteArray)).size=3:=rfl;simp only[ByteArray.size_append,y0,y1];omega,HC5.out,HG5.out⟩
  ·go_wp2_with fail
   refine (zde S hS g _ 100 [{data:=#[]},{data:=#[32,97,115,32,121]},{data:=#[44,32,100,101,102,97,117,108,116]}] _ HC4.out (by simp) (by simp) (by intro x hx;simp only[List.mem_cons,List.not_mem_nil,or_false] at hx;rcases hx with rfl|rfl|rfl<;>decide)).mono ?_
   rintro e w5 ⟨x5,q5,rfl,z5,hc,hg⟩
   have HC5:=hidI hc
   have HG5:=hidI (zk HG4.out hg)
   clear hc hg
   go_wp2
   go_ret
   exact⟨_,q5,rfl,by have y0:(({data:=#[101,120,112,111,114,116,32,123,32]}:ByteArray)).size=9:=rfl;have y1:(({data:=#[32,125,32,102,114,111,109,32,34]}:ByteArray)).size=9:=rfl;have y2:(({data:=#[34,59]}:ByteArray)).size=2:=rfl;simp only[ByteArray.size_append,y0,y1,y2];omega,HC5.out,HG5.out⟩
  ·go_wp2
   go_ret
   exact⟨_,q4,rfl,by have y0:(({data:=#[101,120,112,111,114,116,32,42,32,102,114,111,109,32,34]}:ByteArray)).size=15:=rfl;have y1:(({data:=#[34,59]}:ByteArray)).size=2:=rfl;simp only[ByteArray.size_append,y0,y1];omega,HC4.out,HG4.out⟩
  ·go_wp2
   go_ret
   exact⟨_,q4,rfl,by have y0:(({data:=#[101,120,112,111,114,116,32,100,101,102,97,117,108,116,32]}:ByteArray)).size=15:=rfl;have y1:(({data:=#[59]}:ByteArray)).size=1:=rfl;simp only[ByteArray.size_append,y0,y1];omega,HC4.out,HG4.out⟩
  ·go_wp2_with fail
   refine (zde S hS g _ 900 [({data:=#[108,101,116,32]}:ByteArray)++x1++({data:=#[32,61,32]}:ByteArray)++x2++({data:=#[59]}:ByteArray),({data:=#[102,117,110,99,116,105,111,110,32,102,40,41,32,123,32,114,101,116,117,114,110,32]}:ByteArray)++x2++({data:=#[59,32,125]}:ByteArray),({data:=#[108,101,116,32,122,32,61,32,49,59]}:ByteArray)] _ HC4.out (by simp) (by simp) (by intro x hx;simp only[List.mem_cons,List.not_mem_nil,or_false] at hx;have y0:(({data:=#[108,101,116,32]}:ByteArray)).size=4:=rfl;have y1:(({data:=#[32,61,32]}:ByteArray)).size=3:=rfl;have y2:(({data:=#[59]}:ByteArray)).size=1:=rfl;have y3:(({data:=#[102,117,110,99,116,105,111,110,32,102,40,41,32,123,32,114,101,116,117,114,110,32]}:ByteArray)).size=22:=rfl;have y4:(({data:=#[59,32,125]}:ByteArray)).size=3:=rfl;have y5:(({data:=#[108,101,116,32,122,32,61,32,49,59]}:ByteArray)).size=10:=rfl;rcases hx with rfl|rfl|rfl<;>simp only[ByteArray.size_append,y0,y1,y2,y3,y4,y5]<;>omega)).mono ?_
   rintro e w5 ⟨x5,q5,rfl,z5,hc,hg⟩
   have HC5:=hidI hc
   have HG5:=hidI (zk HG4.out hg)
   clear hc hg
   go_wp2
   go_ret
   exact⟨_,q5,rfl,by have y0:(({data:=#[101,120,112,111,114,116,32]}:ByteArray)).size=7:=rfl;simp only[ByteArray.size_append,y0];omega,HC5.out,HG5.out⟩
 |true=>
  rcases (show k4=0∨k4=1∨k4=2∨k4=3∨k4=4∨k4=5∨k4=6∨k4=7∨k4=8∨k4=9∨k4=10∨k4=11∨k4=12∨k4=13∨k4=14∨k4=15 by omega) with rfl|rfl|rfl|rfl|rfl|rfl|rfl|rfl|rfl|rfl|rfl|rfl|rfl|rfl|rfl|rfl
  ·go_wp2
   go_ret
   exact⟨_,q4,rfl,by have y0:(({data:=#[108,101,116,32]}:ByteArray)).size=4:=rfl;have y1:(({data:=#[32,61,32]}:ByteArray)).size=3:=rfl;have y2:(({data:=#[59]}:ByteArray)).size=1:=rfl;simp only[ByteArray.size_append,y0,y1,y2];omega,HC4.out,HG4.out⟩
  ·go_wp2
   go_ret
   exact⟨_,q4,rfl,by have y0:(({data:=#[108,101,116,32]}:ByteArray)).size=4:=rfl;have y1:(({data:=#[32,61,32]}:ByteArray)).size=3:=rfl;have y2:(({data:=#[59]}:ByteArray)).size=1:=rfl;simp only[ByteArray.size_append,y0,y1,y2];omega,HC4.out,HG4.out⟩
  ·go_wp2
   go_ret
   exact⟨_,q4,rfl,by have y0:(({data:=#[108,101,116,32]}:ByteArray)).size=4:=rfl;have y1:(({data:=#[32,61,32]}:ByteArray)).size=3:=rfl;have y2:(({data:=#[59]}:ByteArray)).size=1:=rfl;simp only[ByteArray.size_append,y0,y1,y2];omega,HC4.out,HG4.out⟩
  ·go_wp2_with fail
   refine (zde S hS g _ 100 [{data:=#[102]},{data:=#[103]}] _ HC4.out (by simp) (by simp) (by intro x hx;simp only[List.mem_cons,List.not_mem_nil,or_false] at hx;rcases hx with rfl|rfl<;>decide)).mono ?_
   rintro e w5 ⟨x5,q5,rfl,z5,hc,hg⟩
   have HC5:=hidI hc
   have HG5:=hidI (zk HG4.out hg)
   clear hc hg
   go_wp2
   go_ret
   exact⟨_,q5,rfl,by have y0:(({data:=#[102,117,110,99,116,105,111,110,32]}:ByteArray)).size=9:=rfl;have y1:(({data:=#[40,41,32,123,32,114,101,116,117,114,110,32]}:ByteArray)).size=12:=rfl;have y2:(({data:=#[59,32,125]}:ByteArray)).size=3:=rfl;simp only[ByteArray.size_append,y0,y1,y2];omega,HC5.out,HG5.out⟩
  ·go_wp2
   go_ret
   exact⟨_,q4,rfl,by have y0:(({data:=#[32,61,32]}:ByteArray)).size=3:=rfl;have y1:(({data:=#[59]}:ByteArray)).size=1:=rfl;simp only[ByteArray.size_append,y0,y1];omega,HC4.out,HG4.out⟩
  ·go_wp2
   go_ret
   exact⟨_,q4,rfl,by have y0:(({data:=#[112,114,105,110,116,40]}:ByteArray)).size=6:=rfl;have y1:(({data:=#[41,59]}:ByteArray)).size=2:=rfl;simp only[ByteArray.size_append,y0,y1];omega,HC4.out,HG4.out⟩
  ·go_wp2
   go_ret
   exact⟨_,q4,rfl,by have y0:(({data:=#[112,114,105,110,116,40]}:ByteArray)).size=6:=rfl;have y1:(({data:=#[41,59]}:ByteArray)).size=2:=rfl;simp only[ByteArray.size_append,y0,y1];omega,HC4.out,HG4.out⟩
  ·go_wp2_with fail
   refine (zey S hS g _ 2 _ HC4.out (by omega)).mono ?_
   rintro e w5 ⟨rfl,hc,hg⟩
   obtain⟨q5,hq⟩: ∃q',(bw S q4 2).2=q':=⟨_,rfl⟩
   rw[hq] at hc
   have HC5:=hidI hc
   have HG5:=hidI (zk HG4.out hg)
   clear hc hg hq
   generalize ((bw S q4 2).1==0)=b
   cases b with
   |false=>
    go_wp2
    go_ret
    exact⟨_,q5,rfl,by have y0:(({data:=#[116,104,114,111,119,32]}:ByteArray)).size=6:=rfl;have y1:(({data:=#[59]}:ByteArray)).size=1:=rfl;simp only[ByteArray.size_append,y0,y1];omega,HC5.out,HG5.out⟩
   |true=>
    go_wp2
    go_ret
    exact⟨_,q5,rfl,by have y0:(({data:=#[102,97,105,108,32]}:ByteArray)).size=5:=rfl;have y1:(({data:=#[59]}:ByteArray)).size=1:=rfl;simp only[ByteArray.size_append,y0,y1];omega,HC5.out,HG5.out⟩
  ·go_wp2
   go_ret
   exact⟨_,q4,rfl,by have y0:(({data:=#[108,101,116,32]}:ByteArray)).size=4:=rfl;have y1:(({data:=#[32,61,32]}:ByteArray)).size=3:=rfl;have y2:(({data:=#[59]}:ByteArray)).size=1:=rfl;simp only[ByteArray.size_append,y0,y1,y2];omega,HC4.out,HG4.out⟩
  ·go_wp2
   go_ret
   exact⟨_,q4,rfl,by have y0:(({data:=#[108,101,116,32]}:ByteArray)).size=4:=rfl;have y1:(({data:=#[32,61,32]}:ByteArray)).size=3:=rfl;have y2:(({data:=#[59]}:ByteArray)).size=1:=rfl;simp only[ByteArray.size_append,y0,y1,y2];omega,HC4.out,HG4.out⟩
  ·go_wp2
   go_ret
   exact⟨_,q4,rfl,by have y0:(({data:=#[108,101,116,32]}:ByteArray)).size=4:=rfl;have y1:(({data:=#[32,61,32]}:ByteArray)).size=3:=rfl;have y2:(({data:=#[59]}:ByteArray)).size=1:=rfl;simp only[ByteArray.size_append,y0,y1,y2];omega,HC4.out,HG4.out⟩
  ·go_wp2_with fail
   refine (zde S hS g _ 100 [{data:=#[102]},{data:=#[103]}] _ HC4.out (by simp) (by simp) (by intro x hx;simp only[List.mem_cons,List.not_mem_nil,or_false] at hx;rcases hx with rfl|rfl<;>decide)).mono ?_
   rintro e w5 ⟨x5,q5,rfl,z5,hc,hg⟩
   have HC5:=hidI hc
   have HG5:=hidI (zk HG4.out hg)
   clear hc hg
   go_wp2
   go_ret
   exact⟨_,q5,rfl,by have y0:(({data:=#[102,117,110,99,116,105,111,110,32]}:ByteArray)).size=9:=rfl;have y1:(({data:=#[40,41,32,123,32,114,101,116,117,114,110,32]}:ByteArray)).size=12:=rfl;have y2:(({data:=#[59,32,125]}:ByteArray)).size=3:=rfl;simp only[ByteArray.size_append,y0,y1,y2];omega,HC5.out,HG5.out⟩
  ·go_wp2
   go_ret
   exact⟨_,q4,rfl,by have y0:(({data:=#[32,61,32]}:ByteArray)).size=3:=rfl;have y1:(({data:=#[59]}:ByteArray)).size=1:=rfl;simp only[ByteArray.size_append,y0,y1];omega,HC4.out,HG4.out⟩
  ·go_wp2
   go_ret
   exact⟨_,q4,rfl,by have y0:(({data:=#[112,114,105,110,116,40]}:ByteArray)).size=6:=rfl;have y1:(({data:=#[41,59]}:ByteArray)).size=2:=rfl;simp only[ByteArray.size_append,y0,y1];omega,HC4.out,HG4.out⟩
  ·go_wp2
   go_ret
   exact⟨_,q4,rfl,by have y0:(({data:=#[112,114,105,110,116,40]}:ByteArray)).size=6:=rfl;have y1:(({data:=#[41,59]}:ByteArray)).size=2:=rfl;simp only[ByteArray.size_append,y0,y1];omega,HC4.out,HG4.out⟩
  ·go_wp2_with fail
   refine (zey S hS g _ 2 _ HC4.out (by omega)).mono ?_
   rintro e w5 ⟨rfl,hc,hg⟩
   obtain⟨q5,hq⟩: ∃q',(bw S q4 2).2=q':=⟨_,rfl⟩
   rw[hq] at hc
   have HC5:=hidI hc
   have HG5:=hidI (zk HG4.out hg)
   clear hc hg hq
   generalize ((bw S q4 2).1==0)=b
   cases b with
   |false=>
    go_wp2
    go_ret
    exact⟨_,q5,rfl,by have y0:(({data:=#[116,104,114,111,119,32]}:ByteArray)).size=6:=rfl;have y1:(({data:=#[59]}:ByteArray)).size=1:=rfl;simp only[ByteArray.size_append,y0,y1];omega,HC5.out,HG5.out⟩
   |true=>
    go_wp2
    go_ret
    exact⟨_,q5,rfl,by have y0:(({data:=#[102,97,105,108,32]}:ByteArray)).size=5:=rfl;have y1:(({data:=#[59]}:ByteArray)).size=1:=rfl;simp only[ByteArray.size_append,y0,y1];omega,HC5.out,HG5.out⟩
/-- What stands behind some letters: those that are drawn yet make the text whole. -/
def TxAt (S:Src) (y:Int) (T:List Int×(Nat×Int)) (acc:List Int) (n:Nat) (q:Nat×Int):Prop:=acc++(txGo S y n q).1=T.1∧(txGo S y n q).2=T.2
theorem zov {S:Src} {y:Int} {T:List Int×(Nat×Int)} {acc:List Int} {n:Nat} {q:Nat×Int} (h:TxAt S y T acc (n+1) q):TxAt S y T (acc++[chr y (cb S q).1]) n (cb S q).2:=by
 obtain⟨a,b⟩:=h
 rw[txGo] at a b
 exact⟨by rw[List.append_assoc];exact a,b⟩
theorem zbig {S:Src} {y:Int} {T:List Int×(Nat×Int)} {acc:List Int} {q:Nat×Int} (h:TxAt S y T acc 0 q):acc=T.1∧q=T.2:=by
 obtain⟨a,b⟩:=h
 rw[txGo] at a b
 exact⟨by simpa using a,b⟩
theorem zbct (S:Src) (hS:S.ok) (g:Nat) (q:Nat×Int) (most:Int) (w:World) (hc:CurW 152 S w g q) (hm0:0≤most) (hm1:most≤1000):
  Calls Tryz.prog 178 #[.pointer (some ⟨g,0,none⟩),.int .i64 most] w fun e w'=>e= .returned (.string (strOfNums (tx S q most).1))∧CurW 152 S w' g (tx S q most).2∧w.grownBy w' (some g):=by
 obtain⟨i0,hi,hz0,hz1,hz2⟩:=info_parts Tryz.infoByte
 have hgw:=zhi hc
 have hbn:=zeu S (bw S q 4).2 (most+1) (by omega)
 have HT:Hid (tx S q most=txGo S (bw S q 4).1 (bw S (bw S q 4).2 (most+1)).1.toNat (bw S (bw S q 4).2 (most+1)).2):=rfl
 go_enter Tryz.func178,Tryz.ntmps178
 go_wp2_with fail
 refine (zbf S hS g q 4 _ (zew hc ((Below.refl w.heap.size w).alloc (Nat.le_refl _) _) hgw) (by omega)).mono ?_
 rintro e w1 ⟨rfl,hc1,hg1⟩
 go_wp2_with fail
 refine (zbf S hS g _ (most+1) _ hc1 (by omega)).mono ?_
 rintro e w2 ⟨rfl,hc2,hg2⟩
 have hown:OwnB w2 w.heap.size 5 (.slice (some ⟨w.heap.size,0,none⟩) 0 0) 0 []:=by
  have h0:OwnB (w.alloc (.cells #[] 5)) w.heap.size 5 (.slice (some ⟨w.heap.size,0,none⟩) 0 0) 0 []:=World.ownsRow_lit w #[] 0 (Nat.le_refl _) (by unfold maxLen;omega) rfl
  exact ziz (ziz h0 hg1 hgw) hg2 hgw
 have hgr:w.grownBy w2 (some g):=zk (zk (zex (World.grownBy.refl w _) ((Below.refl w.heap.size w).alloc (Nat.le_refl _) (.cells #[] 5)) (Nat.le_refl _)) hg1) hg2
 obtain⟨m0,hm0e⟩: ∃m:Nat,(bw S (bw S q 4).2 (most+1)).1=m:=⟨(bw S (bw S q 4).2 (most+1)).1.toNat,by omega⟩
 rw[hm0e]
 have HST:Hid (TxAt S (bw S q 4).1 (tx S q most) [] m0 (bw S (bw S q 4).2 (most+1)).2):=by
  show TxAt _ _ _ _ _ _
  have e:=HT.out
  rw[hm0e,Int.toNat_natCast] at e
  rw[e]
  exact⟨rfl,rfl⟩
 have hm0b:m0≤1000:=by omega
 clear hm0e HT hbn hc hc1 hg1 hg2
 go_wp2
 go_loopw [5,7,8] (fun v n _ wr=>∃(k:Nat) (acc:List Int) (m:Nat) (p:Nat×Int),n= .int .i64 m∧k+m≤1000∧TxAt S (bw S q 4).1 (tx S q most) acc m p∧OwnB wr w.heap.size 5 v k acc∧CurW 152 S wr g p∧w.grownBy wr (some g)) (fun _ n _ _=>(intOf n).toNat)
 case atStart=>exact⟨0,[],m0,_,rfl,by omega,HST.out,hown,hc2,hgr⟩
 case round=>
  obtain⟨k,acc,m,p,rfl,hkm,hat,hownr,hcr,hgrr⟩:=hrel
  have HAT:=hat
  clear hat hown hc2 hgr
  match m,hkm,HAT with
  |0,hkm,HAT=>
   obtain⟨e1,e2⟩:=zbig HAT
   have HE1:Hid (acc=(tx S q most).1):=e1
   have HE2:Hid (p=(tx S q most).2):=e2
   clear e1 e2 HAT
   rw[HE1.out] at hownr
   have hst:=zjm (P:=Tryz.prog) (src:=41) (dst:=9) Tryz.underlying41 Tryz.underlying5 Tryz.underlying9 hownr
   go_wp2
   go_ret
   exact⟨rfl,by rw[←HE2.out];exact hcr,hgrr⟩
  |m+1,hkm,HAT0=>
   have HAT:Hid (TxAt S (bw S q 4).1 (tx S q most) acc (m+1) p):=HAT0
   clear HAT0
   have hcb:=znj S p
   by_cases h1:(bw S q 4).1=1
   ·have q1:((bw S q 4).1==1)=true:=by simpa using h1
    have q2:((bw S q 4).1==2)=false:=by rw[h1];rfl
    have HCH:Hid (chr (bw S q 4).1 (cb S p).1=(cb S p).1%2):=by show chr _ _=_;rw[chr,if_pos h1]
    clear h1
    go_wp2_with (first|(go_at_call 176;refine (zfr S hS g p _ hcr).mono ?_;rintro e w3 ⟨rfl,hc3,hg3⟩;have hown3:=ziz hownr hg3 hgw;have hsz3:=Nat.le_trans hgrr.size hg3.size)|(at_builtin;refine zqs w3 rfl _ _ 41 rfl w.heap.size 5 i0 Tryz.underlying41 hi hz0 hz1 hz2 _ k acc (by rfl) hown3 ((cb S p).1%2) (by rfl) (by omega) hsz3 ?_))
    intro v' w4 hown4 hb4
    go_wp2
    go_roundw
    case rel=>exact⟨k+1,acc++[(cb S p).1%2],m,(cb S p).2,by go_num,by omega,by rw[←HCH.out];exact zov HAT.out,hown4,zew hc3 hb4 hgw,zex (zk hgrr hg3) hb4 (Nat.le_refl _)⟩
    case measure=>simp[intOf]
   ·have q1:((bw S q 4).1==1)=false:=by simpa using h1
    by_cases h2:(bw S q 4).1=2
    ·have q2:((bw S q 4).1==2)=true:=by simpa using h2
     have HCH:Hid (chr (bw S q 4).1 (cb S p).1=97+(cb S p).1%4):=by show chr _ _=_;rw[chr,if_neg h1,if_pos h2]
     clear h1 h2
     go_wp2_with (first|(go_at_call 176;refine (zfr S hS g p _ hcr).mono ?_;rintro e w3 ⟨rfl,hc3,hg3⟩;have hown3:=ziz hownr hg3 hgw;have hsz3:=Nat.le_trans hgrr.size hg3.size)|(at_builtin;refine zqs w3 rfl _ _ 41 rfl w.heap.size 5 i0 Tryz.underlying41 hi hz0 hz1 hz2 _ k acc (by rfl) hown3 (97+(cb S p).1%4) (by rfl) (by omega) hsz3 ?_))
     intro v' w4 hown4 hb4
     go_wp2
     go_roundw
     case rel=>exact⟨k+1,acc++[97+(cb S p).1%4],m,(cb S p).2,by go_num,by omega,by rw[←HCH.out];exact zov HAT.out,hown4,zew hc3 hb4 hgw,zex (zk hgrr hg3) hb4 (Nat.le_refl _)⟩
     case measure=>simp[intOf]
    ·have q2:((bw S q 4).1==2)=false:=by simpa using h2
     have HCH:Hid (chr (bw S q 4).1 (cb S p).1=(cb S p).1):=by show chr _ _=_;rw[chr,if_neg h1,if_neg h2]
     clear h1 h2
     go_wp2_with (first|(go_at_call 176;refine (zfr S hS g p _ hcr).mono ?_;rintro e w3 ⟨rfl,hc3,hg3⟩;have hown3:=ziz hownr hg3 hgw;have hsz3:=Nat.le_trans hgrr.size hg3.size)|(at_builtin;refine zqs w3 rfl _ _ 41 rfl w.heap.size 5 i0 Tryz.underlying41 hi hz0 hz1 hz2 _ k acc (by rfl) hown3 ((cb S p).1) (by rfl) (by omega) hsz3 ?_))
     intro v' w4 hown4 hb4
     go_wp2
     go_roundw
     case rel=>exact⟨k+1,acc++[(cb S p).1],m,(cb S p).2,by go_num,by omega,by rw[←HCH.out];exact zov HAT.out,hown4,zew hc3 hb4 hgw,zex (zk hgrr hg3) hb4 (Nat.le_refl _)⟩
     case measure=>simp[intOf]
theorem zbld {S:Src} {q:Nat×Int} {s:ByteArray} (h:s.size=0):zev S q s=(strOfNums (tx S q 3).1,(tx S q 3).2):=by rw[zev,if_pos h]
theorem zble {S:Src} {q:Nat×Int} {s:ByteArray} {k:Nat} (h:s.size≠0) (hk:(bw S q s.size).1=k) (hm:(bw S (bw S q s.size).2 4).1=0):zev S q s=(s.extract 0 k++s.extract (k+1) s.size,(bw S (bw S q s.size).2 4).2):=by
 rw[zev,if_neg h,if_pos hm,hk];rfl
theorem zblf {S:Src} {q:Nat×Int} {s:ByteArray} {k:Nat} (h:s.size≠0) (hk:(bw S q s.size).1=k) (hm:(bw S (bw S q s.size).2 4).1=1):zev S q s=(s.extract 0 k++strOfNums [(cb S (bw S (bw S q s.size).2 4).2).1]++s.extract k s.size,(cb S (bw S (bw S q s.size).2 4).2).2):=by
 rw[zev,if_neg h,if_neg (by omega),if_pos hm,hk];rfl
theorem zblg {S:Src} {q:Nat×Int} {s:ByteArray} {k:Nat} (h:s.size≠0) (hk:(bw S q s.size).1=k) (hm:(bw S (bw S q s.size).2 4).1=2):zev S q s=(s.extract 0 k,(bw S (bw S q s.size).2 4).2):=by
 rw[zev,if_neg h,if_neg (by omega),if_neg (by omega),if_pos hm,hk];rfl
theorem zblh {S:Src} {q:Nat×Int} {s:ByteArray} {k:Nat} (h:s.size≠0) (hk:(bw S q s.size).1=k) (h0:(bw S (bw S q s.size).2 4).1≠0) (h1:(bw S (bw S q s.size).2 4).1≠1) (h2:(bw S (bw S q s.size).2 4).1≠2):
  zev S q s=(s.extract 0 k++strOfNums [IntKind.u8.wrap (bits .xor .i64 (bt s k) (1+(bw S (bw S (bw S q s.size).2 4).2 255).1))]++s.extract (k+1) s.size,(bw S (bw S (bw S q s.size).2 4).2 255).2):=by
 rw[zev,if_neg h,if_neg h0,if_neg h1,if_neg h2,hk];rfl
theorem zzq (S:Src) (hS:S.ok) (g:Nat) (q:Nat×Int) (s:ByteArray) (w:World) (hc:CurW 152 S w g q) (hs:s.size≤100000):
  Calls Tryz.prog 106 #[.pointer (some ⟨g,0,none⟩),.string s] w fun e w'=>e= .returned (.string (zev S q s).1)∧CurW 152 S w' g (zev S q s).2∧w.grownBy w' (some g):=by
 by_cases h0:s.size=0
 ·have HS:Hid (zev S q s=(strOfNums (tx S q 3).1,(tx S q 3).2)):=zbld h0
  have hq:((s.size:Int)==0)=true:=by rw[h0];rfl
  clear h0
  go_enter Tryz.func106,Tryz.ntmps106
  go_wp2_with fail
  refine (zbct S hS g q 3 _ hc (by omega) (by omega)).mono ?_
  rintro e w1 ⟨rfl,hc1,hg1⟩
  go_wp2
  go_ret
  exact⟨zcd (by rw[HS.out]),by rw[HS.out];exact hc1,hg1⟩
 ·have hq:((s.size:Int)==0)=false:=beq_eq_false_iff_ne.2 (by omega)
  have hbk:=zeu S q s.size (by omega)
  obtain⟨k,hk⟩: ∃k:Nat,(bw S q s.size).1=k:=⟨(bw S q s.size).1.toNat,by omega⟩
  have HK:Hid ((bw S q s.size).1=k):=hk
  have hks:k<s.size:=by omega
  have hbm:=zeu S (bw S q s.size).2 4 (by omega)
  have hb:=get_bt s
  have hb0:=bt_nonneg s k
  have hb1:=bt_le s k
  have e1:IntKind.i64.wrap ((k:Int)+1)=(k:Int)+1:=IntWalk.i64_in _ ⟨by omega,by omega⟩
  have e2:IntKind.i64.wrap (bt s k)=bt s k:=IntWalk.i64_in _ ⟨by omega,by omega⟩
  have l1:(0:Int)≤(k:Int):=by omega
  have l2:(k:Int)≤s.size:=by omega
  have l3:(0:Int)≤(k:Int)+1:=by omega
  have l4:(k:Int)+1≤s.size:=by omega
  have z1:(s.extract 0 k).size≤100000:=by simp;omega
  have z2:(s.extract (k+1) s.size).size≤100000:=by simp;omega
  have z3:(s.extract k s.size).size≤100000:=by simp;omega
  have hst:=fun (w:World) (x:Int)=>zjn (P:=Tryz.prog) (src:=41) (dst:=9) Tryz.underlying41 Tryz.underlying5 Tryz.underlying9 w x
  have hone:=fun x=>strOfNums_size [x]
  have y1: ¬(9223372036854775807<min k s.size+1):=by omega
  have y2: ¬(9223372036854775807<min k s.size+1+(s.size-k)):=by omega
  have y3: ¬(9223372036854775807<min k s.size+1+(s.size-(k+1))):=by omega
  clear hbk
  by_cases m0:(bw S (bw S q s.size).2 4).1=0
  ·have HS:Hid (zev S q s=(s.extract 0 k++s.extract (k+1) s.size,(bw S (bw S q s.size).2 4).2)):=zble h0 hk m0
   have q0:((bw S (bw S q s.size).2 4).1==0)=true:=by simpa using m0
   clear hk m0 h0
   go_enter Tryz.func106,Tryz.ntmps106
   go_wp2_with fail
   refine (zbf S hS g q s.size _ hc (by omega)).mono ?_
   rintro e w1 ⟨rfl,hc1,hg1⟩
   rw[HK.out]
   go_wp2_with fail
   refine (zbf S hS g _ 4 _ hc1 (by omega)).mono ?_
   rintro e w2 ⟨rfl,hc2,hg2⟩
   go_wp2
   go_quiet (fail)
   go_wp2
   go_ret
   exact⟨zcd (by rw[HS.out]),by rw[HS.out];exact zkw hc2 _,zhj (zk hg1 hg2) _⟩
  ·have q0:((bw S (bw S q s.size).2 4).1==0)=false:=by simpa using m0
   by_cases m1:(bw S (bw S q s.size).2 4).1=1
   ·have HS:Hid (zev S q s=(s.extract 0 k++strOfNums [(cb S (bw S (bw S q s.size).2 4).2).1]++s.extract k s.size,(cb S (bw S (bw S q s.size).2 4).2).2)):=zblf h0 hk m1
    have q1:((bw S (bw S q s.size).2 4).1==1)=true:=by simpa using m1
    have hcb:=znj S (bw S (bw S q s.size).2 4).2
    have e3:IntKind.u8.wrap (cb S (bw S (bw S q s.size).2 4).2).1=(cb S (bw S (bw S q s.size).2 4).2).1:=IntWalk.u8_in _ hcb
    have z4:(s.extract 0 k++strOfNums [(cb S (bw S (bw S q s.size).2 4).2).1]).size≤100001:=by rw[ByteArray.size_append,strOfNums_size];simp;omega
    clear hk m0 m1 h0
    go_enter Tryz.func106,Tryz.ntmps106
    go_wp2_with fail
    refine (zbf S hS g q s.size _ hc (by omega)).mono ?_
    rintro e w1 ⟨rfl,hc1,hg1⟩
    rw[HK.out]
    go_wp2_with fail
    refine (zbf S hS g _ 4 _ hc1 (by omega)).mono ?_
    rintro e w2 ⟨rfl,hc2,hg2⟩
    go_wp2
    have hcd:CurW 152 S w2.drew g (bw S (bw S q s.size).2 4).2:=zdy hc2 fun _ _=>rfl
    have hgd:w.grownBy w2.drew (some g):=zhj (zk hg1 hg2) 1
    have hgs:=zhi hcd
    go_region_law (go_simp;go_wp2_with (go_at_call 176;refine (zfr S hS g _ _ hcd).mono ?_;rintro e w3 ⟨rfl,hc3,hg3⟩))
    all_goals
     go_wp2
     go_ret
     refine⟨zcd (by rw[HS.out]),?_,zex (zk hgd hg3) ((Below.refl w3.heap.size w3).alloc (Nat.le_refl _) _) (Nat.le_trans hgd.size hg3.size)⟩
     rw[HS.out]
     exact zew hc3 ((Below.refl w3.heap.size w3).alloc (Nat.le_refl _) _) (Nat.lt_of_lt_of_le hgs hg3.size)
   ·have q1:((bw S (bw S q s.size).2 4).1==1)=false:=by simpa using m1
    by_cases m2:(bw S (bw S q s.size).2 4).1=2
    ·have HS:Hid (zev S q s=(s.extract 0 k,(bw S (bw S q s.size).2 4).2)):=zblg h0 hk m2
     have q2:((bw S (bw S q s.size).2 4).1==2)=true:=by simpa using m2
     clear hk m0 m1 m2 h0
     go_enter Tryz.func106,Tryz.ntmps106
     go_wp2_with fail
     refine (zbf S hS g q s.size _ hc (by omega)).mono ?_
     rintro e w1 ⟨rfl,hc1,hg1⟩
     rw[HK.out]
     go_wp2_with fail
     refine (zbf S hS g _ 4 _ hc1 (by omega)).mono ?_
     rintro e w2 ⟨rfl,hc2,hg2⟩
     go_wp2
     go_ret
     exact⟨zcd (by rw[HS.out]),by rw[HS.out];exact hc2,zk hg1 hg2⟩
    ·have q2:((bw S (bw S q s.size).2 4).1==2)=false:=by simpa using m2
     have HS:Hid (zev S q s=(s.extract 0 k++strOfNums [IntKind.u8.wrap (bits .xor .i64 (bt s k) (1+(bw S (bw S (bw S q s.size).2 4).2 255).1))]++s.extract (k+1) s.size,(bw S (bw S (bw S q s.size).2 4).2 255).2)):=zblh h0 hk m0 m1 m2
     have hcb:=zeu S (bw S (bw S q s.size).2 4).2 255 (by omega)
     have e3:IntKind.i64.wrap (1+(bw S (bw S (bw S q s.size).2 4).2 255).1)=1+(bw S (bw S (bw S q s.size).2 4).2 255).1:=IntWalk.i64_in _ ⟨by omega,by omega⟩
     have z4:(s.extract 0 k++strOfNums [IntKind.u8.wrap (bits .xor .i64 (bt s k) (1+(bw S (bw S (bw S q s.size).2 4).2 255).1))]).size≤100001:=by rw[ByteArray.size_append,strOfNums_size];simp;omega
     clear hk m0 m1 m2 h0
     go_enter Tryz.func106,Tryz.ntmps106
     go_wp2_with fail
     refine (zbf S hS g q s.size _ hc (by omega)).mono ?_
     rintro e w1 ⟨rfl,hc1,hg1⟩
     rw[HK.out]
     go_wp2_with fail
     refine (zbf S hS g _ 4 _ hc1 (by omega)).mono ?_
     rintro e w2 ⟨rfl,hc2,hg2⟩
     go_wp2
     have hcd:CurW 152 S w2.drew g (bw S (bw S q s.size).2 4).2:=zdy hc2 fun _ _=>rfl
     have hgd:w.grownBy w2.drew (some g):=zhj (zk hg1 hg2) 1
     have hgs:=zhi hcd
     go_region_law (go_simp;go_wp2_with (go_at_call 103;refine (zbf S hS g _ 255 _ hcd (by omega)).mono ?_;rintro e w3 ⟨rfl,hc3,hg3⟩))
     all_goals
      go_wp2
      go_ret
      refine⟨zcd (by rw[HS.out]),?_,zex (zk hgd hg3) ((Below.refl w3.heap.size w3).alloc (Nat.le_refl _) _) (Nat.le_trans hgd.size hg3.size)⟩
      rw[HS.out]
      exact zew hc3 ((Below.refl w3.heap.size w3).alloc (Nat.le_refl _) _) (Nat.lt_of_lt_of_le hgs hg3.size)
theorem zbih (S:Src) (q:Nat×Int) (s:ByteArray):(zev S q s).1.size≤s.size+4:=by
 have h3:=zbnk S q 3 (by omega)
 unfold zev
 split
 ·simp only[strOfNums_size];omega
 ·split
  ·simp only[ByteArray.size_append,ByteArray.size_extract];omega
  ·split
   ·simp only[ByteArray.size_append,ByteArray.size_extract,strOfNums_size,List.length_cons,List.length_nil];omega
   ·split
    ·simp only[ByteArray.size_extract];omega
    ·simp only[ByteArray.size_append,ByteArray.size_extract,strOfNums_size,List.length_cons,List.length_nil];omega
theorem zzr (S:Src) (hS:S.len≤9223372036854775807) (most:Int) (h0:2≤most) (h1:most≤1000) (w:World):
  Calls Tryz.prog 57 #[.slice S.a S.len S.cap,.int .i64 most] w fun e w'=>(∃r:Nat,e= .returned (.int .i64 (r:Int))∧(r:Int)≤most)∧w'=w:=by
 go_enter Tryz.func57,Tryz.ntmps57
 by_cases h:most<2+(S.len:Int)/20
 ·go_wp2
  go_ret
  exact⟨⟨most.toNat,by rw[Int.toNat_of_nonneg (by omega)];rfl,by omega⟩,rfl⟩
 ·go_wp2
  go_ret
  exact⟨⟨(2+(S.len:Int)/20).toNat,by rw[Int.toNat_of_nonneg (by omega)];rfl,by omega⟩,rfl⟩
theorem zzs (S:Src) (hS:S.ok) (g:Nat) (most:Nat) (hm:most≤10) (scr:Bool) (q0:Nat×Int) (w0:World) (hc:CurW 152 S w0 g q0):
  Calls Tryz.prog 59 #[.pointer (some ⟨g,0,none⟩),.int .i64 (most:Int),.bool scr] w0 (zif S g 20000 w0):=by
 have HC0:=hidI hc
 have HG0:Hid (w0.grownBy w0 (some g)):=⟨rfl,rfl,rfl,Nat.le_refl _,fun _ _ _=>rfl⟩
 clear hc
 go_enter Tryz.func59,Tryz.ntmps59
 go_wp2_with fail
 refine (zbf S hS g q0 ((most:Int)+1) _ HC0.out (by omega)).mono ?_
 rintro e w1 ⟨rfl,hc,hg⟩
 have hbd:=zeu S q0 ((most:Int)+1) (by omega)
 obtain⟨k1,hk⟩: ∃k:Nat,(bw S q0 ((most:Int)+1)).1=k:=⟨(bw S q0 ((most:Int)+1)).1.toNat,by omega⟩
 obtain⟨q1,hq⟩: ∃q',(bw S q0 ((most:Int)+1)).2=q':=⟨_,rfl⟩
 rw[hk] at hbd ⊢
 rw[hq] at hc
 have HC1:=hidI hc
 have HG1:=hidI (zk HG0.out hg)
 have kb:k1≤10:=by omega
 clear hc hg hbd hk hq
 go_wp2
 go_loopg [7,8] k1 (fun k sv nv wr=>∃(x:ByteArray) (q:Nat×Int),nv= .int .i64 (k:Int)∧sv= .string x∧k≤10∧x.size+1501*k≤15010∧CurW 152 S wr g q∧w0.grownBy wr (some g))
 case atStart=>exact⟨_,q1,rfl,rfl,kb,by have:({data:=#[]}:ByteArray).size=0:=rfl;omega,HC1.out,HG1.out⟩
 case round=>
  obtain⟨x,q,rfl,rfl,hk,hx,hcr,hgr⟩:=hrel
  clear HC1 HG1
  have HC1:=hidI hcr
  have HG1:=hidI hgr
  clear hcr hgr
  by_cases hpos:0<gk
  ·have hpi:0<(gk:Int):=by omega
   go_wp2_with fail
   refine (zzp S hS g scr q _ HC1.out).mono ?_
   rintro e w2 ⟨x2,q2,rfl,z2,hc,hg⟩
   have HC2:=hidI hc
   have HG2:=hidI (zk HG1.out hg)
   clear hc hg
   have hz:(x++x2++({data:=#[10]}:ByteArray)).size=x.size+x2.size+1:=by rw[ByteArray.size_append,ByteArray.size_append];rfl
   have hz1:(x++x2).size=x.size+x2.size:=ByteArray.size_append
   have ek:(gk:Int)-1=((gk-1:Nat):Int):=by omega
   go_wp2
   go_roundg (gk-1)
   case rel=>exact⟨_,q2,rfl,rfl,by omega,by omega,HC2.out,HG2.out⟩
   case measure=>omega
  ·have hpi: ¬0<(gk:Int):=by omega
   go_wp2_with fail
   refine (zey S hS g _ 6 _ HC1.out (by omega)).mono ?_
   rintro e w2 ⟨rfl,hc,hg⟩
   obtain⟨q2,hq⟩: ∃q',(bw S q 6).2=q':=⟨_,rfl⟩
   rw[hq] at hc
   have HC2:=hidI hc
   have HG2:=hidI (zk HG1.out hg)
   clear hc hg hq
   generalize ((bw S q 6).1==0)=b
   cases b with
   |true=>
    go_wp2_with fail
    refine (zzq S hS g q2 x _ HC2.out (by omega)).mono ?_
    rintro e w3 ⟨rfl,hc,hg⟩
    have hs:=zbih S q2 x
    have HC3:=hidI hc
    have HG3:=hidI (zk HG2.out hg)
    clear hc hg
    generalize zev S q2 x=y at*
    go_wp2
    go_ret
    exact⟨y.1,y.2,rfl,by omega,HC3.out,HG3.out⟩
   |false=>
    go_wp2_with fail
    refine (zey S hS g _ 15 _ HC2.out (by omega)).mono ?_
    rintro e w3 ⟨rfl,hc,hg⟩
    obtain⟨q3,hq⟩: ∃q',(bw S q2 15).2=q':=⟨_,rfl⟩
    rw[hq] at hc
    have HC3:=hidI hc
    have HG3:=hidI (zk HG2.out hg)
    clear hc hg hq
    generalize ((bw S q2 15).1==0)=b
    cases b with
    |true=>
     go_wp2_with fail
     refine (zde S hS g _ 100 [{data:=#[105,109,112,111,114,116,32,100,101,102,97,117,108,116,32,102,114,111,109,32,34,120,34,59]},{data:=#[101,120,112,111,114,116,32,123,32,100,101,102,97,117,108,116,32,125,59]},{data:=#[105,109,112,111,114,116,32,123,32,100,101,102,97,117,108,116,32,125,32,102,114,111,109,32,34,120,34,59]},{data:=#[108,101,116,32,108,101,116,32,61,32,49,59]},{data:=#[112,114,105,110,116,40,49,59]},{data:=#[97,32,61,32,59]},{data:=#[101,120,112,111,114,116]},{data:=#[102,97,105,108,32,49,59]},{data:=#[108,101,116,32,117,110,100,101,102,32,61,32,49,59]},{data:=#[105,109,112,111,114,116,32,123,32,97,32,97,115,32,100,101,102,97,117,108,116,32,125,32,102,114,111,109,32,34,120,34,59]},{data:=#[112,114,105,110,116,40,40,40,40,40,40,40,40,40,40,40,40,40,40,40,40,40,40,40,40,40,40,49,41,41,41,41,41,41,41,41,41,41,41,41,41,41,41,41,41,41,41,41,41,41,59]}] _ HC3.out (by simp) (by simp) (by intro x hx;simp only[List.mem_cons,List.not_mem_nil,or_false] at hx;rcases hx with rfl|rfl|rfl|rfl|rfl|rfl|rfl|rfl|rfl|rfl|rfl<;>decide)).mono ?_
     rintro e w4 ⟨x4,q4,rfl,z4,hc,hg⟩
     have HC4:=hidI hc
     have HG4:=hidI (zk HG3.out hg)
     clear hc hg
     have hz:(x++x4).size=x.size+x4.size:=ByteArray.size_append
     go_wp2
     go_ret
     exact⟨_,q4,rfl,by omega,HC4.out,HG4.out⟩
    |false=>
     go_wp2
     go_ret
     exact⟨x,q3,rfl,by omega,HC3.out,HG3.out⟩
def OkEp (N:Nat) (x:Ep):Prop:=x.name.size≤N∧x.loc.size≤N∧x.spec.size≤N
def OkEx (N:Nat) (x:Ex):Prop:=x.name.size≤N∧x.field.size≤N∧0≤x.num∧x.num≤1000000
/-- Nothing of it is long. -/
structure BS (N:Nat) (q:PS):Prop where
 rq: ∀x∈q.rq,x.size≤N
 im: ∀x∈q.im,x.spec.size≤N∧x.first.size≤N∧x.loc.size≤N
 ep: ∀x∈q.ep,OkEp N x
 la: ∀x∈q.la,OkEp N x
 st: ∀x∈q.st,x.name.size≤N
 ex: ∀x∈q.ex,OkEx N x
def BT (N:Nat) (ts:List Tk):Prop:=∀t∈ts,t.text.size≤N∧0≤t.num∧t.num≤1000000
theorem zbnz {s:ByteArray} {scr:Bool} {a e:Nat} {t:Tk} (h:Tok s scr a t e):t.text.size≤s.size∧0≤t.num∧t.num≤1000000:=by
 cases h with
 |name _ _=>exact⟨by simp only[ByteArray.size_extract];omega,by simp,by simp⟩
 |num h he=>
  refine⟨Nat.zero_le _,?_,he.2.2.2.2.1⟩
  have:=zoo (s:=s) (a:=a) 0 (e-a) (fun j hj=>by
   have:=he.1.2.2.1 (a+j) (by omega) (by omega)
   rw[zfo] at this
   exact this.1) (Nat.zero_le _)
  rw[he.2.2.2.1]
  exact this.2
 |str _ _=>exact⟨by simp only[ByteArray.size_extract];omega,by simp,by simp⟩
 |sign _=>exact⟨by simp only[ByteArray.size_extract];omega,by simp,by simp⟩
theorem zbou {s:ByteArray} {scr:Bool} {a n:Nat} {r:Except Nat (List Tk)} (h:Lx s scr a n r): ∀ts,r= .ok ts→BT s.size ts:=by
 induction h with
 |done=>intro ts k;cases k;intro t ht;cases ht
 |bad _ _=>intro ts k;cases k
 | @tok a n e b t r h hn ht hs hr ih=>
  intro ts k
  cases r with
  |error p=>cases k
  |ok l=>
   cases k
   intro u hu
   rcases List.mem_cons.1 hu with rfl|hu
   ·exact zbnz ht
   ·exact ih l rfl u hu
theorem zsb {N:Nat} {C:Cx} (hC:BT N C.ts) (i:Nat):(zd C i).text.size≤N∧0≤(zd C i).num∧(zd C i).num≤1000000:=by
 by_cases hi:i<C.ts.length
 ·have e:zd C i=C.ts[i]:=by simp[zd,List.getD,List.getElem?_eq_getElem hi]
  rw[e]
  exact hC _ (List.getElem_mem hi)
 ·rw[zgg (by omega)]
  exact⟨Nat.zero_le _,by simp,by simp⟩
theorem zhp {N:Nat} {q:PS} (h:BS N q):BS N (adv q):=⟨h.rq,h.im,h.ep,h.la,h.st,h.ex⟩
theorem zbu {N:Nat} {C:Cx} {k:Int} {x:ByteArray} {q q':PS} (h:tokP C k x q= .ok q') (hq:BS N q):BS N q':=by
 obtain⟨rfl,_⟩:=zea h
 exact zhp hq
theorem zhc {N:Nat} {C:Cx} (hC:BT N C.ts) {o:Bool} {q:PS} {y:PS×ByteArray} (h:zn C o q= .ok y) (hq:BS N q):BS N y.1∧y.2.size≤N:=by
 obtain⟨rfl,_⟩:=zcv h
 exact⟨zhp hq,(zsb hC _).1⟩
theorem ziq {N:Nat} {C:Cx} {x:Ex} {q q':PS} (h:zbs C x q= .ok q') (hq:BS N q) (hx:OkEx N x):BS N q':=by
 obtain⟨rfl,_⟩:=zdk h
 refine⟨hq.rq,hq.im,hq.ep,hq.la,hq.st,fun y hy=>?_⟩
 rcases List.mem_append.1 hy with hy|hy
 ·exact hq.ex y hy
 ·rw[List.mem_singleton] at hy
  rw[hy]
  exact hx
theorem zll {N:Nat} {k l r:Int} {n f:ByteArray} (hn:n.size≤N) (hf:f.size≤N):OkEx N ⟨k,0,n,f,l,r⟩:=⟨hn,hf,Int.le_refl _,by simp⟩
theorem zww {N:Nat} {C:Cx} {n:ByteArray} {q q':PS} (h:zfi C n q= .ok q') (hq:BS N q) (hn:n.size≤N):BS N q':=by
 unfold zfi at h
 split at h
 ·obtain⟨a,h1,h2⟩:=zc h
  obtain⟨b,h3,h4⟩:=zc h1
  exact ziq h2 (zbu h4 (zbu h3 hq)) (zll hn (Nat.zero_le _))
 ·exact ziq h hq (zll hn (Nat.zero_le _))
theorem zbli {N:Nat} {C:Cx} {n f:ByteArray} {q q':PS} (h:memP C n f q= .ok q') (hq:BS N q) (hn:n.size≤N) (hf:f.size≤N):BS N q':=by
 unfold memP at h
 split at h
 ·obtain⟨a,h1,h2⟩:=zc h
  obtain⟨b,h3,h4⟩:=zc h1
  exact ziq h2 (zbu h4 (zbu h3 hq)) (zll hn hf)
 ·exact ziq h hq (zll hn hf)
theorem zbov {N:Nat} {C:Cx} (hC:BT N C.ts) (hN:8≤N) (f:Nat): ∀(nt:NT) (d:Nat) (q q':PS),ev C f nt d q= .ok q'→BS N q→BS N q':=by
 induction f with
 |zero=>intro nt d q q' h;cases nt<;>cases h
 |succ f ih=>
  intro nt d q q' h hq
  cases nt with
  |sum=>
   rw[ev] at h
   obtain⟨a,h1,h2⟩:=zc h
   exact ih _ _ _ _ h2 (ih _ _ _ _ h1 hq)
  |prod=>
   rw[ev] at h
   obtain⟨a,h1,h2⟩:=zc h
   exact ih _ _ _ _ h2 (ih _ _ _ _ h1 hq)
  |sumT=>
   rw[ev] at h
   split at h
   ·obtain⟨a,h1,h2⟩:=zc h
    obtain⟨b,h3,h4⟩:=zc h1
    exact ih _ _ _ _ h2 (ziq h4 (ih _ _ _ _ h3 (zhp hq)) (zll (Nat.zero_le _) (Nat.zero_le _)))
   ·cases h
    exact hq
  |prodT=>
   rw[ev] at h
   split at h
   ·obtain⟨a,h1,h2⟩:=zc h
    obtain⟨b,h3,h4⟩:=zc h1
    exact ih _ _ _ _ h2 (ziq h4 (ih _ _ _ _ h3 (zhp hq)) (zll (Nat.zero_le _) (Nat.zero_le _)))
   ·cases h
    exact hq
  |part=>
   rw[ev] at h
   split at h
   ·exact ziq h (zhp hq) ⟨Nat.zero_le _,Nat.zero_le _,(zsb hC _).2⟩
   ·split at h
    ·split at h
     ·cases h
     ·obtain⟨a,h1,h2⟩:=zc h
      exact zbu h2 (ih _ _ _ _ h1 (zhp hq))
    ·split at h
     ·exact zww h (zhp hq) (Nat.le_trans (show 5≤8 by omega) hN)
     ·obtain⟨a,h1,h2⟩:=zc h
      obtain⟨b1,b2⟩:=zhc hC h1 hq
      split at h2
      ·obtain⟨b,h3,h4⟩:=zc h2
       obtain⟨c1,c2⟩:=zhc hC h3 (zhp b1)
       exact zbli h4 c1 b2 c2
      ·exact zww h2 b1 b2
theorem zps {N:Nat} {C:Cx} (hC:BT N C.ts) (hN:8≤N) {nt:NT} {d:Nat} {q q':PS} (h:pE C nt d q= .ok q') (hq:BS N q):BS N q':=zbov hC hN _ _ _ _ _ h hq
theorem zwx {N:Nat} {C:Cx} (hC:BT N C.ts) {q:PS} {a:PS×ByteArray} (h:zbl C q= .ok a) (hq:BS N q):BS N a.1∧a.2.size≤N:=by
 unfold zbl at h
 split at h
 ·split at h
  ·cases h
   exact⟨zhp hq,(zsb hC _).1⟩
  ·split at h
   ·cases h
   ·cases h
    refine⟨⟨fun x hx=>?_,hq.im,hq.ep,hq.la,hq.st,hq.ex⟩,(zsb hC _).1⟩
    rcases List.mem_append.1 hx with hx|hx
    ·exact hq.rq x hx
    ·rw[List.mem_singleton] at hx
     rw[hx]
     exact (zsb hC _).1
 ·cases h
theorem zjw {N:Nat} {C:Cx} {k:Int} {n:ByteArray} {q q':PS} (h:zbx C k n q= .ok q') (hq:BS N q) (hn:n.size≤N):BS N q':=by
 unfold zbx at h
 split at h
 ·cases h
 ·cases h
  refine⟨hq.rq,hq.im,hq.ep,hq.la,fun x hx=>?_,hq.ex⟩
  rcases List.mem_append.1 hx with hx|hx
  ·exact hq.st x hx
  ·rw[List.mem_singleton] at hx
   rw[hx]
   exact hn
theorem zrc {N:Nat} {C:Cx} {y:Im} {q q':PS} (h:zcm C y q= .ok q') (hq:BS N q) (hy:y.spec.size≤N∧y.first.size≤N∧y.loc.size≤N):BS N q':=by
 unfold zcm at h
 split at h
 ·cases h
 ·cases h
  refine⟨hq.rq,fun x hx=>?_,hq.ep,hq.la,hq.st,hq.ex⟩
  rcases List.mem_append.1 hx with hx|hx
  ·exact hq.im x hx
  ·rw[List.mem_singleton] at hx
   rw[hx]
   exact hy
theorem zhq {α:Type} {P:α→Prop} {l:List α} {y:α} (h: ∀x∈l,P x) (hy:P y): ∀x∈l++[y],P x:=fun x hx=>by
 rcases List.mem_append.1 hx with hx|hx
 ·exact h x hx
 ·rw[List.mem_singleton] at hx
  rw[hx]
  exact hy
theorem zjx {N:Nat} {C:Cx} {y:Ep} {q q':PS} (h:zv C y q= .ok q') (hq:BS N q) (hy:OkEp N y):BS N q':=by
 unfold zv at h
 split at h
 ·cases h
 ·split at h
  ·cases h
   exact⟨hq.rq,hq.im,hq.ep,zhq hq.la hy,hq.st,hq.ex⟩
  ·cases h
   exact⟨hq.rq,hq.im,zhq hq.ep hy,hq.la,hq.st,hq.ex⟩
theorem zbcu {α:Type} {f:α→PS→PR} (l:List α): ∀(x:PR) (q':PS),zbg f l x= .ok q'→∃q,x= .ok q∧True:=by
 induction l with
 |nil=>intro x q' h;exact⟨q',h,trivial⟩
 |cons a l ih=>
  intro x q' h
  obtain⟨b,h1,_⟩:=ih _ _ h
  obtain⟨c,h3,_⟩:=zc h1
  exact⟨c,h3,trivial⟩
theorem zow {α:Type} {N:Nat} {f:α→PS→PR} (l:List α) (hf: ∀a∈l,∀q q',f a q= .ok q'→BS N q→BS N q'): ∀(q q':PS),zbg f l (.ok q)= .ok q'→BS N q→BS N q':=by
 induction l with
 |nil=>intro q q' h hq;cases h;exact hq
 |cons a l ih=>
  intro q q' h hq
  have h':zbg f l (f a q)= .ok q':=h
  cases hfa:f a q with
  |error e=>
   rw[hfa] at h'
   obtain⟨c,h1,_⟩:=zbcu l _ _ h'
   cases h1
  |ok b=>
   rw[hfa] at h'
   exact ih (fun x hx=>hf x (List.mem_cons_of_mem _ hx)) b q' h' (hf a (List.mem_cons_self ..) q b hfa hq)
theorem zboa {N:Nat} {C:Cx} (hC:BT N C.ts) {exp:Bool} {a b:PS×ByteArray} (h:asP C exp a= .ok b) (hq:BS N a.1) (ha:a.2.size≤N):BS N b.1∧b.2.size≤N:=by
 unfold asP at h
 split at h
 ·exact zhc hC h (zhp hq)
 ·split at h
  ·cases h
  ·cases h
   exact⟨hq,ha⟩
theorem zbii {N:Nat} {C:Cx} (hC:BT N C.ts) {exp:Bool} (f:Nat): ∀(q:PS) (acc:List Ep) (a:PS×List Ep),zjd C exp f q acc= .ok a→BS N q→(∀x∈acc,OkEp N x)→BS N a.1∧∀x∈a.2,OkEp N x:=by
 induction f with
 |zero=>intro q acc a h;cases h
 |succ f ih=>
  intro q acc a h hq hacc
  rw[zjd] at h
  obtain⟨b,h1,h2⟩:=zc h
  obtain⟨c,h3,h4⟩:=zc h2
  obtain⟨b1,b2⟩:=zhc hC h1 hq
  obtain⟨c1,c2⟩:=zboa hC h3 b1 b2
  have hm: ∀x∈acc++[(⟨0,c.2,b.2,sNone⟩:Ep)],OkEp N x:=zhq hacc ⟨c2,b2,Nat.zero_le _⟩
  split at h4
  ·exact ih _ _ _ h4 (zhp c1) hm
  ·obtain⟨d,h5,h6⟩:=zc h4
   cases h6
   exact⟨zbu h5 c1,hm⟩
theorem zwy {N:Nat} {C:Cx} (hC:BT N C.ts) {exp:Bool} {q:PS} {a:PS×List Ep} (h:zje C exp q= .ok a) (hq:BS N q):BS N a.1∧∀x∈a.2,OkEp N x:=by
 obtain⟨b,h1,h2⟩:=zc h
 exact zbii hC _ _ _ _ h2 (zbu h1 hq) fun x hx=>by cases hx
theorem zmz {N:Nat} {C:Cx} (hC:BT N C.ts) {x:PR} {b:PS×ByteArray} (h:zel C (zdj C x)= .ok b): ∃q,x= .ok q∧(BS N q→BS N b.1∧b.2.size≤N):=by
 obtain⟨a,h1,h2⟩:=zc h
 obtain⟨c,h3,h4⟩:=zc h2
 obtain⟨d,h5,h6⟩:=zc h1
 obtain⟨e,h7,h8⟩:=zc h5
 cases h4
 refine⟨e,h7,fun hq=>?_⟩
 obtain⟨k1,k2⟩:=zwx hC h6 (zbu h8 hq)
 exact⟨zbu h3 k1,k2⟩
theorem zbcv {N:Nat} {C:Cx} (hC:BT N C.ts) (hN:8≤N) {q q':PS} (h:zcw C q= .ok q') (hq:BS N q):BS N q':=by
 obtain⟨q1,h1,h2⟩:=zc h
 have e1:=zbu h1 hq
 split at h2
 ·obtain⟨a,h3,h4⟩:=zc h2
  obtain⟨b,h5,h6⟩:=zc h4
  obtain⟨l1,l2⟩:=zwy hC h3 e1
  obtain⟨d,h9,h10⟩:=zmz hC h5
  cases h9
  obtain⟨k1,k2⟩:=h10 l1
  exact zow _ (fun x hx p p' hp hb=>zrc hp hb ⟨k2,(l2 x hx).2.1,(l2 x hx).1⟩) _ _ h6 k1
 ·split at h2
  ·obtain⟨a,h3,h4⟩:=zc h2
   obtain⟨b,h5,h6⟩:=zc h4
   obtain⟨c,h7,h8⟩:=zc h3
   obtain⟨d,h9,h10⟩:=zc h7
   obtain⟨n1,n2⟩:=zhc hC h8 (zbu h10 (zbu h9 e1))
   obtain⟨f,h11,h12⟩:=zmz hC h5
   cases h11
   obtain⟨k1,k2⟩:=h12 n1
   exact zrc h6 k1 ⟨k2,Nat.le_trans (show 1≤8 by omega) hN,n2⟩
  ·split at h2
   ·obtain⟨a,h3,h4⟩:=zc h2
    obtain⟨b,h5,h6⟩:=zc h4
    obtain⟨n1,n2⟩:=zhc hC h3 e1
    obtain⟨f,h11,h12⟩:=zmz hC h5
    cases h11
    obtain⟨k1,k2⟩:=h12 n1
    exact zrc h6 k1 ⟨k2,Nat.le_trans (show 7≤8 by omega) hN,n2⟩
   ·obtain⟨a,h3,h4⟩:=zc h2
    exact zbu h4 (zwx hC h3 e1).1
theorem zbbg {N:Nat} {C:Cx} (hC:BT N C.ts) (hN:8≤N) {q:PS} {a:PS×ByteArray} (h:letP C q= .ok a) (hq:BS N q):BS N a.1∧a.2.size≤N:=by
 obtain⟨b,h1,h2⟩:=zc h
 obtain⟨z,h1b,h2b⟩:=zc h2
 cases h2b
 obtain⟨c,h3,h4⟩:=zc h1
 obtain⟨d,h5,h6⟩:=zc h1b
 obtain⟨f,h7,h8⟩:=zc h5
 obtain⟨g,h9,h10⟩:=zc h7
 obtain⟨n1,n2⟩:=zhc hC h4 (zbu h3 hq)
 exact⟨zjw h6 (zbu h8 (zps hC hN h10 (zbu (show tokP C 4 cEq b.1= .ok g from h9) n1))) n2,n2⟩
theorem zbfp {N:Nat} {C:Cx} (hC:BT N C.ts) (hN:8≤N) {q:PS} {a:PS×ByteArray} (h:fnP C q= .ok a) (hq:BS N q):BS N a.1∧a.2.size≤N:=by
 obtain⟨b,h1,h2⟩:=zc h
 obtain⟨z,h1b,h2b⟩:=zc h2
 cases h2b
 obtain⟨c,h3,h4⟩:=zc h1
 obtain⟨d,h5,h6⟩:=zc h1b
 obtain⟨f,h7,h8⟩:=zc h5
 obtain⟨g,h9,h10⟩:=zc h7
 obtain⟨i,h11,h12⟩:=zc h9
 obtain⟨j,h13,h14⟩:=zc h11
 obtain⟨k,h15,h16⟩:=zc h13
 obtain⟨l,h17,h18⟩:=zc h15
 obtain⟨n1,n2⟩:=zhc hC h4 (zbu h3 hq)
 exact⟨zjw h6 (zbu h8 (zbu h10 (zps hC hN h12 (zbu h14 (zbu h16 (zbu h18 (zbu (show tokP C 4 zt b.1= .ok l from h17) n1))))))) n2,n2⟩
theorem zbcw {N:Nat} {C:Cx} (hC:BT N C.ts) (hN:8≤N) {q q':PS} (h:zbm C q= .ok q') (hq:BS N q):BS N q':=by
 obtain⟨q1,h1,h2⟩:=zc h
 have e1:=zbu h1 hq
 split at h2
 ·obtain⟨a,h3,h4⟩:=zc h2
  obtain⟨l1,l2⟩:=zwy hC h3 e1
  split at h4
  ·obtain⟨b,h5,h6⟩:=zc h4
   exact zow (f:=fun e=>zv C (zw e)) _ (fun x hx p p' hp hb=>zjx (y:=zw x) hp hb ⟨(l2 x hx).1,(l2 x hx).2.1,Nat.zero_le _⟩) _ _ h6 (zbu h5 l1)
  ·obtain⟨b,h5,h6⟩:=zc h4
   obtain⟨d,h9,h10⟩:=zmz hC h5
   cases h9
   obtain⟨k1,k2⟩:=h10 l1
   exact zow (f:=fun e=>zv C (zbq b.2 e)) _ (fun x hx p p' hp hb=>zjx (y:=zbq b.2 x) hp hb ⟨(l2 x hx).1,(l2 x hx).2.1,k2⟩) _ _ h6 k1
 ·split at h2
  ·obtain⟨b,h5,h6⟩:=zc h2
   obtain⟨d,h9,h10⟩:=zmz hC h5
   obtain⟨k1,k2⟩:=h10 (zbu h9 e1)
   exact zjx h6 k1 ⟨Nat.zero_le _,Nat.zero_le _,k2⟩
  ·split at h2
   ·obtain⟨a,h3,h4⟩:=zc h2
    obtain⟨b,h5,h6⟩:=zc h3
    obtain⟨c,h7,h8⟩:=zc h5
    obtain⟨d,h9,h10⟩:=zc h7
    exact zjx h4 (zjw h6 (zbu h8 (zps hC hN h10 (zbu h9 e1))) hN) ⟨Nat.le_trans (show 7≤8 by omega) hN,hN,Nat.zero_le _⟩
   ·split at h2
    ·obtain⟨a,h3,h4⟩:=zc h2
     obtain⟨k1,k2⟩:=zbbg hC hN h3 e1
     exact zjx h4 k1 ⟨k2,k2,Nat.zero_le _⟩
    ·split at h2
     ·obtain⟨a,h3,h4⟩:=zc h2
      obtain⟨k1,k2⟩:=zbfp hC hN h3 e1
      exact zjx h4 k1 ⟨k2,k2,Nat.zero_le _⟩
     ·cases h2
theorem zbbh {N:Nat} {C:Cx} (hC:BT N C.ts) (hN:8≤N) {s:ByteArray} {k:Int} {q q':PS} (h:bd (bd (bd (tokP C 1 s q) (pE C .sum 0)) (tokP C 4 cSemi)) (zbx C k sNone)= .ok q') (hq:BS N q):BS N q':=by
 obtain⟨a,h1,h2⟩:=zc h
 obtain⟨b,h3,h4⟩:=zc h1
 obtain⟨c,h5,h6⟩:=zc h3
 exact zjw h2 (zbu h4 (zps hC hN h6 (zbu h5 hq))) (Nat.zero_le _)
theorem zbij {N:Nat} {C:Cx} (hC:BT N C.ts) (hN:8≤N) {q q':PS} (h:zbd C q= .ok q') (hq:BS N q):BS N q':=by
 unfold zbd at h
 split at h
 ·exact zbcv hC hN h hq
 ·split at h
  ·exact zbcw hC hN h hq
  ·split at h
   ·obtain⟨a,h1,h2⟩:=zc h
    cases h2
    exact (zbbg hC hN h1 hq).1
   ·split at h
    ·obtain⟨a,h1,h2⟩:=zc h
     cases h2
     exact (zbfp hC hN h1 hq).1
    ·split at h
     ·obtain⟨a,h1,h2⟩:=zc h
      obtain⟨b,h3,h4⟩:=zc h1
      obtain⟨c,h5,h6⟩:=zc h3
      obtain⟨d,h7,h8⟩:=zc h5
      obtain⟨e,h9,h10⟩:=zc h7
      exact zjw h2 (zbu h4 (zbu h6 (zps hC hN h8 (zbu h10 (zbu h9 hq))))) (Nat.zero_le _)
     ·split at h
      ·exact zbbh hC hN h hq
      ·split at h
       ·exact zbbh hC hN h hq
       ·obtain⟨a,h1,h2⟩:=zc h
        obtain⟨b,h3,h4⟩:=zc h2
        obtain⟨c,h5,h6⟩:=zc h3
        obtain⟨d,h7,h8⟩:=zc h5
        obtain⟨n1,n2⟩:=zhc hC h1 hq
        exact zjw h4 (zbu h6 (zps hC hN h8 (zbu h7 n1))) n2
theorem zbfq {N:Nat} {C:Cx} (hC:BT N C.ts) (hN:8≤N) (f:Nat): ∀(q q':PS),zho C f q= .ok q'→BS N q→BS N q':=by
 induction f with
 |zero=>intro q q' h;cases h
 |succ f ih=>
  intro q q' h hq
  rw[zho] at h
  split at h
  ·obtain⟨a,h1,h2⟩:=zc h
   exact ih _ _ h2 (zbij hC hN h1 hq)
  ·cases h
   exact hq
/-- What was read is not long. -/
theorem zbik {s:ByteArray} {scr:Bool} {q:PS} {N:Nat} (h:zfq s scr (.ok q)) (hs:s.size≤N) (hN:8≤N):BS N q:=by
 obtain⟨r,⟨a,_,hl⟩,e⟩:=h
 cases r with
 |error p=>cases e
 |ok ts=>
  refine zbfq (C:=⟨ts,s.size,scr⟩) (fun t ht=>?_) hN _ _ _ e.symm ⟨?_,?_,?_,?_,?_,?_⟩
  ·have:=zbou hl ts rfl t ht
   exact⟨Nat.le_trans this.1 hs,this.2⟩
  all_goals (intro x hx;cases hx)
abbrev dN:List UInt8:=[42,100,101,102,97,117,108,116]
/-- A statement of DefaultName is a let. -/
def zfl (st:List Sm):Prop:=∀s∈st,s.name.toList=dN→s.kind=1
/-- No word among the tokens is DefaultName. -/
def znp (ts:List Tk):Prop:=∀t∈ts,t.kind=1→t.text.toList≠dN
theorem zbil {s:ByteArray} {scr:Bool} {a e:Nat} {t:Tk} (ha:a<s.size) (h:Tok s scr a t e):t.kind=1→t.text.toList≠dN:=by
 have he:=(zlh ha h).1
 have he2:=(zlh ha h).2.1
 cases h with
 |name h1 _=>
  intro _ k
  have k0:bt (s.extract a e) 0=42:=by
   rw[zit,←Lib.toList_data,k]
   rfl
  have hx:bt (s.extract a e) 0=bt s a:=by
   rw[zit,zit,ByteArray.data_extract]
   simp only[List.getD,List.getElem?_map,Array.getElem?_toList,Array.getElem?_extract]
   rw[if_pos (by have:s.data.size=s.size:=rfl;omega),Nat.add_zero]
  rw[←hx,k0] at h1
  cases scr<;>revert h1<;>decide
 |num _ _=>intro k;cases k
 |str _ _=>intro k;cases k
 |sign _=>intro k;cases k
theorem zblj {s:ByteArray} {scr:Bool} {a n:Nat} {r:Except Nat (List Tk)} (h:Lx s scr a n r): ∀ts,r= .ok ts→znp ts:=by
 induction h with
 |done=>intro ts k;cases k;intro t ht;cases ht
 |bad _ _=>intro ts k;cases k
 | @tok a n e b t r h hn ht hs hr ih=>
  intro ts k
  cases r with
  |error p=>cases k
  |ok l=>
   cases k
   intro u hu
   rcases List.mem_cons.1 hu with rfl|hu
   ·exact zbil h ht
   ·exact ih l rfl u hu
theorem zbcx {C:Cx} (hC:znp C.ts) {i:Nat} {o:Bool} (h:zba C i o=true):(zd C i).text.toList≠dN:=by
 have hi:=zlm h
 have e:zd C i=C.ts[i]:=by simp[zd,List.getD,List.getElem?_eq_getElem hi]
 simp only[zba,Bool.and_eq_true,beq_iff_eq] at h
 rw[e] at h ⊢
 exact hC _ (List.getElem_mem hi) h.1
theorem zsc {C:Cx} (hC:znp C.ts) {o:Bool} {q:PS} {y:PS×ByteArray} (h:zn C o q= .ok y):y.2.toList≠dN∧y.1.st=q.st:=by
 obtain⟨rfl,hp⟩:=zcv h
 exact⟨zbcx hC hp,rfl⟩
theorem zbv {C:Cx} {k:Int} {x:ByteArray} {q q':PS} (h:tokP C k x q= .ok q'):q'.st=q.st:=by
 obtain⟨rfl,_⟩:=zea h
 rfl
theorem zir {C:Cx} {x:Ex} {q q':PS} (h:zbs C x q= .ok q'):q'.st=q.st:=by
 obtain⟨rfl,_⟩:=zdk h
 rfl
theorem zwz {C:Cx} {n:ByteArray} {q q':PS} (h:zfi C n q= .ok q'):q'.st=q.st:=by
 unfold zfi at h
 split at h
 ·obtain⟨a,h1,h2⟩:=zc h
  obtain⟨b,h3,h4⟩:=zc h1
  rw[zir h2,zbv h4,zbv h3]
 ·exact zir h
theorem zblk {C:Cx} {n f:ByteArray} {q q':PS} (h:memP C n f q= .ok q'):q'.st=q.st:=by
 unfold memP at h
 split at h
 ·obtain⟨a,h1,h2⟩:=zc h
  obtain⟨b,h3,h4⟩:=zc h1
  rw[zir h2,zbv h4,zbv h3]
 ·exact zir h
theorem zgk {C:Cx} {o:Bool} {q:PS} {y:PS×ByteArray} (h:zn C o q= .ok y):y.1.st=q.st:=by
 obtain⟨rfl,_⟩:=zcv h
 rfl
theorem zbow {C:Cx} (f:Nat): ∀(nt:NT) (d:Nat) (q q':PS),ev C f nt d q= .ok q'→q'.st=q.st:=by
 induction f with
 |zero=>intro nt d q q' h;cases nt<;>cases h
 |succ f ih=>
  intro nt d q q' h
  cases nt with
  |sum=>
   rw[ev] at h
   obtain⟨a,h1,h2⟩:=zc h
   exact (ih _ _ _ _ h2).trans (ih _ _ _ _ h1)
  |prod=>
   rw[ev] at h
   obtain⟨a,h1,h2⟩:=zc h
   exact (ih _ _ _ _ h2).trans (ih _ _ _ _ h1)
  |sumT=>
   rw[ev] at h
   split at h
   ·obtain⟨a,h1,h2⟩:=zc h
    obtain⟨b,h3,h4⟩:=zc h1
    exact (ih _ _ _ _ h2).trans ((zir h4).trans (show b.st=(adv q).st from ih _ _ _ _ h3))
   ·cases h;rfl
  |prodT=>
   rw[ev] at h
   split at h
   ·obtain⟨a,h1,h2⟩:=zc h
    obtain⟨b,h3,h4⟩:=zc h1
    exact (ih _ _ _ _ h2).trans ((zir h4).trans (show b.st=(adv q).st from ih _ _ _ _ h3))
   ·cases h;rfl
  |part=>
   rw[ev] at h
   split at h
   ·exact (show q'.st=(adv q).st from zir h)
   ·split at h
    ·split at h
     ·cases h
     ·obtain⟨a,h1,h2⟩:=zc h
      exact (zbv h2).trans (show a.st=(adv q).st from ih _ _ _ _ h1)
    ·split at h
     ·exact (show q'.st=(adv q).st from zwz h)
     ·obtain⟨a,h1,h2⟩:=zc h
      split at h2
      ·obtain⟨b,h3,h4⟩:=zc h2
       exact (zblk h4).trans ((show b.1.st=(adv a.1).st from zgk h3).trans (zgk h1))
      ·exact (zwz h2).trans (zgk h1)
theorem zpt {C:Cx} {nt:NT} {d:Nat} {q q':PS} (h:pE C nt d q= .ok q'):q'.st=q.st:=zbow _ _ _ _ _ h
theorem zxa {C:Cx} {q:PS} {a:PS×ByteArray} (h:zbl C q= .ok a):a.1.st=q.st:=by
 unfold zbl at h
 split at h
 ·split at h
  ·cases h;rfl
  ·split at h
   ·cases h
   ·cases h;rfl
 ·cases h
theorem zhy {C:Cx} {k:Int} {n:ByteArray} {q q':PS} (h:zbx C k n q= .ok q') (hq:zfl q.st) (hn:n.toList=dN→k=1):zfl q'.st:=by
 unfold zbx at h
 split at h
 ·cases h
 ·cases h
  intro s hs
  rcases List.mem_append.1 hs with hs|hs
  ·exact hq s hs
  ·rw[List.mem_singleton] at hs
   rw[hs]
   exact hn
theorem zrd {C:Cx} {y:Im} {q q':PS} (h:zcm C y q= .ok q'):q'.st=q.st:=by
 unfold zcm at h
 split at h
 ·cases h
 ·cases h;rfl
theorem zjy {C:Cx} {y:Ep} {q q':PS} (h:zv C y q= .ok q'):q'.st=q.st:=by
 unfold zv at h
 split at h
 ·cases h
 ·split at h
  ·cases h;rfl
  ·cases h;rfl
theorem zox {α:Type} {f:α→PS→PR} (hf: ∀a q q',f a q= .ok q'→q'.st=q.st) (l:List α): ∀(x:PR) (q':PS),zbg f l x= .ok q'→∃q,x= .ok q∧q'.st=q.st:=by
 induction l with
 |nil=>intro x q' h;exact⟨q',h,rfl⟩
 |cons a l ih=>
  intro x q' h
  obtain⟨b,h1,h2⟩:=ih _ _ h
  obtain⟨c,h3,h4⟩:=zc h1
  exact⟨c,h3,h2.trans (hf _ _ _ h4)⟩
theorem zbob {C:Cx} {exp:Bool} {a b:PS×ByteArray} (h:asP C exp a= .ok b):b.1.st=a.1.st:=by
 unfold asP at h
 split at h
 ·exact (show b.1.st=(adv a.1).st from zgk h)
 ·split at h
  ·cases h
  ·cases h;rfl
theorem zbim {C:Cx} {exp:Bool} (f:Nat): ∀(q:PS) (acc:List Ep) (a:PS×List Ep),zjd C exp f q acc= .ok a→a.1.st=q.st:=by
 induction f with
 |zero=>intro q acc a h;cases h
 |succ f ih=>
  intro q acc a h
  rw[zjd] at h
  obtain⟨b,h1,h2⟩:=zc h
  obtain⟨c,h3,h4⟩:=zc h2
  have e1:=zgk h1
  have e2:=zbob h3
  split at h4
  ·exact (ih _ _ _ h4).trans (e2.trans e1)
  ·obtain⟨d,h5,h6⟩:=zc h4
   cases h6
   exact (zbv h5).trans (e2.trans e1)
theorem zxb {C:Cx} {exp:Bool} {q:PS} {a:PS×List Ep} (h:zje C exp q= .ok a):a.1.st=q.st:=by
 obtain⟨b,h1,h2⟩:=zc h
 exact (zbim _ _ _ _ h2).trans (zbv h1)
theorem zna {C:Cx} {x:PR} {b:PS×ByteArray} (h:zel C (zdj C x)= .ok b): ∃q,x= .ok q∧b.1.st=q.st:=by
 obtain⟨a,h1,h2⟩:=zc h
 obtain⟨c,h3,h4⟩:=zc h2
 obtain⟨d,h5,h6⟩:=zc h1
 obtain⟨e,h7,h8⟩:=zc h5
 cases h4
 exact⟨e,h7,(zbv h3).trans ((zxa h6).trans (zbv h8))⟩
theorem zbcy {C:Cx} {q q':PS} (h:zcw C q= .ok q'):q'.st=q.st:=by
 obtain⟨q1,h1,h2⟩:=zc h
 have e1:=zbv h1
 split at h2
 ·obtain⟨a,h3,h4⟩:=zc h2
  obtain⟨b,h5,h6⟩:=zc h4
  obtain⟨d,h9,h10⟩:=zna h5
  obtain⟨f,h11,h12⟩:=zox (fun _ _ _ h=>zrd h) _ _ _ h6
  cases h9
  cases h11
  exact h12.trans (h10.trans ((zxb h3).trans e1))
 ·split at h2
  ·obtain⟨a,h3,h4⟩:=zc h2
   obtain⟨b,h5,h6⟩:=zc h4
   obtain⟨c,h7,h8⟩:=zc h3
   obtain⟨d,h9,h10⟩:=zc h7
   obtain⟨f,h11,h12⟩:=zna h5
   cases h11
   exact (zrd h6).trans (h12.trans ((zgk h8).trans ((zbv h10).trans ((zbv h9).trans e1))))
  ·split at h2
   ·obtain⟨a,h3,h4⟩:=zc h2
    obtain⟨b,h5,h6⟩:=zc h4
    obtain⟨f,h11,h12⟩:=zna h5
    cases h11
    exact (zrd h6).trans (h12.trans ((zgk h3).trans e1))
   ·obtain⟨a,h3,h4⟩:=zc h2
    exact (zbv h4).trans ((zxa h3).trans e1)
theorem zuf {C:Cx} {q:PS} {a:PS×ByteArray} (h:letP C q= .ok a) (hq:zfl q.st):zfl a.1.st:=by
 obtain⟨b,h1,h2⟩:=znm h
 obtain⟨c,h3,h4⟩:=zc h1
 obtain⟨d,h5,h6⟩:=zc h2
 obtain⟨f,h7,h8⟩:=zc h5
 obtain⟨g,h9,h10⟩:=zc h7
 refine zhy h6 ?_ (fun _=>rfl)
 rw[zbv h8,zpt h10,zbv (show tokP C 4 cEq b.1= .ok g from h9),zgk h4,zbv h3]
 exact hq
theorem zxc {C:Cx} (hC:znp C.ts) {q:PS} {a:PS×ByteArray} (h:fnP C q= .ok a) (hq:zfl q.st):zfl a.1.st:=by
 obtain⟨b,h1,h2⟩:=znm h
 obtain⟨c,h3,h4⟩:=zc h1
 obtain⟨d,h5,h6⟩:=zc h2
 obtain⟨f,h7,h8⟩:=zc h5
 obtain⟨g,h9,h10⟩:=zc h7
 obtain⟨i,h11,h12⟩:=zc h9
 obtain⟨j,h13,h14⟩:=zc h11
 obtain⟨k,h15,h16⟩:=zc h13
 obtain⟨l,h17,h18⟩:=zc h15
 refine zhy h6 ?_ (fun hn=>absurd hn (zsc hC h4).1)
 rw[zbv h8,zbv h10,zpt h12,zbv h14,zbv h16,zbv h18,zbv (show tokP C 4 zt b.1= .ok l from h17),zgk h4,zbv h3]
 exact hq
theorem zxd {C:Cx} (hC:znp C.ts) {q q':PS} (h:zbm C q= .ok q') (hq:zfl q.st):zfl q'.st:=by
 obtain⟨q1,h1,h2⟩:=zc h
 have e1:=zbv h1
 rw[←e1] at hq
 split at h2
 ·obtain⟨a,h3,h4⟩:=zc h2
  have e2:=zxb h3
  split at h4
  ·obtain⟨b,h5,h6⟩:=zc h4
   obtain⟨f,h11,h12⟩:=zox (fun _ _ _ h=>zjy h) _ _ _ h6
   have e4:=zbv h5
   cases h11
   rw[h12,e4,e2]
   exact hq
  ·obtain⟨b,h5,h6⟩:=zc h4
   obtain⟨d,h9,h10⟩:=zna h5
   obtain⟨f,h11,h12⟩:=zox (fun _ _ _ h=>zjy h) _ _ _ h6
   cases h9
   cases h11
   rw[h12,h10,e2]
   exact hq
 ·split at h2
  ·obtain⟨b,h5,h6⟩:=zc h2
   obtain⟨d,h9,h10⟩:=zna h5
   rw[zjy h6,h10,zbv h9]
   exact hq
  ·split at h2
   ·obtain⟨a,h3,h4⟩:=zc h2
    obtain⟨b,h5,h6⟩:=zc h3
    obtain⟨c,h7,h8⟩:=zc h5
    obtain⟨d,h9,h10⟩:=zc h7
    rw[zjy h4]
    refine zhy h6 ?_ (fun _=>rfl)
    rw[zbv h8,zpt h10,zbv h9]
    exact hq
   ·split at h2
    ·obtain⟨a,h3,h4⟩:=zc h2
     rw[zjy h4]
     exact zuf h3 hq
    ·split at h2
     ·obtain⟨a,h3,h4⟩:=zc h2
      rw[zjy h4]
      exact zxc hC h3 hq
     ·cases h2
theorem zxe {k:Int} (h:sNone.toList=dN):k=1:=by
 rw[Lib.toList_data] at h
 cases h
theorem zug {C:Cx} {s:ByteArray} {k:Int} {q q':PS} (h:bd (bd (bd (tokP C 1 s q) (pE C .sum 0)) (tokP C 4 cSemi)) (zbx C k sNone)= .ok q') (hq:zfl q.st):zfl q'.st:=by
 obtain⟨a,h1,h2⟩:=zc h
 obtain⟨b,h3,h4⟩:=zc h1
 obtain⟨c,h5,h6⟩:=zc h3
 refine zhy h2 ?_ zxe
 rw[zbv h4,zpt h6,zbv h5]
 exact hq
theorem zbcz {C:Cx} (hC:znp C.ts) {q q':PS} (h:zbd C q= .ok q') (hq:zfl q.st):zfl q'.st:=by
 unfold zbd at h
 split at h
 ·rw[zbcy h];exact hq
 ·split at h
  ·exact zxd hC h hq
  ·split at h
   ·obtain⟨a,h1,h2⟩:=zc h
    cases h2
    exact zuf h1 hq
   ·split at h
    ·obtain⟨a,h1,h2⟩:=zc h
     cases h2
     exact zxc hC h1 hq
    ·split at h
     ·obtain⟨a,h1,h2⟩:=zc h
      obtain⟨b,h3,h4⟩:=zc h1
      obtain⟨c,h5,h6⟩:=zc h3
      obtain⟨d,h7,h8⟩:=zc h5
      obtain⟨e,h9,h10⟩:=zc h7
      refine zhy h2 ?_ zxe
      rw[zbv h4,zbv h6,zpt h8,zbv h10,zbv h9]
      exact hq
     ·split at h
      ·exact zug h hq
      ·split at h
       ·exact zug h hq
       ·obtain⟨a,h1,h2⟩:=zc h
        obtain⟨b,h3,h4⟩:=zc h2
        obtain⟨c,h5,h6⟩:=zc h3
        obtain⟨d,h7,h8⟩:=zc h5
        refine zhy h4 ?_ (fun hn=>absurd hn (zsc hC h1).1)
        rw[zbv h6,zpt h8,zbv h7,zgk h1]
        exact hq
theorem zzt {C:Cx} (hC:znp C.ts) (f:Nat): ∀(q q':PS),zho C f q= .ok q'→zfl q.st→zfl q'.st:=by
 induction f with
 |zero=>intro q q' h;cases h
 |succ f ih=>
  intro q q' h hq
  rw[zho] at h
  split at h
  ·obtain⟨a,h1,h2⟩:=zc h
   exact ih _ _ h2 (zbcz hC h1 hq)
  ·cases h
   exact hq
/-- What was read is fair. -/
theorem zsd {s:ByteArray} {scr:Bool} {q:PS} (h:zfq s scr (.ok q)):zfl q.st:=by
 obtain⟨r,⟨a,_,hl⟩,e⟩:=h
 cases r with
 |error p=>cases e
 |ok ts=>exact zzt (zblj hl ts rfl) _ _ _ e.symm (fun s hs=>by cases hs)
open Go.Sort
/-- A program that was drawn: nothing of it is long. -/
structure Drawn (k:Nat) (m:Md):Prop where
 rq:m.rq.length≤300+k∧∀x∈m.rq,x.size≤20000
 im:m.im.length≤300+k∧∀x∈m.im,x.spec.size≤20000∧x.first.size≤20000∧x.loc.size≤20000
 ep:m.ep.length≤300+k∧∀x∈m.ep,OkEp 20000 x
 st:m.st.length≤300+k∧∀x∈m.st,x.name.size≤20000
 ex:m.ex.length≤300+k∧∀x∈m.ex,OkEx 20000 x
 fair:zfl m.st
theorem OwnR.asideD {w w':World} {b s n b2 s2 n2:Nat} {e e2:TypeId} {r r2:Rw} {xs ys:List Value} (h:OwnR w b e s r n xs) (h2:OwnR w b2 e2 s2 r2 n2 ys) (he:e≠e2) (g:w.grownBy w' r2.blk):OwnR w' b e s r n xs:=
 h.keep fun k hk=>g.block k (h.typed hk).2.1 fun e'=>h.ne h2 he hk e'.symm
/-- The draw's own blocks, its program and the cursor. -/
structure MM (S:Src) (g:Nat) (w0:World) (b6 b7:Nat) (V:Sv) (m:Md) (q:Nat×Int) (W:World):Prop where
 r6:W.heap[b6]? =some (.cells #[.slice none 0 0,.slice none 0 0,.slice none 0 0,.slice none 0 0,.slice none 0 0] 54 (0,0))
 r7:W.heap[b7]? =some (.cells #[.slice V.rq.a m.rq.length V.rq.cap,.slice V.im.a m.im.length V.im.cap,.slice V.ep.a m.ep.length V.ep.cap,.slice V.st.a m.st.length V.st.cap,.slice V.ex.a m.ex.length V.ex.cap] 54 (0,0))
 own:OwnMd W w0.heap.size V m
 cur:CurW 152 S W g q
 gr:w0.grownBy W (some g)
 ge:w0.heap.size≤b6
 lt:b6<b7
 gl:g<w0.heap.size
theorem OwnMd.grown {w w':World} {base g:Nat} {V:Sv} {m:Md} (h:OwnMd w base V m) (hg:g<base) (k:w.grownBy w' (some g)):OwnMd w' base V m:=by
 have one: ∀{e:TypeId} {size n:Nat} {r:Rw} {xs:List Value},OwnR w base e size r n xs→OwnR w' base e size r n xs:=fun h=>h.keep fun j hj=>k.block j (h.typed hj).2.1 (by have:=(h.typed hj).1;simp;omega)
 exact⟨one h.rq,one h.im,one h.ep,one h.st,one h.ex⟩
theorem MM.step {S:Src} {g:Nat} {w0 W W':World} {b6 b7:Nat} {V:Sv} {m:Md} {q q':Nat×Int} (h:MM S g w0 b6 b7 V m q W) (hc:CurW 152 S W' g q') (hg:W.grownBy W' (some g)):MM S g w0 b6 b7 V m q' W':=
 ⟨(hg.block _ (Array.getElem?_eq_some_iff.1 h.r6).1 (by have:=h.ge;have:=h.gl;simp;omega)).trans h.r6,(hg.block _ (Array.getElem?_eq_some_iff.1 h.r7).1 (by have:=h.ge;have:=h.gl;have:=h.lt;simp;omega)).trans h.r7,h.own.grown h.gl hg,hc,zk h.gr hg,h.ge,h.lt,h.gl⟩
theorem MM.alloc {S:Src} {g:Nat} {w0 W:World} {b6 b7:Nat} {V:Sv} {m:Md} {q:Nat×Int} (h:MM S g w0 b6 b7 V m q W) (o:Obj):MM S g w0 b6 b7 V m q (W.alloc o):=h.step (zko h.cur o) (zig W o _)
theorem MM.drew {S:Src} {g:Nat} {w0 W:World} {b6 b7:Nat} {V:Sv} {m:Md} {q:Nat×Int} (h:MM S g w0 b6 b7 V m q W):MM S g w0 b6 b7 V m q W.drew:=h.step (zdy h.cur fun _ _=>rfl) ⟨rfl,rfl,rfl,Nat.le_refl _,fun _ _ _=>rfl⟩
theorem MM.far_rq {S:Src} {g:Nat} {w0 W W':World} {b6 b7:Nat} {V:Sv} {m:Md} {q:Nat×Int} (h:MM S g w0 b6 b7 V m q W) (hg:W.grownBy W' V.rq.blk):W'.heap[b7]? =some (.cells #[.slice V.rq.a m.rq.length V.rq.cap,.slice V.im.a m.im.length V.im.cap,.slice V.ep.a m.ep.length V.ep.cap,.slice V.st.a m.st.length V.st.cap,.slice V.ex.a m.ex.length V.ex.cap] 54 (0,0)):=
 (hg.block b7 (Array.getElem?_eq_some_iff.1 h.r7).1 fun e=>by
  obtain⟨_,_,cur,hc⟩:=h.own.rq.typed e.symm
  rw[h.r7] at hc
  simp only[Option.some.injEq,Obj.cells.injEq] at hc
  exact absurd hc.2.1 (by decide)).trans h.r7
theorem MM.app_rq {S:Src} {g:Nat} {w0 W W':World} {b6 b7:Nat} {V:Sv} {m:Md} {q:Nat×Int} {r':Rw} {x:ByteArray} (h:MM S g w0 b6 b7 V m q W) (hr:OwnR W' w0.heap.size 9 1 r' (m.rq.length+1) (m.rq.map Value.string++[Value.string x])) (hg:W.grownBy W' V.rq.blk):
  MM S g w0 b6 b7 {V with rq:=r'} {m with rq:=m.rq++[x]} q (W'.setCell ⟨b7,0,none⟩ (.slice r'.a (m.rq.length+1) r'.cap)):=by
 have hz:=h.gr.size
 have away: ∀(k:Nat) (cs:Array Value) (t:TypeId),W.heap[k]? =some (.cells cs t (0,0))→t≠9→W'.heap[k]? =W.heap[k]?:=fun k cs t hk ht=>hg.block k (Array.getElem?_eq_some_iff.1 hk).1 fun e=>by
  obtain⟨_,_,cur,hc⟩:=h.own.rq.typed e.symm
  rw[hk] at hc
  simp only[Option.some.injEq,Obj.cells.injEq] at hc
  exact ht hc.2.1
 have h7:=(away _ _ _ h.r7 (by decide)).trans h.r7
 have keep: ∀{e:TypeId} {size n:Nat} {r:Rw} (xs:List Value),OwnR W' w0.heap.size e size r n xs→e≠54→OwnR (W'.setCell ⟨b7,0,none⟩ (.slice r'.a (m.rq.length+1) r'.cap)) w0.heap.size e size r n xs:=fun xs hx he=>hx.keep fun k hk=>zj fun e=>by
  obtain⟨_,_,cur,hc⟩:=hx.typed hk
  rw[e,h7] at hc
  simp only[Option.some.injEq,Obj.cells.injEq] at hc
  exact he hc.2.1.symm
 have hge:=h.ge
 have hlt:=h.lt
 have hgl:=h.gl
 have grow: ∀k,k<w0.heap.size→W'.heap[k]? =W.heap[k]?:=fun k hk=>by
  refine hg.block k (by omega) fun e=>?_
  have:=(h.own.rq.typed e.symm).1
  omega
 refine⟨(zj (by omega)).trans ((away _ _ _ h.r6 (by decide)).trans h.r6),(zdh h7).trans (by simp),⟨(keep _ (by exact (by rw[List.map_append,List.length_append];exact hr)) (by decide)),(keep _ (h.own.im.asideD h.own.rq (by decide) hg) (by decide)),(keep _ (h.own.ep.asideD h.own.rq (by decide) hg) (by decide)),(keep _ (h.own.st.asideD h.own.rq (by decide) hg) (by decide)),(keep _ (h.own.ex.asideD h.own.rq (by decide) hg) (by decide))⟩,?_,?_,h.ge,h.lt,h.gl⟩
 ·exact zdy h.cur fun k hk=>(zj (by omega)).trans (grow k (by omega))
 ·refine⟨hg.os.trans h.gr.os,hg.tape.trans h.gr.tape,hg.output.trans h.gr.output,?_,fun k hk hne=>(zj (by omega)).trans ((grow k hk).trans (h.gr.block k hk hne))⟩
  rw[World.size_setCell]
  exact Nat.le_trans h.gr.size hg.size
theorem MM.far_im {S:Src} {g:Nat} {w0 W W':World} {b6 b7:Nat} {V:Sv} {m:Md} {q:Nat×Int} (h:MM S g w0 b6 b7 V m q W) (hg:W.grownBy W' V.im.blk):W'.heap[b7]? =some (.cells #[.slice V.rq.a m.rq.length V.rq.cap,.slice V.im.a m.im.length V.im.cap,.slice V.ep.a m.ep.length V.ep.cap,.slice V.st.a m.st.length V.st.cap,.slice V.ex.a m.ex.length V.ex.cap] 54 (0,0)):=
 (hg.block b7 (Array.getElem?_eq_some_iff.1 h.r7).1 fun e=>by
  obtain⟨_,_,cur,hc⟩:=h.own.im.typed e.symm
  rw[h.r7] at hc
  simp only[Option.some.injEq,Obj.cells.injEq] at hc
  exact absurd hc.2.1 (by decide)).trans h.r7
theorem MM.app_im {S:Src} {g:Nat} {w0 W W':World} {b6 b7:Nat} {V:Sv} {m:Md} {q:Nat×Int} {r':Rw} {x:Im} (h:MM S g w0 b6 b7 V m q W) (hr:OwnR W' w0.heap.size 119 3 r' (m.im.length+1) (m.im.flatMap imL++imL x)) (hg:W.grownBy W' V.im.blk):
  MM S g w0 b6 b7 {V with im:=r'} {m with im:=m.im++[x]} q (W'.setCell ⟨b7,1,none⟩ (.slice r'.a (m.im.length+1) r'.cap)):=by
 have hz:=h.gr.size
 have away: ∀(k:Nat) (cs:Array Value) (t:TypeId),W.heap[k]? =some (.cells cs t (0,0))→t≠119→W'.heap[k]? =W.heap[k]?:=fun k cs t hk ht=>hg.block k (Array.getElem?_eq_some_iff.1 hk).1 fun e=>by
  obtain⟨_,_,cur,hc⟩:=h.own.im.typed e.symm
  rw[hk] at hc
  simp only[Option.some.injEq,Obj.cells.injEq] at hc
  exact ht hc.2.1
 have h7:=(away _ _ _ h.r7 (by decide)).trans h.r7
 have keep: ∀{e:TypeId} {size n:Nat} {r:Rw} (xs:List Value),OwnR W' w0.heap.size e size r n xs→e≠54→OwnR (W'.setCell ⟨b7,1,none⟩ (.slice r'.a (m.im.length+1) r'.cap)) w0.heap.size e size r n xs:=fun xs hx he=>hx.keep fun k hk=>zj fun e=>by
  obtain⟨_,_,cur,hc⟩:=hx.typed hk
  rw[e,h7] at hc
  simp only[Option.some.injEq,Obj.cells.injEq] at hc
  exact he hc.2.1.symm
 have hge:=h.ge
 have hlt:=h.lt
 have hgl:=h.gl
 have grow: ∀k,k<w0.heap.size→W'.heap[k]? =W.heap[k]?:=fun k hk=>by
  refine hg.block k (by omega) fun e=>?_
  have:=(h.own.im.typed e.symm).1
  omega
 refine⟨(zj (by omega)).trans ((away _ _ _ h.r6 (by decide)).trans h.r6),(zdh h7).trans (by simp),⟨(keep _ (h.own.rq.asideD h.own.im (by decide) hg) (by decide)),(keep _ (by exact (by rw[List.flatMap_append,List.length_append];simpa using hr)) (by decide)),(keep _ (h.own.ep.asideD h.own.im (by decide) hg) (by decide)),(keep _ (h.own.st.asideD h.own.im (by decide) hg) (by decide)),(keep _ (h.own.ex.asideD h.own.im (by decide) hg) (by decide))⟩,?_,?_,h.ge,h.lt,h.gl⟩
 ·exact zdy h.cur fun k hk=>(zj (by omega)).trans (grow k (by omega))
 ·refine⟨hg.os.trans h.gr.os,hg.tape.trans h.gr.tape,hg.output.trans h.gr.output,?_,fun k hk hne=>(zj (by omega)).trans ((grow k hk).trans (h.gr.block k hk hne))⟩
  rw[World.size_setCell]
  exact Nat.le_trans h.gr.size hg.size
theorem MM.far_ep {S:Src} {g:Nat} {w0 W W':World} {b6 b7:Nat} {V:Sv} {m:Md} {q:Nat×Int} (h:MM S g w0 b6 b7 V m q W) (hg:W.grownBy W' V.ep.blk):W'.heap[b7]? =some (.cells #[.slice V.rq.a m.rq.length V.rq.cap,.slice V.im.a m.im.length V.im.cap,.slice V.ep.a m.ep.length V.ep.cap,.slice V.st.a m.st.length V.st.cap,.slice V.ex.a m.ex.length V.ex.cap] 54 (0,0)):=
 (hg.block b7 (Array.getElem?_eq_some_iff.1 h.r7).1 fun e=>by
  obtain⟨_,_,cur,hc⟩:=h.own.ep.typed e.symm
  rw[h.r7] at hc
  simp only[Option.some.injEq,Obj.cells.injEq] at hc
  exact absurd hc.2.1 (by decide)).trans h.r7
theorem MM.app_ep {S:Src} {g:Nat} {w0 W W':World} {b6 b7:Nat} {V:Sv} {m:Md} {q:Nat×Int} {r':Rw} {x:Ep} (h:MM S g w0 b6 b7 V m q W) (hr:OwnR W' w0.heap.size 121 4 r' (m.ep.length+1) (m.ep.flatMap epL++epL x)) (hg:W.grownBy W' V.ep.blk):
  MM S g w0 b6 b7 {V with ep:=r'} {m with ep:=m.ep++[x]} q (W'.setCell ⟨b7,2,none⟩ (.slice r'.a (m.ep.length+1) r'.cap)):=by
 have hz:=h.gr.size
 have away: ∀(k:Nat) (cs:Array Value) (t:TypeId),W.heap[k]? =some (.cells cs t (0,0))→t≠121→W'.heap[k]? =W.heap[k]?:=fun k cs t hk ht=>hg.block k (Array.getElem?_eq_some_iff.1 hk).1 fun e=>by
  obtain⟨_,_,cur,hc⟩:=h.own.ep.typed e.symm
  rw[hk] at hc
  simp only[Option.some.injEq,Obj.cells.injEq] at hc
  exact ht hc.2.1
 have h7:=(away _ _ _ h.r7 (by decide)).trans h.r7
 have keep: ∀{e:TypeId} {size n:Nat} {r:Rw} (xs:List Value),OwnR W' w0.heap.size e size r n xs→e≠54→OwnR (W'.setCell ⟨b7,2,none⟩ (.slice r'.a (m.ep.length+1) r'.cap)) w0.heap.size e size r n xs:=fun xs hx he=>hx.keep fun k hk=>zj fun e=>by
  obtain⟨_,_,cur,hc⟩:=hx.typed hk
  rw[e,h7] at hc
  simp only[Option.some.injEq,Obj.cells.injEq] at hc
  exact he hc.2.1.symm
 have hge:=h.ge
 have hlt:=h.lt
 have hgl:=h.gl
 have grow: ∀k,k<w0.heap.size→W'.heap[k]? =W.heap[k]?:=fun k hk=>by
  refine hg.block k (by omega) fun e=>?_
  have:=(h.own.ep.typed e.symm).1
  omega
 refine⟨(zj (by omega)).trans ((away _ _ _ h.r6 (by decide)).trans h.r6),(zdh h7).trans (by simp),⟨(keep _ (h.own.rq.asideD h.own.ep (by decide) hg) (by decide)),(keep _ (h.own.im.asideD h.own.ep (by decide) hg) (by decide)),(keep _ (by exact (by rw[List.flatMap_append,List.length_append];simpa using hr)) (by decide)),(keep _ (h.own.st.asideD h.own.ep (by decide) hg) (by decide)),(keep _ (h.own.ex.asideD h.own.ep (by decide) hg) (by decide))⟩,?_,?_,h.ge,h.lt,h.gl⟩
 ·exact zdy h.cur fun k hk=>(zj (by omega)).trans (grow k (by omega))
 ·refine⟨hg.os.trans h.gr.os,hg.tape.trans h.gr.tape,hg.output.trans h.gr.output,?_,fun k hk hne=>(zj (by omega)).trans ((grow k hk).trans (h.gr.block k hk hne))⟩
  rw[World.size_setCell]
  exact Nat.le_trans h.gr.size hg.size
theorem MM.far_st {S:Src} {g:Nat} {w0 W W':World} {b6 b7:Nat} {V:Sv} {m:Md} {q:Nat×Int} (h:MM S g w0 b6 b7 V m q W) (hg:W.grownBy W' V.st.blk):W'.heap[b7]? =some (.cells #[.slice V.rq.a m.rq.length V.rq.cap,.slice V.im.a m.im.length V.im.cap,.slice V.ep.a m.ep.length V.ep.cap,.slice V.st.a m.st.length V.st.cap,.slice V.ex.a m.ex.length V.ex.cap] 54 (0,0)):=
 (hg.block b7 (Array.getElem?_eq_some_iff.1 h.r7).1 fun e=>by
  obtain⟨_,_,cur,hc⟩:=h.own.st.typed e.symm
  rw[h.r7] at hc
  simp only[Option.some.injEq,Obj.cells.injEq] at hc
  exact absurd hc.2.1 (by decide)).trans h.r7
theorem MM.app_st {S:Src} {g:Nat} {w0 W W':World} {b6 b7:Nat} {V:Sv} {m:Md} {q:Nat×Int} {r':Rw} {x:Sm} (h:MM S g w0 b6 b7 V m q W) (hr:OwnR W' w0.heap.size 123 3 r' (m.st.length+1) (m.st.flatMap smL++smL x)) (hg:W.grownBy W' V.st.blk):
  MM S g w0 b6 b7 {V with st:=r'} {m with st:=m.st++[x]} q (W'.setCell ⟨b7,3,none⟩ (.slice r'.a (m.st.length+1) r'.cap)):=by
 have hz:=h.gr.size
 have away: ∀(k:Nat) (cs:Array Value) (t:TypeId),W.heap[k]? =some (.cells cs t (0,0))→t≠123→W'.heap[k]? =W.heap[k]?:=fun k cs t hk ht=>hg.block k (Array.getElem?_eq_some_iff.1 hk).1 fun e=>by
  obtain⟨_,_,cur,hc⟩:=h.own.st.typed e.symm
  rw[hk] at hc
  simp only[Option.some.injEq,Obj.cells.injEq] at hc
  exact ht hc.2.1
 have h7:=(away _ _ _ h.r7 (by decide)).trans h.r7
 have keep: ∀{e:TypeId} {size n:Nat} {r:Rw} (xs:List Value),OwnR W' w0.heap.size e size r n xs→e≠54→OwnR (W'.setCell ⟨b7,3,none⟩ (.slice r'.a (m.st.length+1) r'.cap)) w0.heap.size e size r n xs:=fun xs hx he=>hx.keep fun k hk=>zj fun e=>by
  obtain⟨_,_,cur,hc⟩:=hx.typed hk
  rw[e,h7] at hc
  simp only[Option.some.injEq,Obj.cells.injEq] at hc
  exact he hc.2.1.symm
 have hge:=h.ge
 have hlt:=h.lt
 have hgl:=h.gl
 have grow: ∀k,k<w0.heap.size→W'.heap[k]? =W.heap[k]?:=fun k hk=>by
  refine hg.block k (by omega) fun e=>?_
  have:=(h.own.st.typed e.symm).1
  omega
 refine⟨(zj (by omega)).trans ((away _ _ _ h.r6 (by decide)).trans h.r6),(zdh h7).trans (by simp),⟨(keep _ (h.own.rq.asideD h.own.st (by decide) hg) (by decide)),(keep _ (h.own.im.asideD h.own.st (by decide) hg) (by decide)),(keep _ (h.own.ep.asideD h.own.st (by decide) hg) (by decide)),(keep _ (by exact (by rw[List.flatMap_append,List.length_append];simpa using hr)) (by decide)),(keep _ (h.own.ex.asideD h.own.st (by decide) hg) (by decide))⟩,?_,?_,h.ge,h.lt,h.gl⟩
 ·exact zdy h.cur fun k hk=>(zj (by omega)).trans (grow k (by omega))
 ·refine⟨hg.os.trans h.gr.os,hg.tape.trans h.gr.tape,hg.output.trans h.gr.output,?_,fun k hk hne=>(zj (by omega)).trans ((grow k hk).trans (h.gr.block k hk hne))⟩
  rw[World.size_setCell]
  exact Nat.le_trans h.gr.size hg.size
theorem MM.far_ex {S:Src} {g:Nat} {w0 W W':World} {b6 b7:Nat} {V:Sv} {m:Md} {q:Nat×Int} (h:MM S g w0 b6 b7 V m q W) (hg:W.grownBy W' V.ex.blk):W'.heap[b7]? =some (.cells #[.slice V.rq.a m.rq.length V.rq.cap,.slice V.im.a m.im.length V.im.cap,.slice V.ep.a m.ep.length V.ep.cap,.slice V.st.a m.st.length V.st.cap,.slice V.ex.a m.ex.length V.ex.cap] 54 (0,0)):=
 (hg.block b7 (Array.getElem?_eq_some_iff.1 h.r7).1 fun e=>by
  obtain⟨_,_,cur,hc⟩:=h.own.ex.typed e.symm
  rw[h.r7] at hc
  simp only[Option.some.injEq,Obj.cells.injEq] at hc
  exact absurd hc.2.1 (by decide)).trans h.r7
theorem MM.app_ex {S:Src} {g:Nat} {w0 W W':World} {b6 b7:Nat} {V:Sv} {m:Md} {q:Nat×Int} {r':Rw} {x:Ex} (h:MM S g w0 b6 b7 V m q W) (hr:OwnR W' w0.heap.size 125 6 r' (m.ex.length+1) (m.ex.flatMap exL++exL x)) (hg:W.grownBy W' V.ex.blk):
  MM S g w0 b6 b7 {V with ex:=r'} {m with ex:=m.ex++[x]} q (W'.setCell ⟨b7,4,none⟩ (.slice r'.a (m.ex.length+1) r'.cap)):=by
 have hz:=h.gr.size
 have away: ∀(k:Nat) (cs:Array Value) (t:TypeId),W.heap[k]? =some (.cells cs t (0,0))→t≠125→W'.heap[k]? =W.heap[k]?:=fun k cs t hk ht=>hg.block k (Array.getElem?_eq_some_iff.1 hk).1 fun e=>by
  obtain⟨_,_,cur,hc⟩:=h.own.ex.typed e.symm
  rw[hk] at hc
  simp only[Option.some.injEq,Obj.cells.injEq] at hc
  exact ht hc.2.1
 have h7:=(away _ _ _ h.r7 (by decide)).trans h.r7
 have keep: ∀{e:TypeId} {size n:Nat} {r:Rw} (xs:List Value),OwnR W' w0.heap.size e size r n xs→e≠54→OwnR (W'.setCell ⟨b7,4,none⟩ (.slice r'.a (m.ex.length+1) r'.cap)) w0.heap.size e size r n xs:=fun xs hx he=>hx.keep fun k hk=>zj fun e=>by
  obtain⟨_,_,cur,hc⟩:=hx.typed hk
  rw[e,h7] at hc
  simp only[Option.some.injEq,Obj.cells.injEq] at hc
  exact he hc.2.1.symm
 have hge:=h.ge
 have hlt:=h.lt
 have hgl:=h.gl
 have grow: ∀k,k<w0.heap.size→W'.heap[k]? =W.heap[k]?:=fun k hk=>by
  refine hg.block k (by omega) fun e=>?_
  have:=(h.own.ex.typed e.symm).1
  omega
 refine⟨(zj (by omega)).trans ((away _ _ _ h.r6 (by decide)).trans h.r6),(zdh h7).trans (by simp),⟨(keep _ (h.own.rq.asideD h.own.ex (by decide) hg) (by decide)),(keep _ (h.own.im.asideD h.own.ex (by decide) hg) (by decide)),(keep _ (h.own.ep.asideD h.own.ex (by decide) hg) (by decide)),(keep _ (h.own.st.asideD h.own.ex (by decide) hg) (by decide)),(keep _ (by exact (by rw[List.flatMap_append,List.length_append];simpa using hr)) (by decide))⟩,?_,?_,h.ge,h.lt,h.gl⟩
 ·exact zdy h.cur fun k hk=>(zj (by omega)).trans (grow k (by omega))
 ·refine⟨hg.os.trans h.gr.os,hg.tape.trans h.gr.tape,hg.output.trans h.gr.output,?_,fun k hk hne=>(zj (by omega)).trans ((grow k hk).trans (h.gr.block k hk hne))⟩
  rw[World.size_setCell]
  exact Nat.le_trans h.gr.size hg.size
theorem zbfr {l:List Sm} {x:Sm} (h:zfl l) (hx:x.name.toList≠dN):zfl (l++[x]):=fun s hs=>by
 rcases List.mem_append.1 hs with hs|hs
 ·exact h s hs
 ·rw[List.mem_singleton] at hs
  rw[hs]
  exact fun k=>absurd k hx
theorem zbin {α:Type} {P:α→Prop} {l:List α} {k:Nat} {y:α} (h: ∀x∈l,P x) (hy:P y): ∀x∈l.set k y,P x:=fun x hx=>by
 rcases List.mem_or_eq_of_mem_set hx with hx|hx
 ·exact h x hx
 ·rw[hx]
  exact hy
theorem zbox:(({data:=#[113]}:ByteArray)).toList≠dN:=fun h=>by
 rw[Lib.toList_data] at h
 cases h
theorem zboc (v:Int) (l:List Ex): ∀(k:Nat) (x:Ex),l[k]? =some x→(l.flatMap exL).set (k*6+1) (.int .i64 v)=(l.set k {x with num:=v}).flatMap exL:=by
 induction l with
 |nil=>intro k x h;cases h
 |cons y l ih=>
  intro k x h
  cases k with
  |zero=>
   cases h
   rfl
  |succ k=>
   rw[List.set_cons_succ,List.flatMap_cons,List.flatMap_cons,←ih k x h,List.set_append_right _ _ (by show 6≤_;omega)]
   congr 2
   show (k+1)*6+1-6=_
   omega
theorem MM.num {S:Src} {g:Nat} {w0 W:World} {b6 b7 ge:Nat} {V:Sv} {m:Md} {q:Nat×Int} {k:Nat} {x:Ex} (h:MM S g w0 b6 b7 V m q W) (hk:m.ex[k]? =some x) (ha:V.ex.a=some ⟨ge,0,none⟩) (v:Int):
  MM S g w0 b6 b7 V {m with ex:=m.ex.set k {x with num:=v}} q (W.setCell ⟨ge,k*6+1,none⟩ (.int .i64 v)):=by
 have hb:V.ex.blk=some ge:=by unfold Rw.blk;rw[ha];rfl
 obtain⟨hbase,hlt,cur,hcur⟩:=h.own.ex.typed hb
 have hge:=h.ge
 have hgl:=h.gl
 have ne: ∀(j:Nat) (cs:Array Value) (t:TypeId),W.heap[j]? =some (.cells cs t (0,0))→t≠125→j≠ge:=fun j cs t hj ht e=>by
  rw[e,hcur] at hj
  simp only[Option.some.injEq,Obj.cells.injEq] at hj
  exact ht hj.2.1.symm
 have keep: ∀{e:TypeId} {size n:Nat} {r:Rw} {xs:List Value},OwnR W w0.heap.size e size r n xs→e≠125→OwnR (W.setCell ⟨ge,k*6+1,none⟩ (.int .i64 v)) w0.heap.size e size r n xs:=fun hx he=>hx.keep fun j hj=>zj (by
  obtain⟨_,_,c,hc⟩:=hx.typed hj
  exact ne j _ _ hc he)
 have hrow:OwnR (W.setCell ⟨ge,k*6+1,none⟩ (.int .i64 v)) w0.heap.size 125 6 V.ex m.ex.length ((m.ex.set k {x with num:=v}).flatMap exL):=by
  have h1:=h.own.ex
  unfold OwnR at h1 ⊢
  rw[ha] at h1 ⊢
  rw[←zboc v m.ex k x hk]
  exact (h1.stored (k*6+1) (.int .i64 v)).1
 refine⟨(zj (ne _ _ _ h.r6 (by decide))).trans h.r6,?_,⟨keep h.own.rq (by decide),keep h.own.im (by decide),keep h.own.ep (by decide),keep h.own.st (by decide),?_⟩,?_,?_,h.ge,h.lt,h.gl⟩
 ·rw[zj (ne _ _ _ h.r7 (by decide)),h.r7]
  simp
 ·show OwnR _ _ _ _ _ (m.ex.set k _).length _
  rw[List.length_set]
  exact hrow
 ·exact zdy h.cur fun j hj=>zj (by omega)
 ·have bl:Below 0 W (W.setCell ⟨ge,k*6+1,none⟩ (.int .i64 v)):=(Below.refl 0 W).setCell (Nat.zero_le _) _
  refine⟨bl.os.trans h.gr.os,bl.tape.trans h.gr.tape,bl.output.trans h.gr.output,?_,fun j hj hne=>(zj (by omega)).trans (h.gr.block j hj hne)⟩
  rw[World.size_setCell]
  exact h.gr.size
theorem MM.spot {S:Src} {g:Nat} {w0 W:World} {b6 b7 ge:Nat} {V:Sv} {m:Md} {q:Nat×Int} {k:Nat} (h:MM S g w0 b6 b7 V m q W) (hk:k<m.ex.length) (ha:V.ex.a=some ⟨ge,0,none⟩):W.cell? ⟨ge,k*6+1,none⟩=some (.int .i64 (m.ex.getD k exNo).num)∧W.frozen? ⟨ge,k*6+1,none⟩=false:=by
 obtain⟨g',hg,_,_,x1,_⟩:=h.own.expr hk
 rw[ha] at hg
 cases hg
 refine⟨x1,?_⟩
 have h1:=h.own.ex
 unfold OwnR at h1
 rw[ha] at h1
 exact h1.frozenAt _
theorem Tryz.infoString:(Tryz.prog.info? 9).map (fun i=>(i.zero,i.size,i.bytes))=some (some (.string {data:=#[]}),1,16):=by kernel_rfl
theorem OwnR.addr {w:World} {base size n:Nat} {e:TypeId} {r:Rw} {xs:List Value} (h:OwnR w base e size r n xs):n=0∨∃g,r.a=some ⟨g,0,none⟩:=by
 rcases h.2 with ⟨_,hn⟩|⟨g,cap,cur,hv,_⟩
 ·exact .inl hn
 ·simp only[Value.slice.injEq] at hv
  exact .inr ⟨g,hv.1⟩
theorem OwnR.str {w:World} {base:Nat} {e:TypeId} {r:Rw} {l:List ByteArray} {g:Nat} (h:OwnR w base e 1 r l.length (l.map .string)) (hg:r.a=some ⟨g,0,none⟩) {j:Nat} (hj:j<l.length):w.cell? ⟨g,j,none⟩=some (.string (l.getD j sNone)):=by
 unfold OwnR at h
 rw[hg] at h
 rw[h.cellAt j (by omega)]
 simp[List.getD,hj]
theorem OwnR.lt {w:World} {base size n:Nat} {e:TypeId} {r:Rw} {xs:List Value} {g:Nat} (h:OwnR w base e size r n xs) (hg:r.a=some ⟨g,0,none⟩):g<w.heap.size:=(h.typed (k:=g) (by simp[Rw.blk,hg,Value.ownBlock])).2.1
theorem zbio {l:List ByteArray} {x:ByteArray} {j:Nat} (hj:j<l.length) (h:((l.getD j sNone).toList==x.toList)=true):hasS l x=true:=by
 rw[hasS,List.any_eq_true]
 exact⟨l[j],List.getElem_mem hj,by simpa [List.getD,hj] using h⟩
theorem zbll {l:List ByteArray} {x:ByteArray} (h: ∀j,j<l.length→((l.getD j sNone).toList==x.toList)=false):hasS l x=false:=by
 rw[Bool.eq_false_iff,hasS]
 intro k
 rw[List.any_eq_true] at k
 obtain⟨y,hy,hk⟩:=k
 obtain⟨j,hj,rfl⟩:=List.getElem_of_mem hy
 have:=h j hj
 simp only[List.getD,List.getElem?_eq_getElem hj,Option.getD_some] at this
 rw[this] at hk
 cases hk
theorem zbfs {C:Cx} {x:PR} {q:PS} {z:Int} (hx:Is x q z) (hi:(decide (z<0)&&((zd C q.pos).kind==3))=false):Is2 (bd x (zbl C)) q (zft C q.pos z) sNone:=by
 unfold zft
 by_cases hz:z<0
 ·obtain⟨h1,h2⟩:=zcs hx hz
  simp only[hz,decide_true,Bool.true_and] at hi
  rw[h1,zbe,zbl,hi,if_pos hz]
  rfl
 ·obtain⟨e,h1,h2⟩:=zjf hx hz
  rw[h1,zjr,if_neg hz]
  exact h2
theorem zbft (C:Cx) (gt cap base:Nat) (x:PR) (S:Sv) (q:PS) (z:Int) (d:Nat) (w:World) (hx:Is x q z) (hm:Mem C gt cap base S q w) (hi:(decide (z<0)&&((zd C q.pos).kind==3))=false):
  Calls Tryz.prog 196 #[pv C gt cap S q z d] w (Out2 C gt cap base (bd x (zbl C)) d S w):=by
 have HM:=hidI hm
 have htok:=hm.tok
 have hfew:=hm.few
 have HY:Hid (Is2 (bd x (zbl C)) q (zft C q.pos z) sNone):=zbfs hx hi
 clear hx hm
 by_cases hz:z<0
 ·have dz2:decide (0≤z)=false:=decide_eq_false (by omega)
  simp only[hz,decide_true,Bool.true_and] at hi
  by_cases hp:q.pos<C.ts.length
  ·obtain⟨c0,_,_,_⟩:=htok.cells hp (d:=⟨0,sNone,0,C.fin⟩)
   have hglt:=(zbt htok).1
   change _=some (Value.int .i64 (zd C q.pos).kind) at c0
   generalize htk:zd C q.pos=t at c0 hi
   have e1':(t.kind !=3)=true:=by rw[bne,hi];rfl
   clear htk
   unfold pv
   go_enter Tryz.func196,Tryz.ntmps196
   go_wp2_with fail
   refine (zgi C gt cap base S q z d _ (zg (zg htok _) _) hfew).mono ?_
   rintro e w2 ⟨rfl,hb2⟩
   have G3:Hid (_=_):=(zgt hb2).2
   obtain⟨c0,c1,c2,c3,c4,c5,c6,c7,c8,c9,c10,c11,cf⟩:=zbz G3.out
   unfold pv
   go_wp2
   refine bodyPost_ret (zl rfl _ _ (w.heap.size+1) 100 _ (0,0) _ rfl (zem G3.out) Tryz.underlying100 rfl (by kernel_rfl)) rfl ?_
   exact zha rfl HY.out HM.out (zei (zcj hb2) (Nat.le_succ _) _ _ _ _ _ _ _ _ _ _ _ _)
  ·unfold pv
   go_enter Tryz.func196,Tryz.ntmps196
   go_wp2_with fail
   refine (zgi C gt cap base S q z d _ (zg (zg htok _) _) hfew).mono ?_
   rintro e w2 ⟨rfl,hb2⟩
   have G3:Hid (_=_):=(zgt hb2).2
   obtain⟨c0,c1,c2,c3,c4,c5,c6,c7,c8,c9,c10,c11,cf⟩:=zbz G3.out
   unfold pv
   go_wp2
   refine bodyPost_ret (zl rfl _ _ (w.heap.size+1) 100 _ (0,0) _ rfl (zem G3.out) Tryz.underlying100 rfl (by kernel_rfl)) rfl ?_
   exact zha rfl HY.out HM.out (zei (zcj hb2) (Nat.le_succ _) _ _ _ _ _ _ _ _ _ _ _ _)
 ·have dz2:decide (0≤z)=true:=decide_eq_true (by omega)
  unfold pv
  go_enter Tryz.func196,Tryz.ntmps196
  go_wp2_with fail
  refine (zgi C gt cap base S q z d _ (zg (zg htok _) _) hfew).mono ?_
  rintro e w2 ⟨rfl,hb2⟩
  have G3:Hid (_=_):=(zgt hb2).2
  obtain⟨c0,c1,c2,c3,c4,c5,c6,c7,c8,c9,c10,c11,cf⟩:=zbz G3.out
  unfold pv
  go_wp2
  refine bodyPost_ret (zl rfl _ _ (w.heap.size+1) 100 _ (0,0) _ rfl (zem G3.out) Tryz.underlying100 rfl (by kernel_rfl)) rfl ?_
  exact zha rfl HY.out HM.out (zei (zcj hb2) (Nat.le_succ _) _ _ _ _ _ _ _ _ _ _ _ _)
def txt (C:Cx) (q:PS):ByteArray:=(zd C q.pos).text
theorem zbda {C:Cx} {q:PS} (h3:((zd C q.pos).kind==3)=true) (hh:hasS q.rq (txt C q)=true):zbl C q= .ok (adv q,txt C q):=by
 unfold txt at hh
 rw[zbl,if_pos h3,if_pos hh];rfl
theorem zbfu {C:Cx} {q:PS} (h3:((zd C q.pos).kind==3)=true) (hh:hasS q.rq (txt C q)=false) (hn:40≤q.rq.length):zbl C q= .error (here C q.pos):=by
 unfold txt at hh
 rw[zbl,if_pos h3,hh,if_pos hn];rfl
theorem zbip {C:Cx} {q:PS} (h3:((zd C q.pos).kind==3)=true) (hh:hasS q.rq (txt C q)=false) (hn: ¬40≤q.rq.length):zbl C q= .ok ({adv q with rq:=q.rq++[txt C q]},txt C q):=by
 unfold txt at hh
 rw[zbl,if_pos h3,hh,if_neg hn];rfl
theorem zse (C:Cx) (gt cap base:Nat) (S:Sv) (q:PS) (d:Nat) (w:World) (hm:Mem C gt cap base S q w) (h3:((zd C q.pos).kind==3)=true) (g:Nat) (hga:q.rq.length=0∨S.rq.a=some ⟨g,0,none⟩):
  Calls Tryz.prog 196 #[pv C gt cap S q (-1) d] w (Out2 C gt cap base (zbl C q) d S w):=by
 obtain⟨i0,hi,hz0,hz1,hz2⟩:=info_parts Tryz.infoString
 have HM:=hidI hm
 have H3:=hidI h3
 have hp:q.pos<C.ts.length:=zpp h3 (by decide)
 have hfew:=hm.few
 have hrq:=hm.inv.rq
 have hglt:=(zbt hm.tok).1
 obtain⟨c0,c1,_,_⟩:=hm.tok.cells hp (d:=⟨0,sNone,0,C.fin⟩)
 change _=some (Value.int .i64 (zd C q.pos).kind) at c0
 change _=some (Value.string (txt C q)) at c1
 generalize (zd C q.pos).kind=kd at c0 h3
 have e1':(kd !=3)=false:=by rw[bne,h3];rfl
 have HGA:=hidI hga
 obtain⟨R,hR⟩: ∃R:Nat→ByteArray,∀j,R j=q.rq.getD j sNone:=⟨fun j=>q.rq.getD j sNone,fun _=>rfl⟩
 have HR:=hidI hR
 have HC:Hid (∀j,j<q.rq.length→w.cell? ⟨g,j,none⟩=some (.string (R j))):=fun j hj=>by
  rcases hga with e|e
  ·omega
  ·rw[hR];exact HM.out.own.rq.str e hj
 clear hR
 generalize htx:txt C q=tx at c1
 have HTX:=hidI htx
 have hown:=fun o1 o2 o3=>((HM.out.own.rq.alloc o1).alloc o2).alloc o3
 clear htx hm hga
 unfold pv
 go_enter Tryz.func196,Tryz.ntmps196
 go_wp2
 go_loop [5] (fun i=>∃k:Nat,k≤q.rq.length∧i= .int .i64 k∧∀j,j<k→¬(R j).toList=tx.toList) (fun i=>(q.rq.length-intOf i).toNat)
 case atStart=>exact⟨0,Nat.zero_le _,rfl,fun j hj=>absurd hj (Nat.not_lt_zero j)⟩
 case round=>
  obtain⟨k,hk,rfl,hno⟩:=hrel
  have HNO:=hidI hno
  clear hno
  by_cases hlt:k<q.rq.length
  ·have ha:S.rq.a=some ⟨g,0,none⟩:=HGA.out.elim (fun e=>by omega) id
   have hck:=HC.out k hlt
   have hg1:=HM.out.own.rq.lt ha
   cases he:((R k).toList==tx.toList) with
   |true=>
    have HS:Hid (zbl C q= .ok (adv q,tx)):=by
     show zbl C q= .ok (adv q,tx)
     rw[←HTX.out]
     exact zbda H3.out (zbio hlt (by rw[←HR.out,HTX.out];exact he))
    have HA:=hidI ha
    go_wp2
    refine bodyPost_ret (zl rfl _ _ (w.heap.size+1) 100 _ (0,0) _ rfl (new2 w _ _) Tryz.underlying100 rfl (by kernel_rfl)) rfl ?_
    rw[HS.out]
    exact zha (q':=adv q) (z':=-1) (by rw[pv,HA.out];rfl) ⟨rfl,rfl,rfl⟩ (HM.out.adv hp) (zdo w _ _)
   |false=>
    have HX:Hid (∀j,j<k+1→¬(R j).toList=tx.toList):=fun j hj=>by
     by_cases e:j=k
     ·rw[e];exact beq_eq_false_iff_ne.1 he
     ·exact HNO.out j (by omega)
    go_wp2
    go_round
    case rel=>exact⟨k+1,by omega,by go_num,HX.out⟩
    case measure=>simp[intOf];omega
  ·have HN:Hid (hasS q.rq (txt C q)=false):=zbll fun j hj=>by rw[HTX.out,←HR.out];exact beq_eq_false_iff_ne.2 (HNO.out j (by omega))
   by_cases hn:40≤q.rq.length
   ·have qn:decide ((40:Int)≤(q.rq.length:Int))=true:=decide_eq_true (by omega)
    have HS:Hid (zbl C q= .error (here C q.pos)):=zbfu H3.out HN.out hn
    go_wp2_with fail
    refine (zid C gt cap base S (adv q) (-1) d _ (((HM.out.adv hp).alloc _).alloc _) (by decide) (by simp[adv])).mono ?_
    rintro e w2 ⟨rfl,hb2⟩
    have G3:Hid (_=_):=(zgt hb2).2
    obtain⟨b0,b1,b2,b3,b4,b5,b6,b7,b8,b9,b10,b11,bf⟩:=zbz G3.out
    have HB:Hid (Below w.heap.size w w2):=zcj hb2
    clear hb2
    unfold pv
    go_wp2
    refine bodyPost_ret (zl rfl _ _ (w.heap.size+1) 100 _ (0,0) _ rfl (zem G3.out) Tryz.underlying100 rfl (by kernel_rfl)) rfl ?_
    rw[HS.out]
    exact zha (q':=adv q) (z':=(here C q.pos:Int)) rfl rfl (HM.out.adv hp) (zei HB.out (Nat.le_succ _) _ _ _ _ _ _ _ _ _ _ _ _)
   ·have qn:decide ((40:Int)≤(q.rq.length:Int))=false:=decide_eq_false (by omega)
    have HS:Hid (zbl C q= .ok ({adv q with rq:=q.rq++[tx]},tx)):=by
     show zbl C q= .ok ({adv q with rq:=q.rq++[tx]},tx)
     rw[←HTX.out]
     exact zbip H3.out HN.out hn
    go_wp2_with (at_builtin;refine zgr _ rfl _ _ 22 rfl base 9 i0 _ 1 16 Tryz.underlying22 hi hz0 hz1 hz2 rfl (by decide) (by decide) S.rq q.rq.length _ (by rfl) (hown _ _ _) (w.heap.size+1+1) [.string tx] (by rfl) (by exact (new3 w _ _ _).2.2) rfl (by intro u hu;simp at hu;subst hu;rfl) (by omega) (by have:=HM.out.base;rw[zcc];omega) ?_)
    intro r' w2 hr hg hat
    have HRR:=hidI hr
    have HG:=hidI hg
    have HAT:=hidI hat
    have hne:=fun b hb=>wpos (W:=w) HM.out.own (Nat.le_refl _) (r:=S.rq.blk) (fun k e=>.inl e) b hb
    have g1:=(hg.block w.heap.size (by rw[zcc];omega) (hne _ (Nat.le_refl _))).trans (new3 w _ _ _).1
    have g2:=(hg.block (w.heap.size+1) (by rw[zcc];omega) (hne _ (by omega))).trans (new3 w _ _ _).2.1
    obtain⟨a0,a1,a2,a3,a4,a5,a6,a7,a8,a9,a10,a11,af⟩:=zbz g1
    obtain⟨b0,b1,b2,b3,b4,b5,b6,b7,b8,b9,b10,b11,bf⟩:=zbz g2
    have G2:=hidI g2
    clear g1 g2 hg hr hat hne hown
    go_wp2
    refine bodyPost_ret (zl rfl _ _ (w.heap.size+1) 100 _ (0,0) _ rfl (zem ((zj (by omega)).trans G2.out)) Tryz.underlying100 rfl (by kernel_rfl)) rfl ?_
    obtain⟨m',s'⟩:=(HM.out.adv hp).grow_rq (x:=tx) (zie w _ _ _) HG.out HRR.out (by rw[zcc];exact HAT.out) (((Off.refl _ _ _).set (b:=w.heap.size) (Nat.le_refl _) (by rw[zcc];omega) _ _).set12 (b:=w.heap.size+1) (by omega) (by rw[zcc];omega) _ _ _ _ _ _ _ _ _ _ _ _) (by show q.rq.length<40;omega)
    rw[HS.out]
    exact⟨_,{adv q with rq:=q.rq++[tx]},-1,tx,by simp[pv,adv],⟨rfl,rfl,rfl⟩,m',s'⟩
theorem zgl (C:Cx) (gt cap base:Nat) (x:PR) (S:Sv) (q:PS) (z:Int) (d:Nat) (w:World) (hx:Is x q z) (hm:Mem C gt cap base S q w):
  Calls Tryz.prog 196 #[pv C gt cap S q z d] w (Out2 C gt cap base (bd x (zbl C)) d S w):=by
 cases hi:(decide (z<0)&&((zd C q.pos).kind==3)) with
 |false=>exact zbft C gt cap base x S q z d w hx hm hi
 |true=>
  rw[Bool.and_eq_true,decide_eq_true_eq] at hi
  obtain⟨rfl,rfl⟩:=zcs hx hi.1
  rw[zbe]
  rcases hm.own.rq.addr with e|⟨g,e⟩
  ·exact zse C gt cap base S q d w hm hi.2 0 (.inl e)
  ·exact zse C gt cap base S q d w hm hi.2 g (.inr e)
end Go.Proofs.YtmnemfookpjhiaaGreat
