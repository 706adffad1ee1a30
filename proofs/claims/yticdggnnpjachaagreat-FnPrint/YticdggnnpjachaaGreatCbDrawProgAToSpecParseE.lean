/-
  What the specification's draws of programs tell: some text,not a long one: the walks.
  What the specification's draw of an item tells: some text,not a long one: the walk.
  The row of the type byte.
  What l1Text of the specification tells: the walk.
  What spec.l1Spoil tells: the walk.
  What the specification's draw of a program's text tells: some text,not a long one: the walk.
  A program that was read has no name longer than its text,and no number that is great. No program is spoken of.
  What each step of reading keeps,the whole reading keeps; so a program that was read has no request twice. No program is spoken of.
  A program that was read has no statement of DefaultName that is no let. No program is spoken of.
  The specification's draw of a program in memory. No program is spoken of but for the numbers of its types.
  What spec's l4Spec answers: the walk.
-/
import Derived.Test.YticdggnnpjachaaGreatCbImplParseJToMdMem
namespace Go.Proofs.YticdggnnpjachaaGreat
set_option maxRecDepth 100000
set_option maxHeartbeats 12800000
open Go.RowKit Go.PlainAid
def zcL (S:Src) (g N:Nat) (w:World) (e:Ending) (w':World):Prop:=∃x q',e= .returned (.string x)∧x.size≤N∧zR 147 S w' g q'∧w.grownBy w' (some g)
theorem zeK (w:World) (o:Obj) (r:Option Nat):w.grownBy (w.alloc o) r:=⟨rfl,rfl,rfl,by rw[zk];omega,fun k j _=>heap_alloc_old w o j⟩
theorem zeL {S:Src} {w:World} {g:Nat} {q:Nat×Int} (h:zR 147 S w g q) (o:Obj):zR 147 S (w.alloc o) g q:=zcC h ((Below.refl w.heap.size w).alloc (Nat.le_refl _) _) (zcB h)
theorem zb0 (S:Src) (I:S.ok) (g:Nat) (q:Nat×Int) (N:Nat) (l:List ByteArray) (w:World) (z:zR 147 S w g q) (H:1≤l.length) (D:l.length≤1000) (E: ∀x∈l,x.size≤N):
  Calls Tryz.prog 111 #[.pointer (some ⟨g,0,none⟩),.slice (some ⟨w.heap.size,0,none⟩) l.length l.length] (w.alloc (.cells (l.map Value.string).toArray 9)) (zcL S g N w):=by
 have L:=zcB z
 refine (zge S I g q w.heap.size l.length N _ (zeL z _) H D (by rw[zk];omega) (by omega) ?_).mono ?_
 ·intro j A
  rw[World.cell?_alloc_new]
  refine⟨l[j],?_,E _ (List.getElem_mem A)⟩
  simp[List.getElem?_eq_getElem A]
 ·rintro e M ⟨x,K,rfl,J,n,o⟩
  exact⟨x,K,rfl,J,n,zB (zeK w _ _) o⟩
theorem zg7 (S:Src) (Q:S.ok) (g:Nat) (V:Bool) (d N:Nat) (hd:d≤2) (hN:N≤100000) (ih:0<d→∀(q:Nat×Int) (w:World),zR 147 S w g q→Calls Tryz.prog 185 #[.pointer (some ⟨g,0,none⟩),.int .i64 ((d:Int)-1),.bool V] w (zcL S g N w))
  (q0:Nat×Int) (w0:World) (j:zR 147 S w0 g q0):Calls Tryz.prog 185 #[.pointer (some ⟨g,0,none⟩),.int .i64 (d:Int),.bool V] w0 (zcL S g (2*N+110) w0):=by
 have af:=zc j
 have ai:Hid (w0.grownBy w0 (some g)):=⟨rfl,rfl,rfl,Nat.le_refl _,fun _ _ _=>rfl⟩
 have IH:=zc ih
 clear j ih
 go_enter Tryz.func185,Tryz.ntmps185
 go_wp2_with fail
 refine (zb0 S Q g _ 100 [{data:=#[97]},{data:=#[98]},{data:=#[120]},{data:=#[102]},{data:=#[103]},{data:=#[110]},{data:=#[100]}] _ af.out (by simp) (by simp) (by intro x K;simp only[List.mem_cons,List.not_mem_nil,or_false] at K;rcases K with rfl|rfl|rfl|rfl|rfl|rfl|rfl<;>decide)).mono ?_
 rintro e w1 ⟨x1,q1,rfl,z1,j,n⟩
 have ae:=zc j
 have ah:=zc (zB ai.out n)
 clear j n
 go_wp2_with fail
 refine (zaD S Q g _ 9 _ ae.out (by omega)).mono ?_
 rintro e w2 ⟨rfl,j,n⟩
 have L:=zaV S q1 9 (by omega)
 obtain⟨Y,hk⟩: ∃k:Nat,(bw S q1 9).1=k:=⟨(bw S q1 9).1.toNat,by omega⟩
 obtain⟨I,J⟩: ∃U,(bw S q1 9).2=U:=⟨_,rfl⟩
 rw[hk] at L ⊢
 rw[J] at j
 have A:=zc j
 have D:=zc (zB ah.out n)
 clear j n
 have aj:Y<9:=by omega
 clear L hk J
 have ac:True:=trivial
 clear ac
 rcases (show Y=0∨Y=1∨Y=2∨Y=3∨Y=4∨Y=5∨Y=6∨Y=7∨Y=8 by omega) with rfl|rfl|rfl|rfl|rfl|rfl|rfl|rfl|rfl
 ·go_wp2_with fail
  refine (zaD S Q g _ 9 _ A.out (by omega)).mono ?_
  rintro e w3 ⟨rfl,j,n⟩
  have L:=zaV S I 9 (by omega)
  obtain⟨k3,hk⟩: ∃k:Nat,(bw S I 9).1=k:=⟨(bw S I 9).1.toNat,by omega⟩
  obtain⟨O,J⟩: ∃U,(bw S I 9).2=U:=⟨_,rfl⟩
  rw[hk] at L ⊢
  rw[J] at j
  have z:=zc j
  have o:=zc (zB D.out n)
  clear j n
  have ag:k3<9:=by omega
  clear L hk J
  go_wp2_with fail
  refine (zgj (k3:Int) _ (by omega)).mono ?_
  rintro e w4 ⟨rfl,hb⟩
  have H:=zc (zcC z.out hb (zcB z.out))
  have E:=zc (zcV o.out hb o.out.size)
  have hz:=zgo (k3:Int) (by omega) (by omega)
  clear hb
  go_wp2
  go_ret
  exact⟨_,O,rfl,by omega,H.out,E.out⟩
 ·go_wp2_with fail
  refine (zaD S Q g _ 9 _ A.out (by omega)).mono ?_
  rintro e w3 ⟨rfl,j,n⟩
  have L:=zaV S I 9 (by omega)
  obtain⟨k3,hk⟩: ∃k:Nat,(bw S I 9).1=k:=⟨(bw S I 9).1.toNat,by omega⟩
  obtain⟨O,J⟩: ∃U,(bw S I 9).2=U:=⟨_,rfl⟩
  rw[hk] at L ⊢
  rw[J] at j
  have z:=zc j
  have o:=zc (zB D.out n)
  clear j n
  have ag:k3<9:=by omega
  clear L hk J
  go_wp2_with fail
  refine (zgj (k3:Int) _ (by omega)).mono ?_
  rintro e w4 ⟨rfl,hb⟩
  have H:=zc (zcC z.out hb (zcB z.out))
  have E:=zc (zcV o.out hb o.out.size)
  have hz:=zgo (k3:Int) (by omega) (by omega)
  clear hb
  go_wp2
  go_ret
  exact⟨_,O,rfl,by omega,H.out,E.out⟩
 ·go_wp2
  go_ret
  exact⟨_,I,rfl,by have Z:(({data:=#[32,40,32,41]}:ByteArray)).size=4:=rfl;simp only[ByteArray.size_append,Z];omega,A.out,D.out⟩
 ·go_wp2
  go_ret
  exact⟨_,I,rfl,by have Z:(({data:=#[110,32,46,32]}:ByteArray)).size=4:=rfl;simp only[ByteArray.size_append,Z];omega,A.out,D.out⟩
 ·go_wp2
  go_ret
  exact⟨_,I,rfl,by have Z:(({data:=#[110,32,46,32,102,32,40,32,41]}:ByteArray)).size=9:=rfl;omega,A.out,D.out⟩
 ·by_cases M:0<d
  ·go_wp2_with fail
   refine (IH.out M I _ A.out).mono ?_
   rintro e w3 ⟨x3,O,rfl,z3,j,n⟩
   have z:=zc j
   have o:=zc (zB D.out n)
   clear j n
   go_wp2_with fail
   refine (zb0 S Q g _ 100 [{data:=#[43]},{data:=#[45]},{data:=#[42]}] _ z.out (by simp) (by simp) (by intro x K;simp only[List.mem_cons,List.not_mem_nil,or_false] at K;rcases K with rfl|rfl|rfl<;>decide)).mono ?_
   rintro e w4 ⟨x4,X,rfl,z4,j,n⟩
   have H:=zc j
   have E:=zc (zB o.out n)
   clear j n
   go_wp2_with fail
   refine (IH.out M X _ H.out).mono ?_
   rintro e w5 ⟨x5,q5,rfl,z5,j,n⟩
   have ab:=zc j
   have aa:=zc (zB E.out n)
   clear j n
   go_wp2
   go_ret
   exact⟨_,q5,rfl,by have Z:(({data:=#[32]}:ByteArray)).size=1:=rfl;simp only[ByteArray.size_append,Z];omega,ab.out,aa.out⟩
  ·have ad: ¬0<(d:Int):=by omega
   cases V with
   |false=>
    go_wp2
    go_ret
    exact⟨_,I,rfl,by omega,A.out,D.out⟩
   |true=>
    go_wp2_with fail
    refine (zcD S Q g _ 8 _ A.out (by omega)).mono ?_
    rintro e w3 ⟨rfl,j,n⟩
    obtain⟨O,J⟩: ∃U,(bw S I 8).2=U:=⟨_,rfl⟩
    rw[J] at j
    have z:=zc j
    have o:=zc (zB D.out n)
    clear j n J
    generalize ((bw S I 8).1==0)=b
    cases b with
    |false=>
     go_wp2
     go_ret
     exact⟨_,O,rfl,by omega,z.out,o.out⟩
    |true=>
     go_wp2_with fail
     refine (zb0 S Q g _ 100 [{data:=#[117,110,100,101,102]},{data:=#[117,110,100,101,102,32,40,32,41]},{data:=#[97,36,49]},{data:=#[120,36]}] _ z.out (by simp) (by simp) (by intro x K;simp only[List.mem_cons,List.not_mem_nil,or_false] at K;rcases K with rfl|rfl|rfl|rfl<;>decide)).mono ?_
     rintro e w4 ⟨x4,X,rfl,z4,j,n⟩
     have H:=zc j
     have E:=zc (zB o.out n)
     clear j n
     go_wp2
     go_ret
     exact⟨_,X,rfl,by omega,H.out,E.out⟩
 ·by_cases M:0<d
  ·go_wp2_with fail
   refine (IH.out M I _ A.out).mono ?_
   rintro e w3 ⟨x3,O,rfl,z3,j,n⟩
   have z:=zc j
   have o:=zc (zB D.out n)
   clear j n
   go_wp2_with fail
   refine (zb0 S Q g _ 100 [{data:=#[43]},{data:=#[45]},{data:=#[42]}] _ z.out (by simp) (by simp) (by intro x K;simp only[List.mem_cons,List.not_mem_nil,or_false] at K;rcases K with rfl|rfl|rfl<;>decide)).mono ?_
   rintro e w4 ⟨x4,X,rfl,z4,j,n⟩
   have H:=zc j
   have E:=zc (zB o.out n)
   clear j n
   go_wp2_with fail
   refine (IH.out M X _ H.out).mono ?_
   rintro e w5 ⟨x5,q5,rfl,z5,j,n⟩
   have ab:=zc j
   have aa:=zc (zB E.out n)
   clear j n
   go_wp2
   go_ret
   exact⟨_,q5,rfl,by have Z:(({data:=#[32]}:ByteArray)).size=1:=rfl;simp only[ByteArray.size_append,Z];omega,ab.out,aa.out⟩
  ·have ad: ¬0<(d:Int):=by omega
   cases V with
   |false=>
    go_wp2
    go_ret
    exact⟨_,I,rfl,by omega,A.out,D.out⟩
   |true=>
    go_wp2_with fail
    refine (zcD S Q g _ 8 _ A.out (by omega)).mono ?_
    rintro e w3 ⟨rfl,j,n⟩
    obtain⟨O,J⟩: ∃U,(bw S I 8).2=U:=⟨_,rfl⟩
    rw[J] at j
    have z:=zc j
    have o:=zc (zB D.out n)
    clear j n J
    generalize ((bw S I 8).1==0)=b
    cases b with
    |false=>
     go_wp2
     go_ret
     exact⟨_,O,rfl,by omega,z.out,o.out⟩
    |true=>
     go_wp2_with fail
     refine (zb0 S Q g _ 100 [{data:=#[117,110,100,101,102]},{data:=#[117,110,100,101,102,32,40,32,41]},{data:=#[97,36,49]},{data:=#[120,36]}] _ z.out (by simp) (by simp) (by intro x K;simp only[List.mem_cons,List.not_mem_nil,or_false] at K;rcases K with rfl|rfl|rfl|rfl<;>decide)).mono ?_
     rintro e w4 ⟨x4,X,rfl,z4,j,n⟩
     have H:=zc j
     have E:=zc (zB o.out n)
     clear j n
     go_wp2
     go_ret
     exact⟨_,X,rfl,by omega,H.out,E.out⟩
 ·by_cases M:0<d
  ·go_wp2_with fail
   refine (IH.out M I _ A.out).mono ?_
   rintro e w3 ⟨x3,O,rfl,z3,j,n⟩
   have z:=zc j
   have o:=zc (zB D.out n)
   clear j n
   go_wp2
   go_ret
   exact⟨_,O,rfl,by have Z:(({data:=#[40,32]}:ByteArray)).size=2:=rfl;have y1:(({data:=#[32,41]}:ByteArray)).size=2:=rfl;simp only[ByteArray.size_append,Z,y1];omega,z.out,o.out⟩
  ·have ad: ¬0<(d:Int):=by omega
   cases V with
   |false=>
    go_wp2
    go_ret
    exact⟨_,I,rfl,by omega,A.out,D.out⟩
   |true=>
    go_wp2_with fail
    refine (zcD S Q g _ 8 _ A.out (by omega)).mono ?_
    rintro e w3 ⟨rfl,j,n⟩
    obtain⟨O,J⟩: ∃U,(bw S I 8).2=U:=⟨_,rfl⟩
    rw[J] at j
    have z:=zc j
    have o:=zc (zB D.out n)
    clear j n J
    generalize ((bw S I 8).1==0)=b
    cases b with
    |false=>
     go_wp2
     go_ret
     exact⟨_,O,rfl,by omega,z.out,o.out⟩
    |true=>
     go_wp2_with fail
     refine (zb0 S Q g _ 100 [{data:=#[117,110,100,101,102]},{data:=#[117,110,100,101,102,32,40,32,41]},{data:=#[97,36,49]},{data:=#[120,36]}] _ z.out (by simp) (by simp) (by intro x K;simp only[List.mem_cons,List.not_mem_nil,or_false] at K;rcases K with rfl|rfl|rfl|rfl<;>decide)).mono ?_
     rintro e w4 ⟨x4,X,rfl,z4,j,n⟩
     have H:=zc j
     have E:=zc (zB o.out n)
     clear j n
     go_wp2
     go_ret
     exact⟨_,X,rfl,by omega,H.out,E.out⟩
 ·cases V with
  |false=>
   go_wp2
   go_ret
   exact⟨_,I,rfl,by omega,A.out,D.out⟩
  |true=>
   go_wp2_with fail
   refine (zcD S Q g _ 8 _ A.out (by omega)).mono ?_
   rintro e w3 ⟨rfl,j,n⟩
   obtain⟨O,J⟩: ∃U,(bw S I 8).2=U:=⟨_,rfl⟩
   rw[J] at j
   have z:=zc j
   have o:=zc (zB D.out n)
   clear j n J
   generalize ((bw S I 8).1==0)=b
   cases b with
   |false=>
    go_wp2
    go_ret
    exact⟨_,O,rfl,by omega,z.out,o.out⟩
   |true=>
    go_wp2_with fail
    refine (zb0 S Q g _ 100 [{data:=#[117,110,100,101,102]},{data:=#[117,110,100,101,102,32,40,32,41]},{data:=#[97,36,49]},{data:=#[120,36]}] _ z.out (by simp) (by simp) (by intro x K;simp only[List.mem_cons,List.not_mem_nil,or_false] at K;rcases K with rfl|rfl|rfl|rfl<;>decide)).mono ?_
    rintro e w4 ⟨x4,X,rfl,z4,j,n⟩
    have H:=zc j
    have E:=zc (zB o.out n)
    clear j n
    go_wp2
    go_ret
    exact⟨_,X,rfl,by omega,H.out,E.out⟩
theorem zmj (S:Src) (o:S.ok) (g:Nat) (j:Bool) (q:Nat×Int) (w:World) (n:zR 147 S w g q):Calls Tryz.prog 185 #[.pointer (some ⟨g,0,none⟩),.int .i64 2,.bool j] w (zcL S g 770 w):=by
 have A: ∀(q:Nat×Int) (w:World),zR 147 S w g q→Calls Tryz.prog 185 #[.pointer (some ⟨g,0,none⟩),.int .i64 0,.bool j] w (zcL S g 110 w):=fun q w n=>zg7 S o g j 0 0 (by omega) (by omega) (fun h=>absurd h (Nat.lt_irrefl 0)) q w n
 have z: ∀(q:Nat×Int) (w:World),zR 147 S w g q→Calls Tryz.prog 185 #[.pointer (some ⟨g,0,none⟩),.int .i64 1,.bool j] w (zcL S g 330 w):=fun q w n=>zg7 S o g j 1 110 (by omega) (by omega) (fun _=>A) q w n
 exact zg7 S o g j 2 330 (by omega) (by omega) (fun _=>z) q w n
theorem zmk (S:Src) (M:S.ok) (g:Nat) (Q:Bool) (q0:Nat×Int) (w0:World) (z:zR 147 S w0 g q0):Calls Tryz.prog 156 #[.pointer (some ⟨g,0,none⟩),.bool Q] w0 (zcL S g 1500 w0):=by
 have ac:=zc z
 have ag:Hid (w0.grownBy w0 (some g)):=⟨rfl,rfl,rfl,Nat.le_refl _,fun _ _ _=>rfl⟩
 clear z
 go_enter Tryz.func156,Tryz.ntmps156
 go_wp2_with fail
 refine (zb0 S M g _ 100 [{data:=#[97]},{data:=#[98]},{data:=#[120]},{data:=#[102]},{data:=#[103]}] _ ac.out (by simp) (by simp) (by intro x K;simp only[List.mem_cons,List.not_mem_nil,or_false] at K;rcases K with rfl|rfl|rfl|rfl|rfl<;>decide)).mono ?_
 rintro e w1 ⟨x1,q1,rfl,z1,z,E⟩
 have ab:=zc z
 have ad:=zc (zB ag.out E)
 clear z E
 go_wp2_with fail
 refine (zmj S M g Q q1 _ ab.out).mono ?_
 rintro e w2 ⟨x2,q2,rfl,z2,z,E⟩
 have aa:=zc z
 have ae:=zc (zB ad.out E)
 clear z E
 go_wp2_with fail
 refine (zb0 S M g _ 100 [{data:=#[46,47,98]},{data:=#[46,47,99]},{data:=#[46,47,97]},{data:=#[120]},{data:=#[46,47,100]}] _ aa.out (by simp) (by simp) (by intro x K;simp only[List.mem_cons,List.not_mem_nil,or_false] at K;rcases K with rfl|rfl|rfl|rfl|rfl<;>decide)).mono ?_
 rintro e w3 ⟨x3,Z,rfl,z3,z,E⟩
 have ah:=zc z
 have af:=zc (zB ae.out E)
 clear z E
 go_wp2_with fail
 refine (zaD S M g _ 16 _ ah.out (by omega)).mono ?_
 rintro e w4 ⟨rfl,z,E⟩
 have X:=zaV S Z 16 (by omega)
 obtain⟨H,hk⟩: ∃k:Nat,(bw S Z 16).1=k:=⟨(bw S Z 16).1.toNat,by omega⟩
 obtain⟨J,N⟩: ∃Y,(bw S Z 16).2=Y:=⟨_,rfl⟩
 rw[hk] at X ⊢
 rw[N] at z
 have q:=zc z
 have o:=zc (zB af.out E)
 clear z E
 have ai:H<16:=by omega
 clear X hk N
 cases Q with
 |false=>
  rcases (show H=0∨H=1∨H=2∨H=3∨H=4∨H=5∨H=6∨H=7∨H=8∨H=9∨H=10∨H=11∨H=12∨H=13∨H=14∨H=15 by omega) with rfl|rfl|rfl|rfl|rfl|rfl|rfl|rfl|rfl|rfl|rfl|rfl|rfl|rfl|rfl|rfl
  ·go_wp2
   go_ret
   exact⟨_,J,rfl,by have j:(({data:=#[108,101,116,32]}:ByteArray)).size=4:=rfl;have n:(({data:=#[32,61,32]}:ByteArray)).size=3:=rfl;have I:(({data:=#[59]}:ByteArray)).size=1:=rfl;simp only[ByteArray.size_append,j,n,I];omega,q.out,o.out⟩
  ·go_wp2
   go_ret
   exact⟨_,J,rfl,by have j:(({data:=#[108,101,116,32]}:ByteArray)).size=4:=rfl;have n:(({data:=#[32,61,32]}:ByteArray)).size=3:=rfl;have I:(({data:=#[59]}:ByteArray)).size=1:=rfl;simp only[ByteArray.size_append,j,n,I];omega,q.out,o.out⟩
  ·go_wp2
   go_ret
   exact⟨_,J,rfl,by have j:(({data:=#[108,101,116,32]}:ByteArray)).size=4:=rfl;have n:(({data:=#[32,61,32]}:ByteArray)).size=3:=rfl;have I:(({data:=#[59]}:ByteArray)).size=1:=rfl;simp only[ByteArray.size_append,j,n,I];omega,q.out,o.out⟩
  ·go_wp2_with fail
   refine (zb0 S M g _ 100 [{data:=#[102]},{data:=#[103]}] _ q.out (by simp) (by simp) (by intro x K;simp only[List.mem_cons,List.not_mem_nil,or_false] at K;rcases K with rfl|rfl<;>decide)).mono ?_
   rintro e O ⟨V,L,rfl,U,z,E⟩
   have D:=zc z
   have A:=zc (zB o.out E)
   clear z E
   go_wp2
   go_ret
   exact⟨_,L,rfl,by have j:(({data:=#[102,117,110,99,116,105,111,110,32]}:ByteArray)).size=9:=rfl;have n:(({data:=#[40,41,32,123,32,114,101,116,117,114,110,32]}:ByteArray)).size=12:=rfl;have I:(({data:=#[59,32,125]}:ByteArray)).size=3:=rfl;simp only[ByteArray.size_append,j,n,I];omega,D.out,A.out⟩
  ·go_wp2
   go_ret
   exact⟨_,J,rfl,by have j:(({data:=#[32,61,32]}:ByteArray)).size=3:=rfl;have n:(({data:=#[59]}:ByteArray)).size=1:=rfl;simp only[ByteArray.size_append,j,n];omega,q.out,o.out⟩
  ·go_wp2
   go_ret
   exact⟨_,J,rfl,by have j:(({data:=#[112,114,105,110,116,40]}:ByteArray)).size=6:=rfl;have n:(({data:=#[41,59]}:ByteArray)).size=2:=rfl;simp only[ByteArray.size_append,j,n];omega,q.out,o.out⟩
  ·go_wp2
   go_ret
   exact⟨_,J,rfl,by have j:(({data:=#[112,114,105,110,116,40]}:ByteArray)).size=6:=rfl;have n:(({data:=#[41,59]}:ByteArray)).size=2:=rfl;simp only[ByteArray.size_append,j,n];omega,q.out,o.out⟩
  ·go_wp2
   go_ret
   exact⟨_,J,rfl,by have j:(({data:=#[116,104,114,111,119,32]}:ByteArray)).size=6:=rfl;have n:(({data:=#[59]}:ByteArray)).size=1:=rfl;simp only[ByteArray.size_append,j,n];omega,q.out,o.out⟩
  ·go_wp2_with fail
   refine (zb0 S M g _ 100 [{data:=#[]},{data:=#[32,97,115,32,120]},{data:=#[32,97,115,32,98,44,32,103]}] _ q.out (by simp) (by simp) (by intro x K;simp only[List.mem_cons,List.not_mem_nil,or_false] at K;rcases K with rfl|rfl|rfl<;>decide)).mono ?_
   rintro e O ⟨V,L,rfl,U,z,E⟩
   have D:=zc z
   have A:=zc (zB o.out E)
   clear z E
   go_wp2
   go_ret
   exact⟨_,L,rfl,by have j:(({data:=#[105,109,112,111,114,116,32,123,32]}:ByteArray)).size=9:=rfl;have n:(({data:=#[32,125,32,102,114,111,109,32,34]}:ByteArray)).size=9:=rfl;have I:(({data:=#[34,59]}:ByteArray)).size=2:=rfl;simp only[ByteArray.size_append,j,n,I];omega,D.out,A.out⟩
  ·go_wp2
   go_ret
   exact⟨_,J,rfl,by have j:(({data:=#[105,109,112,111,114,116,32,42,32,97,115,32,110,32,102,114,111,109,32,34]}:ByteArray)).size=20:=rfl;have n:(({data:=#[34,59]}:ByteArray)).size=2:=rfl;simp only[ByteArray.size_append,j,n];omega,q.out,o.out⟩
  ·go_wp2
   go_ret
   exact⟨_,J,rfl,by have j:(({data:=#[105,109,112,111,114,116,32,100,32,102,114,111,109,32,34]}:ByteArray)).size=15:=rfl;have n:(({data:=#[34,59]}:ByteArray)).size=2:=rfl;simp only[ByteArray.size_append,j,n];omega,q.out,o.out⟩
  ·go_wp2_with fail
   refine (zb0 S M g _ 100 [{data:=#[]},{data:=#[32,97,115,32,121]},{data:=#[32,97,115,32,100,101,102,97,117,108,116]}] _ q.out (by simp) (by simp) (by intro x K;simp only[List.mem_cons,List.not_mem_nil,or_false] at K;rcases K with rfl|rfl|rfl<;>decide)).mono ?_
   rintro e O ⟨V,L,rfl,U,z,E⟩
   have D:=zc z
   have A:=zc (zB o.out E)
   clear z E
   go_wp2
   go_ret
   exact⟨_,L,rfl,by have j:(({data:=#[101,120,112,111,114,116,32,123,32]}:ByteArray)).size=9:=rfl;have n:(({data:=#[32,125,59]}:ByteArray)).size=3:=rfl;simp only[ByteArray.size_append,j,n];omega,D.out,A.out⟩
  ·go_wp2_with fail
   refine (zb0 S M g _ 100 [{data:=#[]},{data:=#[32,97,115,32,121]},{data:=#[44,32,100,101,102,97,117,108,116]}] _ q.out (by simp) (by simp) (by intro x K;simp only[List.mem_cons,List.not_mem_nil,or_false] at K;rcases K with rfl|rfl|rfl<;>decide)).mono ?_
   rintro e O ⟨V,L,rfl,U,z,E⟩
   have D:=zc z
   have A:=zc (zB o.out E)
   clear z E
   go_wp2
   go_ret
   exact⟨_,L,rfl,by have j:(({data:=#[101,120,112,111,114,116,32,123,32]}:ByteArray)).size=9:=rfl;have n:(({data:=#[32,125,32,102,114,111,109,32,34]}:ByteArray)).size=9:=rfl;have I:(({data:=#[34,59]}:ByteArray)).size=2:=rfl;simp only[ByteArray.size_append,j,n,I];omega,D.out,A.out⟩
  ·go_wp2
   go_ret
   exact⟨_,J,rfl,by have j:(({data:=#[101,120,112,111,114,116,32,42,32,102,114,111,109,32,34]}:ByteArray)).size=15:=rfl;have n:(({data:=#[34,59]}:ByteArray)).size=2:=rfl;simp only[ByteArray.size_append,j,n];omega,q.out,o.out⟩
  ·go_wp2
   go_ret
   exact⟨_,J,rfl,by have j:(({data:=#[101,120,112,111,114,116,32,100,101,102,97,117,108,116,32]}:ByteArray)).size=15:=rfl;have n:(({data:=#[59]}:ByteArray)).size=1:=rfl;simp only[ByteArray.size_append,j,n];omega,q.out,o.out⟩
  ·go_wp2_with fail
   refine (zb0 S M g _ 900 [({data:=#[108,101,116,32]}:ByteArray)++x1++({data:=#[32,61,32]}:ByteArray)++x2++({data:=#[59]}:ByteArray),({data:=#[102,117,110,99,116,105,111,110,32,102,40,41,32,123,32,114,101,116,117,114,110,32]}:ByteArray)++x2++({data:=#[59,32,125]}:ByteArray),({data:=#[108,101,116,32,122,32,61,32,49,59]}:ByteArray)] _ q.out (by simp) (by simp) (by intro x K;simp only[List.mem_cons,List.not_mem_nil,or_false] at K;have j:(({data:=#[108,101,116,32]}:ByteArray)).size=4:=rfl;have n:(({data:=#[32,61,32]}:ByteArray)).size=3:=rfl;have I:(({data:=#[59]}:ByteArray)).size=1:=rfl;have y3:(({data:=#[102,117,110,99,116,105,111,110,32,102,40,41,32,123,32,114,101,116,117,114,110,32]}:ByteArray)).size=22:=rfl;have y4:(({data:=#[59,32,125]}:ByteArray)).size=3:=rfl;have y5:(({data:=#[108,101,116,32,122,32,61,32,49,59]}:ByteArray)).size=10:=rfl;rcases K with rfl|rfl|rfl<;>simp only[ByteArray.size_append,j,n,I,y3,y4,y5]<;>omega)).mono ?_
   rintro e O ⟨V,L,rfl,U,z,E⟩
   have D:=zc z
   have A:=zc (zB o.out E)
   clear z E
   go_wp2
   go_ret
   exact⟨_,L,rfl,by have j:(({data:=#[101,120,112,111,114,116,32]}:ByteArray)).size=7:=rfl;simp only[ByteArray.size_append,j];omega,D.out,A.out⟩
 |true=>
  rcases (show H=0∨H=1∨H=2∨H=3∨H=4∨H=5∨H=6∨H=7∨H=8∨H=9∨H=10∨H=11∨H=12∨H=13∨H=14∨H=15 by omega) with rfl|rfl|rfl|rfl|rfl|rfl|rfl|rfl|rfl|rfl|rfl|rfl|rfl|rfl|rfl|rfl
  ·go_wp2
   go_ret
   exact⟨_,J,rfl,by have j:(({data:=#[108,101,116,32]}:ByteArray)).size=4:=rfl;have n:(({data:=#[32,61,32]}:ByteArray)).size=3:=rfl;have I:(({data:=#[59]}:ByteArray)).size=1:=rfl;simp only[ByteArray.size_append,j,n,I];omega,q.out,o.out⟩
  ·go_wp2
   go_ret
   exact⟨_,J,rfl,by have j:(({data:=#[108,101,116,32]}:ByteArray)).size=4:=rfl;have n:(({data:=#[32,61,32]}:ByteArray)).size=3:=rfl;have I:(({data:=#[59]}:ByteArray)).size=1:=rfl;simp only[ByteArray.size_append,j,n,I];omega,q.out,o.out⟩
  ·go_wp2
   go_ret
   exact⟨_,J,rfl,by have j:(({data:=#[108,101,116,32]}:ByteArray)).size=4:=rfl;have n:(({data:=#[32,61,32]}:ByteArray)).size=3:=rfl;have I:(({data:=#[59]}:ByteArray)).size=1:=rfl;simp only[ByteArray.size_append,j,n,I];omega,q.out,o.out⟩
  ·go_wp2_with fail
   refine (zb0 S M g _ 100 [{data:=#[102]},{data:=#[103]}] _ q.out (by simp) (by simp) (by intro x K;simp only[List.mem_cons,List.not_mem_nil,or_false] at K;rcases K with rfl|rfl<;>decide)).mono ?_
   rintro e O ⟨V,L,rfl,U,z,E⟩
   have D:=zc z
   have A:=zc (zB o.out E)
   clear z E
   go_wp2
   go_ret
   exact⟨_,L,rfl,by have j:(({data:=#[102,117,110,99,116,105,111,110,32]}:ByteArray)).size=9:=rfl;have n:(({data:=#[40,41,32,123,32,114,101,116,117,114,110,32]}:ByteArray)).size=12:=rfl;have I:(({data:=#[59,32,125]}:ByteArray)).size=3:=rfl;simp only[ByteArray.size_append,j,n,I];omega,D.out,A.out⟩
  ·go_wp2
   go_ret
   exact⟨_,J,rfl,by have j:(({data:=#[32,61,32]}:ByteArray)).size=3:=rfl;have n:(({data:=#[59]}:ByteArray)).size=1:=rfl;simp only[ByteArray.size_append,j,n];omega,q.out,o.out⟩
  ·go_wp2
   go_ret
   exact⟨_,J,rfl,by have j:(({data:=#[112,114,105,110,116,40]}:ByteArray)).size=6:=rfl;have n:(({data:=#[41,59]}:ByteArray)).size=2:=rfl;simp only[ByteArray.size_append,j,n];omega,q.out,o.out⟩
  ·go_wp2
   go_ret
   exact⟨_,J,rfl,by have j:(({data:=#[112,114,105,110,116,40]}:ByteArray)).size=6:=rfl;have n:(({data:=#[41,59]}:ByteArray)).size=2:=rfl;simp only[ByteArray.size_append,j,n];omega,q.out,o.out⟩
  ·go_wp2_with fail
   refine (zcD S M g _ 2 _ q.out (by omega)).mono ?_
   rintro e O ⟨rfl,z,E⟩
   obtain⟨L,N⟩: ∃Y,(bw S J 2).2=Y:=⟨_,rfl⟩
   rw[N] at z
   have D:=zc z
   have A:=zc (zB o.out E)
   clear z E N
   generalize ((bw S J 2).1==0)=b
   cases b with
   |false=>
    go_wp2
    go_ret
    exact⟨_,L,rfl,by have j:(({data:=#[116,104,114,111,119,32]}:ByteArray)).size=6:=rfl;have n:(({data:=#[59]}:ByteArray)).size=1:=rfl;simp only[ByteArray.size_append,j,n];omega,D.out,A.out⟩
   |true=>
    go_wp2
    go_ret
    exact⟨_,L,rfl,by have j:(({data:=#[102,97,105,108,32]}:ByteArray)).size=5:=rfl;have n:(({data:=#[59]}:ByteArray)).size=1:=rfl;simp only[ByteArray.size_append,j,n];omega,D.out,A.out⟩
  ·go_wp2
   go_ret
   exact⟨_,J,rfl,by have j:(({data:=#[108,101,116,32]}:ByteArray)).size=4:=rfl;have n:(({data:=#[32,61,32]}:ByteArray)).size=3:=rfl;have I:(({data:=#[59]}:ByteArray)).size=1:=rfl;simp only[ByteArray.size_append,j,n,I];omega,q.out,o.out⟩
  ·go_wp2
   go_ret
   exact⟨_,J,rfl,by have j:(({data:=#[108,101,116,32]}:ByteArray)).size=4:=rfl;have n:(({data:=#[32,61,32]}:ByteArray)).size=3:=rfl;have I:(({data:=#[59]}:ByteArray)).size=1:=rfl;simp only[ByteArray.size_append,j,n,I];omega,q.out,o.out⟩
  ·go_wp2
   go_ret
   exact⟨_,J,rfl,by have j:(({data:=#[108,101,116,32]}:ByteArray)).size=4:=rfl;have n:(({data:=#[32,61,32]}:ByteArray)).size=3:=rfl;have I:(({data:=#[59]}:ByteArray)).size=1:=rfl;simp only[ByteArray.size_append,j,n,I];omega,q.out,o.out⟩
  ·go_wp2_with fail
   refine (zb0 S M g _ 100 [{data:=#[102]},{data:=#[103]}] _ q.out (by simp) (by simp) (by intro x K;simp only[List.mem_cons,List.not_mem_nil,or_false] at K;rcases K with rfl|rfl<;>decide)).mono ?_
   rintro e O ⟨V,L,rfl,U,z,E⟩
   have D:=zc z
   have A:=zc (zB o.out E)
   clear z E
   go_wp2
   go_ret
   exact⟨_,L,rfl,by have j:(({data:=#[102,117,110,99,116,105,111,110,32]}:ByteArray)).size=9:=rfl;have n:(({data:=#[40,41,32,123,32,114,101,116,117,114,110,32]}:ByteArray)).size=12:=rfl;have I:(({data:=#[59,32,125]}:ByteArray)).size=3:=rfl;simp only[ByteArray.size_append,j,n,I];omega,D.out,A.out⟩
  ·go_wp2
   go_ret
   exact⟨_,J,rfl,by have j:(({data:=#[32,61,32]}:ByteArray)).size=3:=rfl;have n:(({data:=#[59]}:ByteArray)).size=1:=rfl;simp only[ByteArray.size_append,j,n];omega,q.out,o.out⟩
  ·go_wp2
   go_ret
   exact⟨_,J,rfl,by have j:(({data:=#[112,114,105,110,116,40]}:ByteArray)).size=6:=rfl;have n:(({data:=#[41,59]}:ByteArray)).size=2:=rfl;simp only[ByteArray.size_append,j,n];omega,q.out,o.out⟩
  ·go_wp2
   go_ret
   exact⟨_,J,rfl,by have j:(({data:=#[112,114,105,110,116,40]}:ByteArray)).size=6:=rfl;have n:(({data:=#[41,59]}:ByteArray)).size=2:=rfl;simp only[ByteArray.size_append,j,n];omega,q.out,o.out⟩
  ·go_wp2_with fail
   refine (zcD S M g _ 2 _ q.out (by omega)).mono ?_
   rintro e O ⟨rfl,z,E⟩
   obtain⟨L,N⟩: ∃Y,(bw S J 2).2=Y:=⟨_,rfl⟩
   rw[N] at z
   have D:=zc z
   have A:=zc (zB o.out E)
   clear z E N
   generalize ((bw S J 2).1==0)=b
   cases b with
   |false=>
    go_wp2
    go_ret
    exact⟨_,L,rfl,by have j:(({data:=#[116,104,114,111,119,32]}:ByteArray)).size=6:=rfl;have n:(({data:=#[59]}:ByteArray)).size=1:=rfl;simp only[ByteArray.size_append,j,n];omega,D.out,A.out⟩
   |true=>
    go_wp2
    go_ret
    exact⟨_,L,rfl,by have j:(({data:=#[102,97,105,108,32]}:ByteArray)).size=5:=rfl;have n:(({data:=#[59]}:ByteArray)).size=1:=rfl;simp only[ByteArray.size_append,j,n];omega,D.out,A.out⟩
def zd8 (S:Src) (y:Int) (T:List Int×(Nat×Int)) (acc:List Int) (n:Nat) (q:Nat×Int):Prop:=acc++(zcA S y n q).1=T.1∧(zcA S y n q).2=T.2
theorem zg8 {S:Src} {y:Int} {T:List Int×(Nat×Int)} {acc:List Int} {n:Nat} {q:Nat×Int} (h:zd8 S y T acc (n+1) q):zd8 S y T (acc++[chr y (cb S q).1]) n (cb S q).2:=by
 obtain⟨a,b⟩:=h
 rw[zcA] at a b
 exact⟨by rw[List.append_assoc];exact a,b⟩
theorem zml {S:Src} {y:Int} {T:List Int×(Nat×Int)} {acc:List Int} {q:Nat×Int} (h:zd8 S y T acc 0 q):acc=T.1∧q=T.2:=by
 obtain⟨a,b⟩:=h
 rw[zcA] at a b
 exact⟨by simpa using a,b⟩
theorem zmm (S:Src) (hS:S.ok) (g:Nat) (q:Nat×Int) (j:Int) (w:World) (hc:zR 147 S w g q) (ao:0≤j) (am:j≤1000):
  Calls Tryz.prog 186 #[.pointer (some ⟨g,0,none⟩),.int .i64 j] w fun e w'=>e= .returned (.string (strOfNums (tx S q j).1))∧zR 147 S w' g (tx S q j).2∧w.grownBy w' (some g):=by
 obtain⟨i0,hi,ab,aa,Z⟩:=info_parts Tryz.infoByte
 have H:=zcB hc
 have ag:=zaV S (bw S q 4).2 (j+1) (by omega)
 have HT:Hid (tx S q j=zcA S (bw S q 4).1 (bw S (bw S q 4).2 (j+1)).1.toNat (bw S (bw S q 4).2 (j+1)).2):=rfl
 go_enter Tryz.func186,Tryz.ntmps186
 go_wp2_with fail
 refine (zaD S hS g q 4 _ (zcC hc ((Below.refl w.heap.size w).alloc (Nat.le_refl _) _) H) (by omega)).mono ?_
 rintro e w1 ⟨rfl,af,Y⟩
 go_wp2_with fail
 refine (zaD S hS g _ (j+1) _ af (by omega)).mono ?_
 rintro e w2 ⟨rfl,ac,V⟩
 have U:zbj w2 w.heap.size 5 (.slice (some ⟨w.heap.size,0,none⟩) 0 0) 0 []:=by
  have h0:zbj (w.alloc (.cells #[] 5)) w.heap.size 5 (.slice (some ⟨w.heap.size,0,none⟩) 0 0) 0 []:=World.ownsRow_lit w #[] 0 (Nat.le_refl _) (by unfold maxLen;omega) rfl
  exact zez (zez h0 Y H) V H
 have ad:w.grownBy w2 (some g):=zB (zB (zcV (World.grownBy.refl w _) ((Below.refl w.heap.size w).alloc (Nat.le_refl _) (.cells #[] 5)) (Nat.le_refl _)) Y) V
 obtain⟨m0,L⟩: ∃m:Nat,(bw S (bw S q 4).2 (j+1)).1=m:=⟨(bw S (bw S q 4).2 (j+1)).1.toNat,by omega⟩
 rw[L]
 have ai:Hid (zd8 S (bw S q 4).1 (tx S q j) [] m0 (bw S (bw S q 4).2 (j+1)).2):=by
  show zd8 ..
  have e:=HT.out
  rw[L,Int.toNat_natCast] at e
  rw[e]
  exact⟨rfl,rfl⟩
 have ak:m0≤1000:=by omega
 clear L HT ag hc af Y V
 go_wp2
 go_loopw [5,7,8] (fun v n _ wr=>∃(k:Nat) (acc:List Int) (m:Nat) (p:Nat×Int),n= .int .i64 m∧k+m≤1000∧zd8 S (bw S q 4).1 (tx S q j) acc m p∧zbj wr w.heap.size 5 v k acc∧zR 147 S wr g p∧w.grownBy wr (some g)) (fun _ n _ _=>(intOf n).toNat)
 case atStart=>exact⟨0,[],m0,_,rfl,by omega,ai.out,U,ac,ad⟩
 case round=>
  obtain⟨k,acc,m,p,rfl,X,ae,A,O,z⟩:=hrel
  have J:=ae
  clear ae U ac ad
  match m,X,J with
  |0,X,J=>
   obtain⟨e1,e2⟩:=zml J
   have aj:Hid (acc=(tx S q j).1):=e1
   have ah:Hid (p=(tx S q j).2):=e2
   clear e1 e2 J
   rw[aj.out] at A
   have al:=zfV (P:=Tryz.prog) (src:=44) (dst:=9) Tryz.underlying44 Tryz.underlying5 Tryz.underlying9 A
   go_wp2
   go_ret
   exact⟨rfl,by rw[←ah.out];exact O,z⟩
  |m+1,X,HAT0=>
   have J:Hid (zd8 S (bw S q 4).1 (tx S q j) acc (m+1) p):=HAT0
   clear HAT0
   have an:=zdt S p
   by_cases Q:(bw S q 4).1=1
   ·have q1:((bw S q 4).1==1)=true:=by simpa using Q
    have q2:((bw S q 4).1==2)=false:=by rw[Q];rfl
    have M:Hid (chr (bw S q 4).1 (cb S p).1=(cb S p).1%2):=by show chr _ _=_;rw[chr,if_pos Q]
    clear Q
    go_wp2_with (first|(go_at_call 155;refine (zcW S hS g p _ O).mono ?_;rintro e w3 ⟨rfl,N,o⟩;have D:=zez A o H;have K:=Nat.le_trans z.size o.size)|(at_builtin;refine zga w3 rfl _ _ 44 rfl w.heap.size 5 i0 Tryz.underlying44 hi ab aa Z _ k acc (by rfl) D ((cb S p).1%2) (by rfl) (by omega) K ?_))
    intro v' w4 E I
    go_wp2
    go_roundw
    case rel=>exact⟨k+1,acc++[(cb S p).1%2],m,(cb S p).2,by go_num,by omega,by rw[←M.out];exact zg8 J.out,E,zcC N I H,zcV (zB z o) I (Nat.le_refl _)⟩
    case measure=>simp[intOf]
   ·have q1:((bw S q 4).1==1)=false:=by simpa using Q
    by_cases h2:(bw S q 4).1=2
    ·have q2:((bw S q 4).1==2)=true:=by simpa using h2
     have M:Hid (chr (bw S q 4).1 (cb S p).1=97+(cb S p).1%4):=by show chr _ _=_;rw[chr,if_neg Q,if_pos h2]
     clear Q h2
     go_wp2_with (first|(go_at_call 155;refine (zcW S hS g p _ O).mono ?_;rintro e w3 ⟨rfl,N,o⟩;have D:=zez A o H;have K:=Nat.le_trans z.size o.size)|(at_builtin;refine zga w3 rfl _ _ 44 rfl w.heap.size 5 i0 Tryz.underlying44 hi ab aa Z _ k acc (by rfl) D (97+(cb S p).1%4) (by rfl) (by omega) K ?_))
     intro v' w4 E I
     go_wp2
     go_roundw
     case rel=>exact⟨k+1,acc++[97+(cb S p).1%4],m,(cb S p).2,by go_num,by omega,by rw[←M.out];exact zg8 J.out,E,zcC N I H,zcV (zB z o) I (Nat.le_refl _)⟩
     case measure=>simp[intOf]
    ·have q2:((bw S q 4).1==2)=false:=by simpa using h2
     have M:Hid (chr (bw S q 4).1 (cb S p).1=(cb S p).1):=by show chr _ _=_;rw[chr,if_neg Q,if_neg h2]
     clear Q h2
     go_wp2_with (first|(go_at_call 155;refine (zcW S hS g p _ O).mono ?_;rintro e w3 ⟨rfl,N,o⟩;have D:=zez A o H;have K:=Nat.le_trans z.size o.size)|(at_builtin;refine zga w3 rfl _ _ 44 rfl w.heap.size 5 i0 Tryz.underlying44 hi ab aa Z _ k acc (by rfl) D ((cb S p).1) (by rfl) (by omega) K ?_))
     intro v' w4 E I
     go_wp2
     go_roundw
     case rel=>exact⟨k+1,acc++[(cb S p).1],m,(cb S p).2,by go_num,by omega,by rw[←M.out];exact zg8 J.out,E,zcC N I H,zcV (zB z o) I (Nat.le_refl _)⟩
     case measure=>simp[intOf]
theorem zmn {S:Src} {q:Nat×Int} {s:ByteArray} (h:s.size=0):zaW S q s=(strOfNums (tx S q 3).1,(tx S q 3).2):=by rw[zaW,if_pos h]
theorem zmo {S:Src} {q:Nat×Int} {s:ByteArray} {k:Nat} (h:s.size≠0) (n:(bw S q s.size).1=k) (j:(bw S (bw S q s.size).2 4).1=0):zaW S q s=(s.extract 0 k++s.extract (k+1) s.size,(bw S (bw S q s.size).2 4).2):=by
 rw[zaW,if_neg h,if_pos j,n];rfl
theorem zmp {S:Src} {q:Nat×Int} {s:ByteArray} {k:Nat} (h:s.size≠0) (n:(bw S q s.size).1=k) (j:(bw S (bw S q s.size).2 4).1=1):zaW S q s=(s.extract 0 k++strOfNums [(cb S (bw S (bw S q s.size).2 4).2).1]++s.extract k s.size,(cb S (bw S (bw S q s.size).2 4).2).2):=by
 rw[zaW,if_neg h,if_neg (by omega),if_pos j,n];rfl
theorem zmq {S:Src} {q:Nat×Int} {s:ByteArray} {k:Nat} (h:s.size≠0) (n:(bw S q s.size).1=k) (j:(bw S (bw S q s.size).2 4).1=2):zaW S q s=(s.extract 0 k,(bw S (bw S q s.size).2 4).2):=by
 rw[zaW,if_neg h,if_neg (by omega),if_neg (by omega),if_pos j,n];rfl
theorem zmr {S:Src} {q:Nat×Int} {s:ByteArray} {k:Nat} (h:s.size≠0) (o:(bw S q s.size).1=k) (j:(bw S (bw S q s.size).2 4).1≠0) (z:(bw S (bw S q s.size).2 4).1≠1) (n:(bw S (bw S q s.size).2 4).1≠2):
  zaW S q s=(s.extract 0 k++strOfNums [IntKind.u8.wrap (bits .xor .i64 (bt s k) (1+(bw S (bw S (bw S q s.size).2 4).2 255).1))]++s.extract (k+1) s.size,(bw S (bw S (bw S q s.size).2 4).2 255).2):=by
 rw[zaW,if_neg h,if_neg j,if_neg z,if_neg n,o];rfl
theorem zms (S:Src) (J:S.ok) (g:Nat) (q:Nat×Int) (s:ByteArray) (w:World) (X:zR 147 S w g q) (hs:s.size≤100000):
  Calls Tryz.prog 157 #[.pointer (some ⟨g,0,none⟩),.string s] w fun e w'=>e= .returned (.string (zaW S q s).1)∧zR 147 S w' g (zaW S q s).2∧w.grownBy w' (some g):=by
 by_cases E:s.size=0
 ·have D:Hid (zaW S q s=(strOfNums (tx S q 3).1,(tx S q 3).2)):=zmn E
  have hq:((s.size:Int)==0)=true:=by rw[E];rfl
  clear E
  go_enter Tryz.func157,Tryz.ntmps157
  go_wp2_with fail
  refine (zmm S J g q 3 _ X (by omega) (by omega)).mono ?_
  rintro e Z ⟨rfl,n,j⟩
  go_wp2
  go_ret
  exact⟨za2 (by rw[D.out]),by rw[D.out];exact n,j⟩
 ·have hq:((s.size:Int)==0)=false:=beq_eq_false_iff_ne.2 (by omega)
  have aa:=zaV S q s.size (by omega)
  obtain⟨k,K⟩: ∃k:Nat,(bw S q s.size).1=k:=⟨(bw S q s.size).1.toNat,by omega⟩
  have HK:Hid ((bw S q s.size).1=k):=K
  have ac:k<s.size:=by omega
  have ag:=zaV S (bw S q s.size).2 4 (by omega)
  have hb:=get_bt s
  have af:=bt_nonneg s k
  have ae:=bt_le s k
  have e1:IntKind.i64.wrap ((k:Int)+1)=(k:Int)+1:=IntWalk.i64_in _ ⟨by omega,by omega⟩
  have e2:IntKind.i64.wrap (bt s k)=bt s k:=IntWalk.i64_in _ ⟨by omega,by omega⟩
  have l1:(0:Int)≤(k:Int):=by omega
  have l2:(k:Int)≤s.size:=by omega
  have l3:(0:Int)≤(k:Int)+1:=by omega
  have l4:(k:Int)+1≤s.size:=by omega
  have z1:(s.extract 0 k).size≤100000:=by simp;omega
  have z2:(s.extract (k+1) s.size).size≤100000:=by simp;omega
  have z3:(s.extract k s.size).size≤100000:=by simp;omega
  have ad:=fun (w:World) (x:Int)=>zfW (P:=Tryz.prog) (src:=44) (dst:=9) Tryz.underlying44 Tryz.underlying5 Tryz.underlying9 w x
  have ab:=fun x=>strOfNums_size [x]
  have y1: ¬(9223372036854775807<min k s.size+1):=by omega
  have y2: ¬(9223372036854775807<min k s.size+1+(s.size-k)):=by omega
  have y3: ¬(9223372036854775807<min k s.size+1+(s.size-(k+1))):=by omega
  clear aa
  by_cases M:(bw S (bw S q s.size).2 4).1=0
  ·have D:Hid (zaW S q s=(s.extract 0 k++s.extract (k+1) s.size,(bw S (bw S q s.size).2 4).2)):=zmo E K M
   have q0:((bw S (bw S q s.size).2 4).1==0)=true:=by simpa using M
   clear K M E
   go_enter Tryz.func157,Tryz.ntmps157
   go_wp2_with fail
   refine (zaD S J g q s.size _ X (by omega)).mono ?_
   rintro e Z ⟨rfl,n,j⟩
   rw[HK.out]
   go_wp2_with fail
   refine (zaD S J g _ 4 _ n (by omega)).mono ?_
   rintro e N ⟨rfl,A,o⟩
   go_wp2
   go_quiet (fail)
   go_wp2
   go_ret
   exact⟨za2 (by rw[D.out]),by rw[D.out];exact zfl A _,zdN (zB j o) _⟩
  ·have q0:((bw S (bw S q s.size).2 4).1==0)=false:=by simpa using M
   by_cases U:(bw S (bw S q s.size).2 4).1=1
   ·have D:Hid (zaW S q s=(s.extract 0 k++strOfNums [(cb S (bw S (bw S q s.size).2 4).2).1]++s.extract k s.size,(cb S (bw S (bw S q s.size).2 4).2).2)):=zmp E K U
    have q1:((bw S (bw S q s.size).2 4).1==1)=true:=by simpa using U
    have Y:=zdt S (bw S (bw S q s.size).2 4).2
    have e3:IntKind.u8.wrap (cb S (bw S (bw S q s.size).2 4).2).1=(cb S (bw S (bw S q s.size).2 4).2).1:=IntWalk.u8_in _ Y
    have z4:(s.extract 0 k++strOfNums [(cb S (bw S (bw S q s.size).2 4).2).1]).size≤100001:=by rw[ByteArray.size_append,strOfNums_size];simp;omega
    clear K M U E
    go_enter Tryz.func157,Tryz.ntmps157
    go_wp2_with fail
    refine (zaD S J g q s.size _ X (by omega)).mono ?_
    rintro e Z ⟨rfl,n,j⟩
    rw[HK.out]
    go_wp2_with fail
    refine (zaD S J g _ 4 _ n (by omega)).mono ?_
    rintro e N ⟨rfl,A,o⟩
    go_wp2
    have H:zR 147 S N.drew g (bw S (bw S q s.size).2 4).2:=zbS A fun _ _=>rfl
    have I:w.grownBy N.drew (some g):=zdN (zB j o) 1
    have O:=zcB H
    go_region_law (go_simp;go_wp2_with (go_at_call 155;refine (zcW S J g _ _ H).mono ?_;rintro e L ⟨rfl,Q,z⟩))
    all_goals
     go_wp2
     go_ret
     refine⟨za2 (by rw[D.out]),?_,zcV (zB I z) ((Below.refl L.heap.size L).alloc (Nat.le_refl _) _) (Nat.le_trans I.size z.size)⟩
     rw[D.out]
     exact zcC Q ((Below.refl L.heap.size L).alloc (Nat.le_refl _) _) (Nat.lt_of_lt_of_le O z.size)
   ·have q1:((bw S (bw S q s.size).2 4).1==1)=false:=by simpa using U
    by_cases V:(bw S (bw S q s.size).2 4).1=2
    ·have D:Hid (zaW S q s=(s.extract 0 k,(bw S (bw S q s.size).2 4).2)):=zmq E K V
     have q2:((bw S (bw S q s.size).2 4).1==2)=true:=by simpa using V
     clear K M U V E
     go_enter Tryz.func157,Tryz.ntmps157
     go_wp2_with fail
     refine (zaD S J g q s.size _ X (by omega)).mono ?_
     rintro e Z ⟨rfl,n,j⟩
     rw[HK.out]
     go_wp2_with fail
     refine (zaD S J g _ 4 _ n (by omega)).mono ?_
     rintro e N ⟨rfl,A,o⟩
     go_wp2
     go_ret
     exact⟨za2 (by rw[D.out]),by rw[D.out];exact A,zB j o⟩
    ·have q2:((bw S (bw S q s.size).2 4).1==2)=false:=by simpa using V
     have D:Hid (zaW S q s=(s.extract 0 k++strOfNums [IntKind.u8.wrap (bits .xor .i64 (bt s k) (1+(bw S (bw S (bw S q s.size).2 4).2 255).1))]++s.extract (k+1) s.size,(bw S (bw S (bw S q s.size).2 4).2 255).2)):=zmr E K M U V
     have Y:=zaV S (bw S (bw S q s.size).2 4).2 255 (by omega)
     have e3:IntKind.i64.wrap (1+(bw S (bw S (bw S q s.size).2 4).2 255).1)=1+(bw S (bw S (bw S q s.size).2 4).2 255).1:=IntWalk.i64_in _ ⟨by omega,by omega⟩
     have z4:(s.extract 0 k++strOfNums [IntKind.u8.wrap (bits .xor .i64 (bt s k) (1+(bw S (bw S (bw S q s.size).2 4).2 255).1))]).size≤100001:=by rw[ByteArray.size_append,strOfNums_size];simp;omega
     clear K M U V E
     go_enter Tryz.func157,Tryz.ntmps157
     go_wp2_with fail
     refine (zaD S J g q s.size _ X (by omega)).mono ?_
     rintro e Z ⟨rfl,n,j⟩
     rw[HK.out]
     go_wp2_with fail
     refine (zaD S J g _ 4 _ n (by omega)).mono ?_
     rintro e N ⟨rfl,A,o⟩
     go_wp2
     have H:zR 147 S N.drew g (bw S (bw S q s.size).2 4).2:=zbS A fun _ _=>rfl
     have I:w.grownBy N.drew (some g):=zdN (zB j o) 1
     have O:=zcB H
     go_region_law (go_simp;go_wp2_with (go_at_call 109;refine (zaD S J g _ 255 _ H (by omega)).mono ?_;rintro e L ⟨rfl,Q,z⟩))
     all_goals
      go_wp2
      go_ret
      refine⟨za2 (by rw[D.out]),?_,zcV (zB I z) ((Below.refl L.heap.size L).alloc (Nat.le_refl _) _) (Nat.le_trans I.size z.size)⟩
      rw[D.out]
      exact zcC Q ((Below.refl L.heap.size L).alloc (Nat.le_refl _) _) (Nat.lt_of_lt_of_le O z.size)
theorem zmt (S:Src) (q:Nat×Int) (s:ByteArray):(zaW S q s).1.size≤s.size+4:=by
 have j:=zk2 S q 3 (by omega)
 unfold zaW
 split
 ·simp only[strOfNums_size];omega
 ·split
  ·simp only[ByteArray.size_append,ByteArray.size_extract];omega
  ·split
   ·simp only[ByteArray.size_append,ByteArray.size_extract,strOfNums_size,List.length_cons,List.length_nil];omega
   ·split
    ·simp only[ByteArray.size_extract];omega
    ·simp only[ByteArray.size_append,ByteArray.size_extract,strOfNums_size,List.length_cons,List.length_nil];omega
theorem zmu (S:Src) (q:S.len≤9223372036854775807) (j:Int) (z:2≤j) (o:j≤1000) (w:World):
  Calls Tryz.prog 55 #[.slice S.a S.len S.cap,.int .i64 j] w fun e n=>(∃r:Nat,e= .returned (.int .i64 (r:Int))∧(r:Int)≤j)∧n=w:=by
 go_enter Tryz.func55,Tryz.ntmps55
 by_cases h:j<2+(S.len:Int)/20
 ·go_wp2
  go_ret
  exact⟨⟨j.toNat,by rw[Int.toNat_of_nonneg (by omega)];rfl,by omega⟩,rfl⟩
 ·go_wp2
  go_ret
  exact⟨⟨(2+(S.len:Int)/20).toNat,by rw[Int.toNat_of_nonneg (by omega)];rfl,by omega⟩,rfl⟩
theorem zmv (S:Src) (L:S.ok) (g:Nat) (n:Nat) (hm:n≤10) (U:Bool) (M:Nat×Int) (w0:World) (j:zR 147 S w0 g M):
  Calls Tryz.prog 110 #[.pointer (some ⟨g,0,none⟩),.int .i64 (n:Int),.bool U] w0 (zcL S g 20000 w0):=by
 have Y:=zc j
 have ab:Hid (w0.grownBy w0 (some g)):=⟨rfl,rfl,rfl,Nat.le_refl _,fun _ _ _=>rfl⟩
 clear j
 go_enter Tryz.func110,Tryz.ntmps110
 go_wp2_with fail
 refine (zaD S L g M ((n:Int)+1) _ Y.out (by omega)).mono ?_
 rintro e w1 ⟨rfl,j,o⟩
 have O:=zaV S M ((n:Int)+1) (by omega)
 obtain⟨k1,hk⟩: ∃k:Nat,(bw S M ((n:Int)+1)).1=k:=⟨(bw S M ((n:Int)+1)).1.toNat,by omega⟩
 obtain⟨q1,J⟩: ∃Q,(bw S M ((n:Int)+1)).2=Q:=⟨_,rfl⟩
 rw[hk] at O ⊢
 rw[J] at j
 have z:=zc j
 have A:=zc (zB ab.out o)
 have kb:k1≤10:=by omega
 clear j o O hk J
 go_wp2
 go_loopg [7,8] k1 (fun k sv nv wr=>∃(x:ByteArray) (q:Nat×Int),nv= .int .i64 (k:Int)∧sv= .string x∧k≤10∧x.size+1501*k≤15010∧zR 147 S wr g q∧w0.grownBy wr (some g))
 case atStart=>exact⟨_,q1,rfl,rfl,kb,by have:({data:=#[]}:ByteArray).size=0:=rfl;omega,z.out,A.out⟩
 case round=>
  obtain⟨x,q,rfl,rfl,hk,hx,N,V⟩:=hrel
  clear z A
  have z:=zc N
  have A:=zc V
  clear N V
  by_cases ad:0<gk
  ·have Z:0<(gk:Int):=by omega
   go_wp2_with fail
   refine (zmk S L g U q _ z.out).mono ?_
   rintro e w2 ⟨X,K,rfl,z2,j,o⟩
   have D:=zc j
   have E:=zc (zB A.out o)
   clear j o
   have hz:(x++X++({data:=#[10]}:ByteArray)).size=x.size+X.size+1:=by rw[ByteArray.size_append,ByteArray.size_append];rfl
   have ae:(x++X).size=x.size+X.size:=ByteArray.size_append
   have ek:(gk:Int)-1=((gk-1:Nat):Int):=by omega
   go_wp2
   go_roundg (gk-1)
   case rel=>exact⟨_,K,rfl,rfl,by omega,by omega,D.out,E.out⟩
   case measure=>omega
  ·have Z: ¬0<(gk:Int):=by omega
   go_wp2_with fail
   refine (zcD S L g _ 6 _ z.out (by omega)).mono ?_
   rintro e w2 ⟨rfl,j,o⟩
   obtain⟨K,J⟩: ∃Q,(bw S q 6).2=Q:=⟨_,rfl⟩
   rw[J] at j
   have D:=zc j
   have E:=zc (zB A.out o)
   clear j o J
   generalize ((bw S q 6).1==0)=b
   cases b with
   |true=>
    go_wp2_with fail
    refine (zms S L g K x _ D.out (by omega)).mono ?_
    rintro e w3 ⟨rfl,j,o⟩
    have hs:=zmt S K x
    have I:=zc j
    have H:=zc (zB E.out o)
    clear j o
    generalize zaW S K x=y at*
    go_wp2
    go_ret
    exact⟨y.1,y.2,rfl,by omega,I.out,H.out⟩
   |false=>
    go_wp2_with fail
    refine (zcD S L g _ 15 _ D.out (by omega)).mono ?_
    rintro e w3 ⟨rfl,j,o⟩
    obtain⟨q3,J⟩: ∃Q,(bw S K 15).2=Q:=⟨_,rfl⟩
    rw[J] at j
    have I:=zc j
    have H:=zc (zB E.out o)
    clear j o J
    generalize ((bw S K 15).1==0)=b
    cases b with
    |true=>
     go_wp2_with fail
     refine (zb0 S L g _ 100 [{data:=#[105,109,112,111,114,116,32,100,101,102,97,117,108,116,32,102,114,111,109,32,34,120,34,59]},{data:=#[101,120,112,111,114,116,32,123,32,100,101,102,97,117,108,116,32,125,59]},{data:=#[105,109,112,111,114,116,32,123,32,100,101,102,97,117,108,116,32,125,32,102,114,111,109,32,34,120,34,59]},{data:=#[108,101,116,32,108,101,116,32,61,32,49,59]},{data:=#[112,114,105,110,116,40,49,59]},{data:=#[97,32,61,32,59]},{data:=#[101,120,112,111,114,116]},{data:=#[102,97,105,108,32,49,59]},{data:=#[108,101,116,32,117,110,100,101,102,32,61,32,49,59]},{data:=#[105,109,112,111,114,116,32,123,32,97,32,97,115,32,100,101,102,97,117,108,116,32,125,32,102,114,111,109,32,34,120,34,59]},{data:=#[112,114,105,110,116,40,40,40,40,40,40,40,40,40,40,40,40,40,40,40,40,40,40,40,40,40,40,49,41,41,41,41,41,41,41,41,41,41,41,41,41,41,41,41,41,41,41,41,41,41,59]}] _ I.out (by simp) (by simp) (by intro x hx;simp only[List.mem_cons,List.not_mem_nil,or_false] at hx;rcases hx with rfl|rfl|rfl|rfl|rfl|rfl|rfl|rfl|rfl|rfl|rfl<;>decide)).mono ?_
     rintro e w4 ⟨x4,q4,rfl,z4,j,o⟩
     have ac:=zc j
     have aa:=zc (zB H.out o)
     clear j o
     have hz:(x++x4).size=x.size+x4.size:=ByteArray.size_append
     go_wp2
     go_ret
     exact⟨_,q4,rfl,by omega,ac.out,aa.out⟩
    |false=>
     go_wp2
     go_ret
     exact⟨x,q3,rfl,by omega,I.out,H.out⟩
def zcM (N:Nat) (x:Ep):Prop:=x.name.size≤N∧x.loc.size≤N∧x.spec.size≤N
def zeM (N:Nat) (x:Ex):Prop:=x.name.size≤N∧x.field.size≤N∧0≤x.num∧x.num≤1000000
structure BS (N:Nat) (q:PS):Prop where
 rq: ∀x∈q.rq,x.size≤N
 im: ∀x∈q.im,x.spec.size≤N∧x.first.size≤N∧x.loc.size≤N
 ep: ∀x∈q.ep,zcM N x
 la: ∀x∈q.la,zcM N x
 st: ∀x∈q.st,x.name.size≤N
 ex: ∀x∈q.ex,zeM N x
def BT (N:Nat) (ts:List Tk):Prop:=∀t∈ts,t.text.size≤N∧0≤t.num∧t.num≤1000000
theorem zmw {s:ByteArray} {o:Bool} {a e:Nat} {t:Tk} (h:Tok s o a t e):t.text.size≤s.size∧0≤t.num∧t.num≤1000000:=by
 cases h using Tok.elim with
 |name _ _=>exact⟨by simp only[ByteArray.size_extract];omega,by simp,by simp⟩
 |num h n=>
  refine⟨Nat.zero_le _,?_,n.2.2.2.2.1⟩
  have:=zgf (s:=s) (a:=a) 0 (e-a) (fun j q=>by
   have:=n.1.2.2.1 (a+j) (by omega) (by omega)
   rw[zch] at this
   exact this.1) (Nat.zero_le _)
  rw[n.2.2.2.1]
  exact this.2
 |str _ _=>exact⟨by simp only[ByteArray.size_extract];omega,by simp,by simp⟩
 |sign _=>exact⟨by simp only[ByteArray.size_extract];omega,by simp,by simp⟩
theorem zmx {s:ByteArray} {o:Bool} {a n:Nat} {r:Except Nat (List Tk)} (h:Lx s o a n r): ∀j,r= .ok j→BT s.size j:=by
 induction h using Lx.ind with
 |done=>intro j k;cases k;intro t q;cases q
 |bad _ _=>intro j k;cases k
 | @tok a n e b t r h D q E H A=>
  intro j k
  cases r with
  |error p=>cases k
  |ok l=>
   cases k
   intro u z
   rcases List.mem_cons.1 z with rfl|z
   ·exact zmw q
   ·exact A l rfl u z
theorem zeN {N:Nat} {C:Cx} (n:BT N C.ts) (i:Nat):(ze C i).text.size≤N∧0≤(ze C i).num∧(ze C i).num≤1000000:=by
 by_cases j:i<C.ts.length
 ·have e:ze C i=C.ts[i]:=by simp[ze,List.getD,List.getElem?_eq_getElem j]
  rw[e]
  exact n _ (List.getElem_mem j)
 ·rw[zdl (by omega)]
  exact⟨Nat.zero_le _,by simp,by simp⟩
theorem zc2 {N:Nat} {q:PS} (h:BS N q):BS N (adv q):=⟨h.rq,h.im,h.ep,h.la,h.st,h.ex⟩
theorem zao {N:Nat} {C:Cx} {k:Int} {x:ByteArray} {q q':PS} (h:zd C k x q= .ok q') (j:BS N q):BS N q':=by
 obtain⟨rfl,_⟩:=zb4 h
 exact zc2 j
theorem zdd {N:Nat} {C:Cx} (n:BT N C.ts) {o:Bool} {q:PS} {y:PS×ByteArray} (h:zj C o q= .ok y) (j:BS N q):BS N y.1∧y.2.size≤N:=by
 obtain⟨rfl,_⟩:=zbd h
 exact⟨zc2 j,(zeN n _).1⟩
theorem zd9 {N:Nat} {C:Cx} {x:Ex} {q q':PS} (h:zN C x q= .ok q') (n:BS N q) (o:zeM N x):BS N q':=by
 obtain⟨rfl,_⟩:=zb5 h
 refine⟨n.rq,n.im,n.ep,n.la,n.st,fun y j=>?_⟩
 rcases List.mem_append.1 j with j|j
 ·exact n.ex y j
 ·rw[List.mem_singleton] at j
  rw[j]
  exact o
theorem zee {N:Nat} {k l r:Int} {n f:ByteArray} (o:n.size≤N) (j:f.size≤N):zeM N ⟨k,0,n,f,l,r⟩:=⟨o,j,Int.le_refl _,by simp⟩
theorem zin {N:Nat} {C:Cx} {n:ByteArray} {q q':PS} (h:zbc C n q= .ok q') (j:BS N q) (o:n.size≤N):BS N q':=by
 unfold zbc at h
 split at h
 ·obtain⟨a,A,z⟩:=zf h
  obtain⟨b,E,D⟩:=zf A
  exact zd9 z (zao D (zao E j)) (zee o (Nat.zero_le _))
 ·exact zd9 h j (zee o (Nat.zero_le _))
theorem zmy {N:Nat} {C:Cx} {n f:ByteArray} {q q':PS} (h:zbx C n f q= .ok q') (j:BS N q) (o:n.size≤N) (z:f.size≤N):BS N q':=by
 unfold zbx at h
 split at h
 ·obtain⟨a,D,A⟩:=zf h
  obtain⟨b,H,E⟩:=zf D
  exact zd9 A (zao E (zao H j)) (zee o z)
 ·exact zd9 h j (zee o z)
theorem zmz {N:Nat} {C:Cx} (H:BT N C.ts) (K:8≤N) (f:Nat): ∀(A:NT) (d:Nat) (q q':PS),ev C f A d q= .ok q'→BS N q→BS N q':=by
 induction f with
 |zero=>intro A d q q' h;cases A using NT.elim<;>cases h
 |succ f z=>
  intro A d q q' h o
  cases A using NT.elim with
  |sum=>
   rw[ev] at h
   obtain⟨a,n,j⟩:=zf h
   exact z _ _ _ _ j (z _ _ _ _ n o)
  |prod=>
   rw[ev] at h
   obtain⟨a,n,j⟩:=zf h
   exact z _ _ _ _ j (z _ _ _ _ n o)
  |sumT=>
   rw[ev] at h
   split at h
   ·obtain⟨a,n,j⟩:=zf h
    obtain⟨b,E,D⟩:=zf n
    exact z _ _ _ _ j (zd9 D (z _ _ _ _ E (zc2 o)) (zee (Nat.zero_le _) (Nat.zero_le _)))
   ·cases h
    exact o
  |prodT=>
   rw[ev] at h
   split at h
   ·obtain⟨a,n,j⟩:=zf h
    obtain⟨b,E,D⟩:=zf n
    exact z _ _ _ _ j (zd9 D (z _ _ _ _ E (zc2 o)) (zee (Nat.zero_le _) (Nat.zero_le _)))
   ·cases h
    exact o
  |part=>
   rw[ev] at h
   split at h
   ·exact zd9 h (zc2 o) ⟨Nat.zero_le _,Nat.zero_le _,(zeN H _).2⟩
   ·split at h
    ·split at h
     ·cases h
     ·obtain⟨a,n,j⟩:=zf h
      exact zao j (z _ _ _ _ n (zc2 o))
    ·split at h
     ·exact zin h (zc2 o) (Nat.le_trans (show 5≤8 by omega) K)
     ·obtain⟨a,n,j⟩:=zf h
      obtain⟨I,J⟩:=zdd H n o
      split at j
      ·obtain⟨b,E,D⟩:=zf j
       obtain⟨L,M⟩:=zdd H E (zc2 I)
       exact zmy D L J M
      ·exact zin j I J
theorem zef {N:Nat} {C:Cx} (o:BT N C.ts) (j:8≤N) {z:NT} {d:Nat} {q q':PS} (h:pE C z d q= .ok q') (n:BS N q):BS N q':=zmz o j _ _ _ _ _ h n
theorem zio {N:Nat} {C:Cx} (o:BT N C.ts) {q:PS} {a:PS×ByteArray} (h:zH C q= .ok a) (j:BS N q):BS N a.1∧a.2.size≤N:=by
 unfold zH at h
 split at h
 ·split at h
  ·cases h
   exact⟨zc2 j,(zeN o _).1⟩
  ·split at h
   ·cases h
   ·cases h
    refine⟨⟨fun x n=>?_,j.im,j.ep,j.la,j.st,j.ex⟩,(zeN o _).1⟩
    rcases List.mem_append.1 n with n|n
    ·exact j.rq x n
    ·rw[List.mem_singleton] at n
     rw[n]
     exact (zeN o _).1
 ·cases h
theorem zeg {N:Nat} {C:Cx} {k:Int} {n:ByteArray} {q q':PS} (h:zV C k n q= .ok q') (j:BS N q) (z:n.size≤N):BS N q':=by
 unfold zV at h
 split at h
 ·cases h
 ·cases h
  refine⟨j.rq,j.im,j.ep,j.la,fun x o=>?_,j.ex⟩
  rcases List.mem_append.1 o with o|o
  ·exact j.st x o
  ·rw[List.mem_singleton] at o
   rw[o]
   exact z
theorem zg9 {N:Nat} {C:Cx} {y:Im} {q q':PS} (h:zak C y q= .ok q') (j:BS N q) (o:y.spec.size≤N∧y.first.size≤N∧y.loc.size≤N):BS N q':=by
 unfold zak at h
 split at h
 ·cases h
 ·cases h
  refine⟨j.rq,fun x n=>?_,j.ep,j.la,j.st,j.ex⟩
  rcases List.mem_append.1 n with n|n
  ·exact j.im x n
  ·rw[List.mem_singleton] at n
   rw[n]
   exact o
theorem zdp {α:Type} {P:α→Prop} {l:List α} {y:α} (h: ∀x∈l,P x) (n:P y): ∀x∈l++[y],P x:=fun x j=>by
 rcases List.mem_append.1 j with j|j
 ·exact h x j
 ·rw[List.mem_singleton] at j
  rw[j]
  exact n
theorem zeh {N:Nat} {C:Cx} {y:Ep} {q q':PS} (h:zo C y q= .ok q') (j:BS N q) (n:zcM N y):BS N q':=by
 unfold zo at h
 split at h
 ·cases h
 ·split at h
  ·cases h
   exact⟨j.rq,j.im,j.ep,zdp j.la n,j.st,j.ex⟩
  ·cases h
   exact⟨j.rq,j.im,zdp j.ep n,j.la,j.st,j.ex⟩
theorem zm0 {α:Type} {f:α→PS→PR} (l:List α): ∀(x:PR) (q':PS),zP f l x= .ok q'→∃q,x= .ok q∧True:=by
 induction l with
 |nil=>intro x q' h;exact⟨q',h,trivial⟩
 |cons a l j=>
  intro x q' h
  obtain⟨b,n,_⟩:=j _ _ h
  obtain⟨c,o,_⟩:=zf n
  exact⟨c,o,trivial⟩
theorem zgA {α:Type} {N:Nat} {f:α→PS→PR} (l:List α) (z: ∀a∈l,∀q q',f a q= .ok q'→BS N q→BS N q'): ∀(q q':PS),zP f l (.ok q)= .ok q'→BS N q→BS N q':=by
 induction l with
 |nil=>intro q q' h o;cases h;exact o
 |cons a l A=>
  intro q q' h o
  have n:zP f l (f a q)= .ok q':=h
  cases j:f a q with
  |error e=>
   rw[j] at n
   obtain⟨c,D,_⟩:=zm0 l _ _ n
   cases D
  |ok b=>
   rw[j] at n
   exact A (fun x E=>z x (List.mem_cons_of_mem _ E)) b q' n (z a (List.mem_cons_self ..) q b j o)
theorem zm1 {N:Nat} {C:Cx} (q:BT N C.ts) {j:Bool} {a b:PS×ByteArray} (h:asP C j a= .ok b) (n:BS N a.1) (o:a.2.size≤N):BS N b.1∧b.2.size≤N:=by
 unfold asP at h
 split at h
 ·exact zdd q h (zc2 n)
 ·split at h
  ·cases h
  ·cases h
   exact⟨n,o⟩
theorem zm2 {N:Nat} {C:Cx} (z:BT N C.ts) {o:Bool} (f:Nat): ∀(q:PS) (acc:List Ep) (a:PS×List Ep),zcv C o f q acc= .ok a→BS N q→(∀x∈acc,zcM N x)→BS N a.1∧∀x∈a.2,zcM N x:=by
 induction f with
 |zero=>intro q acc a h;cases h
 |succ f M=>
  intro q acc a h J j
  rw[zcv] at h
  obtain⟨b,L,H⟩:=zf h
  obtain⟨c,U,n⟩:=zf H
  obtain⟨Q,E⟩:=zdd z L J
  obtain⟨A,O⟩:=zm1 z U Q E
  have D: ∀x∈acc++[(⟨0,c.2,b.2,sNone⟩:Ep)],zcM N x:=zdp j ⟨O,E,Nat.zero_le _⟩
  split at n
  ·exact M _ _ _ n (zc2 A) D
  ·obtain⟨d,K,I⟩:=zf n
   cases I
   exact⟨zao K A,D⟩
theorem zip {N:Nat} {C:Cx} (z:BT N C.ts) {j:Bool} {q:PS} {a:PS×List Ep} (h:zcw C j q= .ok a) (o:BS N q):BS N a.1∧∀x∈a.2,zcM N x:=by
 obtain⟨b,A,n⟩:=zf h
 exact zm2 z _ _ _ _ n (zao A o) fun x D=>by cases D
theorem zeO {N:Nat} {C:Cx} (A:BT N C.ts) {x:PR} {b:PS×ByteArray} (h:zaR C (zaE C x)= .ok b): ∃q,x= .ok q∧(BS N q→BS N b.1∧b.2.size≤N):=by
 obtain⟨a,D,j⟩:=zf h
 obtain⟨c,L,I⟩:=zf j
 obtain⟨d,z,n⟩:=zf D
 obtain⟨e,J,K⟩:=zf z
 cases I
 refine⟨e,J,fun o=>?_⟩
 obtain⟨E,H⟩:=zio A n (zao K o)
 exact⟨zao L E,H⟩
theorem zm3 {N:Nat} {C:Cx} (o:BT N C.ts) (U:8≤N) {q q':PS} (h:zaQ C q= .ok q') (hq:BS N q):BS N q':=by
 obtain⟨q1,h1,j⟩:=zf h
 have L:=zao h1 hq
 split at j
 ·obtain⟨a,E,D⟩:=zf j
  obtain⟨b,I,J⟩:=zf D
  obtain⟨l1,X⟩:=zip o E L
  obtain⟨d,O,A⟩:=zeO o I
  cases O
  obtain⟨K,H⟩:=A l1
  exact zgA _ (fun x V p p' hp Y=>zg9 hp Y ⟨H,(X x V).2.1,(X x V).1⟩) _ _ J K
 ·split at j
  ·obtain⟨a,E,D⟩:=zf j
   obtain⟨b,I,J⟩:=zf D
   obtain⟨c,h7,Z⟩:=zf E
   obtain⟨d,O,A⟩:=zf h7
   obtain⟨M,Q⟩:=zdd o Z (zao A (zao O L))
   obtain⟨f,n,z⟩:=zeO o I
   cases n
   obtain⟨K,H⟩:=z M
   exact zg9 J K ⟨H,Nat.le_trans (show 1≤8 by omega) U,Q⟩
  ·split at j
   ·obtain⟨a,E,D⟩:=zf j
    obtain⟨b,I,J⟩:=zf D
    obtain⟨M,Q⟩:=zdd o E L
    obtain⟨f,n,z⟩:=zeO o I
    cases n
    obtain⟨K,H⟩:=z M
    exact zg9 J K ⟨H,Nat.le_trans (show 7≤8 by omega) U,Q⟩
   ·obtain⟨a,E,D⟩:=zf j
    exact zao D (zio o E L).1
theorem ziq {N:Nat} {C:Cx} (A:BT N C.ts) (E:8≤N) {q:PS} {a:PS×ByteArray} (h:zcj C q= .ok a) (I:BS N q):BS N a.1∧a.2.size≤N:=by
 obtain⟨b,K,H⟩:=zf h
 obtain⟨z,j,n⟩:=zf H
 cases n
 obtain⟨c,M,O⟩:=zf K
 obtain⟨d,L,J⟩:=zf j
 obtain⟨f,Q,U⟩:=zf L
 obtain⟨g,X,o⟩:=zf Q
 obtain⟨V,D⟩:=zdd A O (zao M I)
 exact⟨zeg J (zao U (zef A E o (zao (show zd C 4 cEq b.1= .ok g from X) V))) D,D⟩
theorem zir {N:Nat} {C:Cx} (O:BT N C.ts) (U:8≤N) {q:PS} {a:PS×ByteArray} (h:fnP C q= .ok a) (Z:BS N q):BS N a.1∧a.2.size≤N:=by
 obtain⟨b,h1,V⟩:=zf h
 obtain⟨z,o,L⟩:=zf V
 cases L
 obtain⟨c,h3,h4⟩:=zf h1
 obtain⟨d,h5,h6⟩:=zf o
 obtain⟨f,h7,h8⟩:=zf h5
 obtain⟨g,Y,J⟩:=zf h7
 obtain⟨i,E,I⟩:=zf Y
 obtain⟨j,A,M⟩:=zf E
 obtain⟨k,H,K⟩:=zf A
 obtain⟨l,D,n⟩:=zf H
 obtain⟨X,Q⟩:=zdd O h4 (zao h3 Z)
 exact⟨zeg h6 (zao h8 (zao J (zef O U I (zao M (zao K (zao n (zao (show zd C 4 zn b.1= .ok l from D) X))))))) Q,Q⟩
theorem zm4 {N:Nat} {C:Cx} (J:BT N C.ts) (I:8≤N) {q q':PS} (h:zag C q= .ok q') (X:BS N q):BS N q':=by
 obtain⟨q1,Y,j⟩:=zf h
 have M:=zao Y X
 split at j
 ·obtain⟨a,H,z⟩:=zf j
  obtain⟨V,O⟩:=zip J H M
  split at z
  ·obtain⟨b,A,D⟩:=zf z
   exact zgA (f:=fun e=>zo C (zA e)) _ (fun x L p Z U Q=>zeh (y:=zA x) U Q ⟨(O x L).1,(O x L).2.1,Nat.zero_le _⟩) _ _ D (zao A V)
  ·obtain⟨b,A,D⟩:=zf z
   obtain⟨d,K,n⟩:=zeO J A
   cases K
   obtain⟨E,o⟩:=n V
   exact zgA (f:=fun e=>zo C (zai b.2 e)) _ (fun x L p Z U Q=>zeh (y:=zai b.2 x) U Q ⟨(O x L).1,(O x L).2.1,o⟩) _ _ D E
 ·split at j
  ·obtain⟨b,A,D⟩:=zf j
   obtain⟨d,K,n⟩:=zeO J A
   obtain⟨E,o⟩:=n (zao K M)
   exact zeh D E ⟨Nat.zero_le _,Nat.zero_le _,o⟩
  ·split at j
   ·obtain⟨a,H,z⟩:=zf j
    obtain⟨b,A,D⟩:=zf H
    obtain⟨c,h7,h8⟩:=zf A
    obtain⟨d,K,n⟩:=zf h7
    exact zeh z (zeg D (zao h8 (zef J I n (zao K M))) I) ⟨Nat.le_trans (show 7≤8 by omega) I,I,Nat.zero_le _⟩
   ·split at j
    ·obtain⟨a,H,z⟩:=zf j
     obtain⟨E,o⟩:=ziq J I H M
     exact zeh z E ⟨o,o,Nat.zero_le _⟩
    ·split at j
     ·obtain⟨a,H,z⟩:=zf j
      obtain⟨E,o⟩:=zir J I H M
      exact zeh z E ⟨o,o,Nat.zero_le _⟩
     ·cases j
theorem zis {N:Nat} {C:Cx} (A:BT N C.ts) (j:8≤N) {s:ByteArray} {k:Int} {q q':PS} (h:bd (bd (bd (zd C 1 s q) (pE C .sum 0)) (zd C 4 cSemi)) (zV C k sNone)= .ok q') (o:BS N q):BS N q':=by
 obtain⟨a,D,n⟩:=zf h
 obtain⟨b,I,H⟩:=zf D
 obtain⟨c,z,E⟩:=zf I
 exact zeg n (zao H (zef A j E (zao z o))) (Nat.zero_le _)
theorem zm5 {N:Nat} {C:Cx} (j:BT N C.ts) (n:8≤N) {q q':PS} (h:zy C q= .ok q') (o:BS N q):BS N q':=by
 unfold zy at h
 split at h
 ·exact zm3 j n h o
 ·split at h
  ·exact zm4 j n h o
  ·split at h
   ·obtain⟨a,A,z⟩:=zf h
    cases z
    exact (ziq j n A o).1
   ·split at h
    ·obtain⟨a,A,z⟩:=zf h
     cases z
     exact (zir j n A o).1
    ·split at h
     ·obtain⟨a,A,z⟩:=zf h
      obtain⟨b,I,J⟩:=zf A
      obtain⟨c,D,E⟩:=zf I
      obtain⟨d,K,L⟩:=zf D
      obtain⟨e,Q,H⟩:=zf K
      exact zeg z (zao J (zao E (zef j n L (zao H (zao Q o))))) (Nat.zero_le _)
     ·split at h
      ·exact zis j n h o
      ·split at h
       ·exact zis j n h o
       ·obtain⟨a,A,z⟩:=zf h
        obtain⟨b,I,J⟩:=zf z
        obtain⟨c,D,E⟩:=zf I
        obtain⟨d,K,L⟩:=zf D
        obtain⟨O,M⟩:=zdd j A o
        exact zeg J (zao E (zef j n L (zao K O))) M
theorem zm6 {N:Nat} {C:Cx} (z:BT N C.ts) (n:8≤N) (f:Nat): ∀(q q':PS),zcx C f q= .ok q'→BS N q→BS N q':=by
 induction f with
 |zero=>intro q q' h;cases h
 |succ f D=>
  intro q q' h j
  rw[zcx] at h
  split at h
  ·obtain⟨a,A,o⟩:=zf h
   exact D _ _ o (zm5 z n A j)
  ·cases h
   exact j
theorem zm7 {s:ByteArray} {j:Bool} {q:PS} {N:Nat} (h:zb7 s j (.ok q)) (D:s.size≤N) (o:8≤N):BS N q:=by
 obtain⟨r,⟨a,_,z⟩,e⟩:=h
 cases r with
 |error p=>cases e
 |ok n=>
  refine zm6 (C:=⟨n,s.size,j⟩) (fun t E=>?_) o _ _ _ e.symm ⟨?_,?_,?_,?_,?_,?_⟩
  ·have:=zmx z n rfl t E
   exact⟨Nat.le_trans this.1 D,this.2⟩
  all_goals (intro x A;cases A)
def KG {α:Type} (R:PS→PS→Prop) (p:α→PS) (x:Except Nat α) (q:PS):Prop:=∀a,x= .ok a→R q (p a)
def zit (C:Cx) (k:Int) (n:ByteArray):Prop:=n=sNone∨k=1∨∃i o,zD C i o=true∧n=(ze C i).text
structure Kept (C:Cx) (R:PS→PS→Prop):Prop where
 rfl': ∀q,R q q
 tr: ∀{a b c},R a b→R b c→R a c
 adv: ∀q,R q (adv q)
 ex: ∀x q,KG R id (zN C x q) q
 im: ∀x q,KG R id (zak C x q) q
 ep: ∀x q,KG R id (zo C x q) q
 sp: ∀q,KG R Prod.fst (zH C q) q
 st: ∀k n q,zit C k n→KG R id (zV C k n q) q
theorem KG.bd {C:Cx} {R:PS→PS→Prop} {α β:Type} (H:Kept C R) {p:α→PS} {r:β→PS} {x:Except Nat α} {f:α→Except Nat β} {q:PS} (h:KG R p x q) (k: ∀a,x= .ok a→KG R r (f a) (p a)):KG R r (bd x f) q:=by
 intro b o
 obtain⟨a,j,n⟩:=zf o
 exact H.tr (h a j) (k a j b n)
theorem KG.after {C:Cx} {R:PS→PS→Prop} (H:Kept C R) {α:Type} {r:α→PS} {y:Except Nat α} {q q':PS} (h:R q q') (k:KG R r y q'):KG R r y q:=fun b j=>H.tr h (k b j)
theorem KG.ok {C:Cx} {R:PS→PS→Prop} (H:Kept C R) {α:Type} {p:α→PS} {a:α}:KG R p (.ok a) (p a):=fun b j=>by cases j;exact H.rfl' _
theorem KG.err {R:PS→PS→Prop} {α:Type} {p:α→PS} {e:Nat} {q:PS}:KG R p (.error e) q:=fun b j=>by cases j
theorem zap {C:Cx} {R:PS→PS→Prop} (H:Kept C R) (k:Int) (x:ByteArray) (q:PS):KG R id (zd C k x q) q:=fun a h=>by obtain⟨rfl,_⟩:=zb4 h;exact H.adv q
theorem zde {C:Cx} {R:PS→PS→Prop} (H:Kept C R) (o:Bool) (q:PS):KG R Prod.fst (zj C o q) q:=fun a h=>by obtain⟨rfl,_⟩:=zbd h;exact H.adv q
theorem ziu {C:Cx} {R:PS→PS→Prop} (H:Kept C R) (n:ByteArray) (q:PS):KG R id (zbc C n q) q:=by
 unfold zbc
 split
 ·exact .bd H (.bd H (zap H _ _ _) fun _ _=>zap H _ _ _) fun _ _=>H.ex _ _
 ·exact H.ex _ _
theorem zm8 {C:Cx} {R:PS→PS→Prop} (H:Kept C R) (n f:ByteArray) (q:PS):KG R id (zbx C n f q) q:=by
 unfold zbx
 split
 ·exact .bd H (.bd H (zap H _ _ _) fun _ _=>zap H _ _ _) fun _ _=>H.ex _ _
 ·exact H.ex _ _
theorem zm9 {C:Cx} {R:PS→PS→Prop} (H:Kept C R) (f:Nat): ∀(n:NT) (d:Nat) (q:PS),KG R id (ev C f n d q) q:=by
 induction f with
 |zero=>intro n d q;cases n using NT.elim<;>exact .err
 |succ f j=>
  intro n d q
  cases n using NT.elim<;>rw[ev]
  ·exact .bd H (j _ _ _) fun _ _=>j _ _ _
  ·split
   ·exact .bd H (.bd H (.after H (H.adv q) (j _ _ _)) fun _ _=>H.ex _ _) fun _ _=>j _ _ _
   ·exact .ok (p:=id) H
  ·exact .bd H (j _ _ _) fun _ _=>j _ _ _
  ·split
   ·exact .bd H (.bd H (.after H (H.adv q) (j _ _ _)) fun _ _=>H.ex _ _) fun _ _=>j _ _ _
   ·exact .ok (p:=id) H
  ·split
   ·exact .after H (H.adv q) (H.ex _ _)
   ·split
    ·split
     ·exact .err
     ·exact .bd H (.after H (H.adv q) (j _ _ _)) fun _ _=>zap H _ _ _
    ·split
     ·exact .after H (H.adv q) (ziu H _ _)
     ·refine .bd H (zde H _ _) fun a _=>?_
      split
      ·exact .bd H (.after H (H.adv _) (zde H _ _)) fun _ _=>zm8 H _ _ _
      ·exact ziu H _ _
theorem zei {C:Cx} {R:PS→PS→Prop} (H:Kept C R) (j:NT) (d:Nat) (q:PS):KG R id (pE C j d q) q:=zm9 H ..
theorem ziv {C:Cx} {R:PS→PS→Prop} (H:Kept C R) {y:PRN} {F:PR→ByteArray→PR} {q:PS} (h:KG R Prod.fst y q) (k: ∀a,y= .ok a→KG R id (F (.ok a.1) a.2) a.1):KG R Prod.fst (withN y F) q:=
 .bd H h fun a j=>.bd (r:=Prod.fst) H (k a j) fun b _=>.ok (p:=Prod.fst) (a:=(b,a.2)) H
theorem ziw {C:Cx} {R:PS→PS→Prop} (H:Kept C R) (q:PS):KG R Prod.fst (zcj C q) q:=
 ziv H (.bd H (zap H _ _ _) fun _ _=>zde H _ _) fun _ _=>.bd H (.bd H (.bd H (.bd (p:=id) H (.ok (p:=id) H) fun _ _=>zap H _ _ _) fun _ _=>zei H _ _ _) fun _ _=>zap H _ _ _) fun _ _=>H.st _ _ _ (.inr (.inl rfl))
theorem zix {C:Cx} {k:Int} {o:Bool} {q:PS} {a:PS×ByteArray} (h:zj C o q= .ok a):zit C k a.2:=by
 obtain⟨rfl,j⟩:=zbd h
 exact .inr (.inr ⟨_,_,j,rfl⟩)
theorem ziy {C:Cx} {R:PS→PS→Prop} (H:Kept C R) (q:PS):KG R Prod.fst (fnP C q) q:=
 ziv H (.bd H (zap H _ _ _) fun _ _=>zde H _ _) fun a j=>.bd H (.bd H (.bd H (.bd H (.bd H (.bd H (.bd H (.bd (p:=id) H (.ok (p:=id) H) fun _ _=>zap H _ _ _) fun _ _=>zap H _ _ _) fun _ _=>zap H _ _ _) fun _ _=>zap H _ _ _) fun _ _=>zei H _ _ _) fun _ _=>zap H _ _ _) fun _ _=>zap H _ _ _) fun _ _=>H.st _ _ _ (by
  obtain⟨b,_,n⟩:=zf j
  exact zix n)
theorem zmA {C:Cx} {R:PS→PS→Prop} (H:Kept C R) (e:Bool) (a:PS×ByteArray):KG R Prod.fst (asP C e a) a.1:=by
 unfold asP
 split
 ·exact .after H (H.adv _) (zde H _ _)
 ·split
  ·exact .err
  ·exact .ok (p:=Prod.fst) H
theorem zmB {C:Cx} {R:PS→PS→Prop} (H:Kept C R) (e:Bool) (f:Nat): ∀(q:PS) (acc:List Ep),KG R Prod.fst (zcv C e f q acc) q:=by
 induction f with
 |zero=>intro q acc;exact .err
 |succ f j=>
  intro q acc
  rw[zcv]
  refine .bd H (zde H _ _) fun a _=>.bd H (zmA H _ _) fun b _=>?_
  split
  ·exact .after H (H.adv _) (j _ _)
  ·exact .bd (r:=Prod.fst) H (zap H _ _ _) fun c _=>.ok (p:=Prod.fst) (a:=(c,_)) H
theorem ziz {C:Cx} {R:PS→PS→Prop} (H:Kept C R) (e:Bool) (q:PS):KG R Prod.fst (zcw C e q) q:=.bd H (zap H _ _ _) fun _ _=>zmB H ..
theorem zeP {C:Cx} {R:PS→PS→Prop} (H:Kept C R) {x:PR} {q:PS} (h:KG R id x q):KG R Prod.fst (zaR C (zaE C x)) q:=
 .bd H (.bd H (.bd H h fun _ _=>zap H _ _ _) fun _ _=>H.sp _) fun a _=>.bd (r:=Prod.fst) H (zap H _ _ _) fun c _=>.ok (p:=Prod.fst) (a:=(c,a.2)) H
theorem zgB {C:Cx} {R:PS→PS→Prop} (H:Kept C R) {α:Type} {f:α→PS→PR} (j: ∀a q,KG R id (f a q) q) (l:List α): ∀(x:PR) (q:PS),KG R id x q→KG R id (zP f l x) q:=by
 induction l with
 |nil=>intro x q h;exact h
 |cons a l n=>intro x q h;exact n _ _ (.bd H h fun _ _=>j _ _)
theorem zmC {C:Cx} {R:PS→PS→Prop} (H:Kept C R) (q:PS):KG R id (zaQ C q) q:=by
 refine .bd H (zap H _ _ _) fun j _=>?_
 split
 ·exact .bd H (ziz H _ _) fun a _=>.bd H (zeP H (.ok (p:=id) H)) fun b _=>zgB H (fun _ _=>H.im _ _) _ _ _ (.ok (p:=id) H)
 ·split
  ·exact .bd H (.bd H (.bd H (zap H _ _ _) fun _ _=>zap H _ _ _) fun _ _=>zde H _ _) fun a _=>.bd H (zeP H (.ok (p:=id) H)) fun _ _=>H.im _ _
  ·split
   ·exact .bd H (zde H _ _) fun a _=>.bd H (zeP H (.ok (p:=id) H)) fun _ _=>H.im _ _
   ·exact .bd H (H.sp _) fun _ _=>zap H _ _ _
theorem zmD {C:Cx} {R:PS→PS→Prop} (H:Kept C R) (q:PS):KG R id (zag C q) q:=by
 refine .bd H (zap H _ _ _) fun j _=>?_
 split
 ·refine .bd H (ziz H _ _) fun a _=>?_
  split
  ·exact .bd H (zap H _ _ _) fun _ _=>zgB H (fun _ _=>H.ep _ _) _ _ _ (.ok (p:=id) H)
  ·exact .bd H (zeP H (.ok (p:=id) H)) fun _ _=>zgB H (fun _ _=>H.ep _ _) _ _ _ (.ok (p:=id) H)
 ·split
  ·exact .bd H (zeP H (zap H _ _ _)) fun _ _=>H.ep _ _
  ·split
   ·exact .bd H (.bd H (.bd H (.bd H (zap H _ _ _) fun _ _=>zei H _ _ _) fun _ _=>zap H _ _ _) fun _ _=>H.st _ _ _ (.inr (.inl rfl))) fun _ _=>H.ep _ _
   ·split
    ·exact .bd H (ziw H _) fun _ _=>H.ep _ _
    ·split
     ·exact .bd H (ziy H _) fun _ _=>H.ep _ _
     ·exact .err
theorem zi0 {C:Cx} {R:PS→PS→Prop} (H:Kept C R) (s:ByteArray) (k:Int) (q:PS):KG R id (bd (bd (bd (zd C 1 s q) (pE C .sum 0)) (zd C 4 cSemi)) (zV C k sNone)) q:=
 .bd H (.bd H (.bd H (zap H _ _ _) fun _ _=>zei H _ _ _) fun _ _=>zap H _ _ _) fun _ _=>H.st _ _ _ (.inl rfl)
theorem zmE {C:Cx} {R:PS→PS→Prop} (H:Kept C R) (q:PS):KG R id (zy C q) q:=by
 unfold zy
 split
 ·exact zmC H q
 ·split
  ·exact zmD H q
  ·split
   ·exact .bd H (ziw H q) fun a _=>.ok (p:=id) H
   ·split
    ·exact .bd H (ziy H q) fun a _=>.ok (p:=id) H
    ·split
     ·exact .bd H (.bd H (.bd H (.bd H (.bd H (zap H _ _ _) fun _ _=>zap H _ _ _) fun _ _=>zei H _ _ _) fun _ _=>zap H _ _ _) fun _ _=>zap H _ _ _) fun _ _=>H.st _ _ _ (.inl rfl)
     ·split
      ·exact zi0 H _ _ _
      ·split
       ·exact zi0 H _ _ _
       ·exact .bd H (zde H _ _) fun a j=>.bd H (.bd H (.bd H (zap H _ _ _) fun _ _=>zei H _ _ _) fun _ _=>zap H _ _ _) fun _ _=>H.st _ _ _ (zix j)
theorem zmF {C:Cx} {R:PS→PS→Prop} (H:Kept C R) (f:Nat): ∀q,KG R id (zcx C f q) q:=by
 induction f with
 |zero=>intro q;exact .err
 |succ f j=>
  intro q
  rw[zcx]
  split
  ·exact .bd H (zmE H q) fun _ _=>j _
  ·exact .ok (p:=id) H
theorem zmG {R:PS→PS→Prop} {s:ByteArray} {j:Bool} {q:PS} (h:zb7 s j (.ok q)) (H: ∀n,zae s j (.ok n)→Kept ⟨n,s.size,j⟩ R):R zbC q:=by
 obtain⟨r,o,e⟩:=h
 cases r with
 |error p=>cases e
 |ok n=>exact zmF (H n o) _ zbC q e.symm
abbrev dN:List UInt8:=[42,100,101,102,97,117,108,116]
def zdq (st:List Sm):Prop:=∀s∈st,s.name.toList=dN→s.kind=1
def zi1 (ts:List Tk):Prop:=∀t∈ts,t.kind=1→t.text.toList≠dN
theorem zmH {s:ByteArray} {j:Bool} {a e:Nat} {t:Tk} (o:a<s.size) (h:Tok s j a t e):t.kind=1→t.text.toList≠dN:=by
 have D:=(zdQ o h).1
 have A:=(zdQ o h).2.1
 cases h using Tok.elim with
 |name n _=>
  intro _ k
  have z:bt (s.extract a e) 0=42:=by
   rw[zdk,←Lib.toList_data,k]
   rfl
  have q:bt (s.extract a e) 0=bt s a:=by
   rw[zdk,zdk,ByteArray.data_extract]
   simp only[List.getD,List.getElem?_map,Array.getElem?_toList,Array.getElem?_extract]
   rw[if_pos (by have:s.data.size=s.size:=rfl;omega),Nat.add_zero]
  rw[←q,z] at n
  cases j<;>revert n<;>decide
 |num _ _=>intro k;cases k
 |str _ _=>intro k;cases k
 |sign _=>intro k;cases k
theorem zmI {s:ByteArray} {o:Bool} {a n:Nat} {r:Except Nat (List Tk)} (h:Lx s o a n r): ∀j,r= .ok j→zi1 j:=by
 induction h using Lx.ind with
 |done=>intro j k;cases k;intro t q;cases q
 |bad _ _=>intro j k;cases k
 | @tok a n e b t r h D q E H A=>
  intro j k
  cases r with
  |error p=>cases k
  |ok l=>
   cases k
   intro u z
   rcases List.mem_cons.1 z with rfl|z
   ·exact zmH h q
   ·exact A l rfl u z
theorem zmJ {C:Cx} (n:zi1 C.ts) {i:Nat} {o:Bool} (h:zD C i o=true):(ze C i).text.toList≠dN:=by
 have j:=ze4 h
 have e:ze C i=C.ts[i]:=by simp[ze,List.getD,List.getElem?_eq_getElem j]
 simp only[zD,Bool.and_eq_true,beq_iff_eq] at h
 rw[e] at h ⊢
 exact n _ (List.getElem_mem j) h.1
theorem zmK {k:Int} (h:sNone.toList=dN):k=1:=by
 rw[Lib.toList_data] at h
 cases h
theorem zi2 {s:ByteArray} {E:Bool} {q:PS} (h:zb7 s E (.ok q)):zdq q.st:=by
 refine zmG (R:=fun a b=>zdq a.st→zdq b.st) h (fun J D=>?_) (fun s z=>by cases z)
 obtain⟨_,_,D⟩:=D
 have I:=zmI D J rfl
 refine⟨fun _ h=>h,fun h k x=>k (h x),fun _ h=>h,?_,?_,?_,?_,?_⟩
 ·intro x q a h j
  obtain⟨rfl,_⟩:=zb5 h
  exact j
 ·intro x q a h j
  unfold zak at h
  split at h<;>cases h
  exact j
 ·intro x q a h j
  unfold zo at h
  split at h
  ·cases h
  ·split at h<;>cases h<;>exact j
 ·intro q a h j
  unfold zH at h
  split at h
  ·split at h
   ·cases h;exact j
   ·split at h<;>cases h
    exact j
  ·cases h
 ·intro k n q A a h j
  unfold zV at h
  split at h<;>cases h
  intro s z
  rcases List.mem_append.1 z with z|z
  ·exact j s z
  ·rw[List.mem_singleton.1 z]
   intro H
   rcases A with rfl|A|⟨i,o,K,rfl⟩
   ·exact zmK H
   ·exact A
   ·exact absurd H (zmJ I K)
open Go.Sort
structure Drawn (k:Nat) (m:Md):Prop where
 rq:m.rq.length≤300+k∧∀x∈m.rq,x.size≤20000
 im:m.im.length≤300+k∧∀x∈m.im,x.spec.size≤20000∧x.first.size≤20000∧x.loc.size≤20000
 ep:m.ep.length≤300+k∧∀x∈m.ep,zcM 20000 x
 st:m.st.length≤300+k∧∀x∈m.st,x.name.size≤20000
 ex:m.ex.length≤300+k∧∀x∈m.ex,zeM 20000 x
 fair:zdq m.st
theorem OwnR.asideD {w o:World} {b s n b2 E H:Nat} {e z:TypeId} {r q:Rw} {xs J:List Value} (h:OwnR w b e s r n xs) (D:OwnR w b2 z E q H J) (A:e≠z) (g:w.grownBy o q.blk):OwnR o b e s r n xs:=
 h.keep fun k j=>g.block k (h.typed j).2.1 fun I=>h.ne D A j I.symm
structure MM (S:Src) (g:Nat) (w0:World) (b6 b7:Nat) (V:Sv) (m:Md) (q:Nat×Int) (W:World):Prop where
 r6:W.heap[b6]? =some (.cells #[.slice none 0 0,.slice none 0 0,.slice none 0 0,.slice none 0 0,.slice none 0 0] 28 (0,0))
 r7:W.heap[b7]? =some (.cells #[.slice V.rq.a m.rq.length V.rq.cap,.slice V.im.a m.im.length V.im.cap,.slice V.ep.a m.ep.length V.ep.cap,.slice V.st.a m.st.length V.st.cap,.slice V.ex.a m.ex.length V.ex.cap] 28 (0,0))
 own:OwnMd W w0.heap.size V m
 cur:zR 147 S W g q
 gr:w0.grownBy W (some g)
 ge:w0.heap.size≤b6
 lt:b6<b7
 gl:g<w0.heap.size
theorem OwnMd.grown {w A:World} {o g:Nat} {V:Sv} {m:Md} (h:OwnMd w o V m) (H:g<o) (k:w.grownBy A (some g)):OwnMd A o V m:=by
 have q: ∀{e:TypeId} {z n:Nat} {r:Rw} {E:List Value},OwnR w o e z r n E→OwnR A o e z r n E:=fun h=>h.keep fun j D=>k.block j (h.typed D).2.1 (by have:=(h.typed D).1;simp;omega)
 exact⟨q h.rq,q h.im,q h.ep,q h.st,q h.ex⟩
theorem MM.step {S:Src} {g:Nat} {w0 W n:World} {z o:Nat} {V:Sv} {m:Md} {q q':Nat×Int} (h:MM S g w0 z o V m q W) (A:zR 147 S n g q') (j:W.grownBy n (some g)):MM S g w0 z o V m q' n:=
 ⟨(j.block _ (Array.getElem?_eq_some_iff.1 h.r6).1 (by have:=h.ge;have:=h.gl;simp;omega)).trans h.r6,(j.block _ (Array.getElem?_eq_some_iff.1 h.r7).1 (by have:=h.ge;have:=h.gl;have:=h.lt;simp;omega)).trans h.r7,h.own.grown h.gl j,A,zB h.gr j,h.ge,h.lt,h.gl⟩
theorem MM.alloc {S:Src} {g:Nat} {w0 W:World} {n j:Nat} {V:Sv} {m:Md} {q:Nat×Int} (h:MM S g w0 n j V m q W) (o:Obj):MM S g w0 n j V m q (W.alloc o):=h.step (zeL h.cur o) (zeK W o _)
theorem MM.drew {S:Src} {g:Nat} {w0 W:World} {n j:Nat} {V:Sv} {m:Md} {q:Nat×Int} (h:MM S g w0 n j V m q W):MM S g w0 n j V m q W.drew:=h.step (zbS h.cur fun _ _=>rfl) ⟨rfl,rfl,rfl,Nat.le_refl _,fun _ _ _=>rfl⟩
theorem MM.far_rq {S:Src} {g:Nat} {w0 W o:World} {D j:Nat} {V:Sv} {m:Md} {q:Nat×Int} (h:MM S g w0 D j V m q W) (z:W.grownBy o V.rq.blk):o.heap[j]? =some (.cells #[.slice V.rq.a m.rq.length V.rq.cap,.slice V.im.a m.im.length V.im.cap,.slice V.ep.a m.ep.length V.ep.cap,.slice V.st.a m.st.length V.st.cap,.slice V.ex.a m.ex.length V.ex.cap] 28 (0,0)):=
 (z.block j (Array.getElem?_eq_some_iff.1 h.r7).1 fun e=>by
  obtain⟨_,_,A,n⟩:=h.own.rq.typed e.symm
  rw[h.r7] at n
  simp only[Option.some.injEq,Obj.cells.injEq] at n
  exact absurd n.2.1 (by decide)).trans h.r7
theorem MM.app_rq {S:Src} {g:Nat} {w0 W H:World} {O K:Nat} {V:Sv} {m:Md} {q:Nat×Int} {J:Rw} {x:ByteArray} (h:MM S g w0 O K V m q W) (Z:OwnR H w0.heap.size 9 1 J (m.rq.length+1) (m.rq.map Value.string++[Value.string x])) (o:W.grownBy H V.rq.blk):
  MM S g w0 O K {V with rq:=J} {m with rq:=m.rq++[x]} q (H.setCell ⟨K,0,none⟩ (.slice J.a (m.rq.length+1) J.cap)):=by
 have hz:=h.gr.size
 have D: ∀(k:Nat) (U:Array Value) (t:TypeId),W.heap[k]? =some (.cells U t (0,0))→t≠9→H.heap[k]? =W.heap[k]?:=fun k U t z ht=>o.block k (Array.getElem?_eq_some_iff.1 z).1 fun e=>by
  obtain⟨_,_,L,I⟩:=h.own.rq.typed e.symm
  rw[z] at I
  simp only[Option.some.injEq,Obj.cells.injEq] at I
  exact ht I.2.1
 have X:=(D _ _ _ h.r7 (by decide)).trans h.r7
 have j: ∀{e:TypeId} {E n:Nat} {r:Rw} (M:List Value),OwnR H w0.heap.size e E r n M→e≠28→OwnR (H.setCell ⟨K,0,none⟩ (.slice J.a (m.rq.length+1) J.cap)) w0.heap.size e E r n M:=fun M Q he=>Q.keep fun k z=>zi fun e=>by
  obtain⟨_,_,L,I⟩:=Q.typed z
  rw[e,X] at I
  simp only[Option.some.injEq,Obj.cells.injEq] at I
  exact he I.2.1.symm
 have ab:=h.ge
 have Y:=h.lt
 have aa:=h.gl
 have A: ∀k,k<w0.heap.size→H.heap[k]? =W.heap[k]?:=fun k z=>by
  refine o.block k (by omega) fun e=>?_
  have:=(h.own.rq.typed e.symm).1
  omega
 refine⟨(zi (by omega)).trans ((D _ _ _ h.r6 (by decide)).trans h.r6),(za9 X).trans (by simp),⟨(j _ (by exact (by rw[List.map_append,List.length_append];exact Z)) (by decide)),(j _ (h.own.im.asideD h.own.rq (by decide) o) (by decide)),(j _ (h.own.ep.asideD h.own.rq (by decide) o) (by decide)),(j _ (h.own.st.asideD h.own.rq (by decide) o) (by decide)),(j _ (h.own.ex.asideD h.own.rq (by decide) o) (by decide))⟩,?_,?_,h.ge,h.lt,h.gl⟩
 ·exact zbS h.cur fun k z=>(zi (by omega)).trans (A k (by omega))
 ·refine⟨o.os.trans h.gr.os,o.tape.trans h.gr.tape,o.output.trans h.gr.output,?_,fun k z N=>(zi (by omega)).trans ((A k z).trans (h.gr.block k z N))⟩
  rw[World.size_setCell]
  exact Nat.le_trans h.gr.size o.size
theorem MM.far_im {S:Src} {g:Nat} {w0 W o:World} {D j:Nat} {V:Sv} {m:Md} {q:Nat×Int} (h:MM S g w0 D j V m q W) (z:W.grownBy o V.im.blk):o.heap[j]? =some (.cells #[.slice V.rq.a m.rq.length V.rq.cap,.slice V.im.a m.im.length V.im.cap,.slice V.ep.a m.ep.length V.ep.cap,.slice V.st.a m.st.length V.st.cap,.slice V.ex.a m.ex.length V.ex.cap] 28 (0,0)):=
 (z.block j (Array.getElem?_eq_some_iff.1 h.r7).1 fun e=>by
  obtain⟨_,_,A,n⟩:=h.own.im.typed e.symm
  rw[h.r7] at n
  simp only[Option.some.injEq,Obj.cells.injEq] at n
  exact absurd n.2.1 (by decide)).trans h.r7
theorem MM.app_im {S:Src} {g:Nat} {w0 W H:World} {O K:Nat} {V:Sv} {m:Md} {q:Nat×Int} {J:Rw} {x:Im} (h:MM S g w0 O K V m q W) (Z:OwnR H w0.heap.size 100 3 J (m.im.length+1) (m.im.flatMap imL++imL x)) (o:W.grownBy H V.im.blk):
  MM S g w0 O K {V with im:=J} {m with im:=m.im++[x]} q (H.setCell ⟨K,1,none⟩ (.slice J.a (m.im.length+1) J.cap)):=by
 have hz:=h.gr.size
 have D: ∀(k:Nat) (U:Array Value) (t:TypeId),W.heap[k]? =some (.cells U t (0,0))→t≠100→H.heap[k]? =W.heap[k]?:=fun k U t z ht=>o.block k (Array.getElem?_eq_some_iff.1 z).1 fun e=>by
  obtain⟨_,_,L,I⟩:=h.own.im.typed e.symm
  rw[z] at I
  simp only[Option.some.injEq,Obj.cells.injEq] at I
  exact ht I.2.1
 have X:=(D _ _ _ h.r7 (by decide)).trans h.r7
 have j: ∀{e:TypeId} {E n:Nat} {r:Rw} (M:List Value),OwnR H w0.heap.size e E r n M→e≠28→OwnR (H.setCell ⟨K,1,none⟩ (.slice J.a (m.im.length+1) J.cap)) w0.heap.size e E r n M:=fun M Q he=>Q.keep fun k z=>zi fun e=>by
  obtain⟨_,_,L,I⟩:=Q.typed z
  rw[e,X] at I
  simp only[Option.some.injEq,Obj.cells.injEq] at I
  exact he I.2.1.symm
 have ab:=h.ge
 have Y:=h.lt
 have aa:=h.gl
 have A: ∀k,k<w0.heap.size→H.heap[k]? =W.heap[k]?:=fun k z=>by
  refine o.block k (by omega) fun e=>?_
  have:=(h.own.im.typed e.symm).1
  omega
 refine⟨(zi (by omega)).trans ((D _ _ _ h.r6 (by decide)).trans h.r6),(za9 X).trans (by simp),⟨(j _ (h.own.rq.asideD h.own.im (by decide) o) (by decide)),(j _ (by exact (by rw[List.flatMap_append,List.length_append];simpa using Z)) (by decide)),(j _ (h.own.ep.asideD h.own.im (by decide) o) (by decide)),(j _ (h.own.st.asideD h.own.im (by decide) o) (by decide)),(j _ (h.own.ex.asideD h.own.im (by decide) o) (by decide))⟩,?_,?_,h.ge,h.lt,h.gl⟩
 ·exact zbS h.cur fun k z=>(zi (by omega)).trans (A k (by omega))
 ·refine⟨o.os.trans h.gr.os,o.tape.trans h.gr.tape,o.output.trans h.gr.output,?_,fun k z N=>(zi (by omega)).trans ((A k z).trans (h.gr.block k z N))⟩
  rw[World.size_setCell]
  exact Nat.le_trans h.gr.size o.size
theorem MM.far_ep {S:Src} {g:Nat} {w0 W o:World} {D j:Nat} {V:Sv} {m:Md} {q:Nat×Int} (h:MM S g w0 D j V m q W) (z:W.grownBy o V.ep.blk):o.heap[j]? =some (.cells #[.slice V.rq.a m.rq.length V.rq.cap,.slice V.im.a m.im.length V.im.cap,.slice V.ep.a m.ep.length V.ep.cap,.slice V.st.a m.st.length V.st.cap,.slice V.ex.a m.ex.length V.ex.cap] 28 (0,0)):=
 (z.block j (Array.getElem?_eq_some_iff.1 h.r7).1 fun e=>by
  obtain⟨_,_,A,n⟩:=h.own.ep.typed e.symm
  rw[h.r7] at n
  simp only[Option.some.injEq,Obj.cells.injEq] at n
  exact absurd n.2.1 (by decide)).trans h.r7
theorem MM.app_ep {S:Src} {g:Nat} {w0 W H:World} {O K:Nat} {V:Sv} {m:Md} {q:Nat×Int} {J:Rw} {x:Ep} (h:MM S g w0 O K V m q W) (Z:OwnR H w0.heap.size 102 4 J (m.ep.length+1) (m.ep.flatMap epL++epL x)) (o:W.grownBy H V.ep.blk):
  MM S g w0 O K {V with ep:=J} {m with ep:=m.ep++[x]} q (H.setCell ⟨K,2,none⟩ (.slice J.a (m.ep.length+1) J.cap)):=by
 have hz:=h.gr.size
 have D: ∀(k:Nat) (U:Array Value) (t:TypeId),W.heap[k]? =some (.cells U t (0,0))→t≠102→H.heap[k]? =W.heap[k]?:=fun k U t z ht=>o.block k (Array.getElem?_eq_some_iff.1 z).1 fun e=>by
  obtain⟨_,_,L,I⟩:=h.own.ep.typed e.symm
  rw[z] at I
  simp only[Option.some.injEq,Obj.cells.injEq] at I
  exact ht I.2.1
 have X:=(D _ _ _ h.r7 (by decide)).trans h.r7
 have j: ∀{e:TypeId} {E n:Nat} {r:Rw} (M:List Value),OwnR H w0.heap.size e E r n M→e≠28→OwnR (H.setCell ⟨K,2,none⟩ (.slice J.a (m.ep.length+1) J.cap)) w0.heap.size e E r n M:=fun M Q he=>Q.keep fun k z=>zi fun e=>by
  obtain⟨_,_,L,I⟩:=Q.typed z
  rw[e,X] at I
  simp only[Option.some.injEq,Obj.cells.injEq] at I
  exact he I.2.1.symm
 have ab:=h.ge
 have Y:=h.lt
 have aa:=h.gl
 have A: ∀k,k<w0.heap.size→H.heap[k]? =W.heap[k]?:=fun k z=>by
  refine o.block k (by omega) fun e=>?_
  have:=(h.own.ep.typed e.symm).1
  omega
 refine⟨(zi (by omega)).trans ((D _ _ _ h.r6 (by decide)).trans h.r6),(za9 X).trans (by simp),⟨(j _ (h.own.rq.asideD h.own.ep (by decide) o) (by decide)),(j _ (h.own.im.asideD h.own.ep (by decide) o) (by decide)),(j _ (by exact (by rw[List.flatMap_append,List.length_append];simpa using Z)) (by decide)),(j _ (h.own.st.asideD h.own.ep (by decide) o) (by decide)),(j _ (h.own.ex.asideD h.own.ep (by decide) o) (by decide))⟩,?_,?_,h.ge,h.lt,h.gl⟩
 ·exact zbS h.cur fun k z=>(zi (by omega)).trans (A k (by omega))
 ·refine⟨o.os.trans h.gr.os,o.tape.trans h.gr.tape,o.output.trans h.gr.output,?_,fun k z N=>(zi (by omega)).trans ((A k z).trans (h.gr.block k z N))⟩
  rw[World.size_setCell]
  exact Nat.le_trans h.gr.size o.size
theorem MM.far_st {S:Src} {g:Nat} {w0 W o:World} {D j:Nat} {V:Sv} {m:Md} {q:Nat×Int} (h:MM S g w0 D j V m q W) (z:W.grownBy o V.st.blk):o.heap[j]? =some (.cells #[.slice V.rq.a m.rq.length V.rq.cap,.slice V.im.a m.im.length V.im.cap,.slice V.ep.a m.ep.length V.ep.cap,.slice V.st.a m.st.length V.st.cap,.slice V.ex.a m.ex.length V.ex.cap] 28 (0,0)):=
 (z.block j (Array.getElem?_eq_some_iff.1 h.r7).1 fun e=>by
  obtain⟨_,_,A,n⟩:=h.own.st.typed e.symm
  rw[h.r7] at n
  simp only[Option.some.injEq,Obj.cells.injEq] at n
  exact absurd n.2.1 (by decide)).trans h.r7
theorem MM.app_st {S:Src} {g:Nat} {w0 W H:World} {O K:Nat} {V:Sv} {m:Md} {q:Nat×Int} {J:Rw} {x:Sm} (h:MM S g w0 O K V m q W) (Z:OwnR H w0.heap.size 106 3 J (m.st.length+1) (m.st.flatMap smL++smL x)) (o:W.grownBy H V.st.blk):
  MM S g w0 O K {V with st:=J} {m with st:=m.st++[x]} q (H.setCell ⟨K,3,none⟩ (.slice J.a (m.st.length+1) J.cap)):=by
 have hz:=h.gr.size
 have D: ∀(k:Nat) (U:Array Value) (t:TypeId),W.heap[k]? =some (.cells U t (0,0))→t≠106→H.heap[k]? =W.heap[k]?:=fun k U t z ht=>o.block k (Array.getElem?_eq_some_iff.1 z).1 fun e=>by
  obtain⟨_,_,L,I⟩:=h.own.st.typed e.symm
  rw[z] at I
  simp only[Option.some.injEq,Obj.cells.injEq] at I
  exact ht I.2.1
 have X:=(D _ _ _ h.r7 (by decide)).trans h.r7
 have j: ∀{e:TypeId} {E n:Nat} {r:Rw} (M:List Value),OwnR H w0.heap.size e E r n M→e≠28→OwnR (H.setCell ⟨K,3,none⟩ (.slice J.a (m.st.length+1) J.cap)) w0.heap.size e E r n M:=fun M Q he=>Q.keep fun k z=>zi fun e=>by
  obtain⟨_,_,L,I⟩:=Q.typed z
  rw[e,X] at I
  simp only[Option.some.injEq,Obj.cells.injEq] at I
  exact he I.2.1.symm
 have ab:=h.ge
 have Y:=h.lt
 have aa:=h.gl
 have A: ∀k,k<w0.heap.size→H.heap[k]? =W.heap[k]?:=fun k z=>by
  refine o.block k (by omega) fun e=>?_
  have:=(h.own.st.typed e.symm).1
  omega
 refine⟨(zi (by omega)).trans ((D _ _ _ h.r6 (by decide)).trans h.r6),(za9 X).trans (by simp),⟨(j _ (h.own.rq.asideD h.own.st (by decide) o) (by decide)),(j _ (h.own.im.asideD h.own.st (by decide) o) (by decide)),(j _ (h.own.ep.asideD h.own.st (by decide) o) (by decide)),(j _ (by exact (by rw[List.flatMap_append,List.length_append];simpa using Z)) (by decide)),(j _ (h.own.ex.asideD h.own.st (by decide) o) (by decide))⟩,?_,?_,h.ge,h.lt,h.gl⟩
 ·exact zbS h.cur fun k z=>(zi (by omega)).trans (A k (by omega))
 ·refine⟨o.os.trans h.gr.os,o.tape.trans h.gr.tape,o.output.trans h.gr.output,?_,fun k z N=>(zi (by omega)).trans ((A k z).trans (h.gr.block k z N))⟩
  rw[World.size_setCell]
  exact Nat.le_trans h.gr.size o.size
theorem MM.far_ex {S:Src} {g:Nat} {w0 W o:World} {D j:Nat} {V:Sv} {m:Md} {q:Nat×Int} (h:MM S g w0 D j V m q W) (z:W.grownBy o V.ex.blk):o.heap[j]? =some (.cells #[.slice V.rq.a m.rq.length V.rq.cap,.slice V.im.a m.im.length V.im.cap,.slice V.ep.a m.ep.length V.ep.cap,.slice V.st.a m.st.length V.st.cap,.slice V.ex.a m.ex.length V.ex.cap] 28 (0,0)):=
 (z.block j (Array.getElem?_eq_some_iff.1 h.r7).1 fun e=>by
  obtain⟨_,_,A,n⟩:=h.own.ex.typed e.symm
  rw[h.r7] at n
  simp only[Option.some.injEq,Obj.cells.injEq] at n
  exact absurd n.2.1 (by decide)).trans h.r7
theorem MM.app_ex {S:Src} {g:Nat} {w0 W H:World} {O K:Nat} {V:Sv} {m:Md} {q:Nat×Int} {J:Rw} {x:Ex} (h:MM S g w0 O K V m q W) (Z:OwnR H w0.heap.size 108 6 J (m.ex.length+1) (m.ex.flatMap exL++exL x)) (o:W.grownBy H V.ex.blk):
  MM S g w0 O K {V with ex:=J} {m with ex:=m.ex++[x]} q (H.setCell ⟨K,4,none⟩ (.slice J.a (m.ex.length+1) J.cap)):=by
 have hz:=h.gr.size
 have D: ∀(k:Nat) (U:Array Value) (t:TypeId),W.heap[k]? =some (.cells U t (0,0))→t≠108→H.heap[k]? =W.heap[k]?:=fun k U t z ht=>o.block k (Array.getElem?_eq_some_iff.1 z).1 fun e=>by
  obtain⟨_,_,L,I⟩:=h.own.ex.typed e.symm
  rw[z] at I
  simp only[Option.some.injEq,Obj.cells.injEq] at I
  exact ht I.2.1
 have X:=(D _ _ _ h.r7 (by decide)).trans h.r7
 have j: ∀{e:TypeId} {E n:Nat} {r:Rw} (M:List Value),OwnR H w0.heap.size e E r n M→e≠28→OwnR (H.setCell ⟨K,4,none⟩ (.slice J.a (m.ex.length+1) J.cap)) w0.heap.size e E r n M:=fun M Q he=>Q.keep fun k z=>zi fun e=>by
  obtain⟨_,_,L,I⟩:=Q.typed z
  rw[e,X] at I
  simp only[Option.some.injEq,Obj.cells.injEq] at I
  exact he I.2.1.symm
 have ab:=h.ge
 have Y:=h.lt
 have aa:=h.gl
 have A: ∀k,k<w0.heap.size→H.heap[k]? =W.heap[k]?:=fun k z=>by
  refine o.block k (by omega) fun e=>?_
  have:=(h.own.ex.typed e.symm).1
  omega
 refine⟨(zi (by omega)).trans ((D _ _ _ h.r6 (by decide)).trans h.r6),(za9 X).trans (by simp),⟨(j _ (h.own.rq.asideD h.own.ex (by decide) o) (by decide)),(j _ (h.own.im.asideD h.own.ex (by decide) o) (by decide)),(j _ (h.own.ep.asideD h.own.ex (by decide) o) (by decide)),(j _ (h.own.st.asideD h.own.ex (by decide) o) (by decide)),(j _ (by exact (by rw[List.flatMap_append,List.length_append];simpa using Z)) (by decide))⟩,?_,?_,h.ge,h.lt,h.gl⟩
 ·exact zbS h.cur fun k z=>(zi (by omega)).trans (A k (by omega))
 ·refine⟨o.os.trans h.gr.os,o.tape.trans h.gr.tape,o.output.trans h.gr.output,?_,fun k z N=>(zi (by omega)).trans ((A k z).trans (h.gr.block k z N))⟩
  rw[World.size_setCell]
  exact Nat.le_trans h.gr.size o.size
theorem zmL {l:List Sm} {x:Sm} (h:zdq l) (n:x.name.toList≠dN):zdq (l++[x]):=fun s j=>by
 rcases List.mem_append.1 j with j|j
 ·exact h s j
 ·rw[List.mem_singleton] at j
  rw[j]
  exact fun k=>absurd k n
theorem zmM {α:Type} {P:α→Prop} {l:List α} {k:Nat} {y:α} (h: ∀x∈l,P x) (n:P y): ∀x∈l.set k y,P x:=fun x j=>by
 rcases List.mem_or_eq_of_mem_set j with j|j
 ·exact h x j
 ·rw[j]
  exact n
theorem zmN:(({data:=#[113]}:ByteArray)).toList≠dN:=fun h=>by
 rw[Lib.toList_data] at h
 cases h
theorem zmO (v:Int) (l:List Ex): ∀(k:Nat) (x:Ex),l[k]? =some x→(l.flatMap exL).set (k*6+1) (.int .i64 v)=(l.set k {x with num:=v}).flatMap exL:=by
 induction l with
 |nil=>intro k x h;cases h
 |cons y l j=>
  intro k x h
  cases k with
  |zero=>
   cases h
   rfl
  |succ k=>
   rw[List.set_cons_succ,List.flatMap_cons,List.flatMap_cons,←j k x h,List.set_append_right _ _ (by show 6≤_;omega)]
   congr 2
   show (k+1)*6+1-6=_
   omega
theorem MM.num {S:Src} {g:Nat} {w0 W:World} {N Y D:Nat} {V:Sv} {m:Md} {q:Nat×Int} {k:Nat} {x:Ex} (h:MM S g w0 N Y V m q W) (hk:m.ex[k]? =some x) (U:V.ex.a=some ⟨D,0,none⟩) (v:Int):
  MM S g w0 N Y V {m with ex:=m.ex.set k {x with num:=v}} q (W.setCell ⟨D,k*6+1,none⟩ (.int .i64 v)):=by
 have Z:V.ex.blk=some D:=by unfold Rw.blk;rw[U];rfl
 obtain⟨K,ab,aa,E⟩:=h.own.ex.typed Z
 have ad:=h.ge
 have ac:=h.gl
 have I: ∀(j:Nat) (X:Array Value) (t:TypeId),W.heap[j]? =some (.cells X t (0,0))→t≠108→j≠D:=fun j X t z ht e=>by
  rw[e,E] at z
  simp only[Option.some.injEq,Obj.cells.injEq] at z
  exact ht z.2.1.symm
 have o: ∀{e:TypeId} {A n:Nat} {r:Rw} {O:List Value},OwnR W w0.heap.size e A r n O→e≠108→OwnR (W.setCell ⟨D,k*6+1,none⟩ (.int .i64 v)) w0.heap.size e A r n O:=fun Q he=>Q.keep fun j z=>zi (by
  obtain⟨_,_,c,hc⟩:=Q.typed z
  exact I j _ _ hc he)
 have H:OwnR (W.setCell ⟨D,k*6+1,none⟩ (.int .i64 v)) w0.heap.size 108 6 V.ex m.ex.length ((m.ex.set k {x with num:=v}).flatMap exL):=by
  have J:=h.own.ex
  unfold OwnR at J ⊢
  rw[U] at J ⊢
  rw[←zmO v m.ex k x hk]
  exact (J.stored (k*6+1) (.int .i64 v)).1
 refine⟨(zi (I _ _ _ h.r6 (by decide))).trans h.r6,?_,⟨o h.own.rq (by decide),o h.own.im (by decide),o h.own.ep (by decide),o h.own.st (by decide),?_⟩,?_,?_,h.ge,h.lt,h.gl⟩
 ·rw[zi (I _ _ _ h.r7 (by decide)),h.r7]
  simp
 ·show OwnR _ _ _ _ _ (m.ex.set k _).length _
  rw[List.length_set]
  exact H
 ·exact zbS h.cur fun j z=>zi (by omega)
 ·have M:Below 0 W (W.setCell ⟨D,k*6+1,none⟩ (.int .i64 v)):=(Below.refl 0 W).setCell (Nat.zero_le _) _
  refine⟨M.os.trans h.gr.os,M.tape.trans h.gr.tape,M.output.trans h.gr.output,?_,fun j z L=>(zi (by omega)).trans (h.gr.block j z L)⟩
  rw[World.size_setCell]
  exact h.gr.size
theorem MM.spot {S:Src} {g:Nat} {w0 W:World} {H A n:Nat} {V:Sv} {m:Md} {q:Nat×Int} {k:Nat} (h:MM S g w0 H A V m q W) (D:k<m.ex.length) (z:V.ex.a=some ⟨n,0,none⟩):W.cell? ⟨n,k*6+1,none⟩=some (.int .i64 (m.ex.getD k zg).num)∧W.frozen? ⟨n,k*6+1,none⟩=false:=by
 obtain⟨I,o,_,_,E,_⟩:=h.own.expr D
 rw[z] at o
 cases o
 refine⟨E,?_⟩
 have j:=h.own.ex
 unfold OwnR at j
 rw[z] at j
 exact j.frozenAt _
theorem Tryz.infoString:(Tryz.prog.info? 9).map (fun i=>(i.zero,i.size,i.bytes))=some (some (.string {data:=#[]}),1,16):=by kernel_rfl
theorem OwnR.addr {w:World} {j size n:Nat} {e:TypeId} {r:Rw} {xs:List Value} (h:OwnR w j e size r n xs):n=0∨∃g,r.a=some ⟨g,0,none⟩:=by
 rcases h.2 with ⟨_,q⟩|⟨g,z,A,o,_⟩
 ·exact .inl q
 ·simp only[Value.slice.injEq] at o
  exact .inr ⟨g,o.1⟩
theorem OwnR.str {w:World} {n:Nat} {e:TypeId} {r:Rw} {l:List ByteArray} {g:Nat} (h:OwnR w n e 1 r l.length (l.map .string)) (o:r.a=some ⟨g,0,none⟩) {j:Nat} (q:j<l.length):w.cell? ⟨g,j,none⟩=some (.string (l.getD j sNone)):=by
 unfold OwnR at h
 rw[o] at h
 rw[h.cellAt j (by omega)]
 simp[List.getD,q]
theorem OwnR.lt {w:World} {j size n:Nat} {e:TypeId} {r:Rw} {xs:List Value} {g:Nat} (h:OwnR w j e size r n xs) (o:r.a=some ⟨g,0,none⟩):g<w.heap.size:=(h.typed (k:=g) (by simp[Rw.blk,o,Value.ownBlock])).2.1
theorem zmP {l:List ByteArray} {x:ByteArray} {j:Nat} (n:j<l.length) (h:((l.getD j sNone).toList==x.toList)=true):zaX l x=true:=by
 rw[zaX,List.any_eq_true]
 exact⟨l[j],List.getElem_mem n,by simpa [List.getD,n] using h⟩
theorem zmQ {l:List ByteArray} {x:ByteArray} (h: ∀j,j<l.length→((l.getD j sNone).toList==x.toList)=false):zaX l x=false:=by
 rw[Bool.eq_false_iff,zaX]
 intro k
 rw[List.any_eq_true] at k
 obtain⟨y,q,n⟩:=k
 obtain⟨j,o,rfl⟩:=List.getElem_of_mem q
 have:=h j o
 simp only[List.getD,List.getElem?_eq_getElem o,Option.getD_some] at this
 rw[this] at n
 cases n
theorem zmR {C:Cx} {x:PR} {q:PS} {z:Int} (D:Is x q z) (A:(decide (z<0)&&((ze C q.pos).kind==3))=false):Is2 (bd x (zH C)) q (zbp C q.pos z) sNone:=by
 unfold zbp
 by_cases j:z<0
 ·obtain⟨n,o⟩:=zaC D j
  simp only[j,decide_true,Bool.true_and] at A
  rw[n,zz,zH,A,if_pos j]
  rfl
 ·obtain⟨e,n,o⟩:=zdc D j
  rw[n,zdU,if_neg j]
  exact o
theorem zmS (C:Cx) (H A n:Nat) (x:PR) (S:Sv) (q:PS) (z:Int) (d:Nat) (w:World) (hx:Is x q z) (M:Mem C H A n S q w) (L:(decide (z<0)&&((ze C q.pos).kind==3))=false):
  Calls Tryz.prog 131 #[pv C H A S q z d] w (zdo C H A n (bd x (zH C)) d S w):=by
 have N:=zc M
 have o:=M.tok
 have D:=M.few
 have U:Hid (Is2 (bd x (zH C)) q (zbp C q.pos z) sNone):=zmR hx L
 clear hx M
 by_cases hz:z<0
 ·have O:decide (0≤z)=false:=decide_eq_false (by omega)
  simp only[hz,decide_true,Bool.true_and] at L
  by_cases hp:q.pos<C.ts.length
  ·obtain⟨J,_,_,_⟩:=o.cells hp (d:=⟨0,sNone,0,C.fin⟩)
   have aa:=(zan o).1
   change _=some (Value.int .i64 (ze C q.pos).kind) at J
   generalize Q:ze C q.pos=t at J L
   have ab:(t.kind !=3)=true:=by rw[bne,L];rfl
   clear Q
   unfold pv
   go_enter Tryz.func131,Tryz.ntmps131
   go_wp2_with fail
   refine (zda C H A n S q z d _ (zq (zq o _) _) D).mono ?_
   rintro e w2 ⟨rfl,j⟩
   have E:Hid (_=_):=(zcz j).2
   obtain⟨J,c1,X,c3,c4,Z,c6,c7,c8,V,I,K,Y⟩:=zaj E.out
   unfold pv
   go_wp2
   refine bodyPost_ret (zaA rfl _ _ (w.heap.size+1) 53 _ (0,0) _ rfl (zaS E.out) Tryz.underlying53 rfl (by kernel_rfl)) rfl ?_
   exact zd4 rfl U.out N.out (zbD (zaZ j) (Nat.le_succ _) ..)
  ·unfold pv
   go_enter Tryz.func131,Tryz.ntmps131
   go_wp2_with fail
   refine (zda C H A n S q z d _ (zq (zq o _) _) D).mono ?_
   rintro e w2 ⟨rfl,j⟩
   have E:Hid (_=_):=(zcz j).2
   obtain⟨J,c1,X,c3,c4,Z,c6,c7,c8,V,I,K,Y⟩:=zaj E.out
   unfold pv
   go_wp2
   refine bodyPost_ret (zaA rfl _ _ (w.heap.size+1) 53 _ (0,0) _ rfl (zaS E.out) Tryz.underlying53 rfl (by kernel_rfl)) rfl ?_
   exact zd4 rfl U.out N.out (zbD (zaZ j) (Nat.le_succ _) ..)
 ·have O:decide (0≤z)=true:=decide_eq_true (by omega)
  unfold pv
  go_enter Tryz.func131,Tryz.ntmps131
  go_wp2_with fail
  refine (zda C H A n S q z d _ (zq (zq o _) _) D).mono ?_
  rintro e w2 ⟨rfl,j⟩
  have E:Hid (_=_):=(zcz j).2
  obtain⟨J,c1,X,c3,c4,Z,c6,c7,c8,V,I,K,Y⟩:=zaj E.out
  unfold pv
  go_wp2
  refine bodyPost_ret (zaA rfl _ _ (w.heap.size+1) 53 _ (0,0) _ rfl (zaS E.out) Tryz.underlying53 rfl (by kernel_rfl)) rfl ?_
  exact zd4 rfl U.out N.out (zbD (zaZ j) (Nat.le_succ _) ..)
def txt (C:Cx) (q:PS):ByteArray:=(ze C q.pos).text
theorem zmT {C:Cx} {q:PS} (n:((ze C q.pos).kind==3)=true) (j:zaX q.rq (txt C q)=true):zH C q= .ok (adv q,txt C q):=by
 unfold txt at j
 rw[zH,if_pos n,if_pos j];rfl
theorem zmU {C:Cx} {q:PS} (o:((ze C q.pos).kind==3)=true) (j:zaX q.rq (txt C q)=false) (n:40≤q.rq.length):zH C q= .error (zr C q.pos):=by
 unfold txt at j
 rw[zH,if_pos o,j,if_pos n];rfl
theorem zmV {C:Cx} {q:PS} (o:((ze C q.pos).kind==3)=true) (j:zaX q.rq (txt C q)=false) (n: ¬40≤q.rq.length):zH C q= .ok ({adv q with rq:=q.rq++[txt C q]},txt C q):=by
 unfold txt at j
 rw[zH,if_pos o,j,if_neg n];rfl
theorem zi3 (C:Cx) (Y o n:Nat) (S:Sv) (q:PS) (d:Nat) (w:World) (J:Mem C Y o n S q w) (Z:((ze C q.pos).kind==3)=true) (g:Nat) (E:q.rq.length=0∨S.rq.a=some ⟨g,0,none⟩):
  Calls Tryz.prog 131 #[pv C Y o S q (-1) d] w (zdo C Y o n (zH C q) d S w):=by
 obtain⟨i0,hi,ag,ai,ab⟩:=info_parts Tryz.infoString
 have A:=zc J
 have H3:=zc Z
 have V:q.pos<C.ts.length:=zfn Z (by decide)
 have aj:=J.few
 have am:=J.inv.rq
 have ak:=(zan J.tok).1
 obtain⟨c0,c1,_,_⟩:=J.tok.cells V (d:=⟨0,sNone,0,C.fin⟩)
 change _=some (Value.int .i64 (ze C q.pos).kind) at c0
 change _=some (Value.string (txt C q)) at c1
 generalize (ze C q.pos).kind=kd at c0 Z
 have ap:(kd !=3)=false:=by rw[bne,Z];rfl
 have ah:=zc E
 obtain⟨R,hR⟩: ∃R:Nat→ByteArray,∀j,R j=q.rq.getD j sNone:=⟨fun j=>q.rq.getD j sNone,fun _=>rfl⟩
 have HR:=zc hR
 have HC:Hid (∀j,j<q.rq.length→w.cell? ⟨g,j,none⟩=some (.string (R j))):=fun j L=>by
  rcases E with e|e
  ·omega
  ·rw[hR];exact A.out.own.rq.str e L
 clear hR
 generalize Q:txt C q=tx at c1
 have z:=zc Q
 have D:=fun o1 o2 o3=>((A.out.own.rq.alloc o1).alloc o2).alloc o3
 clear Q J E
 unfold pv
 go_enter Tryz.func131,Tryz.ntmps131
 go_wp2
 go_loop [5] (fun i=>∃k:Nat,k≤q.rq.length∧i= .int .i64 k∧∀j,j<k→¬(R j).toList=tx.toList) (fun i=>(q.rq.length-intOf i).toNat)
 case atStart=>exact⟨0,Nat.zero_le _,rfl,fun j L=>absurd L (Nat.not_lt_zero j)⟩
 case round=>
  obtain⟨k,hk,rfl,M⟩:=hrel
  have O:=zc M
  clear M
  by_cases K:k<q.rq.length
  ·have ha:S.rq.a=some ⟨g,0,none⟩:=ah.out.elim (fun e=>by omega) id
   have al:=HC.out k K
   have an:=A.out.own.rq.lt ha
   cases he:((R k).toList==tx.toList) with
   |true=>
    have N:Hid (zH C q= .ok (adv q,tx)):=by
     show zH C q= .ok (adv q,tx)
     rw[←z.out]
     exact zmT H3.out (zmP K (by rw[←HR.out,z.out];exact he))
    have HA:=zc ha
    go_wp2
    refine bodyPost_ret (zaA rfl _ _ (w.heap.size+1) 53 _ (0,0) _ rfl (zbq w _ _) Tryz.underlying53 rfl (by kernel_rfl)) rfl ?_
    rw[N.out]
    exact zd4 (q':=adv q) (z':=-1) (by rw[pv,HA.out];rfl) ⟨rfl,rfl,rfl⟩ (A.out.adv V) (zaT w _ _)
   |false=>
    have HX:Hid (∀j,j<k+1→¬(R j).toList=tx.toList):=fun j L=>by
     by_cases e:j=k
     ·rw[e];exact beq_eq_false_iff_ne.1 he
     ·exact O.out j (by omega)
    go_wp2
    go_round
    case rel=>exact⟨k+1,by omega,by go_num,HX.out⟩
    case measure=>simp[intOf];omega
  ·have HN:Hid (zaX q.rq (txt C q)=false):=zmQ fun j L=>by rw[z.out,←HR.out];exact beq_eq_false_iff_ne.2 (O.out j (by omega))
   by_cases hn:40≤q.rq.length
   ·have qn:decide ((40:Int)≤(q.rq.length:Int))=true:=decide_eq_true (by omega)
    have N:Hid (zH C q= .error (zr C q.pos)):=zmU H3.out HN.out hn
    go_wp2_with fail
    refine (zeE C Y o n S (adv q) (-1) d _ (((A.out.adv V).alloc _).alloc _) (by decide) (by simp[adv])).mono ?_
    rintro e w2 ⟨rfl,I⟩
    have G3:Hid (_=_):=(zcz I).2
    obtain⟨b0,b1,b2,b3,b4,b5,b6,b7,b8,b9,ac,aa,bf⟩:=zaj G3.out
    have HB:Hid (Below w.heap.size w w2):=zaZ I
    clear I
    unfold pv
    go_wp2
    refine bodyPost_ret (zaA rfl _ _ (w.heap.size+1) 53 _ (0,0) _ rfl (zaS G3.out) Tryz.underlying53 rfl (by kernel_rfl)) rfl ?_
    rw[N.out]
    exact zd4 (q':=adv q) (z':=(zr C q.pos:Int)) rfl rfl (A.out.adv V) (zbD HB.out (Nat.le_succ _) ..)
   ·have qn:decide ((40:Int)≤(q.rq.length:Int))=false:=decide_eq_false (by omega)
    have N:Hid (zH C q= .ok ({adv q with rq:=q.rq++[tx]},tx)):=by
     show zH C q= .ok ({adv q with rq:=q.rq++[tx]},tx)
     rw[←z.out]
     exact zmV H3.out HN.out hn
    go_wp2_with (at_builtin;refine zcu _ rfl _ _ 22 rfl n 9 i0 _ 1 16 Tryz.underlying22 hi ag ai ab rfl (by decide) (by decide) S.rq q.rq.length _ (by rfl) (D _ _ _) (w.heap.size+1+1) [.string tx] (by rfl) (by exact (zaL w _ _ _).2.2) rfl (by intro u hu;simp at hu;subst hu;rfl) (by omega) (by have:=A.out.base;rw[zaa];omega) ?_)
    intro r' w2 hr X U
    have ae:=zc hr
    have HG:=zc X
    have ad:=zc U
    have H:=fun b hb=>zd5 (W:=w) A.out.own (Nat.le_refl _) (r:=S.rq.blk) (fun k e=>.inl e) b hb
    have g1:=(X.block w.heap.size (by rw[zaa];omega) (H _ (Nat.le_refl _))).trans (zaL w _ _ _).1
    have g2:=(X.block (w.heap.size+1) (by rw[zaa];omega) (H _ (by omega))).trans (zaL w _ _ _).2.1
    obtain⟨a0,a1,a2,a3,a4,a5,a6,a7,a8,a9,ao,aq,af⟩:=zaj g1
    obtain⟨b0,b1,b2,b3,b4,b5,b6,b7,b8,b9,ac,aa,bf⟩:=zaj g2
    have G2:=zc g2
    clear g1 g2 X hr U H D
    go_wp2
    refine bodyPost_ret (zaA rfl _ _ (w.heap.size+1) 53 _ (0,0) _ rfl (zaS ((zi (by omega)).trans G2.out)) Tryz.underlying53 rfl (by kernel_rfl)) rfl ?_
    obtain⟨m',s'⟩:=(A.out.adv V).grow_rq (x:=tx) (zcI w _ _ _) HG.out ae.out (by rw[zaa];exact ad.out) (((Off.refl _ _ _).set (b:=w.heap.size) (Nat.le_refl _) (by rw[zaa];omega) _ _).set12 (b:=w.heap.size+1) (by omega) (by rw[zaa];omega) ..) (by show q.rq.length<40;omega)
    rw[N.out]
    exact⟨_,{adv q with rq:=q.rq++[tx]},-1,tx,by simp[pv,adv],⟨rfl,rfl,rfl⟩,m',s'⟩
theorem zdA (C:Cx) (o n j:Nat) (x:PR) (S:Sv) (q:PS) (z:Int) (d:Nat) (w:World) (E:Is x q z) (D:Mem C o n j S q w):
  Calls Tryz.prog 131 #[pv C o n S q z d] w (zdo C o n j (bd x (zH C)) d S w):=by
 cases A:(decide (z<0)&&((ze C q.pos).kind==3)) with
 |false=>exact zmS C o n j x S q z d w E D A
 |true=>
  rw[Bool.and_eq_true,decide_eq_true_eq] at A
  obtain⟨rfl,rfl⟩:=zaC E A.1
  rw[zz]
  rcases D.own.rq.addr with e|⟨g,e⟩
  ·exact zi3 C o n j S q d w D A.2 0 (.inl e)
  ·exact zi3 C o n j S q d w D A.2 g (.inr e)
end Go.Proofs.YticdggnnpjachaaGreat
