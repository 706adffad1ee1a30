/-
  What the specification's draws of programs tell: some text,not a long one: the walks.
  What the specification's draw of an item tells: some text,not a long one: the walk.
  The row of the type byte.
  What l1Text of the specification tells: the walk.
  What spec.l1Spoil tells: the walk.
  What the specification's draw of a program's text tells: some text,not a long one: the walk.
  A program that was read has no name longer than its text,and no number that is great. No program is spoken of.
  What each step of reading keeps,the whole reading keeps; so a program that was read has no request twice. No program is spoken of.
  A program that was read has no statement of DefaultName that is no let. No program is spoken of.
  The specification's draw of a program in memory. No program is spoken of but for the numbers of its types.
  What spec's l4Spec answers: the walk.
-/
import Derived.Test.YticdggnnpjachaaGreatCbImplParseJToMdMem
namespace Go.Proofs.YticdggnnpjachaaGreat
set_option maxRecDepth 100000
set_option maxHeartbeats 12800000
open Go.RowKit Go.PlainAid
def zcL (S:Src) (g N:Nat) (w:World) (e:Ending) (w':World):Prop:=∃x q',e= .returned (.string x)∧x.size≤N∧zR 147 S w' g q'∧w.grownBy w' (some g)
theorem zeK (w:World) (o:Obj) (r:Option Nat):w.grownBy (w.alloc o) r:=⟨rfl,rfl,rfl,by rw[zk];omega,fun k j _=>heap_alloc_old w o j⟩
theorem zeL {S:Src} {w:World} {g:Nat} {q:Nat×Int} (h:zR 147 S w g q) (o:Obj):zR 147 S (w.alloc o) g q:=zcC h ((Below.refl w.heap.size w).alloc (Nat.le_refl _) _) (zcB h)
theorem zb0 (S:Src) (J:S.ok) (g:Nat) (q:Nat×Int) (N:Nat) (l:List ByteArray) (w:World) (A:zR 147 S w g q) (K:1≤l.length) (I:l.length≤1000) (E: ∀x∈l,x.size≤N):
  Calls Tryz.prog 111 #[.pointer (some ⟨g,0,none⟩),.slice (some ⟨w.heap.size,0,none⟩) l.length l.length] (w.alloc (.cells (l.map Value.string).toArray 9)) (zcL S g N w):=by
 have L:=zcB A
 refine (zge S J g q w.heap.size l.length N _ (zeL A _) K I (by rw[zk];omega) (by omega) ?_).mono ?_
 ·intro j z
  rw[World.cell?_alloc_new]
  refine⟨l[j],?_,E _ (List.getElem_mem z)⟩
  simp[List.getElem?_eq_getElem z]
 ·rintro e M ⟨x,H,rfl,D,o,n⟩
  exact⟨x,H,rfl,D,o,zB (zeK w _ _) n⟩
theorem zg7 (S:Src) (Q:S.ok) (g:Nat) (U:Bool) (d N:Nat) (hd:d≤2) (hN:N≤100000) (ih:0<d→∀(q:Nat×Int) (w:World),zR 147 S w g q→Calls Tryz.prog 185 #[.pointer (some ⟨g,0,none⟩),.int .i64 ((d:Int)-1),.bool U] w (zcL S g N w))
  (q0:Nat×Int) (w0:World) (j:zR 147 S w0 g q0):Calls Tryz.prog 185 #[.pointer (some ⟨g,0,none⟩),.int .i64 (d:Int),.bool U] w0 (zcL S g (2*N+110) w0):=by
 have ah:=zc j
 have ae:Hid (w0.grownBy w0 (some g)):=⟨rfl,rfl,rfl,Nat.le_refl _,fun _ _ _=>rfl⟩
 have IH:=zc ih
 clear j ih
 go_enter Tryz.func185,Tryz.ntmps185
 go_wp2_with fail
 refine (zb0 S Q g _ 100 [{data:=#[97]},{data:=#[98]},{data:=#[120]},{data:=#[102]},{data:=#[103]},{data:=#[110]},{data:=#[100]}] _ ah.out (by simp) (by simp) (by intro x K;simp only[List.mem_cons,List.not_mem_nil,or_false] at K;rcases K with rfl|rfl|rfl|rfl|rfl|rfl|rfl<;>decide)).mono ?_
 rintro e w1 ⟨x1,q1,rfl,z1,j,n⟩
 have ai:=zc j
 have ag:=zc (zB ae.out n)
 clear j n
 go_wp2_with fail
 refine (zaD S Q g _ 9 _ ai.out (by omega)).mono ?_
 rintro e w2 ⟨rfl,j,n⟩
 have L:=zaV S q1 9 (by omega)
 obtain⟨Z,hk⟩: ∃k:Nat,(bw S q1 9).1=k:=⟨(bw S q1 9).1.toNat,by omega⟩
 obtain⟨I,J⟩: ∃V,(bw S q1 9).2=V:=⟨_,rfl⟩
 rw[hk] at L ⊢
 rw[J] at j
 have A:=zc j
 have D:=zc (zB ag.out n)
 clear j n
 have aj:Z<9:=by omega
 clear L hk J
 have ac:True:=trivial
 clear ac
 rcases (show Z=0∨Z=1∨Z=2∨Z=3∨Z=4∨Z=5∨Z=6∨Z=7∨Z=8 by omega) with rfl|rfl|rfl|rfl|rfl|rfl|rfl|rfl|rfl
 ·go_wp2_with fail
  refine (zaD S Q g _ 9 _ A.out (by omega)).mono ?_
  rintro e w3 ⟨rfl,j,n⟩
  have L:=zaV S I 9 (by omega)
  obtain⟨k3,hk⟩: ∃k:Nat,(bw S I 9).1=k:=⟨(bw S I 9).1.toNat,by omega⟩
  obtain⟨M,J⟩: ∃V,(bw S I 9).2=V:=⟨_,rfl⟩
  rw[hk] at L ⊢
  rw[J] at j
  have z:=zc j
  have o:=zc (zB D.out n)
  clear j n
  have af:k3<9:=by omega
  clear L hk J
  go_wp2_with fail
  refine (zgj (k3:Int) _ (by omega)).mono ?_
  rintro e w4 ⟨rfl,hb⟩
  have H:=zc (zcC z.out hb (zcB z.out))
  have E:=zc (zcV o.out hb o.out.size)
  have hz:=zgo (k3:Int) (by omega) (by omega)
  clear hb
  go_wp2
  go_ret
  exact⟨_,M,rfl,by omega,H.out,E.out⟩
 ·go_wp2_with fail
  refine (zaD S Q g _ 9 _ A.out (by omega)).mono ?_
  rintro e w3 ⟨rfl,j,n⟩
  have L:=zaV S I 9 (by omega)
  obtain⟨k3,hk⟩: ∃k:Nat,(bw S I 9).1=k:=⟨(bw S I 9).1.toNat,by omega⟩
  obtain⟨M,J⟩: ∃V,(bw S I 9).2=V:=⟨_,rfl⟩
  rw[hk] at L ⊢
  rw[J] at j
  have z:=zc j
  have o:=zc (zB D.out n)
  clear j n
  have af:k3<9:=by omega
  clear L hk J
  go_wp2_with fail
  refine (zgj (k3:Int) _ (by omega)).mono ?_
  rintro e w4 ⟨rfl,hb⟩
  have H:=zc (zcC z.out hb (zcB z.out))
  have E:=zc (zcV o.out hb o.out.size)
  have hz:=zgo (k3:Int) (by omega) (by omega)
  clear hb
  go_wp2
  go_ret
  exact⟨_,M,rfl,by omega,H.out,E.out⟩
 ·go_wp2
  go_ret
  exact⟨_,I,rfl,by have Y:(({data:=#[32,40,32,41]}:ByteArray)).size=4:=rfl;simp only[ByteArray.size_append,Y];omega,A.out,D.out⟩
 ·go_wp2
  go_ret
  exact⟨_,I,rfl,by have Y:(({data:=#[110,32,46,32]}:ByteArray)).size=4:=rfl;simp only[ByteArray.size_append,Y];omega,A.out,D.out⟩
 ·go_wp2
  go_ret
  exact⟨_,I,rfl,by have Y:(({data:=#[110,32,46,32,102,32,40,32,41]}:ByteArray)).size=9:=rfl;omega,A.out,D.out⟩
 ·by_cases O:0<d
  ·go_wp2_with fail
   refine (IH.out O I _ A.out).mono ?_
   rintro e w3 ⟨x3,M,rfl,z3,j,n⟩
   have z:=zc j
   have o:=zc (zB D.out n)
   clear j n
   go_wp2_with fail
   refine (zb0 S Q g _ 100 [{data:=#[43]},{data:=#[45]},{data:=#[42]}] _ z.out (by simp) (by simp) (by intro x K;simp only[List.mem_cons,List.not_mem_nil,or_false] at K;rcases K with rfl|rfl|rfl<;>decide)).mono ?_
   rintro e w4 ⟨x4,X,rfl,z4,j,n⟩
   have H:=zc j
   have E:=zc (zB o.out n)
   clear j n
   go_wp2_with fail
   refine (IH.out O X _ H.out).mono ?_
   rintro e w5 ⟨x5,q5,rfl,z5,j,n⟩
   have ab:=zc j
   have aa:=zc (zB E.out n)
   clear j n
   go_wp2
   go_ret
   exact⟨_,q5,rfl,by have Y:(({data:=#[32]}:ByteArray)).size=1:=rfl;simp only[ByteArray.size_append,Y];omega,ab.out,aa.out⟩
  ·have ad: ¬0<(d:Int):=by omega
   cases U with
   |false=>
    go_wp2
    go_ret
    exact⟨_,I,rfl,by omega,A.out,D.out⟩
   |true=>
    go_wp2_with fail
    refine (zcD S Q g _ 8 _ A.out (by omega)).mono ?_
    rintro e w3 ⟨rfl,j,n⟩
    obtain⟨M,J⟩: ∃V,(bw S I 8).2=V:=⟨_,rfl⟩
    rw[J] at j
    have z:=zc j
    have o:=zc (zB D.out n)
    clear j n J
    generalize ((bw S I 8).1==0)=b
    cases b with
    |false=>
     go_wp2
     go_ret
     exact⟨_,M,rfl,by omega,z.out,o.out⟩
    |true=>
     go_wp2_with fail
     refine (zb0 S Q g _ 100 [{data:=#[117,110,100,101,102]},{data:=#[117,110,100,101,102,32,40,32,41]},{data:=#[97,36,49]},{data:=#[120,36]}] _ z.out (by simp) (by simp) (by intro x K;simp only[List.mem_cons,List.not_mem_nil,or_false] at K;rcases K with rfl|rfl|rfl|rfl<;>decide)).mono ?_
     rintro e w4 ⟨x4,X,rfl,z4,j,n⟩
     have H:=zc j
     have E:=zc (zB o.out n)
     clear j n
     go_wp2
     go_ret
     exact⟨_,X,rfl,by omega,H.out,E.out⟩
 ·by_cases O:0<d
  ·go_wp2_with fail
   refine (IH.out O I _ A.out).mono ?_
   rintro e w3 ⟨x3,M,rfl,z3,j,n⟩
   have z:=zc j
   have o:=zc (zB D.out n)
   clear j n
   go_wp2_with fail
   refine (zb0 S Q g _ 100 [{data:=#[43]},{data:=#[45]},{data:=#[42]}] _ z.out (by simp) (by simp) (by intro x K;simp only[List.mem_cons,List.not_mem_nil,or_false] at K;rcases K with rfl|rfl|rfl<;>decide)).mono ?_
   rintro e w4 ⟨x4,X,rfl,z4,j,n⟩
   have H:=zc j
   have E:=zc (zB o.out n)
   clear j n
   go_wp2_with fail
   refine (IH.out O X _ H.out).mono ?_
   rintro e w5 ⟨x5,q5,rfl,z5,j,n⟩
   have ab:=zc j
   have aa:=zc (zB E.out n)
   clear j n
   go_wp2
   go_ret
   exact⟨_,q5,rfl,by have Y:(({data:=#[32]}:ByteArray)).size=1:=rfl;simp only[ByteArray.size_append,Y];omega,ab.out,aa.out⟩
  ·have ad: ¬0<(d:Int):=by omega
   cases U with
   |false=>
    go_wp2
    go_ret
    exact⟨_,I,rfl,by omega,A.out,D.out⟩
   |true=>
    go_wp2_with fail
    refine (zcD S Q g _ 8 _ A.out (by omega)).mono ?_
    rintro e w3 ⟨rfl,j,n⟩
    obtain⟨M,J⟩: ∃V,(bw S I 8).2=V:=⟨_,rfl⟩
    rw[J] at j
    have z:=zc j
    have o:=zc (zB D.out n)
    clear j n J
    generalize ((bw S I 8).1==0)=b
    cases b with
    |false=>
     go_wp2
     go_ret
     exact⟨_,M,rfl,by omega,z.out,o.out⟩
    |true=>
     go_wp2_with fail
     refine (zb0 S Q g _ 100 [{data:=#[117,110,100,101,102]},{data:=#[117,110,100,101,102,32,40,32,41]},{data:=#[97,36,49]},{data:=#[120,36]}] _ z.out (by simp) (by simp) (by intro x K;simp only[List.mem_cons,List.not_mem_nil,or_false] at K;rcases K with rfl|rfl|rfl|rfl<;>decide)).mono ?_
     rintro e w4 ⟨x4,X,rfl,z4,j,n⟩
     have H:=zc j
     have E:=zc (zB o.out n)
     clear j n
     go_wp2
     go_ret
     exact⟨_,X,rfl,by omega,H.out,E.out⟩
 ·by_cases O:0<d
  ·go_wp2_with fail
   refine (IH.out O I _ A.out).mono ?_
   rintro e w3 ⟨x3,M,rfl,z3,j,n⟩
   have z:=zc j
   have o:=zc (zB D.out n)
   clear j n
   go_wp2
   go_ret
   exact⟨_,M,rfl,by have Y:(({data:=#[40,32]}:ByteArray)).size=2:=rfl;have y1:(({data:=#[32,41]}:ByteArray)).size=2:=rfl;simp only[ByteArray.size_append,Y,y1];omega,z.out,o.out⟩
  ·have ad: ¬0<(d:Int):=by omega
   cases U with
   |false=>
    go_wp2
    go_ret
    exact⟨_,I,rfl,by omega,A.out,D.out⟩
   |true=>
    go_wp2_with fail
    refine (zcD S Q g _ 8 _ A.out (by omega)).mono ?_
    rintro e w3 ⟨rfl,j,n⟩
    obtain⟨M,J⟩: ∃V,(bw S I 8).2=V:=⟨_,rfl⟩
    rw[J] at j
    have z:=zc j
    have o:=zc (zB D.out n)
    clear j n J
    generalize ((bw S I 8).1==0)=b
    cases b with
    |false=>
     go_wp2
     go_ret
     exact⟨_,M,rfl,by omega,z.out,o.out⟩
    |true=>
     go_wp2_with fail
     refine (zb0 S Q g _ 100 [{data:=#[117,110,100,101,102]},{data:=#[117,110,100,101,102,32,40,32,41]},{data:=#[97,36,49]},{data:=#[120,36]}] _ z.out (by simp) (by simp) (by intro x K;simp only[List.mem_cons,List.not_mem_nil,or_false] at K;rcases K with rfl|rfl|rfl|rfl<;>decide)).mono ?_
     rintro e w4 ⟨x4,X,rfl,z4,j,n⟩
     have H:=zc j
     have E:=zc (zB o.out n)
     clear j n
     go_wp2
     go_ret
     exact⟨_,X,rfl,by omega,H.out,E.out⟩
 ·cases U with
  |false=>
   go_wp2
   go_ret
   exact⟨_,I,rfl,by omega,A.out,D.out⟩
  |true=>
   go_wp2_with fail
   refine (zcD S Q g _ 8 _ A.out (by omega)).mono ?_
   rintro e w3 ⟨rfl,j,n⟩
   obtain⟨M,J⟩: ∃V,(bw S I 8).2=V:=⟨_,rfl⟩
   rw[J] at j
   have z:=zc j
   have o:=zc (zB D.out n)
   clear j n J
   generalize ((bw S I 8).1==0)=b
   cases b with
   |false=>
    go_wp2
    go_ret
    exact⟨_,M,rfl,by omega,z.out,o.out⟩
   |true=>
    go_wp2_with fail
    refine (zb0 S Q g _ 100 [{data:=#[117,110,100,101,102]},{data:=#[117,110,100,101,102,32,40,32,41]},{data:=#[97,36,49]},{data:=#[120,36]}] _ z.out (by simp) (by simp) (by intro x K;simp only[List.mem_cons,List.not_mem_nil,or_false] at K;rcases K with rfl|rfl|rfl|rfl<;>decide)).mono ?_
    rintro e w4 ⟨x4,X,rfl,z4,j,n⟩
    have H:=zc j
    have E:=zc (zB o.out n)
    clear j n
    go_wp2
    go_ret
    exact⟨_,X,rfl,by omega,H.out,E.out⟩
theorem zmj (S:Src) (o:S.ok) (g:Nat) (j:Bool) (q:Nat×Int) (w:World) (n:zR 147 S w g q):Calls Tryz.prog 185 #[.pointer (some ⟨g,0,none⟩),.int .i64 2,.bool j] w (zcL S g 770 w):=by
 have A: ∀(q:Nat×Int) (w:World),zR 147 S w g q→Calls Tryz.prog 185 #[.pointer (some ⟨g,0,none⟩),.int .i64 0,.bool j] w (zcL S g 110 w):=fun q w n=>zg7 S o g j 0 0 (by omega) (by omega) (fun h=>absurd h (Nat.lt_irrefl 0)) q w n
 have z: ∀(q:Nat×Int) (w:World),zR 147 S w g q→Calls Tryz.prog 185 #[.pointer (some ⟨g,0,none⟩),.int .i64 1,.bool j] w (zcL S g 330 w):=fun q w n=>zg7 S o g j 1 110 (by omega) (by omega) (fun _=>A) q w n
 exact zg7 S o g j 2 330 (by omega) (by omega) (fun _=>z) q w n
theorem zmk (S:Src) (M:S.ok) (g:Nat) (Q:Bool) (q0:Nat×Int) (w0:World) (z:zR 147 S w0 g q0):Calls Tryz.prog 156 #[.pointer (some ⟨g,0,none⟩),.bool Q] w0 (zcL S g 1500 w0):=by
 have ad:=zc z
 have aa:Hid (w0.grownBy w0 (some g)):=⟨rfl,rfl,rfl,Nat.le_refl _,fun _ _ _=>rfl⟩
 clear z
 go_enter Tryz.func156,Tryz.ntmps156
 go_wp2_with fail
 refine (zb0 S M g _ 100 [{data:=#[97]},{data:=#[98]},{data:=#[120]},{data:=#[102]},{data:=#[103]}] _ ad.out (by simp) (by simp) (by intro x K;simp only[List.mem_cons,List.not_mem_nil,or_false] at K;rcases K with rfl|rfl|rfl|rfl|rfl<;>decide)).mono ?_
 rintro e w1 ⟨x1,q1,rfl,z1,z,E⟩
 have ah:=zc z
 have ac:=zc (zB aa.out E)
 clear z E
 go_wp2_with fail
 refine (zmj S M g Q q1 _ ah.out).mono ?_
 rintro e w2 ⟨x2,q2,rfl,z2,z,E⟩
 have ab:=zc z
 have af:=zc (zB ac.out E)
 clear z E
 go_wp2_with fail
 refine (zb0 S M g _ 100 [{data:=#[46,47,98]},{data:=#[46,47,99]},{data:=#[46,47,97]},{data:=#[120]},{data:=#[46,47,100]}] _ ab.out (by simp) (by simp) (by intro x K;simp only[List.mem_cons,List.not_mem_nil,or_false] at K;rcases K with rfl|rfl|rfl|rfl|rfl<;>decide)).mono ?_
 rintro e w3 ⟨x3,Z,rfl,z3,z,E⟩
 have ag:=zc z
 have ae:=zc (zB af.out E)
 clear z E
 go_wp2_with fail
 refine (zaD S M g _ 16 _ ag.out (by omega)).mono ?_
 rintro e w4 ⟨rfl,z,E⟩
 have X:=zaV S Z 16 (by omega)
 obtain⟨H,hk⟩: ∃k:Nat,(bw S Z 16).1=k:=⟨(bw S Z 16).1.toNat,by omega⟩
 obtain⟨J,N⟩: ∃Y,(bw S Z 16).2=Y:=⟨_,rfl⟩
 rw[hk] at X ⊢
 rw[N] at z
 have q:=zc z
 have o:=zc (zB ae.out E)
 clear z E
 have ai:H<16:=by omega
 clear X hk N
 cases Q with
 |false=>
  rcases (show H=0∨H=1∨H=2∨H=3∨H=4∨H=5∨H=6∨H=7∨H=8∨H=9∨H=10∨H=11∨H=12∨H=13∨H=14∨H=15 by omega) with rfl|rfl|rfl|rfl|rfl|rfl|rfl|rfl|rfl|rfl|rfl|rfl|rfl|rfl|rfl|rfl
  ·go_wp2
   go_ret
   exact⟨_,J,rfl,by have j:(({data:=#[108,101,116,32]}:ByteArray)).size=4:=rfl;have n:(({data:=#[32,61,32]}:ByteArray)).size=3:=rfl;have I:(({data:=#[59]}:ByteArray)).size=1:=rfl;simp only[ByteArray.size_append,j,n,I];omega,q.out,o.out⟩
  ·go_wp2
   go_ret
   exact⟨_,J,rfl,by have j:(({data:=#[108,101,116,32]}:ByteArray)).size=4:=rfl;have n:(({data:=#[32,61,32]}:ByteArray)).size=3:=rfl;have I:(({data:=#[59]}:ByteArray)).size=1:=rfl;simp only[ByteArray.size_append,j,n,I];omega,q.out,o.out⟩
  ·go_wp2
   go_ret
   exact⟨_,J,rfl,by have j:(({data:=#[108,101,116,32]}:ByteArray)).size=4:=rfl;have n:(({data:=#[32,61,32]}:ByteArray)).size=3:=rfl;have I:(({data:=#[59]}:ByteArray)).size=1:=rfl;simp only[ByteArray.size_append,j,n,I];omega,q.out,o.out⟩
  ·go_wp2_with fail
   refine (zb0 S M g _ 100 [{data:=#[102]},{data:=#[103]}] _ q.out (by simp) (by simp) (by intro x K;simp only[List.mem_cons,List.not_mem_nil,or_false] at K;rcases K with rfl|rfl<;>decide)).mono ?_
   rintro e O ⟨V,L,rfl,U,z,E⟩
   have D:=zc z
   have A:=zc (zB o.out E)
   clear z E
   go_wp2
   go_ret
   exact⟨_,L,rfl,by have j:(({data:=#[102,117,110,99,116,105,111,110,32]}:ByteArray)).size=9:=rfl;have n:(({data:=#[40,41,32,123,32,114,101,116,117,114,110,32]}:ByteArray)).size=12:=rfl;have I:(({data:=#[59,32,125]}:ByteArray)).size=3:=rfl;simp only[ByteArray.size_append,j,n,I];omega,D.out,A.out⟩
  ·go_wp2
   go_ret
   exact⟨_,J,rfl,by have j:(({data:=#[32,61,32]}:ByteArray)).size=3:=rfl;have n:(({data:=#[59]}:ByteArray)).size=1:=rfl;simp only[ByteArray.size_append,j,n];omega,q.out,o.out⟩
  ·go_wp2
   go_ret
   exact⟨_,J,rfl,by have j:(({data:=#[112,114,105,110,116,40]}:ByteArray)).size=6:=rfl;have n:(({data:=#[41,59]}:ByteArray)).size=2:=rfl;simp only[ByteArray.size_append,j,n];omega,q.out,o.out⟩
  ·go_wp2
   go_ret
   exact⟨_,J,rfl,by have j:(({data:=#[112,114,105,110,116,40]}:ByteArray)).size=6:=rfl;have n:(({data:=#[41,59]}:ByteArray)).size=2:=rfl;simp only[ByteArray.size_append,j,n];omega,q.out,o.out⟩
  ·go_wp2
   go_ret
   exact⟨_,J,rfl,by have j:(({data:=#[116,104,114,111,119,32]}:ByteArray)).size=6:=rfl;have n:(({data:=#[59]}:ByteArray)).size=1:=rfl;simp only[ByteArray.size_append,j,n];omega,q.out,o.out⟩
  ·go_wp2_with fail
   refine (zb0 S M g _ 100 [{data:=#[]},{data:=#[32,97,115,32,120]},{data:=#[32,97,115,32,98,44,32,103]}] _ q.out (by simp) (by simp) (by intro x K;simp only[List.mem_cons,List.not_mem_nil,or_false] at K;rcases K with rfl|rfl|rfl<;>decide)).mono ?_
   rintro e O ⟨V,L,rfl,U,z,E⟩
   have D:=zc z
   have A:=zc (zB o.out E)
   clear z E
   go_wp2
   go_ret
   exact⟨_,L,rfl,by have j:(({data:=#[105,109,112,111,114,116,32,123,32]}:ByteArray)).size=9:=rfl;have n:(({data:=#[32,125,32,102,114,111,109,32,34]}:ByteArray)).size=9:=rfl;have I:(({data:=#[34,59]}:ByteArray)).size=2:=rfl;simp only[ByteArray.size_append,j,n,I];omega,D.out,A.out⟩
  ·go_wp2
   go_ret
   exact⟨_,J,rfl,by have j:(({data:=#[105,109,112,111,114,116,32,42,32,97,115,32,110,32,102,114,111,109,32,34]}:ByteArray)).size=20:=rfl;have n:(({data:=#[34,59]}:ByteArray)).size=2:=rfl;simp only[ByteArray.size_append,j,n];omega,q.out,o.out⟩
  ·go_wp2
   go_ret
   exact⟨_,J,rfl,by have j:(({data:=#[105,109,112,111,114,116,32,100,32,102,114,111,109,32,34]}:ByteArray)).size=15:=rfl;have n:(({data:=#[34,59]}:ByteArray)).size=2:=rfl;simp only[ByteArray.size_append,j,n];omega,q.out,o.out⟩
  ·go_wp2_with fail
   refine (zb0 S M g _ 100 [{data:=#[]},{data:=#[32,97,115,32,121]},{data:=#[32,97,115,32,100,101,102,97,117,108,116]}] _ q.out (by simp) (by simp) (by intro x K;simp only[List.mem_cons,List.not_mem_nil,or_false] at K;rcases K with rfl|rfl|rfl<;>decide)).mono ?_
   rintro e O ⟨V,L,rfl,U,z,E⟩
   have D:=zc z
   have A:=zc (zB o.out E)
   clear z E
   go_wp2
   go_ret
   exact⟨_,L,rfl,by have j:(({data:=#[101,120,112,111,114,116,32,123,32]}:ByteArray)).size=9:=rfl;have n:(({data:=#[32,125,59]}:ByteArray)).size=3:=rfl;simp only[ByteArray.size_append,j,n];omega,D.out,A.out⟩
  ·go_wp2_with fail
   refine (zb0 S M g _ 100 [{data:=#[]},{data:=#[32,97,115,32,121]},{data:=#[44,32,100,101,102,97,117,108,116]}] _ q.out (by simp) (by simp) (by intro x K;simp only[List.mem_cons,List.not_mem_nil,or_false] at K;rcases K with rfl|rfl|rfl<;>decide)).mono ?_
   rintro e O ⟨V,L,rfl,U,z,E⟩
   have D:=zc z
   have A:=zc (zB o.out E)
   clear z E
   go_wp2
   go_ret
   exact⟨_,L,rfl,by have j:(({data:=#[101,120,112,111,114,116,32,123,32]}:ByteArray)).size=9:=rfl;have n:(({data:=#[32,125,32,102,114,111,109,32,34]}:ByteArray)).size=9:=rfl;have I:(({data:=#[34,59]}:ByteArray)).size=2:=rfl;simp only[ByteArray.size_append,j,n,I];omega,D.out,A.out⟩
  ·go_wp2
   go_ret
   exact⟨_,J,rfl,by have j:(({data:=#[101,120,112,111,114,116,32,42,32,102,114,111,109,32,34]}:ByteArray)).size=15:=rfl;have n:(({data:=#[34,59]}:ByteArray)).size=2:=rfl;simp only[ByteArray.size_append,j,n];omega,q.out,o.out⟩
  ·go_wp2
   go_ret
   exact⟨_,J,rfl,by have j:(({data:=#[101,120,112,111,114,116,32,100,101,102,97,117,108,116,32]}:ByteArray)).size=15:=rfl;have n:(({data:=#[59]}:ByteArray)).size=1:=rfl;simp only[ByteArray.size_append,j,n];omega,q.out,o.out⟩
  ·go_wp2_with fail
   refine (zb0 S M g _ 900 [({data:=#[108,101,116,32]}:ByteArray)++x1++({data:=#[32,61,32]}:ByteArray)++x2++({data:=#[59]}:ByteArray),({data:=#[102,117,110,99,116,105,111,110,32,102,40,41,32,123,32,114,101,116,117,114,110,32]}:ByteArray)++x2++({data:=#[59,32,125]}:ByteArray),({data:=#[108,101,116,32,122,32,61,32,49,59]}:ByteArray)] _ q.out (by simp) (by simp) (by intro x K;simp only[List.mem_cons,List.not_mem_nil,or_false] at K;have j:(({data:=#[108,101,116,32]}:ByteArray)).size=4:=rfl;have n:(({data:=#[32,61,32]}:ByteArray)).size=3:=rfl;have I:(({data:=#[59]}:ByteArray)).size=1:=rfl;have y3:(({data:=#[102,117,110,99,116,105,111,110,32,102,40,41,32,123,32,114,101,116,117,114,110,32]}:ByteArray)).size=22:=rfl;have y4:(({data:=#[59,32,125]}:ByteArray)).size=3:=rfl;have y5:(({data:=#[108,101,116,32,122,32,61,32,49,59]}:ByteArray)).size=10:=rfl;rcases K with rfl|rfl|rfl<;>simp only[ByteArray.size_append,j,n,I,y3,y4,y5]<;>omega)).mono ?_
   rintro e O ⟨V,L,rfl,U,z,E⟩
   have D:=zc z
   have A:=zc (zB o.out E)
   clear z E
   go_wp2
   go_ret
   exact⟨_,L,rfl,by have j:(({data:=#[101,120,112,111,114,116,32]}:ByteArray)).size=7:=rfl;simp only[ByteArray.size_append,j];omega,D.out,A.out⟩
 |true=>
  rcases (show H=0∨H=1∨H=2∨H=3∨H=4∨H=5∨H=6∨H=7∨H=8∨H=9∨H=10∨H=11∨H=12∨H=13∨H=14∨H=15 by omega) with rfl|rfl|rfl|rfl|rfl|rfl|rfl|rfl|rfl|rfl|rfl|rfl|rfl|rfl|rfl|rfl
  ·go_wp2
   go_ret
   exact⟨_,J,rfl,by have j:(({data:=#[108,101,116,32]}:ByteArray)).size=4:=rfl;have n:(({data:=#[32,61,32]}:ByteArray)).size=3:=rfl;have I:(({data:=#[59]}:ByteArray)).size=1:=rfl;simp only[ByteArray.size_append,j,n,I];omega,q.out,o.out⟩
  ·go_wp2
   go_ret
   exact⟨_,J,rfl,by have j:(({data:=#[108,101,116,32]}:ByteArray)).size=4:=rfl;have n:(({data:=#[32,61,32]}:ByteArray)).size=3:=rfl;have I:(({data:=#[59]}:ByteArray)).size=1:=rfl;simp only[ByteArray.size_append,j,n,I];omega,q.out,o.out⟩
  ·go_wp2
   go_ret
   exact⟨_,J,rfl,by have j:(({data:=#[108,101,116,32]}:ByteArray)).size=4:=rfl;have n:(({data:=#[32,61,32]}:ByteArray)).size=3:=rfl;have I:(({data:=#[59]}:ByteArray)).size=1:=rfl;simp only[ByteArray.size_append,j,n,I];omega,q.out,o.out⟩
  ·go_wp2_with fail
   refine (zb0 S M g _ 100 [{data:=#[102]},{data:=#[103]}] _ q.out (by simp) (by simp) (by intro x K;simp only[List.mem_cons,List.not_mem_nil,or_false] at K;rcases K with rfl|rfl<;>decide)).mono ?_
   rintro e O ⟨V,L,rfl,U,z,E⟩
   have D:=zc z
   have A:=zc (zB o.out E)
   clear z E
   go_wp2
   go_ret
   exact⟨_,L,rfl,by have j:(({data:=#[102,117,110,99,116,105,111,110,32]}:ByteArray)).size=9:=rfl;have n:(({data:=#[40,41,32,123,32,114,101,116,117,114,110,32]}:ByteArray)).size=12:=rfl;have I:(({data:=#[59,32,125]}:ByteArray)).size=3:=rfl;simp only[ByteArray.size_append,j,n,I];omega,D.out,A.out⟩
  ·go_wp2
   go_ret
   exact⟨_,J,rfl,by have j:(({data:=#[32,61,32]}:ByteArray)).size=3:=rfl;have n:(({data:=#[59]}:ByteArray)).size=1:=rfl;simp only[ByteArray.size_append,j,n];omega,q.out,o.out⟩
  ·go_wp2
   go_ret
   exact⟨_,J,rfl,by have j:(({data:=#[112,114,105,110,116,40]}:ByteArray)).size=6:=rfl;have n:(({data:=#[41,59]}:ByteArray)).size=2:=rfl;simp only[ByteArray.size_append,j,n];omega,q.out,o.out⟩
  ·go_wp2
   go_ret
   exact⟨_,J,rfl,by have j:(({data:=#[112,114,105,110,116,40]}:ByteArray)).size=6:=rfl;have n:(({data:=#[41,59]}:ByteArray)).size=2:=rfl;simp only[ByteArray.size_append,j,n];omega,q.out,o.out⟩
  ·go_wp2_with fail
   refine (zcD S M g _ 2 _ q.out (by omega)).mono ?_
   rintro e O ⟨rfl,z,E⟩
   obtain⟨L,N⟩: ∃Y,(bw S J 2).2=Y:=⟨_,rfl⟩
   rw[N] at z
   have D:=zc z
   have A:=zc (zB o.out E)
   clear z E N
   generalize ((bw S J 2).1==0)=b
   cases b with
   |false=>
    go_wp2
    go_ret
    exact⟨_,L,rfl,by have j:(({data:=#[116,104,114,111,119,32]}:ByteArray)).size=6:=rfl;have n:(({data:=#[59]}:ByteArray)).size=1:=rfl;simp only[ByteArray.size_append,j,n];omega,D.out,A.out⟩
   |true=>
    go_wp2
    go_ret
    exact⟨_,L,rfl,by have j:(({data:=#[102,97,105,108,32]}:ByteArray)).size=5:=rfl;have n:(({data:=#[59]}:ByteArray)).size=1:=rfl;simp only[ByteArray.size_append,j,n];omega,D.out,A.out⟩
  ·go_wp2
   go_ret
   exact⟨_,J,rfl,by have j:(({data:=#[108,101,116,32]}:ByteArray)).size=4:=rfl;have n:(({data:=#[32,61,32]}:ByteArray)).size=3:=rfl;have I:(({data:=#[59]}:ByteArray)).size=1:=rfl;simp only[ByteArray.size_append,j,n,I];omega,q.out,o.out⟩
  ·go_wp2
   go_ret
   exact⟨_,J,rfl,by have j:(({data:=#[108,101,116,32]}:ByteArray)).size=4:=rfl;have n:(({data:=#[32,61,32]}:ByteArray)).size=3:=rfl;have I:(({data:=#[59]}:ByteArray)).size=1:=rfl;simp only[ByteArray.size_append,j,n,I];omega,q.out,o.out⟩
  ·go_wp2
   go_ret
   exact⟨_,J,rfl,by have j:(({data:=#[108,101,116,32]}:ByteArray)).size=4:=rfl;have n:(({data:=#[32,61,32]}:ByteArray)).size=3:=rfl;have I:(({data:=#[59]}:ByteArray)).size=1:=rfl;simp only[ByteArray.size_append,j,n,I];omega,q.out,o.out⟩
  ·go_wp2_with fail
   refine (zb0 S M g _ 100 [{data:=#[102]},{data:=#[103]}] _ q.out (by simp) (by simp) (by intro x K;simp only[List.mem_cons,List.not_mem_nil,or_false] at K;rcases K with rfl|rfl<;>decide)).mono ?_
   rintro e O ⟨V,L,rfl,U,z,E⟩
   have D:=zc z
   have A:=zc (zB o.out E)
   clear z E
   go_wp2
   go_ret
   exact⟨_,L,rfl,by have j:(({data:=#[102,117,110,99,116,105,111,110,32]}:ByteArray)).size=9:=rfl;have n:(({data:=#[40,41,32,123,32,114,101,116,117,114,110,32]}:ByteArray)).size=12:=rfl;have I:(({data:=#[59,32,125]}:ByteArray)).size=3:=rfl;simp only[ByteArray.size_append,j,n,I];omega,D.out,A.out⟩
  ·go_wp2
   go_ret
   exact⟨_,J,rfl,by have j:(({data:=#[32,61,32]}:ByteArray)).size=3:=rfl;have n:(({data:=#[59]}:ByteArray)).size=1:=rfl;simp only[ByteArray.size_append,j,n];omega,q.out,o.out⟩
  ·go_wp2
   go_ret
   exact⟨_,J,rfl,by have j:(({data:=#[112,114,105,110,116,40]}:ByteArray)).size=6:=rfl;have n:(({data:=#[41,59]}:ByteArray)).size=2:=rfl;simp only[ByteArray.size_append,j,n];omega,q.out,o.out⟩
  ·go_wp2
   go_ret
   exact⟨_,J,rfl,by have j:(({data:=#[112,114,105,110,116,40]}:ByteArray)).size=6:=rfl;have n:(({data:=#[41,59]}:ByteArray)).size=2:=rfl;simp only[ByteArray.size_append,j,n];omega,q.out,o.out⟩
  ·go_wp2_with fail
   refine (zcD S M g _ 2 _ q.out (by omega)).mono ?_
   rintro e O ⟨rfl,z,E⟩
   obtain⟨L,N⟩: ∃Y,(bw S J 2).2=Y:=⟨_,rfl⟩
   rw[N] at z
   have D:=zc z
   have A:=zc (zB o.out E)
   clear z E N
   generalize ((bw S J 2).1==0)=b
   cases b with
   |false=>
    go_wp2
    go_ret
    exact⟨_,L,rfl,by have j:(({data:=#[116,104,114,111,119,32]}:ByteArray)).size=6:=rfl;have n:(({data:=#[59]}:ByteArray)).size=1:=rfl;simp only[ByteArray.size_append,j,n];omega,D.out,A.out⟩
   |true=>
    go_wp2
    go_ret
    exact⟨_,L,rfl,by have j:(({data:=#[102,97,105,108,32]}:ByteArray)).size=5:=rfl;have n:(({data:=#[59]}:ByteArray)).size=1:=rfl;simp only[ByteArray.size_append,j,n];omega,D.out,A.out⟩
def zd8 (S:Src) (y:Int) (T:List Int×(Nat×Int)) (acc:List Int) (n:Nat) (q:Nat×Int):Prop:=acc++(zcA S y n q).1=T.1∧(zcA S y n q).2=T.2
theorem zg8 {S:Src} {y:Int} {T:List Int×(Nat×Int)} {acc:List Int} {n:Nat} {q:Nat×Int} (h:zd8 S y T acc (n+1) q):zd8 S y T (acc++[chr y (cb S q).1]) n (cb S q).2:=by
 obtain⟨a,b⟩:=h
 rw[zcA] at a b
 exact⟨by rw[List.append_assoc];exact a,b⟩
theorem zml {S:Src} {y:Int} {T:List Int×(Nat×Int)} {acc:List Int} {q:Nat×Int} (h:zd8 S y T acc 0 q):acc=T.1∧q=T.2:=by
 obtain⟨a,b⟩:=h
 rw[zcA] at a b
 exact⟨by simpa using a,b⟩
theorem zmm (S:Src) (hS:S.ok) (g:Nat) (q:Nat×Int) (j:Int) (w:World) (hc:zR 147 S w g q) (an:0≤j) (am:j≤1000):
  Calls Tryz.prog 186 #[.pointer (some ⟨g,0,none⟩),.int .i64 j] w fun e w'=>e= .returned (.string (strOfNums (tx S q j).1))∧zR 147 S w' g (tx S q j).2∧w.grownBy w' (some g):=by
 obtain⟨i0,hi,V,X,aa⟩:=info_parts Tryz.infoByte
 have H:=zcB hc
 have ag:=zaV S (bw S q 4).2 (j+1) (by omega)
 have HT:Hid (tx S q j=zcA S (bw S q 4).1 (bw S (bw S q 4).2 (j+1)).1.toNat (bw S (bw S q 4).2 (j+1)).2):=rfl
 go_enter Tryz.func186,Tryz.ntmps186
 go_wp2_with fail
 refine (zaD S hS g q 4 _ (zcC hc ((Below.refl w.heap.size w).alloc (Nat.le_refl _) _) H) (by omega)).mono ?_
 rintro e w1 ⟨rfl,ad,Y⟩
 go_wp2_with fail
 refine (zaD S hS g _ (j+1) _ ad (by omega)).mono ?_
 rintro e w2 ⟨rfl,ac,ab⟩
 have U:zbj w2 w.heap.size 5 (.slice (some ⟨w.heap.size,0,none⟩) 0 0) 0 []:=by
  have h0:zbj (w.alloc (.cells #[] 5)) w.heap.size 5 (.slice (some ⟨w.heap.size,0,none⟩) 0 0) 0 []:=World.ownsRow_lit w #[] 0 (Nat.le_refl _) (by unfold maxLen;omega) rfl
  exact zez (zez h0 Y H) ab H
 have af:w.grownBy w2 (some g):=zB (zB (zcV (World.grownBy.refl w _) ((Below.refl w.heap.size w).alloc (Nat.le_refl _) (.cells #[] 5)) (Nat.le_refl _)) Y) ab
 obtain⟨m0,L⟩: ∃m:Nat,(bw S (bw S q 4).2 (j+1)).1=m:=⟨(bw S (bw S q 4).2 (j+1)).1.toNat,by omega⟩
 rw[L]
 have ah:Hid (zd8 S (bw S q 4).1 (tx S q j) [] m0 (bw S (bw S q 4).2 (j+1)).2):=by
  show zd8 ..
  have e:=HT.out
  rw[L,Int.toNat_natCast] at e
  rw[e]
  exact⟨rfl,rfl⟩
 have ak:m0≤1000:=by omega
 clear L HT ag hc ad Y ab
 go_wp2
 go_loopw [5,7,8] (fun v n _ wr=>∃(k:Nat) (acc:List Int) (m:Nat) (p:Nat×Int),n= .int .i64 m∧k+m≤1000∧zd8 S (bw S q 4).1 (tx S q j) acc m p∧zbj wr w.heap.size 5 v k acc∧zR 147 S wr g p∧w.grownBy wr (some g)) (fun _ n _ _=>(intOf n).toNat)
 case atStart=>exact⟨0,[],m0,_,rfl,by omega,ah.out,U,ac,af⟩
 case round=>
  obtain⟨k,acc,m,p,rfl,Z,ae,o,Q,z⟩:=hrel
  have K:=ae
  clear ae U ac af
  match m,Z,K with
  |0,Z,K=>
   obtain⟨e1,e2⟩:=zml K
   have ai:Hid (acc=(tx S q j).1):=e1
   have aj:Hid (p=(tx S q j).2):=e2
   clear e1 e2 K
   rw[ai.out] at o
   have al:=zfV (P:=Tryz.prog) (src:=44) (dst:=9) Tryz.underlying44 Tryz.underlying5 Tryz.underlying9 o
   go_wp2
   go_ret
   exact⟨rfl,by rw[←aj.out];exact Q,z⟩
  |m+1,Z,HAT0=>
   have K:Hid (zd8 S (bw S q 4).1 (tx S q j) acc (m+1) p):=HAT0
   clear HAT0
   have ao:=zdt S p
   by_cases O:(bw S q 4).1=1
   ·have q1:((bw S q 4).1==1)=true:=by simpa using O
    have q2:((bw S q 4).1==2)=false:=by rw[O];rfl
    have M:Hid (chr (bw S q 4).1 (cb S p).1=(cb S p).1%2):=by show chr _ _=_;rw[chr,if_pos O]
    clear O
    go_wp2_with (first|(go_at_call 155;refine (zcW S hS g p _ Q).mono ?_;rintro e w3 ⟨rfl,N,E⟩;have A:=zez o E H;have I:=Nat.le_trans z.size E.size)|(at_builtin;refine zga w3 rfl _ _ 44 rfl w.heap.size 5 i0 Tryz.underlying44 hi V X aa _ k acc (by rfl) A ((cb S p).1%2) (by rfl) (by omega) I ?_))
    intro v' w4 D J
    go_wp2
    go_roundw
    case rel=>exact⟨k+1,acc++[(cb S p).1%2],m,(cb S p).2,by go_num,by omega,by rw[←M.out];exact zg8 K.out,D,zcC N J H,zcV (zB z E) J (Nat.le_refl _)⟩
    case measure=>simp[intOf]
   ·have q1:((bw S q 4).1==1)=false:=by simpa using O
    by_cases h2:(bw S q 4).1=2
    ·have q2:((bw S q 4).1==2)=true:=by simpa using h2
     have M:Hid (chr (bw S q 4).1 (cb S p).1=97+(cb S p).1%4):=by show chr _ _=_;rw[chr,if_neg O,if_pos h2]
     clear O h2
     go_wp2_with (first|(go_at_call 155;refine (zcW S hS g p _ Q).mono ?_;rintro e w3 ⟨rfl,N,E⟩;have A:=zez o E H;have I:=Nat.le_trans z.size E.size)|(at_builtin;refine zga w3 rfl _ _ 44 rfl w.heap.size 5 i0 Tryz.underlying44 hi V X aa _ k acc (by rfl) A (97+(cb S p).1%4) (by rfl) (by omega) I ?_))
     intro v' w4 D J
     go_wp2
     go_roundw
     case rel=>exact⟨k+1,acc++[97+(cb S p).1%4],m,(cb S p).2,by go_num,by omega,by rw[←M.out];exact zg8 K.out,D,zcC N J H,zcV (zB z E) J (Nat.le_refl _)⟩
     case measure=>simp[intOf]
    ·have q2:((bw S q 4).1==2)=false:=by simpa using h2
     have M:Hid (chr (bw S q 4).1 (cb S p).1=(cb S p).1):=by show chr _ _=_;rw[chr,if_neg O,if_neg h2]
     clear O h2
     go_wp2_with (first|(go_at_call 155;refine (zcW S hS g p _ Q).mono ?_;rintro e w3 ⟨rfl,N,E⟩;have A:=zez o E H;have I:=Nat.le_trans z.size E.size)|(at_builtin;refine zga w3 rfl _ _ 44 rfl w.heap.size 5 i0 Tryz.underlying44 hi V X aa _ k acc (by rfl) A ((cb S p).1) (by rfl) (by omega) I ?_))
     intro v' w4 D J
     go_wp2
     go_roundw
     case rel=>exact⟨k+1,acc++[(cb S p).1],m,(cb S p).2,by go_num,by omega,by rw[←M.out];exact zg8 K.out,D,zcC N J H,zcV (zB z E) J (Nat.le_refl _)⟩
     case measure=>simp[intOf]
theorem zmn {S:Src} {q:Nat×Int} {s:ByteArray} (h:s.size=0):zaW S q s=(strOfNums (tx S q 3).1,(tx S q 3).2):=by rw[zaW,if_pos h]
theorem zmo {S:Src} {q:Nat×Int} {s:ByteArray} {k:Nat} (h:s.size≠0) (j:(bw S q s.size).1=k) (n:(bw S (bw S q s.size).2 4).1=0):zaW S q s=(s.extract 0 k++s.extract (k+1) s.size,(bw S (bw S q s.size).2 4).2):=by
 rw[zaW,if_neg h,if_pos n,j];rfl
theorem zmp {S:Src} {q:Nat×Int} {s:ByteArray} {k:Nat} (h:s.size≠0) (j:(bw S q s.size).1=k) (n:(bw S (bw S q s.size).2 4).1=1):zaW S q s=(s.extract 0 k++strOfNums [(cb S (bw S (bw S q s.size).2 4).2).1]++s.extract k s.size,(cb S (bw S (bw S q s.size).2 4).2).2):=by
 rw[zaW,if_neg h,if_neg (by omega),if_pos n,j];rfl
theorem zmq {S:Src} {q:Nat×Int} {s:ByteArray} {k:Nat} (h:s.size≠0) (j:(bw S q s.size).1=k) (n:(bw S (bw S q s.size).2 4).1=2):zaW S q s=(s.extract 0 k,(bw S (bw S q s.size).2 4).2):=by
 rw[zaW,if_neg h,if_neg (by omega),if_neg (by omega),if_pos n,j];rfl
theorem zmr {S:Src} {q:Nat×Int} {s:ByteArray} {k:Nat} (h:s.size≠0) (n:(bw S q s.size).1=k) (z:(bw S (bw S q s.size).2 4).1≠0) (o:(bw S (bw S q s.size).2 4).1≠1) (j:(bw S (bw S q s.size).2 4).1≠2):
  zaW S q s=(s.extract 0 k++strOfNums [IntKind.u8.wrap (bits .xor .i64 (bt s k) (1+(bw S (bw S (bw S q s.size).2 4).2 255).1))]++s.extract (k+1) s.size,(bw S (bw S (bw S q s.size).2 4).2 255).2):=by
 rw[zaW,if_neg h,if_neg z,if_neg o,if_neg j,n];rfl
theorem zms (S:Src) (H:S.ok) (g:Nat) (q:Nat×Int) (s:ByteArray) (w:World) (Y:zR 147 S w g q) (hs:s.size≤100000):
  Calls Tryz.prog 157 #[.pointer (some ⟨g,0,none⟩),.string s] w fun e w'=>e= .returned (.string (zaW S q s).1)∧zR 147 S w' g (zaW S q s).2∧w.grownBy w' (some g):=by
 by_cases J:s.size=0
 ·have D:Hid (zaW S q s=(strOfNums (tx S q 3).1,(tx S q 3).2)):=zmn J
  have hq:((s.size:Int)==0)=true:=by rw[J];rfl
  clear J
  go_enter Tryz.func157,Tryz.ntmps157
  go_wp2_with fail
  refine (zmm S H g q 3 _ Y (by omega) (by omega)).mono ?_
  rintro e Z ⟨rfl,j,n⟩
  go_wp2
  go_ret
  exact⟨za2 (by rw[D.out]),by rw[D.out];exact j,n⟩
 ·have hq:((s.size:Int)==0)=false:=beq_eq_false_iff_ne.2 (by omega)
  have aa:=zaV S q s.size (by omega)
  obtain⟨k,L⟩: ∃k:Nat,(bw S q s.size).1=k:=⟨(bw S q s.size).1.toNat,by omega⟩
  have HK:Hid ((bw S q s.size).1=k):=L
  have ad:k<s.size:=by omega
  have ag:=zaV S (bw S q s.size).2 4 (by omega)
  have hb:=get_bt s
  have ac:=bt_nonneg s k
  have ae:=bt_le s k
  have e1:IntKind.i64.wrap ((k:Int)+1)=(k:Int)+1:=IntWalk.i64_in _ ⟨by omega,by omega⟩
  have e2:IntKind.i64.wrap (bt s k)=bt s k:=IntWalk.i64_in _ ⟨by omega,by omega⟩
  have l1:(0:Int)≤(k:Int):=by omega
  have l2:(k:Int)≤s.size:=by omega
  have l3:(0:Int)≤(k:Int)+1:=by omega
  have l4:(k:Int)+1≤s.size:=by omega
  have z1:(s.extract 0 k).size≤100000:=by simp;omega
  have z2:(s.extract (k+1) s.size).size≤100000:=by simp;omega
  have z3:(s.extract k s.size).size≤100000:=by simp;omega
  have af:=fun (w:World) (x:Int)=>zfW (P:=Tryz.prog) (src:=44) (dst:=9) Tryz.underlying44 Tryz.underlying5 Tryz.underlying9 w x
  have ab:=fun x=>strOfNums_size [x]
  have y1: ¬(9223372036854775807<min k s.size+1):=by omega
  have y2: ¬(9223372036854775807<min k s.size+1+(s.size-k)):=by omega
  have y3: ¬(9223372036854775807<min k s.size+1+(s.size-(k+1))):=by omega
  clear aa
  by_cases M:(bw S (bw S q s.size).2 4).1=0
  ·have D:Hid (zaW S q s=(s.extract 0 k++s.extract (k+1) s.size,(bw S (bw S q s.size).2 4).2)):=zmo J L M
   have q0:((bw S (bw S q s.size).2 4).1==0)=true:=by simpa using M
   clear L M J
   go_enter Tryz.func157,Tryz.ntmps157
   go_wp2_with fail
   refine (zaD S H g q s.size _ Y (by omega)).mono ?_
   rintro e Z ⟨rfl,j,n⟩
   rw[HK.out]
   go_wp2_with fail
   refine (zaD S H g _ 4 _ j (by omega)).mono ?_
   rintro e N ⟨rfl,o,z⟩
   go_wp2
   go_quiet (fail)
   go_wp2
   go_ret
   exact⟨za2 (by rw[D.out]),by rw[D.out];exact zfl o _,zdN (zB n z) _⟩
  ·have q0:((bw S (bw S q s.size).2 4).1==0)=false:=by simpa using M
   by_cases Q:(bw S (bw S q s.size).2 4).1=1
   ·have D:Hid (zaW S q s=(s.extract 0 k++strOfNums [(cb S (bw S (bw S q s.size).2 4).2).1]++s.extract k s.size,(cb S (bw S (bw S q s.size).2 4).2).2)):=zmp J L Q
    have q1:((bw S (bw S q s.size).2 4).1==1)=true:=by simpa using Q
    have X:=zdt S (bw S (bw S q s.size).2 4).2
    have e3:IntKind.u8.wrap (cb S (bw S (bw S q s.size).2 4).2).1=(cb S (bw S (bw S q s.size).2 4).2).1:=IntWalk.u8_in _ X
    have z4:(s.extract 0 k++strOfNums [(cb S (bw S (bw S q s.size).2 4).2).1]).size≤100001:=by rw[ByteArray.size_append,strOfNums_size];simp;omega
    clear L M Q J
    go_enter Tryz.func157,Tryz.ntmps157
    go_wp2_with fail
    refine (zaD S H g q s.size _ Y (by omega)).mono ?_
    rintro e Z ⟨rfl,j,n⟩
    rw[HK.out]
    go_wp2_with fail
    refine (zaD S H g _ 4 _ j (by omega)).mono ?_
    rintro e N ⟨rfl,o,z⟩
    go_wp2
    have E:zR 147 S N.drew g (bw S (bw S q s.size).2 4).2:=zbS o fun _ _=>rfl
    have I:w.grownBy N.drew (some g):=zdN (zB n z) 1
    have O:=zcB E
    go_region_law (go_simp;go_wp2_with (go_at_call 155;refine (zcW S H g _ _ E).mono ?_;rintro e K ⟨rfl,U,A⟩))
    all_goals
     go_wp2
     go_ret
     refine⟨za2 (by rw[D.out]),?_,zcV (zB I A) ((Below.refl K.heap.size K).alloc (Nat.le_refl _) _) (Nat.le_trans I.size A.size)⟩
     rw[D.out]
     exact zcC U ((Below.refl K.heap.size K).alloc (Nat.le_refl _) _) (Nat.lt_of_lt_of_le O A.size)
   ·have q1:((bw S (bw S q s.size).2 4).1==1)=false:=by simpa using Q
    by_cases V:(bw S (bw S q s.size).2 4).1=2
    ·have D:Hid (zaW S q s=(s.extract 0 k,(bw S (bw S q s.size).2 4).2)):=zmq J L V
     have q2:((bw S (bw S q s.size).2 4).1==2)=true:=by simpa using V
     clear L M Q V J
     go_enter Tryz.func157,Tryz.ntmps157
     go_wp2_with fail
     refine (zaD S H g q s.size _ Y (by omega)).mono ?_
     rintro e Z ⟨rfl,j,n⟩
     rw[HK.out]
     go_wp2_with fail
     refine (zaD S H g _ 4 _ j (by omega)).mono ?_
     rintro e N ⟨rfl,o,z⟩
     go_wp2
     go_ret
     exact⟨za2 (by rw[D.out]),by rw[D.out];exact o,zB n z⟩
    ·have q2:((bw S (bw S q s.size).2 4).1==2)=false:=by simpa using V
     have D:Hid (zaW S q s=(s.extract 0 k++strOfNums [IntKind.u8.wrap (bits .xor .i64 (bt s k) (1+(bw S (bw S (bw S q s.size).2 4).2 255).1))]++s.extract (k+1) s.size,(bw S (bw S (bw S q s.size).2 4).2 255).2)):=zmr J L M Q V
     have X:=zaV S (bw S (bw S q s.size).2 4).2 255 (by omega)
     have e3:IntKind.i64.wrap (1+(bw S (bw S (bw S q s.size).2 4).2 255).1)=1+(bw S (bw S (bw S q s.size).2 4).2 255).1:=IntWalk.i64_in _ ⟨by omega,by omega⟩
     have z4:(s.extract 0 k++strOfNums [IntKind.u8.wrap (bits .xor .i64 (bt s k) (1+(bw S (bw S (bw S q s.size).2 4).2 255).1))]).size≤100001:=by rw[ByteArray.size_append,strOfNums_size];simp;omega
     clear L M Q V J
     go_enter Tryz.func157,Tryz.ntmps157
     go_wp2_with fail
     refine (zaD S H g q s.size _ Y (by omega)).mono ?_
     rintro e Z ⟨rfl,j,n⟩
     rw[HK.out]
     go_wp2_with fail
     refine (zaD S H g _ 4 _ j (by omega)).mono ?_
     rintro e N ⟨rfl,o,z⟩
     go_wp2
     have E:zR 147 S N.drew g (bw S (bw S q s.size).2 4).2:=zbS o fun _ _=>rfl
     have I:w.grownBy N.drew (some g):=zdN (zB n z) 1
     have O:=zcB E
     go_region_law (go_simp;go_wp2_with (go_at_call 109;refine (zaD S H g _ 255 _ E (by omega)).mono ?_;rintro e K ⟨rfl,U,A⟩))
     all_goals
      go_wp2
      go_ret
      refine⟨za2 (by rw[D.out]),?_,zcV (zB I A) ((Below.refl K.heap.size K).alloc (Nat.le_refl _) _) (Nat.le_trans I.size A.size)⟩
      rw[D.out]
      exact zcC U ((Below.refl K.heap.size K).alloc (Nat.le_refl _) _) (Nat.lt_of_lt_of_le O A.size)
theorem zmt (S:Src) (q:Nat×Int) (s:ByteArray):(zaW S q s).1.size≤s.size+4:=by
 have j:=zk2 S q 3 (by omega)
 unfold zaW
 split
 ·simp only[strOfNums_size];omega
 ·split
  ·simp only[ByteArray.size_append,ByteArray.size_extract];omega
  ·split
   ·simp only[ByteArray.size_append,ByteArray.size_extract,strOfNums_size,List.length_cons,List.length_nil];omega
   ·split
    ·simp only[ByteArray.size_extract];omega
    ·simp only[ByteArray.size_append,ByteArray.size_extract,strOfNums_size,List.length_cons,List.length_nil];omega
theorem zmu (S:Src) (o:S.len≤9223372036854775807) (j:Int) (z:2≤j) (q:j≤1000) (w:World):
  Calls Tryz.prog 55 #[.slice S.a S.len S.cap,.int .i64 j] w fun e n=>(∃r:Nat,e= .returned (.int .i64 (r:Int))∧(r:Int)≤j)∧n=w:=by
 go_enter Tryz.func55,Tryz.ntmps55
 by_cases h:j<2+(S.len:Int)/20
 ·go_wp2
  go_ret
  exact⟨⟨j.toNat,by rw[Int.toNat_of_nonneg (by omega)];rfl,by omega⟩,rfl⟩
 ·go_wp2
  go_ret
  exact⟨⟨(2+(S.len:Int)/20).toNat,by rw[Int.toNat_of_nonneg (by omega)];rfl,by omega⟩,rfl⟩
theorem zmv (S:Src) (L:S.ok) (g:Nat) (n:Nat) (hm:n≤10) (N:Bool) (M:Nat×Int) (w0:World) (j:zR 147 S w0 g M):
  Calls Tryz.prog 110 #[.pointer (some ⟨g,0,none⟩),.int .i64 (n:Int),.bool N] w0 (zcL S g 20000 w0):=by
 have aa:=zc j
 have Y:Hid (w0.grownBy w0 (some g)):=⟨rfl,rfl,rfl,Nat.le_refl _,fun _ _ _=>rfl⟩
 clear j
 go_enter Tryz.func110,Tryz.ntmps110
 go_wp2_with fail
 refine (zaD S L g M ((n:Int)+1) _ aa.out (by omega)).mono ?_
 rintro e w1 ⟨rfl,j,o⟩
 have Q:=zaV S M ((n:Int)+1) (by omega)
 obtain⟨k1,hk⟩: ∃k:Nat,(bw S M ((n:Int)+1)).1=k:=⟨(bw S M ((n:Int)+1)).1.toNat,by omega⟩
 obtain⟨q1,J⟩: ∃U,(bw S M ((n:Int)+1)).2=U:=⟨_,rfl⟩
 rw[hk] at Q ⊢
 rw[J] at j
 have A:=zc j
 have z:=zc (zB Y.out o)
 have kb:k1≤10:=by omega
 clear j o Q hk J
 go_wp2
 go_loopg [7,8] k1 (fun k sv nv wr=>∃(x:ByteArray) (q:Nat×Int),nv= .int .i64 (k:Int)∧sv= .string x∧k≤10∧x.size+1501*k≤15010∧zR 147 S wr g q∧w0.grownBy wr (some g))
 case atStart=>exact⟨_,q1,rfl,rfl,kb,by have:({data:=#[]}:ByteArray).size=0:=rfl;omega,A.out,z.out⟩
 case round=>
  obtain⟨x,q,rfl,rfl,hk,hx,O,V⟩:=hrel
  clear A z
  have A:=zc O
  have z:=zc V
  clear O V
  by_cases ad:0<gk
  ·have ab:0<(gk:Int):=by omega
   go_wp2_with fail
   refine (zmk S L g N q _ A.out).mono ?_
   rintro e w2 ⟨X,K,rfl,z2,j,o⟩
   have D:=zc j
   have H:=zc (zB z.out o)
   clear j o
   have hz:(x++X++({data:=#[10]}:ByteArray)).size=x.size+X.size+1:=by rw[ByteArray.size_append,ByteArray.size_append];rfl
   have ae:(x++X).size=x.size+X.size:=ByteArray.size_append
   have ek:(gk:Int)-1=((gk-1:Nat):Int):=by omega
   go_wp2
   go_roundg (gk-1)
   case rel=>exact⟨_,K,rfl,rfl,by omega,by omega,D.out,H.out⟩
   case measure=>omega
  ·have ab: ¬0<(gk:Int):=by omega
   go_wp2_with fail
   refine (zcD S L g _ 6 _ A.out (by omega)).mono ?_
   rintro e w2 ⟨rfl,j,o⟩
   obtain⟨K,J⟩: ∃U,(bw S q 6).2=U:=⟨_,rfl⟩
   rw[J] at j
   have D:=zc j
   have H:=zc (zB z.out o)
   clear j o J
   generalize ((bw S q 6).1==0)=b
   cases b with
   |true=>
    go_wp2_with fail
    refine (zms S L g K x _ D.out (by omega)).mono ?_
    rintro e w3 ⟨rfl,j,o⟩
    have hs:=zmt S K x
    have I:=zc j
    have E:=zc (zB H.out o)
    clear j o
    generalize zaW S K x=y at*
    go_wp2
    go_ret
    exact⟨y.1,y.2,rfl,by omega,I.out,E.out⟩
   |false=>
    go_wp2_with fail
    refine (zcD S L g _ 15 _ D.out (by omega)).mono ?_
    rintro e w3 ⟨rfl,j,o⟩
    obtain⟨q3,J⟩: ∃U,(bw S K 15).2=U:=⟨_,rfl⟩
    rw[J] at j
    have I:=zc j
    have E:=zc (zB H.out o)
    clear j o J
    generalize ((bw S K 15).1==0)=b
    cases b with
    |true=>
     go_wp2_with fail
     refine (zb0 S L g _ 100 [{data:=#[105,109,112,111,114,116,32,100,101,102,97,117,108,116,32,102,114,111,109,32,34,120,34,59]},{data:=#[101,120,112,111,114,116,32,123,32,100,101,102,97,117,108,116,32,125,59]},{data:=#[105,109,112,111,114,116,32,123,32,100,101,102,97,117,108,116,32,125,32,102,114,111,109,32,34,120,34,59]},{data:=#[108,101,116,32,108,101,116,32,61,32,49,59]},{data:=#[112,114,105,110,116,40,49,59]},{data:=#[97,32,61,32,59]},{data:=#[101,120,112,111,114,116]},{data:=#[102,97,105,108,32,49,59]},{data:=#[108,101,116,32,117,110,100,101,102,32,61,32,49,59]},{data:=#[105,109,112,111,114,116,32,123,32,97,32,97,115,32,100,101,102,97,117,108,116,32,125,32,102,114,111,109,32,34,120,34,59]},{data:=#[112,114,105,110,116,40,40,40,40,40,40,40,40,40,40,40,40,40,40,40,40,40,40,40,40,40,40,49,41,41,41,41,41,41,41,41,41,41,41,41,41,41,41,41,41,41,41,41,41,41,59]}] _ I.out (by simp) (by simp) (by intro x hx;simp only[List.mem_cons,List.not_mem_nil,or_false] at hx;rcases hx with rfl|rfl|rfl|rfl|rfl|rfl|rfl|rfl|rfl|rfl|rfl<;>decide)).mono ?_
     rintro e w4 ⟨x4,q4,rfl,z4,j,o⟩
     have ac:=zc j
     have Z:=zc (zB E.out o)
     clear j o
     have hz:(x++x4).size=x.size+x4.size:=ByteArray.size_append
     go_wp2
     go_ret
     exact⟨_,q4,rfl,by omega,ac.out,Z.out⟩
    |false=>
     go_wp2
     go_ret
     exact⟨x,q3,rfl,by omega,I.out,E.out⟩
def zcM (N:Nat) (x:Ep):Prop:=x.name.size≤N∧x.loc.size≤N∧x.spec.size≤N
def zeM (N:Nat) (x:Ex):Prop:=x.name.size≤N∧x.field.size≤N∧0≤x.num∧x.num≤1000000
structure BS (N:Nat) (q:PS):Prop where
 rq: ∀x∈q.rq,x.size≤N
 im: ∀x∈q.im,x.spec.size≤N∧x.first.size≤N∧x.loc.size≤N
 ep: ∀x∈q.ep,zcM N x
 la: ∀x∈q.la,zcM N x
 st: ∀x∈q.st,x.name.size≤N
 ex: ∀x∈q.ex,zeM N x
def BT (N:Nat) (ts:List Tk):Prop:=∀t∈ts,t.text.size≤N∧0≤t.num∧t.num≤1000000
theorem zmw {s:ByteArray} {o:Bool} {a e:Nat} {t:Tk} (h:Tok s o a t e):t.text.size≤s.size∧0≤t.num∧t.num≤1000000:=by
 cases h using Tok.elim with
 |name _ _=>exact⟨by simp only[ByteArray.size_extract];omega,by simp,by simp⟩
 |num h n=>
  refine⟨Nat.zero_le _,?_,n.2.2.2.2.1⟩
  have:=zgf (s:=s) (a:=a) 0 (e-a) (fun j q=>by
   have:=n.1.2.2.1 (a+j) (by omega) (by omega)
   rw[zch] at this
   exact this.1) (Nat.zero_le _)
  rw[n.2.2.2.1]
  exact this.2
 |str _ _=>exact⟨by simp only[ByteArray.size_extract];omega,by simp,by simp⟩
 |sign _=>exact⟨by simp only[ByteArray.size_extract];omega,by simp,by simp⟩
theorem zmx {s:ByteArray} {z:Bool} {a n:Nat} {r:Except Nat (List Tk)} (h:Lx s z a n r): ∀j,r= .ok j→BT s.size j:=by
 induction h using Lx.ind with
 |done=>intro j k;cases k;intro t o;cases o
 |bad _ _=>intro j k;cases k
 | @tok a n e b t r h H o E D A=>
  intro j k
  cases r with
  |error p=>cases k
  |ok l=>
   cases k
   intro u q
   rcases List.mem_cons.1 q with rfl|q
   ·exact zmw o
   ·exact A l rfl u q
theorem zeN {N:Nat} {C:Cx} (n:BT N C.ts) (i:Nat):(ze C i).text.size≤N∧0≤(ze C i).num∧(ze C i).num≤1000000:=by
 by_cases j:i<C.ts.length
 ·have e:ze C i=C.ts[i]:=by simp[ze,List.getD,List.getElem?_eq_getElem j]
  rw[e]
  exact n _ (List.getElem_mem j)
 ·rw[zdl (by omega)]
  exact⟨Nat.zero_le _,by simp,by simp⟩
theorem zc2 {N:Nat} {q:PS} (h:BS N q):BS N (adv q):=⟨h.rq,h.im,h.ep,h.la,h.st,h.ex⟩
theorem zao {N:Nat} {C:Cx} {k:Int} {x:ByteArray} {q q':PS} (h:zd C k x q= .ok q') (j:BS N q):BS N q':=by
 obtain⟨rfl,_⟩:=zb4 h
 exact zc2 j
theorem zdd {N:Nat} {C:Cx} (j:BT N C.ts) {o:Bool} {q:PS} {y:PS×ByteArray} (h:zj C o q= .ok y) (n:BS N q):BS N y.1∧y.2.size≤N:=by
 obtain⟨rfl,_⟩:=zbd h
 exact⟨zc2 n,(zeN j _).1⟩
theorem zd9 {N:Nat} {C:Cx} {x:Ex} {q q':PS} (h:zN C x q= .ok q') (n:BS N q) (o:zeM N x):BS N q':=by
 obtain⟨rfl,_⟩:=zb5 h
 refine⟨n.rq,n.im,n.ep,n.la,n.st,fun y j=>?_⟩
 rcases List.mem_append.1 j with j|j
 ·exact n.ex y j
 ·rw[List.mem_singleton] at j
  rw[j]
  exact o
theorem zee {N:Nat} {k l r:Int} {n f:ByteArray} (o:n.size≤N) (j:f.size≤N):zeM N ⟨k,0,n,f,l,r⟩:=⟨o,j,Int.le_refl _,by simp⟩
theorem zin {N:Nat} {C:Cx} {n:ByteArray} {q q':PS} (h:zbc C n q= .ok q') (j:BS N q) (o:n.size≤N):BS N q':=by
 unfold zbc at h
 split at h
 ·obtain⟨a,E,z⟩:=zf h
  obtain⟨b,D,A⟩:=zf E
  exact zd9 z (zao A (zao D j)) (zee o (Nat.zero_le _))
 ·exact zd9 h j (zee o (Nat.zero_le _))
theorem zmy {N:Nat} {C:Cx} {n f:ByteArray} {q q':PS} (h:zbx C n f q= .ok q') (o:BS N q) (z:n.size≤N) (j:f.size≤N):BS N q':=by
 unfold zbx at h
 split at h
 ·obtain⟨a,H,A⟩:=zf h
  obtain⟨b,E,D⟩:=zf H
  exact zd9 A (zao D (zao E o)) (zee z j)
 ·exact zd9 h o (zee z j)
theorem zmz {N:Nat} {C:Cx} (H:BT N C.ts) (L:8≤N) (f:Nat): ∀(D:NT) (d:Nat) (q q':PS),ev C f D d q= .ok q'→BS N q→BS N q':=by
 induction f with
 |zero=>intro D d q q' h;cases D using NT.elim<;>cases h
 |succ f z=>
  intro D d q q' h o
  cases D using NT.elim with
  |sum=>
   rw[ev] at h
   obtain⟨a,n,j⟩:=zf h
   exact z _ _ _ _ j (z _ _ _ _ n o)
  |prod=>
   rw[ev] at h
   obtain⟨a,n,j⟩:=zf h
   exact z _ _ _ _ j (z _ _ _ _ n o)
  |sumT=>
   rw[ev] at h
   split at h
   ·obtain⟨a,n,j⟩:=zf h
    obtain⟨b,E,A⟩:=zf n
    exact z _ _ _ _ j (zd9 A (z _ _ _ _ E (zc2 o)) (zee (Nat.zero_le _) (Nat.zero_le _)))
   ·cases h
    exact o
  |prodT=>
   rw[ev] at h
   split at h
   ·obtain⟨a,n,j⟩:=zf h
    obtain⟨b,E,A⟩:=zf n
    exact z _ _ _ _ j (zd9 A (z _ _ _ _ E (zc2 o)) (zee (Nat.zero_le _) (Nat.zero_le _)))
   ·cases h
    exact o
  |part=>
   rw[ev] at h
   split at h
   ·exact zd9 h (zc2 o) ⟨Nat.zero_le _,Nat.zero_le _,(zeN H _).2⟩
   ·split at h
    ·split at h
     ·cases h
     ·obtain⟨a,n,j⟩:=zf h
      exact zao j (z _ _ _ _ n (zc2 o))
    ·split at h
     ·exact zin h (zc2 o) (Nat.le_trans (show 5≤8 by omega) L)
     ·obtain⟨a,n,j⟩:=zf h
      obtain⟨J,I⟩:=zdd H n o
      split at j
      ·obtain⟨b,E,A⟩:=zf j
       obtain⟨K,M⟩:=zdd H E (zc2 J)
       exact zmy A K I M
      ·exact zin j J I
theorem zef {N:Nat} {C:Cx} (j:BT N C.ts) (n:8≤N) {z:NT} {d:Nat} {q q':PS} (h:pE C z d q= .ok q') (o:BS N q):BS N q':=zmz j n _ _ _ _ _ h o
theorem zio {N:Nat} {C:Cx} (o:BT N C.ts) {q:PS} {a:PS×ByteArray} (h:zH C q= .ok a) (j:BS N q):BS N a.1∧a.2.size≤N:=by
 unfold zH at h
 split at h
 ·split at h
  ·cases h
   exact⟨zc2 j,(zeN o _).1⟩
  ·split at h
   ·cases h
   ·cases h
    refine⟨⟨fun x n=>?_,j.im,j.ep,j.la,j.st,j.ex⟩,(zeN o _).1⟩
    rcases List.mem_append.1 n with n|n
    ·exact j.rq x n
    ·rw[List.mem_singleton] at n
     rw[n]
     exact (zeN o _).1
 ·cases h
theorem zeg {N:Nat} {C:Cx} {k:Int} {n:ByteArray} {q q':PS} (h:zV C k n q= .ok q') (o:BS N q) (z:n.size≤N):BS N q':=by
 unfold zV at h
 split at h
 ·cases h
 ·cases h
  refine⟨o.rq,o.im,o.ep,o.la,fun x j=>?_,o.ex⟩
  rcases List.mem_append.1 j with j|j
  ·exact o.st x j
  ·rw[List.mem_singleton] at j
   rw[j]
   exact z
theorem zg9 {N:Nat} {C:Cx} {y:Im} {q q':PS} (h:zak C y q= .ok q') (n:BS N q) (o:y.spec.size≤N∧y.first.size≤N∧y.loc.size≤N):BS N q':=by
 unfold zak at h
 split at h
 ·cases h
 ·cases h
  refine⟨n.rq,fun x j=>?_,n.ep,n.la,n.st,n.ex⟩
  rcases List.mem_append.1 j with j|j
  ·exact n.im x j
  ·rw[List.mem_singleton] at j
   rw[j]
   exact o
theorem zdp {α:Type} {P:α→Prop} {l:List α} {y:α} (h: ∀x∈l,P x) (n:P y): ∀x∈l++[y],P x:=fun x j=>by
 rcases List.mem_append.1 j with j|j
 ·exact h x j
 ·rw[List.mem_singleton] at j
  rw[j]
  exact n
theorem zeh {N:Nat} {C:Cx} {y:Ep} {q q':PS} (h:zo C y q= .ok q') (j:BS N q) (n:zcM N y):BS N q':=by
 unfold zo at h
 split at h
 ·cases h
 ·split at h
  ·cases h
   exact⟨j.rq,j.im,j.ep,zdp j.la n,j.st,j.ex⟩
  ·cases h
   exact⟨j.rq,j.im,zdp j.ep n,j.la,j.st,j.ex⟩
theorem zm0 {α:Type} {f:α→PS→PR} (l:List α): ∀(x:PR) (q':PS),zP f l x= .ok q'→∃q,x= .ok q∧True:=by
 induction l with
 |nil=>intro x q' h;exact⟨q',h,trivial⟩
 |cons a l n=>
  intro x q' h
  obtain⟨b,o,_⟩:=n _ _ h
  obtain⟨c,j,_⟩:=zf o
  exact⟨c,j,trivial⟩
theorem zgA {α:Type} {N:Nat} {f:α→PS→PR} (l:List α) (z: ∀a∈l,∀q q',f a q= .ok q'→BS N q→BS N q'): ∀(q q':PS),zP f l (.ok q)= .ok q'→BS N q→BS N q':=by
 induction l with
 |nil=>intro q q' h o;cases h;exact o
 |cons a l D=>
  intro q q' h o
  have n:zP f l (f a q)= .ok q':=h
  cases j:f a q with
  |error e=>
   rw[j] at n
   obtain⟨c,E,_⟩:=zm0 l _ _ n
   cases E
  |ok b=>
   rw[j] at n
   exact D (fun x A=>z x (List.mem_cons_of_mem _ A)) b q' n (z a (List.mem_cons_self ..) q b j o)
theorem zm1 {N:Nat} {C:Cx} (o:BT N C.ts) {j:Bool} {a b:PS×ByteArray} (h:asP C j a= .ok b) (n:BS N a.1) (q:a.2.size≤N):BS N b.1∧b.2.size≤N:=by
 unfold asP at h
 split at h
 ·exact zdd o h (zc2 n)
 ·split at h
  ·cases h
  ·cases h
   exact⟨n,q⟩
theorem zm2 {N:Nat} {C:Cx} (z:BT N C.ts) {o:Bool} (f:Nat): ∀(q:PS) (acc:List Ep) (a:PS×List Ep),zcv C o f q acc= .ok a→BS N q→(∀x∈acc,zcM N x)→BS N a.1∧∀x∈a.2,zcM N x:=by
 induction f with
 |zero=>intro q acc a h;cases h
 |succ f J=>
  intro q acc a h K j
  rw[zcv] at h
  obtain⟨b,O,H⟩:=zf h
  obtain⟨c,L,n⟩:=zf H
  obtain⟨U,E⟩:=zdd z O K
  obtain⟨D,M⟩:=zm1 z L U E
  have A: ∀x∈acc++[(⟨0,c.2,b.2,sNone⟩:Ep)],zcM N x:=zdp j ⟨M,E,Nat.zero_le _⟩
  split at n
  ·exact J _ _ _ n (zc2 D) A
  ·obtain⟨d,I,Q⟩:=zf n
   cases Q
   exact⟨zao I D,A⟩
theorem zip {N:Nat} {C:Cx} (n:BT N C.ts) {j:Bool} {q:PS} {a:PS×List Ep} (h:zcw C j q= .ok a) (A:BS N q):BS N a.1∧∀x∈a.2,zcM N x:=by
 obtain⟨b,D,z⟩:=zf h
 exact zm2 n _ _ _ _ z (zao D A) fun x o=>by cases o
theorem zeO {N:Nat} {C:Cx} (j:BT N C.ts) {x:PR} {b:PS×ByteArray} (h:zaR C (zaE C x)= .ok b): ∃q,x= .ok q∧(BS N q→BS N b.1∧b.2.size≤N):=by
 obtain⟨a,H,o⟩:=zf h
 obtain⟨c,E,D⟩:=zf o
 obtain⟨d,z,K⟩:=zf H
 obtain⟨e,n,I⟩:=zf z
 cases D
 refine⟨e,n,fun A=>?_⟩
 obtain⟨J,L⟩:=zio j K (zao I A)
 exact⟨zao E J,L⟩
theorem zm3 {N:Nat} {C:Cx} (A:BT N C.ts) (U:8≤N) {q q':PS} (h:zaQ C q= .ok q') (Y:BS N q):BS N q':=by
 obtain⟨q1,h1,E⟩:=zf h
 have L:=zao h1 Y
 split at E
 ·obtain⟨a,o,D⟩:=zf E
  obtain⟨b,H,J⟩:=zf D
  obtain⟨l1,X⟩:=zip A o L
  obtain⟨d,M,z⟩:=zeO A H
  cases M
  obtain⟨I,K⟩:=z l1
  exact zgA _ (fun x V p p' Z hb=>zg9 Z hb ⟨K,(X x V).2.1,(X x V).1⟩) _ _ J I
 ·split at E
  ·obtain⟨a,o,D⟩:=zf E
   obtain⟨b,H,J⟩:=zf D
   obtain⟨c,h7,h8⟩:=zf o
   obtain⟨d,M,z⟩:=zf h7
   obtain⟨Q,O⟩:=zdd A h8 (zao z (zao M L))
   obtain⟨f,n,j⟩:=zeO A H
   cases n
   obtain⟨I,K⟩:=j Q
   exact zg9 J I ⟨K,Nat.le_trans (show 1≤8 by omega) U,O⟩
  ·split at E
   ·obtain⟨a,o,D⟩:=zf E
    obtain⟨b,H,J⟩:=zf D
    obtain⟨Q,O⟩:=zdd A o L
    obtain⟨f,n,j⟩:=zeO A H
    cases n
    obtain⟨I,K⟩:=j Q
    exact zg9 J I ⟨K,Nat.le_trans (show 7≤8 by omega) U,O⟩
   ·obtain⟨a,o,D⟩:=zf E
    exact zao D (zio A o L).1
theorem ziq {N:Nat} {C:Cx} (A:BT N C.ts) (L:8≤N) {q:PS} {a:PS×ByteArray} (h:zcj C q= .ok a) (J:BS N q):BS N a.1∧a.2.size≤N:=by
 obtain⟨b,U,H⟩:=zf h
 obtain⟨z,o,j⟩:=zf H
 cases j
 obtain⟨c,M,K⟩:=zf U
 obtain⟨d,I,X⟩:=zf o
 obtain⟨f,E,V⟩:=zf I
 obtain⟨g,O,n⟩:=zf E
 obtain⟨Q,D⟩:=zdd A K (zao M J)
 exact⟨zeg X (zao V (zef A L n (zao (show zd C 4 cEq b.1= .ok g from O) Q))) D,D⟩
theorem zir {N:Nat} {C:Cx} (Q:BT N C.ts) (hN:8≤N) {q:PS} {a:PS×ByteArray} (h:fnP C q= .ok a) (V:BS N q):BS N a.1∧a.2.size≤N:=by
 obtain⟨b,h1,h2⟩:=zf h
 obtain⟨z,J,I⟩:=zf h2
 cases I
 obtain⟨c,h3,h4⟩:=zf h1
 obtain⟨d,U,h6⟩:=zf J
 obtain⟨f,Z,Y⟩:=zf U
 obtain⟨g,X,H⟩:=zf Z
 obtain⟨i,o,n⟩:=zf X
 obtain⟨j,D,L⟩:=zf o
 obtain⟨k,K,E⟩:=zf D
 obtain⟨l,M,A⟩:=zf K
 obtain⟨n1,O⟩:=zdd Q h4 (zao h3 V)
 exact⟨zeg h6 (zao Y (zao H (zef Q hN n (zao L (zao E (zao A (zao (show zd C 4 zn b.1= .ok l from M) n1))))))) O,O⟩
theorem zm4 {N:Nat} {C:Cx} (J:BT N C.ts) (I:8≤N) {q q':PS} (h:zag C q= .ok q') (X:BS N q):BS N q':=by
 obtain⟨q1,h1,n⟩:=zf h
 have L:=zao h1 X
 split at n
 ·obtain⟨a,D,o⟩:=zf n
  obtain⟨V,O⟩:=zip J D L
  split at o
  ·obtain⟨b,A,H⟩:=zf o
   exact zgA (f:=fun e=>zo C (zA e)) _ (fun x M p p' Q U=>zeh (y:=zA x) Q U ⟨(O x M).1,(O x M).2.1,Nat.zero_le _⟩) _ _ H (zao A V)
  ·obtain⟨b,A,H⟩:=zf o
   obtain⟨d,K,j⟩:=zeO J A
   cases K
   obtain⟨E,z⟩:=j V
   exact zgA (f:=fun e=>zo C (zai b.2 e)) _ (fun x M p p' Q U=>zeh (y:=zai b.2 x) Q U ⟨(O x M).1,(O x M).2.1,z⟩) _ _ H E
 ·split at n
  ·obtain⟨b,A,H⟩:=zf n
   obtain⟨d,K,j⟩:=zeO J A
   obtain⟨E,z⟩:=j (zao K L)
   exact zeh H E ⟨Nat.zero_le _,Nat.zero_le _,z⟩
  ·split at n
   ·obtain⟨a,D,o⟩:=zf n
    obtain⟨b,A,H⟩:=zf D
    obtain⟨c,Z,Y⟩:=zf A
    obtain⟨d,K,j⟩:=zf Z
    exact zeh o (zeg H (zao Y (zef J I j (zao K L))) I) ⟨Nat.le_trans (show 7≤8 by omega) I,I,Nat.zero_le _⟩
   ·split at n
    ·obtain⟨a,D,o⟩:=zf n
     obtain⟨E,z⟩:=ziq J I D L
     exact zeh o E ⟨z,z,Nat.zero_le _⟩
    ·split at n
     ·obtain⟨a,D,o⟩:=zf n
      obtain⟨E,z⟩:=zir J I D L
      exact zeh o E ⟨z,z,Nat.zero_le _⟩
     ·cases n
theorem zis {N:Nat} {C:Cx} (j:BT N C.ts) (D:8≤N) {s:ByteArray} {k:Int} {q q':PS} (h:bd (bd (bd (zd C 1 s q) (pE C .sum 0)) (zd C 4 cSemi)) (zV C k sNone)= .ok q') (z:BS N q):BS N q':=by
 obtain⟨a,H,n⟩:=zf h
 obtain⟨b,E,A⟩:=zf H
 obtain⟨c,o,I⟩:=zf E
 exact zeg n (zao A (zef j D I (zao o z))) (Nat.zero_le _)
theorem zm5 {N:Nat} {C:Cx} (j:BT N C.ts) (o:8≤N) {q q':PS} (h:zy C q= .ok q') (n:BS N q):BS N q':=by
 unfold zy at h
 split at h
 ·exact zm3 j o h n
 ·split at h
  ·exact zm4 j o h n
  ·split at h
   ·obtain⟨a,A,z⟩:=zf h
    cases z
    exact (ziq j o A n).1
   ·split at h
    ·obtain⟨a,A,z⟩:=zf h
     cases z
     exact (zir j o A n).1
    ·split at h
     ·obtain⟨a,A,z⟩:=zf h
      obtain⟨b,I,H⟩:=zf A
      obtain⟨c,E,L⟩:=zf I
      obtain⟨d,D,K⟩:=zf E
      obtain⟨e,O,J⟩:=zf D
      exact zeg z (zao H (zao L (zef j o K (zao J (zao O n))))) (Nat.zero_le _)
     ·split at h
      ·exact zis j o h n
      ·split at h
       ·exact zis j o h n
       ·obtain⟨a,A,z⟩:=zf h
        obtain⟨b,I,H⟩:=zf z
        obtain⟨c,E,L⟩:=zf I
        obtain⟨d,D,K⟩:=zf E
        obtain⟨Q,M⟩:=zdd j A n
        exact zeg H (zao L (zef j o K (zao D Q))) M
theorem zm6 {N:Nat} {C:Cx} (n:BT N C.ts) (A:8≤N) (f:Nat): ∀(q q':PS),zcx C f q= .ok q'→BS N q→BS N q':=by
 induction f with
 |zero=>intro q q' h;cases h
 |succ f z=>
  intro q q' h j
  rw[zcx] at h
  split at h
  ·obtain⟨a,D,o⟩:=zf h
   exact z _ _ o (zm5 n A D j)
  ·cases h
   exact j
theorem zm7 {s:ByteArray} {j:Bool} {q:PS} {N:Nat} (h:zb7 s j (.ok q)) (D:s.size≤N) (A:8≤N):BS N q:=by
 obtain⟨r,⟨a,_,o⟩,e⟩:=h
 cases r with
 |error p=>cases e
 |ok n=>
  refine zm6 (C:=⟨n,s.size,j⟩) (fun t E=>?_) A _ _ _ e.symm ⟨?_,?_,?_,?_,?_,?_⟩
  ·have:=zmx o n rfl t E
   exact⟨Nat.le_trans this.1 D,this.2⟩
  all_goals (intro x z;cases z)
def KG {α:Type} (R:PS→PS→Prop) (p:α→PS) (x:Except Nat α) (q:PS):Prop:=∀a,x= .ok a→R q (p a)
def zit (C:Cx) (k:Int) (n:ByteArray):Prop:=n=sNone∨k=1∨∃i o,zD C i o=true∧n=(ze C i).text
structure Kept (C:Cx) (R:PS→PS→Prop):Prop where
 rfl': ∀q,R q q
 tr: ∀{a b c},R a b→R b c→R a c
 adv: ∀q,R q (adv q)
 ex: ∀x q,KG R id (zN C x q) q
 im: ∀x q,KG R id (zak C x q) q
 ep: ∀x q,KG R id (zo C x q) q
 sp: ∀q,KG R Prod.fst (zH C q) q
 st: ∀k n q,zit C k n→KG R id (zV C k n q) q
theorem KG.bd {C:Cx} {R:PS→PS→Prop} {α β:Type} (H:Kept C R) {p:α→PS} {r:β→PS} {x:Except Nat α} {f:α→Except Nat β} {q:PS} (h:KG R p x q) (k: ∀a,x= .ok a→KG R r (f a) (p a)):KG R r (bd x f) q:=by
 intro b o
 obtain⟨a,j,n⟩:=zf o
 exact H.tr (h a j) (k a j b n)
theorem KG.after {C:Cx} {R:PS→PS→Prop} (H:Kept C R) {α:Type} {r:α→PS} {y:Except Nat α} {q q':PS} (h:R q q') (k:KG R r y q'):KG R r y q:=fun b j=>H.tr h (k b j)
theorem KG.ok {C:Cx} {R:PS→PS→Prop} (H:Kept C R) {α:Type} {p:α→PS} {a:α}:KG R p (.ok a) (p a):=fun b j=>by cases j;exact H.rfl' _
theorem KG.err {R:PS→PS→Prop} {α:Type} {p:α→PS} {e:Nat} {q:PS}:KG R p (.error e) q:=fun b j=>by cases j
theorem zap {C:Cx} {R:PS→PS→Prop} (H:Kept C R) (k:Int) (x:ByteArray) (q:PS):KG R id (zd C k x q) q:=fun a h=>by obtain⟨rfl,_⟩:=zb4 h;exact H.adv q
theorem zde {C:Cx} {R:PS→PS→Prop} (H:Kept C R) (o:Bool) (q:PS):KG R Prod.fst (zj C o q) q:=fun a h=>by obtain⟨rfl,_⟩:=zbd h;exact H.adv q
theorem ziu {C:Cx} {R:PS→PS→Prop} (H:Kept C R) (n:ByteArray) (q:PS):KG R id (zbc C n q) q:=by
 unfold zbc
 split
 ·exact .bd H (.bd H (zap H _ _ _) fun _ _=>zap H _ _ _) fun _ _=>H.ex _ _
 ·exact H.ex _ _
theorem zm8 {C:Cx} {R:PS→PS→Prop} (H:Kept C R) (n f:ByteArray) (q:PS):KG R id (zbx C n f q) q:=by
 unfold zbx
 split
 ·exact .bd H (.bd H (zap H _ _ _) fun _ _=>zap H _ _ _) fun _ _=>H.ex _ _
 ·exact H.ex _ _
theorem zm9 {C:Cx} {R:PS→PS→Prop} (H:Kept C R) (f:Nat): ∀(n:NT) (d:Nat) (q:PS),KG R id (ev C f n d q) q:=by
 induction f with
 |zero=>intro n d q;cases n using NT.elim<;>exact .err
 |succ f j=>
  intro n d q
  cases n using NT.elim<;>rw[ev]
  ·exact .bd H (j _ _ _) fun _ _=>j _ _ _
  ·split
   ·exact .bd H (.bd H (.after H (H.adv q) (j _ _ _)) fun _ _=>H.ex _ _) fun _ _=>j _ _ _
   ·exact .ok (p:=id) H
  ·exact .bd H (j _ _ _) fun _ _=>j _ _ _
  ·split
   ·exact .bd H (.bd H (.after H (H.adv q) (j _ _ _)) fun _ _=>H.ex _ _) fun _ _=>j _ _ _
   ·exact .ok (p:=id) H
  ·split
   ·exact .after H (H.adv q) (H.ex _ _)
   ·split
    ·split
     ·exact .err
     ·exact .bd H (.after H (H.adv q) (j _ _ _)) fun _ _=>zap H _ _ _
    ·split
     ·exact .after H (H.adv q) (ziu H _ _)
     ·refine .bd H (zde H _ _) fun a _=>?_
      split
      ·exact .bd H (.after H (H.adv _) (zde H _ _)) fun _ _=>zm8 H _ _ _
      ·exact ziu H _ _
theorem zei {C:Cx} {R:PS→PS→Prop} (H:Kept C R) (j:NT) (d:Nat) (q:PS):KG R id (pE C j d q) q:=zm9 H ..
theorem ziv {C:Cx} {R:PS→PS→Prop} (H:Kept C R) {y:PRN} {F:PR→ByteArray→PR} {q:PS} (h:KG R Prod.fst y q) (k: ∀a,y= .ok a→KG R id (F (.ok a.1) a.2) a.1):KG R Prod.fst (withN y F) q:=
 .bd H h fun a j=>.bd (r:=Prod.fst) H (k a j) fun b _=>.ok (p:=Prod.fst) (a:=(b,a.2)) H
theorem ziw {C:Cx} {R:PS→PS→Prop} (H:Kept C R) (q:PS):KG R Prod.fst (zcj C q) q:=
 ziv H (.bd H (zap H _ _ _) fun _ _=>zde H _ _) fun _ _=>.bd H (.bd H (.bd H (.bd (p:=id) H (.ok (p:=id) H) fun _ _=>zap H _ _ _) fun _ _=>zei H _ _ _) fun _ _=>zap H _ _ _) fun _ _=>H.st _ _ _ (.inr (.inl rfl))
theorem zix {C:Cx} {k:Int} {o:Bool} {q:PS} {a:PS×ByteArray} (h:zj C o q= .ok a):zit C k a.2:=by
 obtain⟨rfl,j⟩:=zbd h
 exact .inr (.inr ⟨_,_,j,rfl⟩)
theorem ziy {C:Cx} {R:PS→PS→Prop} (H:Kept C R) (q:PS):KG R Prod.fst (fnP C q) q:=
 ziv H (.bd H (zap H _ _ _) fun _ _=>zde H _ _) fun a n=>.bd H (.bd H (.bd H (.bd H (.bd H (.bd H (.bd H (.bd (p:=id) H (.ok (p:=id) H) fun _ _=>zap H _ _ _) fun _ _=>zap H _ _ _) fun _ _=>zap H _ _ _) fun _ _=>zap H _ _ _) fun _ _=>zei H _ _ _) fun _ _=>zap H _ _ _) fun _ _=>zap H _ _ _) fun _ _=>H.st _ _ _ (by
  obtain⟨b,_,j⟩:=zf n
  exact zix j)
theorem zmA {C:Cx} {R:PS→PS→Prop} (H:Kept C R) (e:Bool) (a:PS×ByteArray):KG R Prod.fst (asP C e a) a.1:=by
 unfold asP
 split
 ·exact .after H (H.adv _) (zde H _ _)
 ·split
  ·exact .err
  ·exact .ok (p:=Prod.fst) H
theorem zmB {C:Cx} {R:PS→PS→Prop} (H:Kept C R) (e:Bool) (f:Nat): ∀(q:PS) (acc:List Ep),KG R Prod.fst (zcv C e f q acc) q:=by
 induction f with
 |zero=>intro q acc;exact .err
 |succ f j=>
  intro q acc
  rw[zcv]
  refine .bd H (zde H _ _) fun a _=>.bd H (zmA H _ _) fun b _=>?_
  split
  ·exact .after H (H.adv _) (j _ _)
  ·exact .bd (r:=Prod.fst) H (zap H _ _ _) fun c _=>.ok (p:=Prod.fst) (a:=(c,_)) H
theorem ziz {C:Cx} {R:PS→PS→Prop} (H:Kept C R) (e:Bool) (q:PS):KG R Prod.fst (zcw C e q) q:=.bd H (zap H _ _ _) fun _ _=>zmB H ..
theorem zeP {C:Cx} {R:PS→PS→Prop} (H:Kept C R) {x:PR} {q:PS} (h:KG R id x q):KG R Prod.fst (zaR C (zaE C x)) q:=
 .bd H (.bd H (.bd H h fun _ _=>zap H _ _ _) fun _ _=>H.sp _) fun a _=>.bd (r:=Prod.fst) H (zap H _ _ _) fun c _=>.ok (p:=Prod.fst) (a:=(c,a.2)) H
theorem zgB {C:Cx} {R:PS→PS→Prop} (H:Kept C R) {α:Type} {f:α→PS→PR} (j: ∀a q,KG R id (f a q) q) (l:List α): ∀(x:PR) (q:PS),KG R id x q→KG R id (zP f l x) q:=by
 induction l with
 |nil=>intro x q h;exact h
 |cons a l n=>intro x q h;exact n _ _ (.bd H h fun _ _=>j _ _)
theorem zmC {C:Cx} {R:PS→PS→Prop} (H:Kept C R) (q:PS):KG R id (zaQ C q) q:=by
 refine .bd H (zap H _ _ _) fun j _=>?_
 split
 ·exact .bd H (ziz H _ _) fun a _=>.bd H (zeP H (.ok (p:=id) H)) fun b _=>zgB H (fun _ _=>H.im _ _) _ _ _ (.ok (p:=id) H)
 ·split
  ·exact .bd H (.bd H (.bd H (zap H _ _ _) fun _ _=>zap H _ _ _) fun _ _=>zde H _ _) fun a _=>.bd H (zeP H (.ok (p:=id) H)) fun _ _=>H.im _ _
  ·split
   ·exact .bd H (zde H _ _) fun a _=>.bd H (zeP H (.ok (p:=id) H)) fun _ _=>H.im _ _
   ·exact .bd H (H.sp _) fun _ _=>zap H _ _ _
theorem zmD {C:Cx} {R:PS→PS→Prop} (H:Kept C R) (q:PS):KG R id (zag C q) q:=by
 refine .bd H (zap H _ _ _) fun j _=>?_
 split
 ·refine .bd H (ziz H _ _) fun a _=>?_
  split
  ·exact .bd H (zap H _ _ _) fun _ _=>zgB H (fun _ _=>H.ep _ _) _ _ _ (.ok (p:=id) H)
  ·exact .bd H (zeP H (.ok (p:=id) H)) fun _ _=>zgB H (fun _ _=>H.ep _ _) _ _ _ (.ok (p:=id) H)
 ·split
  ·exact .bd H (zeP H (zap H _ _ _)) fun _ _=>H.ep _ _
  ·split
   ·exact .bd H (.bd H (.bd H (.bd H (zap H _ _ _) fun _ _=>zei H _ _ _) fun _ _=>zap H _ _ _) fun _ _=>H.st _ _ _ (.inr (.inl rfl))) fun _ _=>H.ep _ _
   ·split
    ·exact .bd H (ziw H _) fun _ _=>H.ep _ _
    ·split
     ·exact .bd H (ziy H _) fun _ _=>H.ep _ _
     ·exact .err
theorem zi0 {C:Cx} {R:PS→PS→Prop} (H:Kept C R) (s:ByteArray) (k:Int) (q:PS):KG R id (bd (bd (bd (zd C 1 s q) (pE C .sum 0)) (zd C 4 cSemi)) (zV C k sNone)) q:=
 .bd H (.bd H (.bd H (zap H _ _ _) fun _ _=>zei H _ _ _) fun _ _=>zap H _ _ _) fun _ _=>H.st _ _ _ (.inl rfl)
theorem zmE {C:Cx} {R:PS→PS→Prop} (H:Kept C R) (q:PS):KG R id (zy C q) q:=by
 unfold zy
 split
 ·exact zmC H q
 ·split
  ·exact zmD H q
  ·split
   ·exact .bd H (ziw H q) fun a _=>.ok (p:=id) H
   ·split
    ·exact .bd H (ziy H q) fun a _=>.ok (p:=id) H
    ·split
     ·exact .bd H (.bd H (.bd H (.bd H (.bd H (zap H _ _ _) fun _ _=>zap H _ _ _) fun _ _=>zei H _ _ _) fun _ _=>zap H _ _ _) fun _ _=>zap H _ _ _) fun _ _=>H.st _ _ _ (.inl rfl)
     ·split
      ·exact zi0 H _ _ _
      ·split
       ·exact zi0 H _ _ _
       ·exact .bd H (zde H _ _) fun a j=>.bd H (.bd H (.bd H (zap H _ _ _) fun _ _=>zei H _ _ _) fun _ _=>zap H _ _ _) fun _ _=>H.st _ _ _ (zix j)
theorem zmF {C:Cx} {R:PS→PS→Prop} (H:Kept C R) (f:Nat): ∀q,KG R id (zcx C f q) q:=by
 induction f with
 |zero=>intro q;exact .err
 |succ f j=>
  intro q
  rw[zcx]
  split
  ·exact .bd H (zmE H q) fun _ _=>j _
  ·exact .ok (p:=id) H
theorem zmG {R:PS→PS→Prop} {s:ByteArray} {j:Bool} {q:PS} (h:zb7 s j (.ok q)) (H: ∀n,zae s j (.ok n)→Kept ⟨n,s.size,j⟩ R):R zbC q:=by
 obtain⟨r,o,e⟩:=h
 cases r with
 |error p=>cases e
 |ok n=>exact zmF (H n o) _ zbC q e.symm
abbrev dN:List UInt8:=[42,100,101,102,97,117,108,116]
def zdq (st:List Sm):Prop:=∀s∈st,s.name.toList=dN→s.kind=1
def zi1 (ts:List Tk):Prop:=∀t∈ts,t.kind=1→t.text.toList≠dN
theorem zmH {s:ByteArray} {j:Bool} {a e:Nat} {t:Tk} (n:a<s.size) (h:Tok s j a t e):t.kind=1→t.text.toList≠dN:=by
 have D:=(zdQ n h).1
 have z:=(zdQ n h).2.1
 cases h using Tok.elim with
 |name o _=>
  intro _ k
  have A:bt (s.extract a e) 0=42:=by
   rw[zdk,←Lib.toList_data,k]
   rfl
  have q:bt (s.extract a e) 0=bt s a:=by
   rw[zdk,zdk,ByteArray.data_extract]
   simp only[List.getD,List.getElem?_map,Array.getElem?_toList,Array.getElem?_extract]
   rw[if_pos (by have:s.data.size=s.size:=rfl;omega),Nat.add_zero]
  rw[←q,A] at o
  cases j<;>revert o<;>decide
 |num _ _=>intro k;cases k
 |str _ _=>intro k;cases k
 |sign _=>intro k;cases k
theorem zmI {s:ByteArray} {z:Bool} {a n:Nat} {r:Except Nat (List Tk)} (h:Lx s z a n r): ∀j,r= .ok j→zi1 j:=by
 induction h using Lx.ind with
 |done=>intro j k;cases k;intro t o;cases o
 |bad _ _=>intro j k;cases k
 | @tok a n e b t r h H o E D A=>
  intro j k
  cases r with
  |error p=>cases k
  |ok l=>
   cases k
   intro u q
   rcases List.mem_cons.1 q with rfl|q
   ·exact zmH h o
   ·exact A l rfl u q
theorem zmJ {C:Cx} (n:zi1 C.ts) {i:Nat} {o:Bool} (h:zD C i o=true):(ze C i).text.toList≠dN:=by
 have j:=ze4 h
 have e:ze C i=C.ts[i]:=by simp[ze,List.getD,List.getElem?_eq_getElem j]
 simp only[zD,Bool.and_eq_true,beq_iff_eq] at h
 rw[e] at h ⊢
 exact n _ (List.getElem_mem j) h.1
theorem zmK {k:Int} (h:sNone.toList=dN):k=1:=by
 rw[Lib.toList_data] at h
 cases h
theorem zi2 {s:ByteArray} {E:Bool} {q:PS} (h:zb7 s E (.ok q)):zdq q.st:=by
 refine zmG (R:=fun a b=>zdq a.st→zdq b.st) h (fun K A=>?_) (fun s z=>by cases z)
 obtain⟨_,_,A⟩:=A
 have I:=zmI A K rfl
 refine⟨fun _ h=>h,fun h k x=>k (h x),fun _ h=>h,?_,?_,?_,?_,?_⟩
 ·intro x q a h j
  obtain⟨rfl,_⟩:=zb5 h
  exact j
 ·intro x q a h j
  unfold zak at h
  split at h<;>cases h
  exact j
 ·intro x q a h j
  unfold zo at h
  split at h
  ·cases h
  ·split at h<;>cases h<;>exact j
 ·intro q a h j
  unfold zH at h
  split at h
  ·split at h
   ·cases h;exact j
   ·split at h<;>cases h
    exact j
  ·cases h
 ·intro k n q D a h j
  unfold zV at h
  split at h<;>cases h
  intro s z
  rcases List.mem_append.1 z with z|z
  ·exact j s z
  ·rw[List.mem_singleton.1 z]
   intro H
   rcases D with rfl|D|⟨i,o,J,rfl⟩
   ·exact zmK H
   ·exact D
   ·exact absurd H (zmJ I J)
open Go.Sort
structure Drawn (k:Nat) (m:Md):Prop where
 rq:m.rq.length≤300+k∧∀x∈m.rq,x.size≤20000
 im:m.im.length≤300+k∧∀x∈m.im,x.spec.size≤20000∧x.first.size≤20000∧x.loc.size≤20000
 ep:m.ep.length≤300+k∧∀x∈m.ep,zcM 20000 x
 st:m.st.length≤300+k∧∀x∈m.st,x.name.size≤20000
 ex:m.ex.length≤300+k∧∀x∈m.ex,zeM 20000 x
 fair:zdq m.st
theorem OwnR.asideD {w o:World} {b s n b2 J A:Nat} {e q:TypeId} {r j:Rw} {xs I:List Value} (h:OwnR w b e s r n xs) (D:OwnR w b2 q J j A I) (E:e≠q) (g:w.grownBy o j.blk):OwnR o b e s r n xs:=
 h.keep fun k z=>g.block k (h.typed z).2.1 fun H=>h.ne D E z H.symm
structure MM (S:Src) (g:Nat) (w0:World) (b6 b7:Nat) (V:Sv) (m:Md) (q:Nat×Int) (W:World):Prop where
 r6:W.heap[b6]? =some (.cells #[.slice none 0 0,.slice none 0 0,.slice none 0 0,.slice none 0 0,.slice none 0 0] 28 (0,0))
 r7:W.heap[b7]? =some (.cells #[.slice V.rq.a m.rq.length V.rq.cap,.slice V.im.a m.im.length V.im.cap,.slice V.ep.a m.ep.length V.ep.cap,.slice V.st.a m.st.length V.st.cap,.slice V.ex.a m.ex.length V.ex.cap] 28 (0,0))
 own:OwnMd W w0.heap.size V m
 cur:zR 147 S W g q
 gr:w0.grownBy W (some g)
 ge:w0.heap.size≤b6
 lt:b6<b7
 gl:g<w0.heap.size
theorem OwnMd.grown {w A:World} {o g:Nat} {V:Sv} {m:Md} (h:OwnMd w o V m) (H:g<o) (k:w.grownBy A (some g)):OwnMd A o V m:=by
 have q: ∀{e:TypeId} {z n:Nat} {r:Rw} {E:List Value},OwnR w o e z r n E→OwnR A o e z r n E:=fun h=>h.keep fun j D=>k.block j (h.typed D).2.1 (by have:=(h.typed D).1;simp;omega)
 exact⟨q h.rq,q h.im,q h.ep,q h.st,q h.ex⟩
theorem MM.step {S:Src} {g:Nat} {w0 W n:World} {z o:Nat} {V:Sv} {m:Md} {q q':Nat×Int} (h:MM S g w0 z o V m q W) (A:zR 147 S n g q') (j:W.grownBy n (some g)):MM S g w0 z o V m q' n:=
 ⟨(j.block _ (Array.getElem?_eq_some_iff.1 h.r6).1 (by have:=h.ge;have:=h.gl;simp;omega)).trans h.r6,(j.block _ (Array.getElem?_eq_some_iff.1 h.r7).1 (by have:=h.ge;have:=h.gl;have:=h.lt;simp;omega)).trans h.r7,h.own.grown h.gl j,A,zB h.gr j,h.ge,h.lt,h.gl⟩
theorem MM.alloc {S:Src} {g:Nat} {w0 W:World} {n j:Nat} {V:Sv} {m:Md} {q:Nat×Int} (h:MM S g w0 n j V m q W) (o:Obj):MM S g w0 n j V m q (W.alloc o):=h.step (zeL h.cur o) (zeK W o _)
theorem MM.drew {S:Src} {g:Nat} {w0 W:World} {n j:Nat} {V:Sv} {m:Md} {q:Nat×Int} (h:MM S g w0 n j V m q W):MM S g w0 n j V m q W.drew:=h.step (zbS h.cur fun _ _=>rfl) ⟨rfl,rfl,rfl,Nat.le_refl _,fun _ _ _=>rfl⟩
theorem MM.far_rq {S:Src} {g:Nat} {w0 W o:World} {A j:Nat} {V:Sv} {m:Md} {q:Nat×Int} (h:MM S g w0 A j V m q W) (z:W.grownBy o V.rq.blk):o.heap[j]? =some (.cells #[.slice V.rq.a m.rq.length V.rq.cap,.slice V.im.a m.im.length V.im.cap,.slice V.ep.a m.ep.length V.ep.cap,.slice V.st.a m.st.length V.st.cap,.slice V.ex.a m.ex.length V.ex.cap] 28 (0,0)):=
 (z.block j (Array.getElem?_eq_some_iff.1 h.r7).1 fun e=>by
  obtain⟨_,_,D,n⟩:=h.own.rq.typed e.symm
  rw[h.r7] at n
  simp only[Option.some.injEq,Obj.cells.injEq] at n
  exact absurd n.2.1 (by decide)).trans h.r7
theorem MM.app_rq {S:Src} {g:Nat} {w0 W I:World} {Q K:Nat} {V:Sv} {m:Md} {q:Nat×Int} {J:Rw} {x:ByteArray} (h:MM S g w0 Q K V m q W) (hr:OwnR I w0.heap.size 9 1 J (m.rq.length+1) (m.rq.map Value.string++[Value.string x])) (o:W.grownBy I V.rq.blk):
  MM S g w0 Q K {V with rq:=J} {m with rq:=m.rq++[x]} q (I.setCell ⟨K,0,none⟩ (.slice J.a (m.rq.length+1) J.cap)):=by
 have hz:=h.gr.size
 have A: ∀(k:Nat) (X:Array Value) (t:TypeId),W.heap[k]? =some (.cells X t (0,0))→t≠9→I.heap[k]? =W.heap[k]?:=fun k X t z ht=>o.block k (Array.getElem?_eq_some_iff.1 z).1 fun e=>by
  obtain⟨_,_,N,H⟩:=h.own.rq.typed e.symm
  rw[z] at H
  simp only[Option.some.injEq,Obj.cells.injEq] at H
  exact ht H.2.1
 have O:=(A _ _ _ h.r7 (by decide)).trans h.r7
 have j: ∀{e:TypeId} {D n:Nat} {r:Rw} (M:List Value),OwnR I w0.heap.size e D r n M→e≠28→OwnR (I.setCell ⟨K,0,none⟩ (.slice J.a (m.rq.length+1) J.cap)) w0.heap.size e D r n M:=fun M U Z=>U.keep fun k z=>zi fun e=>by
  obtain⟨_,_,N,H⟩:=U.typed z
  rw[e,O] at H
  simp only[Option.some.injEq,Obj.cells.injEq] at H
  exact Z H.2.1.symm
 have aa:=h.ge
 have ab:=h.lt
 have Y:=h.gl
 have E: ∀k,k<w0.heap.size→I.heap[k]? =W.heap[k]?:=fun k z=>by
  refine o.block k (by omega) fun e=>?_
  have:=(h.own.rq.typed e.symm).1
  omega
 refine⟨(zi (by omega)).trans ((A _ _ _ h.r6 (by decide)).trans h.r6),(za9 O).trans (by simp),⟨(j _ (by exact (by rw[List.map_append,List.length_append];exact hr)) (by decide)),(j _ (h.own.im.asideD h.own.rq (by decide) o) (by decide)),(j _ (h.own.ep.asideD h.own.rq (by decide) o) (by decide)),(j _ (h.own.st.asideD h.own.rq (by decide) o) (by decide)),(j _ (h.own.ex.asideD h.own.rq (by decide) o) (by decide))⟩,?_,?_,h.ge,h.lt,h.gl⟩
 ·exact zbS h.cur fun k z=>(zi (by omega)).trans (E k (by omega))
 ·refine⟨o.os.trans h.gr.os,o.tape.trans h.gr.tape,o.output.trans h.gr.output,?_,fun k z L=>(zi (by omega)).trans ((E k z).trans (h.gr.block k z L))⟩
  rw[World.size_setCell]
  exact Nat.le_trans h.gr.size o.size
theorem MM.far_im {S:Src} {g:Nat} {w0 W o:World} {A j:Nat} {V:Sv} {m:Md} {q:Nat×Int} (h:MM S g w0 A j V m q W) (z:W.grownBy o V.im.blk):o.heap[j]? =some (.cells #[.slice V.rq.a m.rq.length V.rq.cap,.slice V.im.a m.im.length V.im.cap,.slice V.ep.a m.ep.length V.ep.cap,.slice V.st.a m.st.length V.st.cap,.slice V.ex.a m.ex.length V.ex.cap] 28 (0,0)):=
 (z.block j (Array.getElem?_eq_some_iff.1 h.r7).1 fun e=>by
  obtain⟨_,_,D,n⟩:=h.own.im.typed e.symm
  rw[h.r7] at n
  simp only[Option.some.injEq,Obj.cells.injEq] at n
  exact absurd n.2.1 (by decide)).trans h.r7
theorem MM.app_im {S:Src} {g:Nat} {w0 W I:World} {Q K:Nat} {V:Sv} {m:Md} {q:Nat×Int} {J:Rw} {x:Im} (h:MM S g w0 Q K V m q W) (hr:OwnR I w0.heap.size 100 3 J (m.im.length+1) (m.im.flatMap imL++imL x)) (o:W.grownBy I V.im.blk):
  MM S g w0 Q K {V with im:=J} {m with im:=m.im++[x]} q (I.setCell ⟨K,1,none⟩ (.slice J.a (m.im.length+1) J.cap)):=by
 have hz:=h.gr.size
 have A: ∀(k:Nat) (X:Array Value) (t:TypeId),W.heap[k]? =some (.cells X t (0,0))→t≠100→I.heap[k]? =W.heap[k]?:=fun k X t z ht=>o.block k (Array.getElem?_eq_some_iff.1 z).1 fun e=>by
  obtain⟨_,_,N,H⟩:=h.own.im.typed e.symm
  rw[z] at H
  simp only[Option.some.injEq,Obj.cells.injEq] at H
  exact ht H.2.1
 have O:=(A _ _ _ h.r7 (by decide)).trans h.r7
 have j: ∀{e:TypeId} {D n:Nat} {r:Rw} (M:List Value),OwnR I w0.heap.size e D r n M→e≠28→OwnR (I.setCell ⟨K,1,none⟩ (.slice J.a (m.im.length+1) J.cap)) w0.heap.size e D r n M:=fun M U Z=>U.keep fun k z=>zi fun e=>by
  obtain⟨_,_,N,H⟩:=U.typed z
  rw[e,O] at H
  simp only[Option.some.injEq,Obj.cells.injEq] at H
  exact Z H.2.1.symm
 have aa:=h.ge
 have ab:=h.lt
 have Y:=h.gl
 have E: ∀k,k<w0.heap.size→I.heap[k]? =W.heap[k]?:=fun k z=>by
  refine o.block k (by omega) fun e=>?_
  have:=(h.own.im.typed e.symm).1
  omega
 refine⟨(zi (by omega)).trans ((A _ _ _ h.r6 (by decide)).trans h.r6),(za9 O).trans (by simp),⟨(j _ (h.own.rq.asideD h.own.im (by decide) o) (by decide)),(j _ (by exact (by rw[List.flatMap_append,List.length_append];simpa using hr)) (by decide)),(j _ (h.own.ep.asideD h.own.im (by decide) o) (by decide)),(j _ (h.own.st.asideD h.own.im (by decide) o) (by decide)),(j _ (h.own.ex.asideD h.own.im (by decide) o) (by decide))⟩,?_,?_,h.ge,h.lt,h.gl⟩
 ·exact zbS h.cur fun k z=>(zi (by omega)).trans (E k (by omega))
 ·refine⟨o.os.trans h.gr.os,o.tape.trans h.gr.tape,o.output.trans h.gr.output,?_,fun k z L=>(zi (by omega)).trans ((E k z).trans (h.gr.block k z L))⟩
  rw[World.size_setCell]
  exact Nat.le_trans h.gr.size o.size
theorem MM.far_ep {S:Src} {g:Nat} {w0 W o:World} {A j:Nat} {V:Sv} {m:Md} {q:Nat×Int} (h:MM S g w0 A j V m q W) (z:W.grownBy o V.ep.blk):o.heap[j]? =some (.cells #[.slice V.rq.a m.rq.length V.rq.cap,.slice V.im.a m.im.length V.im.cap,.slice V.ep.a m.ep.length V.ep.cap,.slice V.st.a m.st.length V.st.cap,.slice V.ex.a m.ex.length V.ex.cap] 28 (0,0)):=
 (z.block j (Array.getElem?_eq_some_iff.1 h.r7).1 fun e=>by
  obtain⟨_,_,D,n⟩:=h.own.ep.typed e.symm
  rw[h.r7] at n
  simp only[Option.some.injEq,Obj.cells.injEq] at n
  exact absurd n.2.1 (by decide)).trans h.r7
theorem MM.app_ep {S:Src} {g:Nat} {w0 W I:World} {Q K:Nat} {V:Sv} {m:Md} {q:Nat×Int} {J:Rw} {x:Ep} (h:MM S g w0 Q K V m q W) (hr:OwnR I w0.heap.size 102 4 J (m.ep.length+1) (m.ep.flatMap epL++epL x)) (o:W.grownBy I V.ep.blk):
  MM S g w0 Q K {V with ep:=J} {m with ep:=m.ep++[x]} q (I.setCell ⟨K,2,none⟩ (.slice J.a (m.ep.length+1) J.cap)):=by
 have hz:=h.gr.size
 have A: ∀(k:Nat) (X:Array Value) (t:TypeId),W.heap[k]? =some (.cells X t (0,0))→t≠102→I.heap[k]? =W.heap[k]?:=fun k X t z ht=>o.block k (Array.getElem?_eq_some_iff.1 z).1 fun e=>by
  obtain⟨_,_,N,H⟩:=h.own.ep.typed e.symm
  rw[z] at H
  simp only[Option.some.injEq,Obj.cells.injEq] at H
  exact ht H.2.1
 have O:=(A _ _ _ h.r7 (by decide)).trans h.r7
 have j: ∀{e:TypeId} {D n:Nat} {r:Rw} (M:List Value),OwnR I w0.heap.size e D r n M→e≠28→OwnR (I.setCell ⟨K,2,none⟩ (.slice J.a (m.ep.length+1) J.cap)) w0.heap.size e D r n M:=fun M U Z=>U.keep fun k z=>zi fun e=>by
  obtain⟨_,_,N,H⟩:=U.typed z
  rw[e,O] at H
  simp only[Option.some.injEq,Obj.cells.injEq] at H
  exact Z H.2.1.symm
 have aa:=h.ge
 have ab:=h.lt
 have Y:=h.gl
 have E: ∀k,k<w0.heap.size→I.heap[k]? =W.heap[k]?:=fun k z=>by
  refine o.block k (by omega) fun e=>?_
  have:=(h.own.ep.typed e.symm).1
  omega
 refine⟨(zi (by omega)).trans ((A _ _ _ h.r6 (by decide)).trans h.r6),(za9 O).trans (by simp),⟨(j _ (h.own.rq.asideD h.own.ep (by decide) o) (by decide)),(j _ (h.own.im.asideD h.own.ep (by decide) o) (by decide)),(j _ (by exact (by rw[List.flatMap_append,List.length_append];simpa using hr)) (by decide)),(j _ (h.own.st.asideD h.own.ep (by decide) o) (by decide)),(j _ (h.own.ex.asideD h.own.ep (by decide) o) (by decide))⟩,?_,?_,h.ge,h.lt,h.gl⟩
 ·exact zbS h.cur fun k z=>(zi (by omega)).trans (E k (by omega))
 ·refine⟨o.os.trans h.gr.os,o.tape.trans h.gr.tape,o.output.trans h.gr.output,?_,fun k z L=>(zi (by omega)).trans ((E k z).trans (h.gr.block k z L))⟩
  rw[World.size_setCell]
  exact Nat.le_trans h.gr.size o.size
theorem MM.far_st {S:Src} {g:Nat} {w0 W o:World} {A j:Nat} {V:Sv} {m:Md} {q:Nat×Int} (h:MM S g w0 A j V m q W) (z:W.grownBy o V.st.blk):o.heap[j]? =some (.cells #[.slice V.rq.a m.rq.length V.rq.cap,.slice V.im.a m.im.length V.im.cap,.slice V.ep.a m.ep.length V.ep.cap,.slice V.st.a m.st.length V.st.cap,.slice V.ex.a m.ex.length V.ex.cap] 28 (0,0)):=
 (z.block j (Array.getElem?_eq_some_iff.1 h.r7).1 fun e=>by
  obtain⟨_,_,D,n⟩:=h.own.st.typed e.symm
  rw[h.r7] at n
  simp only[Option.some.injEq,Obj.cells.injEq] at n
  exact absurd n.2.1 (by decide)).trans h.r7
theorem MM.app_st {S:Src} {g:Nat} {w0 W I:World} {Q K:Nat} {V:Sv} {m:Md} {q:Nat×Int} {J:Rw} {x:Sm} (h:MM S g w0 Q K V m q W) (hr:OwnR I w0.heap.size 106 3 J (m.st.length+1) (m.st.flatMap smL++smL x)) (o:W.grownBy I V.st.blk):
  MM S g w0 Q K {V with st:=J} {m with st:=m.st++[x]} q (I.setCell ⟨K,3,none⟩ (.slice J.a (m.st.length+1) J.cap)):=by
 have hz:=h.gr.size
 have A: ∀(k:Nat) (X:Array Value) (t:TypeId),W.heap[k]? =some (.cells X t (0,0))→t≠106→I.heap[k]? =W.heap[k]?:=fun k X t z ht=>o.block k (Array.getElem?_eq_some_iff.1 z).1 fun e=>by
  obtain⟨_,_,N,H⟩:=h.own.st.typed e.symm
  rw[z] at H
  simp only[Option.some.injEq,Obj.cells.injEq] at H
  exact ht H.2.1
 have O:=(A _ _ _ h.r7 (by decide)).trans h.r7
 have j: ∀{e:TypeId} {D n:Nat} {r:Rw} (M:List Value),OwnR I w0.heap.size e D r n M→e≠28→OwnR (I.setCell ⟨K,3,none⟩ (.slice J.a (m.st.length+1) J.cap)) w0.heap.size e D r n M:=fun M U Z=>U.keep fun k z=>zi fun e=>by
  obtain⟨_,_,N,H⟩:=U.typed z
  rw[e,O] at H
  simp only[Option.some.injEq,Obj.cells.injEq] at H
  exact Z H.2.1.symm
 have aa:=h.ge
 have ab:=h.lt
 have Y:=h.gl
 have E: ∀k,k<w0.heap.size→I.heap[k]? =W.heap[k]?:=fun k z=>by
  refine o.block k (by omega) fun e=>?_
  have:=(h.own.st.typed e.symm).1
  omega
 refine⟨(zi (by omega)).trans ((A _ _ _ h.r6 (by decide)).trans h.r6),(za9 O).trans (by simp),⟨(j _ (h.own.rq.asideD h.own.st (by decide) o) (by decide)),(j _ (h.own.im.asideD h.own.st (by decide) o) (by decide)),(j _ (h.own.ep.asideD h.own.st (by decide) o) (by decide)),(j _ (by exact (by rw[List.flatMap_append,List.length_append];simpa using hr)) (by decide)),(j _ (h.own.ex.asideD h.own.st (by decide) o) (by decide))⟩,?_,?_,h.ge,h.lt,h.gl⟩
 ·exact zbS h.cur fun k z=>(zi (by omega)).trans (E k (by omega))
 ·refine⟨o.os.trans h.gr.os,o.tape.trans h.gr.tape,o.output.trans h.gr.output,?_,fun k z L=>(zi (by omega)).trans ((E k z).trans (h.gr.block k z L))⟩
  rw[World.size_setCell]
  exact Nat.le_trans h.gr.size o.size
theorem MM.far_ex {S:Src} {g:Nat} {w0 W o:World} {A j:Nat} {V:Sv} {m:Md} {q:Nat×Int} (h:MM S g w0 A j V m q W) (z:W.grownBy o V.ex.blk):o.heap[j]? =some (.cells #[.slice V.rq.a m.rq.length V.rq.cap,.slice V.im.a m.im.length V.im.cap,.slice V.ep.a m.ep.length V.ep.cap,.slice V.st.a m.st.length V.st.cap,.slice V.ex.a m.ex.length V.ex.cap] 28 (0,0)):=
 (z.block j (Array.getElem?_eq_some_iff.1 h.r7).1 fun e=>by
  obtain⟨_,_,D,n⟩:=h.own.ex.typed e.symm
  rw[h.r7] at n
  simp only[Option.some.injEq,Obj.cells.injEq] at n
  exact absurd n.2.1 (by decide)).trans h.r7
theorem MM.app_ex {S:Src} {g:Nat} {w0 W I:World} {Q K:Nat} {V:Sv} {m:Md} {q:Nat×Int} {J:Rw} {x:Ex} (h:MM S g w0 Q K V m q W) (hr:OwnR I w0.heap.size 108 6 J (m.ex.length+1) (m.ex.flatMap exL++exL x)) (o:W.grownBy I V.ex.blk):
  MM S g w0 Q K {V with ex:=J} {m with ex:=m.ex++[x]} q (I.setCell ⟨K,4,none⟩ (.slice J.a (m.ex.length+1) J.cap)):=by
 have hz:=h.gr.size
 have A: ∀(k:Nat) (X:Array Value) (t:TypeId),W.heap[k]? =some (.cells X t (0,0))→t≠108→I.heap[k]? =W.heap[k]?:=fun k X t z ht=>o.block k (Array.getElem?_eq_some_iff.1 z).1 fun e=>by
  obtain⟨_,_,N,H⟩:=h.own.ex.typed e.symm
  rw[z] at H
  simp only[Option.some.injEq,Obj.cells.injEq] at H
  exact ht H.2.1
 have O:=(A _ _ _ h.r7 (by decide)).trans h.r7
 have j: ∀{e:TypeId} {D n:Nat} {r:Rw} (M:List Value),OwnR I w0.heap.size e D r n M→e≠28→OwnR (I.setCell ⟨K,4,none⟩ (.slice J.a (m.ex.length+1) J.cap)) w0.heap.size e D r n M:=fun M U Z=>U.keep fun k z=>zi fun e=>by
  obtain⟨_,_,N,H⟩:=U.typed z
  rw[e,O] at H
  simp only[Option.some.injEq,Obj.cells.injEq] at H
  exact Z H.2.1.symm
 have aa:=h.ge
 have ab:=h.lt
 have Y:=h.gl
 have E: ∀k,k<w0.heap.size→I.heap[k]? =W.heap[k]?:=fun k z=>by
  refine o.block k (by omega) fun e=>?_
  have:=(h.own.ex.typed e.symm).1
  omega
 refine⟨(zi (by omega)).trans ((A _ _ _ h.r6 (by decide)).trans h.r6),(za9 O).trans (by simp),⟨(j _ (h.own.rq.asideD h.own.ex (by decide) o) (by decide)),(j _ (h.own.im.asideD h.own.ex (by decide) o) (by decide)),(j _ (h.own.ep.asideD h.own.ex (by decide) o) (by decide)),(j _ (h.own.st.asideD h.own.ex (by decide) o) (by decide)),(j _ (by exact (by rw[List.flatMap_append,List.length_append];simpa using hr)) (by decide))⟩,?_,?_,h.ge,h.lt,h.gl⟩
 ·exact zbS h.cur fun k z=>(zi (by omega)).trans (E k (by omega))
 ·refine⟨o.os.trans h.gr.os,o.tape.trans h.gr.tape,o.output.trans h.gr.output,?_,fun k z L=>(zi (by omega)).trans ((E k z).trans (h.gr.block k z L))⟩
  rw[World.size_setCell]
  exact Nat.le_trans h.gr.size o.size
theorem zmL {l:List Sm} {x:Sm} (h:zdq l) (n:x.name.toList≠dN):zdq (l++[x]):=fun s j=>by
 rcases List.mem_append.1 j with j|j
 ·exact h s j
 ·rw[List.mem_singleton] at j
  rw[j]
  exact fun k=>absurd k n
theorem zmM {α:Type} {P:α→Prop} {l:List α} {k:Nat} {y:α} (h: ∀x∈l,P x) (n:P y): ∀x∈l.set k y,P x:=fun x j=>by
 rcases List.mem_or_eq_of_mem_set j with j|j
 ·exact h x j
 ·rw[j]
  exact n
theorem zmN:(({data:=#[113]}:ByteArray)).toList≠dN:=fun h=>by
 rw[Lib.toList_data] at h
 cases h
theorem zmO (v:Int) (l:List Ex): ∀(k:Nat) (x:Ex),l[k]? =some x→(l.flatMap exL).set (k*6+1) (.int .i64 v)=(l.set k {x with num:=v}).flatMap exL:=by
 induction l with
 |nil=>intro k x h;cases h
 |cons y l j=>
  intro k x h
  cases k with
  |zero=>
   cases h
   rfl
  |succ k=>
   rw[List.set_cons_succ,List.flatMap_cons,List.flatMap_cons,←j k x h,List.set_append_right _ _ (by show 6≤_;omega)]
   congr 2
   show (k+1)*6+1-6=_
   omega
theorem MM.num {S:Src} {g:Nat} {w0 W:World} {O N D:Nat} {V:Sv} {m:Md} {q:Nat×Int} {k:Nat} {x:Ex} (h:MM S g w0 O N V m q W) (hk:m.ex[k]? =some x) (U:V.ex.a=some ⟨D,0,none⟩) (v:Int):
  MM S g w0 O N V {m with ex:=m.ex.set k {x with num:=v}} q (W.setCell ⟨D,k*6+1,none⟩ (.int .i64 v)):=by
 have hb:V.ex.blk=some D:=by unfold Rw.blk;rw[U];rfl
 obtain⟨I,ab,ac,H⟩:=h.own.ex.typed hb
 have aa:=h.ge
 have Z:=h.gl
 have M: ∀(j:Nat) (X:Array Value) (t:TypeId),W.heap[j]? =some (.cells X t (0,0))→t≠108→j≠D:=fun j X t A ht e=>by
  rw[e,H] at A
  simp only[Option.some.injEq,Obj.cells.injEq] at A
  exact ht A.2.1.symm
 have o: ∀{e:TypeId} {z n:Nat} {r:Rw} {Y:List Value},OwnR W w0.heap.size e z r n Y→e≠108→OwnR (W.setCell ⟨D,k*6+1,none⟩ (.int .i64 v)) w0.heap.size e z r n Y:=fun Q he=>Q.keep fun j A=>zi (by
  obtain⟨_,_,c,hc⟩:=Q.typed A
  exact M j _ _ hc he)
 have E:OwnR (W.setCell ⟨D,k*6+1,none⟩ (.int .i64 v)) w0.heap.size 108 6 V.ex m.ex.length ((m.ex.set k {x with num:=v}).flatMap exL):=by
  have J:=h.own.ex
  unfold OwnR at J ⊢
  rw[U] at J ⊢
  rw[←zmO v m.ex k x hk]
  exact (J.stored (k*6+1) (.int .i64 v)).1
 refine⟨(zi (M _ _ _ h.r6 (by decide))).trans h.r6,?_,⟨o h.own.rq (by decide),o h.own.im (by decide),o h.own.ep (by decide),o h.own.st (by decide),?_⟩,?_,?_,h.ge,h.lt,h.gl⟩
 ·rw[zi (M _ _ _ h.r7 (by decide)),h.r7]
  simp
 ·show OwnR _ _ _ _ _ (m.ex.set k _).length _
  rw[List.length_set]
  exact E
 ·exact zbS h.cur fun j A=>zi (by omega)
 ·have L:Below 0 W (W.setCell ⟨D,k*6+1,none⟩ (.int .i64 v)):=(Below.refl 0 W).setCell (Nat.zero_le _) _
  refine⟨L.os.trans h.gr.os,L.tape.trans h.gr.tape,L.output.trans h.gr.output,?_,fun j A K=>(zi (by omega)).trans (h.gr.block j A K)⟩
  rw[World.size_setCell]
  exact h.gr.size
theorem MM.spot {S:Src} {g:Nat} {w0 W:World} {E D j:Nat} {V:Sv} {m:Md} {q:Nat×Int} {k:Nat} (h:MM S g w0 E D V m q W) (H:k<m.ex.length) (z:V.ex.a=some ⟨j,0,none⟩):W.cell? ⟨j,k*6+1,none⟩=some (.int .i64 (m.ex.getD k zg).num)∧W.frozen? ⟨j,k*6+1,none⟩=false:=by
 obtain⟨I,o,_,_,A,_⟩:=h.own.expr H
 rw[z] at o
 cases o
 refine⟨A,?_⟩
 have n:=h.own.ex
 unfold OwnR at n
 rw[z] at n
 exact n.frozenAt _
theorem Tryz.infoString:(Tryz.prog.info? 9).map (fun i=>(i.zero,i.size,i.bytes))=some (some (.string {data:=#[]}),1,16):=by kernel_rfl
theorem OwnR.addr {w:World} {j size n:Nat} {e:TypeId} {r:Rw} {xs:List Value} (h:OwnR w j e size r n xs):n=0∨∃g,r.a=some ⟨g,0,none⟩:=by
 rcases h.2 with ⟨_,z⟩|⟨g,q,A,o,_⟩
 ·exact .inl z
 ·simp only[Value.slice.injEq] at o
  exact .inr ⟨g,o.1⟩
theorem OwnR.str {w:World} {n:Nat} {e:TypeId} {r:Rw} {l:List ByteArray} {g:Nat} (h:OwnR w n e 1 r l.length (l.map .string)) (o:r.a=some ⟨g,0,none⟩) {j:Nat} (q:j<l.length):w.cell? ⟨g,j,none⟩=some (.string (l.getD j sNone)):=by
 unfold OwnR at h
 rw[o] at h
 rw[h.cellAt j (by omega)]
 simp[List.getD,q]
theorem OwnR.lt {w:World} {j size n:Nat} {e:TypeId} {r:Rw} {xs:List Value} {g:Nat} (h:OwnR w j e size r n xs) (o:r.a=some ⟨g,0,none⟩):g<w.heap.size:=(h.typed (k:=g) (by simp[Rw.blk,o,Value.ownBlock])).2.1
theorem zmP {l:List ByteArray} {x:ByteArray} {j:Nat} (n:j<l.length) (h:((l.getD j sNone).toList==x.toList)=true):zaX l x=true:=by
 rw[zaX,List.any_eq_true]
 exact⟨l[j],List.getElem_mem n,by simpa [List.getD,n] using h⟩
theorem zmQ {l:List ByteArray} {x:ByteArray} (h: ∀j,j<l.length→((l.getD j sNone).toList==x.toList)=false):zaX l x=false:=by
 rw[Bool.eq_false_iff,zaX]
 intro k
 rw[List.any_eq_true] at k
 obtain⟨y,q,n⟩:=k
 obtain⟨j,o,rfl⟩:=List.getElem_of_mem q
 have:=h j o
 simp only[List.getD,List.getElem?_eq_getElem o,Option.getD_some] at this
 rw[this] at n
 cases n
theorem zmR {C:Cx} {x:PR} {q:PS} {z:Int} (o:Is x q z) (A:(decide (z<0)&&((ze C q.pos).kind==3))=false):Is2 (bd x (zH C)) q (zbp C q.pos z) sNone:=by
 unfold zbp
 by_cases j:z<0
 ·obtain⟨n,D⟩:=zaC o j
  simp only[j,decide_true,Bool.true_and] at A
  rw[n,zz,zH,A,if_pos j]
  rfl
 ·obtain⟨e,n,D⟩:=zdc o j
  rw[n,zdU,if_neg j]
  exact D
theorem zmS (C:Cx) (H A j:Nat) (x:PR) (S:Sv) (q:PS) (z:Int) (d:Nat) (w:World) (hx:Is x q z) (M:Mem C H A j S q w) (L:(decide (z<0)&&((ze C q.pos).kind==3))=false):
  Calls Tryz.prog 131 #[pv C H A S q z d] w (zdo C H A j (bd x (zH C)) d S w):=by
 have U:=zc M
 have n:=M.tok
 have D:=M.few
 have Q:Hid (Is2 (bd x (zH C)) q (zbp C q.pos z) sNone):=zmR hx L
 clear hx M
 by_cases hz:z<0
 ·have N:decide (0≤z)=false:=decide_eq_false (by omega)
  simp only[hz,decide_true,Bool.true_and] at L
  by_cases hp:q.pos<C.ts.length
  ·obtain⟨J,_,_,_⟩:=n.cells hp (d:=⟨0,sNone,0,C.fin⟩)
   have aa:=(zan n).1
   change _=some (Value.int .i64 (ze C q.pos).kind) at J
   generalize O:ze C q.pos=t at J L
   have ab:(t.kind !=3)=true:=by rw[bne,L];rfl
   clear O
   unfold pv
   go_enter Tryz.func131,Tryz.ntmps131
   go_wp2_with fail
   refine (zda C H A j S q z d _ (zq (zq n _) _) D).mono ?_
   rintro e V ⟨rfl,o⟩
   have E:Hid (_=_):=(zcz o).2
   obtain⟨J,c1,Y,Z,c4,c5,c6,c7,X,c9,I,K,cf⟩:=zaj E.out
   unfold pv
   go_wp2
   refine bodyPost_ret (zaA rfl _ _ (w.heap.size+1) 53 _ (0,0) _ rfl (zaS E.out) Tryz.underlying53 rfl (by kernel_rfl)) rfl ?_
   exact zd4 rfl Q.out U.out (zbD (zaZ o) (Nat.le_succ _) ..)
  ·unfold pv
   go_enter Tryz.func131,Tryz.ntmps131
   go_wp2_with fail
   refine (zda C H A j S q z d _ (zq (zq n _) _) D).mono ?_
   rintro e V ⟨rfl,o⟩
   have E:Hid (_=_):=(zcz o).2
   obtain⟨J,c1,Y,Z,c4,c5,c6,c7,X,c9,I,K,cf⟩:=zaj E.out
   unfold pv
   go_wp2
   refine bodyPost_ret (zaA rfl _ _ (w.heap.size+1) 53 _ (0,0) _ rfl (zaS E.out) Tryz.underlying53 rfl (by kernel_rfl)) rfl ?_
   exact zd4 rfl Q.out U.out (zbD (zaZ o) (Nat.le_succ _) ..)
 ·have N:decide (0≤z)=true:=decide_eq_true (by omega)
  unfold pv
  go_enter Tryz.func131,Tryz.ntmps131
  go_wp2_with fail
  refine (zda C H A j S q z d _ (zq (zq n _) _) D).mono ?_
  rintro e V ⟨rfl,o⟩
  have E:Hid (_=_):=(zcz o).2
  obtain⟨J,c1,Y,Z,c4,c5,c6,c7,X,c9,I,K,cf⟩:=zaj E.out
  unfold pv
  go_wp2
  refine bodyPost_ret (zaA rfl _ _ (w.heap.size+1) 53 _ (0,0) _ rfl (zaS E.out) Tryz.underlying53 rfl (by kernel_rfl)) rfl ?_
  exact zd4 rfl Q.out U.out (zbD (zaZ o) (Nat.le_succ _) ..)
def txt (C:Cx) (q:PS):ByteArray:=(ze C q.pos).text
theorem zmT {C:Cx} {q:PS} (n:((ze C q.pos).kind==3)=true) (j:zaX q.rq (txt C q)=true):zH C q= .ok (adv q,txt C q):=by
 unfold txt at j
 rw[zH,if_pos n,if_pos j];rfl
theorem zmU {C:Cx} {q:PS} (n:((ze C q.pos).kind==3)=true) (j:zaX q.rq (txt C q)=false) (o:40≤q.rq.length):zH C q= .error (zr C q.pos):=by
 unfold txt at j
 rw[zH,if_pos n,j,if_pos o];rfl
theorem zmV {C:Cx} {q:PS} (n:((ze C q.pos).kind==3)=true) (j:zaX q.rq (txt C q)=false) (o: ¬40≤q.rq.length):zH C q= .ok ({adv q with rq:=q.rq++[txt C q]},txt C q):=by
 unfold txt at j
 rw[zH,if_pos n,j,if_neg o];rfl
theorem zi3 (C:Cx) (Z z n:Nat) (S:Sv) (q:PS) (d:Nat) (w:World) (J:Mem C Z z n S q w) (X:((ze C q.pos).kind==3)=true) (g:Nat) (E:q.rq.length=0∨S.rq.a=some ⟨g,0,none⟩):
  Calls Tryz.prog 131 #[pv C Z z S q (-1) d] w (zdo C Z z n (zH C q) d S w):=by
 obtain⟨i0,hi,ag,ad,ai⟩:=info_parts Tryz.infoString
 have o:=zc J
 have H3:=zc X
 have K:q.pos<C.ts.length:=zfn X (by decide)
 have ak:=J.few
 have ap:=J.inv.rq
 have aj:=(zan J.tok).1
 obtain⟨c0,c1,_,_⟩:=J.tok.cells K (d:=⟨0,sNone,0,C.fin⟩)
 change _=some (Value.int .i64 (ze C q.pos).kind) at c0
 change _=some (Value.string (txt C q)) at c1
 generalize (ze C q.pos).kind=kd at c0 X
 have am:(kd !=3)=false:=by rw[bne,X];rfl
 have aa:=zc E
 obtain⟨R,hR⟩: ∃R:Nat→ByteArray,∀j,R j=q.rq.getD j sNone:=⟨fun j=>q.rq.getD j sNone,fun _=>rfl⟩
 have HR:=zc hR
 have HC:Hid (∀j,j<q.rq.length→w.cell? ⟨g,j,none⟩=some (.string (R j))):=fun j O=>by
  rcases E with e|e
  ·omega
  ·rw[hR];exact o.out.own.rq.str e O
 clear hR
 generalize N:txt C q=tx at c1
 have A:=zc N
 have D:=fun o1 o2 o3=>((o.out.own.rq.alloc o1).alloc o2).alloc o3
 clear N J E
 unfold pv
 go_enter Tryz.func131,Tryz.ntmps131
 go_wp2
 go_loop [5] (fun i=>∃k:Nat,k≤q.rq.length∧i= .int .i64 k∧∀j,j<k→¬(R j).toList=tx.toList) (fun i=>(q.rq.length-intOf i).toNat)
 case atStart=>exact⟨0,Nat.zero_le _,rfl,fun j O=>absurd O (Nat.not_lt_zero j)⟩
 case round=>
  obtain⟨k,hk,rfl,V⟩:=hrel
  have Q:=zc V
  clear V
  by_cases U:k<q.rq.length
  ·have ha:S.rq.a=some ⟨g,0,none⟩:=aa.out.elim (fun e=>by omega) id
   have aq:=HC.out k U
   have ao:=o.out.own.rq.lt ha
   cases he:((R k).toList==tx.toList) with
   |true=>
    have M:Hid (zH C q= .ok (adv q,tx)):=by
     show zH C q= .ok (adv q,tx)
     rw[←A.out]
     exact zmT H3.out (zmP U (by rw[←HR.out,A.out];exact he))
    have HA:=zc ha
    go_wp2
    refine bodyPost_ret (zaA rfl _ _ (w.heap.size+1) 53 _ (0,0) _ rfl (zbq w _ _) Tryz.underlying53 rfl (by kernel_rfl)) rfl ?_
    rw[M.out]
    exact zd4 (q':=adv q) (z':=-1) (by rw[pv,HA.out];rfl) ⟨rfl,rfl,rfl⟩ (o.out.adv K) (zaT w _ _)
   |false=>
    have HX:Hid (∀j,j<k+1→¬(R j).toList=tx.toList):=fun j O=>by
     by_cases e:j=k
     ·rw[e];exact beq_eq_false_iff_ne.1 he
     ·exact Q.out j (by omega)
    go_wp2
    go_round
    case rel=>exact⟨k+1,by omega,by go_num,HX.out⟩
    case measure=>simp[intOf];omega
  ·have HN:Hid (zaX q.rq (txt C q)=false):=zmQ fun j O=>by rw[A.out,←HR.out];exact beq_eq_false_iff_ne.2 (Q.out j (by omega))
   by_cases hn:40≤q.rq.length
   ·have qn:decide ((40:Int)≤(q.rq.length:Int))=true:=decide_eq_true (by omega)
    have M:Hid (zH C q= .error (zr C q.pos)):=zmU H3.out HN.out hn
    go_wp2_with fail
    refine (zeE C Z z n S (adv q) (-1) d _ (((o.out.adv K).alloc _).alloc _) (by decide) (by simp[adv])).mono ?_
    rintro e w2 ⟨rfl,I⟩
    have G3:Hid (_=_):=(zcz I).2
    obtain⟨b0,b1,b2,b3,b4,b5,b6,b7,b8,b9,ac,ab,bf⟩:=zaj G3.out
    have HB:Hid (Below w.heap.size w w2):=zaZ I
    clear I
    unfold pv
    go_wp2
    refine bodyPost_ret (zaA rfl _ _ (w.heap.size+1) 53 _ (0,0) _ rfl (zaS G3.out) Tryz.underlying53 rfl (by kernel_rfl)) rfl ?_
    rw[M.out]
    exact zd4 (q':=adv q) (z':=(zr C q.pos:Int)) rfl rfl (o.out.adv K) (zbD HB.out (Nat.le_succ _) ..)
   ·have qn:decide ((40:Int)≤(q.rq.length:Int))=false:=decide_eq_false (by omega)
    have M:Hid (zH C q= .ok ({adv q with rq:=q.rq++[tx]},tx)):=by
     show zH C q= .ok ({adv q with rq:=q.rq++[tx]},tx)
     rw[←A.out]
     exact zmV H3.out HN.out hn
    go_wp2_with (at_builtin;refine zcu _ rfl _ _ 22 rfl n 9 i0 _ 1 16 Tryz.underlying22 hi ag ad ai rfl (by decide) (by decide) S.rq q.rq.length _ (by rfl) (D _ _ _) (w.heap.size+1+1) [.string tx] (by rfl) (by exact (zaL w _ _ _).2.2) rfl (by intro u hu;simp at hu;subst hu;rfl) (by omega) (by have:=o.out.base;rw[zaa];omega) ?_)
    intro r' w2 hr Y L
    have ah:=zc hr
    have HG:=zc Y
    have ae:=zc L
    have H:=fun b hb=>zd5 (W:=w) o.out.own (Nat.le_refl _) (r:=S.rq.blk) (fun k e=>.inl e) b hb
    have g1:=(Y.block w.heap.size (by rw[zaa];omega) (H _ (Nat.le_refl _))).trans (zaL w _ _ _).1
    have g2:=(Y.block (w.heap.size+1) (by rw[zaa];omega) (H _ (by omega))).trans (zaL w _ _ _).2.1
    obtain⟨a0,a1,a2,a3,a4,a5,a6,a7,a8,a9,an,al,af⟩:=zaj g1
    obtain⟨b0,b1,b2,b3,b4,b5,b6,b7,b8,b9,ac,ab,bf⟩:=zaj g2
    have G2:=zc g2
    clear g1 g2 Y hr L H D
    go_wp2
    refine bodyPost_ret (zaA rfl _ _ (w.heap.size+1) 53 _ (0,0) _ rfl (zaS ((zi (by omega)).trans G2.out)) Tryz.underlying53 rfl (by kernel_rfl)) rfl ?_
    obtain⟨m',s'⟩:=(o.out.adv K).grow_rq (x:=tx) (zcI w _ _ _) HG.out ah.out (by rw[zaa];exact ae.out) (((Off.refl _ _ _).set (b:=w.heap.size) (Nat.le_refl _) (by rw[zaa];omega) _ _).set12 (b:=w.heap.size+1) (by omega) (by rw[zaa];omega) ..) (by show q.rq.length<40;omega)
    rw[M.out]
    exact⟨_,{adv q with rq:=q.rq++[tx]},-1,tx,by simp[pv,adv],⟨rfl,rfl,rfl⟩,m',s'⟩
theorem zdA (C:Cx) (o n j:Nat) (x:PR) (S:Sv) (q:PS) (z:Int) (d:Nat) (w:World) (E:Is x q z) (D:Mem C o n j S q w):
  Calls Tryz.prog 131 #[pv C o n S q z d] w (zdo C o n j (bd x (zH C)) d S w):=by
 cases A:(decide (z<0)&&((ze C q.pos).kind==3)) with
 |false=>exact zmS C o n j x S q z d w E D A
 |true=>
  rw[Bool.and_eq_true,decide_eq_true_eq] at A
  obtain⟨rfl,rfl⟩:=zaC E A.1
  rw[zz]
  rcases D.own.rq.addr with e|⟨g,e⟩
  ·exact zi3 C o n j S q d w D A.2 0 (.inl e)
  ·exact zi3 C o n j S q d w D A.2 g (.inr e)
end Go.Proofs.YticdggnnpjachaaGreat
