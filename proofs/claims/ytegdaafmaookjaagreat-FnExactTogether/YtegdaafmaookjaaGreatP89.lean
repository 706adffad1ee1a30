/- Facts. -/
import Derived.Test.YtegdaafmaookjaaGreatP86
namespace Go.Proofs.YtegdaafmaookjaaGreat
open Go.RowKit Go.PlainAid
abbrev In2:=Int×Int
def inE:Enc In2:=⟨fun x=>[.int .i64 x.1,.int .i64 x.2],2,fun _=>rfl,by decide,fun x v hv=>by simp at hv;rcases hv with rfl|rfl<;>rfl⟩
def stE:Enc BA0:=⟨fun x=>[.string x],1,fun _=>rfl,by decide,fun x v hv=>by simp at hv;rw[hv];rfl⟩
def itE:Enc Int:=⟨fun x=>[.int .i64 x],1,fun _=>rfl,by decide,fun x v hv=>by simp at hv;rw[hv];rfl⟩
structure Cd where
 ins:List In2
 cells:List BA0
 ent:List Int
structure CA where
 a0:Option Addr
 c0:Nat
 a1:Option Addr
 c1:Nat
 a2:Option Addr
 c2:Nat
def z0m (A:CA) (c:Cd):Value:=.agg #[.slice A.a0 c.ins.length A.c0,.slice A.a1 c.cells.length A.c1,.slice A.a2 c.ent.length A.c2]
structure CodeAt (w:World) (A:CA) (c:Cd):Prop where
 ins:RowAt w A.a0 inE.f 2 c.ins
 cells:RowAt w A.a1 stE.f 1 c.cells
 ent:RowAt w A.a2 itE.f 1 c.ent
open Nat (le_refl zero_mul)
open Go.Proofs.Tryz
set_option maxHeartbeats 3200000
set_option maxRecDepth 100000
def zM (n:Nat) (p:Nat->Bool):List Int:=((List.range n).filter p).map (fun (j:Nat)=>Int.ofNat j)
theorem zdw (p:Nat->Bool) (k:Nat):zM (k+1) p=if p k=true then zM k p++[Int.ofNat k] else zM k p:=by
 rw[zM,List.range_succ,List.filter_append,List.map_append];cases h:p k<;>simp[h,zM]
section
variable (g b:Nat) (w:Option Addr) (c d:Nat) (W:Rw) (V:World) {C:TypeId} {S q:World} {n k m z:Nat} {s:Nat->Bool} {x:Rw} {p:Nat->Value} {t:Value} {h:Option Nat}
theorem zei (p:Nat->Bool):(zM g p).length<=g:=by
 rw[zM,List.length_map];exact Nat.le_trans (List.length_filter_le _ _) (Nat.le_of_eq List.length_range)
def InG (g:Gr) (mm:Int):Prop:=GrS g/\0<=mm/\mm<(g.ms.length:Int)
def zfP (g:Gr) (mm:Int) (p:Nat->Nat->Bool) (w:World) (e:Ending) (w':World):Prop:=
 ∃a n cap l,e= .returned (.slice a n cap)/\OutE itE 3 w' w.heap.size a n cap l/\Bw w w'/\(InG g mm->l=zM g.ms.length (p mm.toNat))/\(¬InG g mm->l=[])
theorem zgD {α:Type} {E:Enc α} {B:Nat} {a:Option Addr} {l:List α} (h:OutE E C S n a B m l) (I:k<=n):OutE E C S k a B m l:=
 ⟨h.1,fun D=>by obtain⟨g,H,A⟩:=h.2 D;exact⟨g,H,A.low I⟩⟩
theorem zdc {o:Obj} (h:S.heap[n]? =some o) (A:Bw S q):q.heap[n]? =some o:=(A.block n (aLt h)).trans h
open Go.Sort
def zcR:Nat->Nat->BA0->BA0
 |0,_,o=>o
 |f+1,k,o=>if k=0 then o else zcR f (k/10) (strOfNums [48+(k:Int)%10]++o)
def mtS (k:Nat):BA0:={data:=#[109]}++zcR k k {data:=#[]}
theorem zyJ (o:BA0):zcR g 0 o=o:=by cases g<;>rfl
theorem zyK {o:BA0} (h:k<=n) (w:0<k): ∃q,k/10<=q/\zcR n k o=zcR q (k/10) (strOfNums [48+(k:Int)%10]++o):=by
 match n,h with
 |0,h=>omega
 |n+1,h=>exact⟨n,by omega,by rw[zcR,if_neg (by omega)]⟩
theorem zdx (_:0<g) (X:g<=8000000):
  Calls prog 85 #[.int .i64 g] V fun e w'=>e= .returned (.string (mtS g))/\Bw V w':=by
 go_enter func85,ntmps85;go_wp2;go_loopw [0,3] (fun i o wr=>∃(k f m:Nat) (x:BA0),i= .int .i64 k/\o= .string x/\k<=f/\k<=8000000/\zcR f k x=zcR g g {data:=#[]}/\x.size<=m/\k+m<=8000000/\Bw V wr) (fun i _ _=>(intOf i).toNat)
 case atStart=>exact⟨g,g,0,_,rfl,rfl,le_refl _,X,rfl,le_refl _,by omega,Below.refl _ _⟩
 case round=>
  obtain⟨k,f,m,x,rfl,rfl,J,U,K,hx,N,I⟩:=hrel;have M:Hid (zcR f k x=zcR g g {data:=#[]}):=K;clear K;by_cases O:0<k
  ·obtain⟨L,H,q⟩:=zyK (o:=x) J O;have Y:Hid (zcR L (k/10) (strOfNums [48+(k:Int)%10]++x)=zcR g g {data:=#[]}):=q.symm.trans M.o;have q:=fun (V:World) (x:Int)=>zin (P:=prog) (src:=146) (dst:=9) underlying146 underlying5 underlying9 V x;have A:=fun x=>strOfNums_size [x];have B:k/10+1<=k:=by omega
   go_wp2;go_roundw
   case rel=>exact⟨k/10,L,m+1,_,by go_num,rfl,H,by omega,Y.o,by rw[sA,A];simp;omega,by omega,I.alloc I.size _⟩
   case measure=>simp[intOf];omega
  ·obtain rfl:k=0:=by omega
   have Z:Hid (x=zcR g g {data:=#[]}):=by have:=M.o;rw[zyJ] at this;exact this
   go_wp2;go_ret;exact⟨za9 (by rw[Z.o];rfl),I⟩
def FK (kd:Nat->Bool) (m k i:Nat):Value:=if kd (i%m) then .string (mtS (k+i)) else .int .i64 ((k+i:Nat):Int)
theorem zdy {i c:Nat} (w:i%n=c) (A:s c=true) (H:z=k+i):FK s n k i= .string (mtS z):=by rw[FK,w,A,H];rfl
theorem zej {i c:Nat} (w:i%n=c) (A:s c=false) (H:z=k+i):FK s n k i= .int .i64 (z:Int):=by rw[FK,w,A,H];rfl
def OwnG (w:World) (base:Nat) (e:TypeId) (size:Nat) (r:Rw) (n:Nat) (F:Nat->Value) (c:Nat):Prop:=∃xs,OwnR w base e size r n xs/\∀i,i<c->xs[i]? =some (F i)
theorem OwnG.start {A:Nat} {xs:List Value} (h:OwnR S n C k x A xs) (F:Nat->Value):OwnG S n C k x A F 0:=⟨xs,h,fun i q=>absurd q (Nat.not_lt_zero i)⟩
theorem OwnG.keep {size D:Nat} (h:OwnG S n C size x D p m) (H: ∀k,x.blk=some k->q.heap[k]? =S.heap[k]?):OwnG q n C size x D p m:=by
 obtain⟨A,I,B⟩:=h;exact⟨A,I.keep H,B⟩
theorem OwnG.typed {size B:Nat} {r:Rw} (h:OwnG S n C size r B p m) {k:Nat} (A:r.blk=some k):n<=k/\k<S.heap.size/\∃q,S.heap[k]? =some (.cells q C (0,0)):=by
 obtain⟨I,H,_⟩:=h;exact H.typed A
theorem OwnG.later {B:Nat} (h:OwnG S n C k x B p m) (A:Bw S q):OwnG q n C k x B p m:=h.keep fun D g=>A.block D (h.typed g).2.1
theorem OwnR.at {w:World} {base size n g:Nat} {e:TypeId} {r:Rw} {xs:List Value} (h:OwnR w base e size r n xs) (q:r.a=some ⟨g,0,none⟩):w.ownsRow base e size (.slice (some ⟨g,0,none⟩) n r.cap) n xs:=by
 unfold OwnR at h;rw[q] at h;exact h
theorem OwnG.has {B:Nat} (h:OwnG S n C k x B p m) (H:x.a=some ⟨z,0,none⟩) (i:Nat) (A:i<B*k): ∃v,S.cell? ⟨z,i,none⟩=some v:=by
 obtain⟨I,q,_⟩:=h;rw[(q.at H).cellAt i A];exact⟨_,gE (by rw[q.1];exact A)⟩
theorem OwnG.free {B:Nat} (h:OwnG S n C k x B p m) (A:x.a=some ⟨z,0,none⟩) (i:Nat):S.frozen? ⟨z,i,none⟩=false:=by
 obtain⟨H,q,_⟩:=h;exact (q.at A).frozenAt i
theorem zbA (h:x.a=some ⟨n,0,none⟩):x.blk=some n:=by rw[Rw.blk,h];rfl
theorem OwnG.put {B:Nat} {e:TypeId} (h:OwnG S n e k x B p m) (A:x.a=some ⟨z,0,none⟩) (L:m<B*k) (H:p m=t):OwnG (S.setCell ⟨z,m,none⟩ t) n e k x B p (m+1):=by
 subst H;obtain⟨J,q,I⟩:=h;have K:=q.1;refine⟨J.set m (p m),?_,fun i M=>?_⟩
 ·unfold OwnR;rw[A];exact ((q.at A).stored m (p m)).1
 ·by_cases e:i=m
  ·subst e;exact List.getElem?_set_self (by omega)
  ·rw[List.getElem?_set_ne (by omega)];exact I i (by omega)
theorem zdd (b:Option Nat):V.grownBy V b:=⟨rfl,rfl,rfl,le_refl _,fun _ _ _=>rfl⟩
theorem zoz {I:World} (D:S.grownBy q h) (k:q.grownBy I h):S.grownBy I h:=
 ⟨k.os.trans D.os,k.tape.trans D.tape,k.output.trans D.output,Nat.le_trans D.size k.size,fun i A B=>(k.block i (Nat.lt_of_lt_of_le A D.size) B).trans (D.block i A B)⟩
theorem zdz {A:World} (B:S.grownBy q h) (k:Bw q A):S.grownBy A h:=
 zoz B ⟨k.os,k.tape,k.output,k.size,fun i H _=>k.block i H⟩
theorem zbB (D:S.grownBy q h) (H:h=some n):S.grownBy (q.setCell ⟨n,k,none⟩ t) h:=
 zoz D ⟨rfl,rfl,rfl,by show _<=(q.heap.modify _ _).size;simp,fun B _ A=>Below.heap_setCell q ⟨n,k,none⟩ t B (fun e=>A (by rw[H,e]))⟩
theorem zyL (B:World):Calls prog 59 #[.slice w 0 c,.int .i64 d] B fun e w'=>e= .returned (.int .i64 d)/\w'=B:=by
 go_enter func59,ntmps59;go_wp2;go_loopg [1,5] 1 (fun k q i wr=>k=1/\q= .int .i64 d/\i= .int .i64 0/\wr=B)
 case atStart=>exact⟨rfl,rfl,rfl,rfl⟩
 case round=>
  obtain⟨rfl,rfl,rfl,rfl⟩:=hrel;go_wp2;go_ret;exact⟨rfl,rfl⟩
theorem zyM (B n h:Nat) (r:Rw) (w:World) (h1:OwnG w g 9 1 r n (FK (fun _=>true) 1 h) 0) (e1:r.a=some ⟨B,0,none⟩) (hn:n<=1048576) (ak:0<h) (hk:h+n*1<=7900000):
  Calls prog 59 #[.slice (some ⟨B,0,none⟩) n r.cap,.int .i64 h] w fun e w'=>e= .returned (.int .i64 ((h+n:Nat):Int))/\OwnG w' g 9 1 r n (FK (fun _=>true) 1 h) (n)/\w.grownBy w' r.blk:=by
 have H1:=zc h1;have N:=zc e1;clear h1 e1;go_enter func59,ntmps59;go_wp2;go_loopg [1,5] n (fun k q i wr=>∃j:Nat,i= .int .i64 j/\j+k=n/\q= .int .i64 ((h+j:Nat):Int)/\OwnG wr g 9 1 r n (FK (fun _=>true) 1 h) (j)/\w.grownBy wr r.blk)
 case atStart=>exact⟨0,rfl,by omega,by simp,by exact H1.o,zdd _ _⟩
 case round=>
  obtain⟨j,rfl,hj,hq,ho,hg⟩:=hrel;have H:=zc ho;have V:=zc hg;clear ho hg;by_cases aj:j<n
  ·have X:(j:Int)<(n:Int):=by omega
   obtain⟨A,U⟩: ∃A:Nat,A=h+(j):=⟨_,rfl⟩;rw[<-U] at hq;subst hq;obtain⟨J,ac⟩: ∃J:Nat,J=A+1:=⟨_,rfl⟩;have am:(A:Int)+1=(J:Int):=by omega
   have ad:Hid (FK (fun _=>true) 1 h (j)= .string (mtS A)):=zdy (c:=0) (by omega) (by decide) (by omega);have HQ:Hid (J=h+(j+1)):=by show J=_;omega
   have al:J<=7950000:=by omega
   have ah:0<A:=by omega
   have I:Hid (0<A/\A<=8000000):=⟨by omega,by omega⟩;obtain⟨M,O⟩: ∃M,M=j+1:=⟨_,rfl⟩;have ej:(j:Int)+1=(M:Int):=by omega
   have HJ:=zc O;clear O U ac;obtain⟨an,ai⟩:=H.o.has N.o (j) (by omega);have ag:=H.o.free N.o (j);go_wp2_with fail;refine (zdx A _ I.o.1 I.o.2).mono ?_;rintro e w0 ⟨rfl,K⟩;have L:=zc (H.o.later K);have af:=zc (zdz V.o K);clear K;obtain⟨ae,aa⟩:=L.o.has N.o (j) (by omega);have ab:=L.o.free N.o (j);have Z:Hid (OwnG (w0.setCell ⟨B,j,none⟩ (.string (mtS A))) g 9 1 r n (FK (fun _=>true) 1 h) (j+1)):=L.o.put N.o (by omega) ad.o;have Y:Hid (w.grownBy (w0.setCell ⟨B,j,none⟩ (.string (mtS A))) r.blk):=zbB af.o (zbA N.o);go_wp2;go_roundg (gk-1)
   case rel=>exact⟨M,rfl,by have:=HJ.o;omega,by have:=HJ.o;have:=HQ.o;rw[show J=h+M from by omega],by have:=Z.o;rw[show M=j+1 from by have:=HJ.o;omega];exact this,Y.o⟩
   case measure=>omega
  ·have X: ¬(j:Int)<(n:Int):=by omega
   obtain rfl:j=n:=by omega
   subst hq;go_wp2;go_ret;exact⟨rfl,H.o,V.o⟩
theorem zo0 (I:OwnG V g 9 1 W b (FK (fun _=>true) 1 c) 0) (N:b<=1048576) (q:0<c) (K:c+b*1<=7900000):
  Calls prog 59 #[.slice W.a b W.cap,.int .i64 c] V fun e w'=>e= .returned (.int .i64 ((c+b:Nat):Int))/\OwnG w' g 9 1 W b (FK (fun _=>true) 1 c) (b)/\V.grownBy w' W.blk:=by
 by_cases J:b=0
 ·subst J;refine (zyL _ _ c V).mono ?_;rintro e O ⟨rfl,rfl⟩;exact⟨by simp,by exact I,zdd _ _⟩
 ·obtain⟨L,H,M⟩:=I;rcases H.nil_or with ⟨_,_,e⟩|⟨B,A⟩
  ·exact absurd e J
  ·rw[A];exact zyM g B b c W V ⟨L,H,M⟩ A N q K
theorem zyN (B:World):Calls prog 86 #[.slice w 0 c,.int .i64 d] B fun e w'=>e= .returned (.int .i64 d)/\w'=B:=by
 go_enter func86,ntmps86;go_wp2;go_loopg [1,5] 1 (fun k q i wr=>k=1/\q= .int .i64 d/\i= .int .i64 0/\wr=B)
 case atStart=>exact⟨rfl,rfl,rfl,rfl⟩
 case round=>
  obtain⟨rfl,rfl,rfl,rfl⟩:=hrel;go_wp2;go_ret;exact⟨rfl,rfl⟩
theorem zyO (B n H:Nat) (r:Rw) (w:World) (h1:OwnG w g 101 3 r n (FK (fun _=>true) 3 H) 0) (e1:r.a=some ⟨B,0,none⟩) (hn:n<=1048576) (aX:0<H) (hk:H+n*3<=7900000):
  Calls prog 86 #[.slice (some ⟨B,0,none⟩) n r.cap,.int .i64 H] w fun e w'=>e= .returned (.int .i64 ((H+n*3:Nat):Int))/\OwnG w' g 101 3 r n (FK (fun _=>true) 3 H) (n*3)/\w.grownBy w' r.blk:=by
 have H1:=zc h1;have h:=zc e1;clear h1 e1;go_enter func86,ntmps86;go_wp2;go_loopg [1,5] n (fun k q i wr=>∃j:Nat,i= .int .i64 j/\j+k=n/\q= .int .i64 ((H+j*3:Nat):Int)/\OwnG wr g 101 3 r n (FK (fun _=>true) 3 H) (j*3)/\w.grownBy wr r.blk)
 case atStart=>exact⟨0,rfl,by omega,by simp,by rw[zero_mul];exact H1.o,zdd _ _⟩
 case round=>
  obtain⟨j,rfl,hj,hq,ho,hg⟩:=hrel;have A:=zc ho;have ab:=zc hg;clear ho hg;by_cases aW:j<n
  ·have af:(j:Int)<(n:Int):=by omega
   obtain⟨L,ae⟩: ∃L:Nat,L=H+(j*3):=⟨_,rfl⟩;rw[<-ae] at hq;subst hq;obtain⟨M,aI⟩: ∃M:Nat,M=L+1:=⟨_,rfl⟩;have a3:(L:Int)+1=(M:Int):=by omega
   obtain⟨K,aD⟩: ∃K:Nat,K=M+1:=⟨_,rfl⟩;have aV:(M:Int)+1=(K:Int):=by omega
   obtain⟨V,az⟩: ∃V:Nat,V=K+1:=⟨_,rfl⟩;have aY:(K:Int)+1=(V:Int):=by omega
   have aE:Hid (FK (fun _=>true) 3 H (j*3)= .string (mtS L)):=zdy (c:=0) (by omega) (by decide) (by omega);have aA:Hid (FK (fun _=>true) 3 H (j*3+1)= .string (mtS M)):=zdy (c:=1) (by omega) (by decide) (by omega);have aL:Hid (FK (fun _=>true) 3 H (j*3+2)= .string (mtS K)):=zdy (c:=2) (by omega) (by decide) (by omega);have HQ:Hid (V=H+(j*3+3)):=by show V=_;omega
   have a0:V<=7950000:=by omega
   have aS:0<L:=by omega
   have U:Hid (0<L/\L<=8000000):=⟨by omega,by omega⟩;have O:Hid (0<M/\M<=8000000):=⟨by omega,by omega⟩;have N:Hid (0<K/\K<=8000000):=⟨by omega,by omega⟩;obtain⟨j1,ad⟩: ∃j1,j1=j+1:=⟨_,rfl⟩;have ej:(j:Int)+1=(j1:Int):=by omega
   have HJ:=zc ad;clear ad ae aI aD az;obtain⟨a1,aP⟩:=A.o.has h.o (j*3) (by omega);have aO:=A.o.free h.o (j*3);obtain⟨aZ,aQ⟩:=A.o.has h.o (j*3+1) (by omega);have aR:=A.o.free h.o (j*3+1);obtain⟨a2,aU⟩:=A.o.has h.o (j*3+2) (by omega);have aT:=A.o.free h.o (j*3+2);go_wp2_with fail;refine (zdx L _ U.o.1 U.o.2).mono ?_;rintro e w0 ⟨rfl,Y⟩;have I:=zc (A.o.later Y);have aH:=zc (zdz ab.o Y);clear Y;obtain⟨aG,aq⟩:=I.o.has h.o (j*3) (by omega);have ax:=I.o.free h.o (j*3);obtain⟨aM,ay⟩:=I.o.has h.o (j*3+1) (by omega);have ao:=I.o.free h.o (j*3+1);obtain⟨aB,an⟩:=I.o.has h.o (j*3+2) (by omega);have ar:=I.o.free h.o (j*3+2);have ag:Hid (OwnG (w0.setCell ⟨B,j*3,none⟩ (.string (mtS L))) g 101 3 r n (FK (fun _=>true) 3 H) (j*3+1)):=I.o.put h.o (by omega) aE.o;have ac:Hid (w.grownBy (w0.setCell ⟨B,j*3,none⟩ (.string (mtS L))) r.blk):=zbB aH.o (zbA h.o);go_wp2_with fail;refine (zdx M _ O.o.1 O.o.2).mono ?_;rintro e w1 ⟨rfl,aa⟩;have J:=zc (ag.o.later aa);have aN:=zc (zdz ac.o aa);clear aa;obtain⟨aC,ap⟩:=J.o.has h.o (j*3+1) (by omega);have au:=J.o.free h.o (j*3+1);obtain⟨aJ,aw⟩:=J.o.has h.o (j*3+2) (by omega);have al:=J.o.free h.o (j*3+2);have ai:Hid (OwnG (w1.setCell ⟨B,j*3+1,none⟩ (.string (mtS M))) g 101 3 r n (FK (fun _=>true) 3 H) (j*3+1+1)):=J.o.put h.o (by omega) aA.o;have ah:Hid (w.grownBy (w1.setCell ⟨B,j*3+1,none⟩ (.string (mtS M))) r.blk):=zbB aN.o (zbA h.o);go_wp2_with fail;refine (zdx K _ N.o.1 N.o.2).mono ?_;rintro e w2 ⟨rfl,Z⟩;have X:=zc (ai.o.later Z);have aF:=zc (zdz ah.o Z);clear Z;obtain⟨aK,av⟩:=X.o.has h.o (j*3+2) (by omega);have am:=X.o.free h.o (j*3+2);have ak:Hid (OwnG (w2.setCell ⟨B,j*3+2,none⟩ (.string (mtS K))) g 101 3 r n (FK (fun _=>true) 3 H) (j*3+2+1)):=X.o.put h.o (by omega) aL.o;have aj:Hid (w.grownBy (w2.setCell ⟨B,j*3+2,none⟩ (.string (mtS K))) r.blk):=zbB aF.o (zbA h.o);go_wp2;go_roundg (gk-1)
   case rel=>exact⟨j1,rfl,by have:=HJ.o;omega,by have:=HJ.o;have:=HQ.o;rw[show V=H+j1*3 from by omega],by have:=ak.o;rw[show j1*3=j*3+2+1 from by have:=HJ.o;omega];exact this,aj.o⟩
   case measure=>omega
  ·have af: ¬(j:Int)<(n:Int):=by omega
   obtain rfl:j=n:=by omega
   subst hq;go_wp2;go_ret;exact⟨rfl,A.o,ab.o⟩
theorem zyP (I:OwnG V g 101 3 W b (FK (fun _=>true) 3 c) 0) (N:b<=1048576) (q:0<c) (K:c+b*3<=7900000):
  Calls prog 86 #[.slice W.a b W.cap,.int .i64 c] V fun e w'=>e= .returned (.int .i64 ((c+b*3:Nat):Int))/\OwnG w' g 101 3 W b (FK (fun _=>true) 3 c) (b*3)/\V.grownBy w' W.blk:=by
 by_cases J:b=0
 ·subst J;refine (zyN _ _ c V).mono ?_;rintro e O ⟨rfl,rfl⟩;exact⟨by simp,by rw[zero_mul];exact I,zdd _ _⟩
 ·obtain⟨L,H,M⟩:=I;rcases H.nil_or with ⟨_,_,e⟩|⟨B,A⟩
  ·exact absurd e J
  ·rw[A];exact zyO g B b c W V ⟨L,H,M⟩ A N q K
theorem zyQ (B:World):Calls prog 87 #[.slice w 0 c,.int .i64 d] B fun e w'=>e= .returned (.int .i64 d)/\w'=B:=by
 go_enter func87,ntmps87;go_wp2;go_loopg [1,5] 1 (fun k q i wr=>k=1/\q= .int .i64 d/\i= .int .i64 0/\wr=B)
 case atStart=>exact⟨rfl,rfl,rfl,rfl⟩
 case round=>
  obtain⟨rfl,rfl,rfl,rfl⟩:=hrel;go_wp2;go_ret;exact⟨rfl,rfl⟩
theorem zyR (B n H:Nat) (r:Rw) (w:World) (h1:OwnG w g 103 4 r n (FK (fun i=> !decide (i=0)) 4 H) 0) (e1:r.a=some ⟨B,0,none⟩) (hn:n<=1048576) (a4:0<H) (hk:H+n*4<=7900000):
  Calls prog 87 #[.slice (some ⟨B,0,none⟩) n r.cap,.int .i64 H] w fun e w'=>e= .returned (.int .i64 ((H+n*4:Nat):Int))/\OwnG w' g 103 4 r n (FK (fun i=> !decide (i=0)) 4 H) (n*4)/\w.grownBy w' r.blk:=by
 have H1:=zc h1;have h:=zc e1;clear h1 e1;go_enter func87,ntmps87;go_wp2;go_loopg [1,5] n (fun k q i wr=>∃j:Nat,i= .int .i64 j/\j+k=n/\q= .int .i64 ((H+j*4:Nat):Int)/\OwnG wr g 103 4 r n (FK (fun i=> !decide (i=0)) 4 H) (j*4)/\w.grownBy wr r.blk)
 case atStart=>exact⟨0,rfl,by omega,by simp,by rw[zero_mul];exact H1.o,zdd _ _⟩
 case round=>
  obtain⟨j,rfl,hj,hq,ho,hg⟩:=hrel;have A:=zc ho;have ac:=zc hg;clear ho hg;by_cases a3:j<n
  ·have ag:(j:Int)<(n:Int):=by omega
   obtain⟨V,af⟩: ∃V:Nat,V=H+(j*4):=⟨_,rfl⟩;rw[<-af] at hq;subst hq;obtain⟨M,aK⟩: ∃M:Nat,M=V+1:=⟨_,rfl⟩;have bb:(V:Int)+1=(M:Int):=by omega
   obtain⟨L,aG⟩: ∃L:Nat,L=M+1:=⟨_,rfl⟩;have a2:(M:Int)+1=(L:Int):=by omega
   obtain⟨J,aC⟩: ∃J:Nat,J=L+1:=⟨_,rfl⟩;have a5:(L:Int)+1=(J:Int):=by omega
   obtain⟨q4,aE⟩: ∃q4:Nat,q4=J+1:=⟨_,rfl⟩;have a1:(J:Int)+1=(q4:Int):=by omega
   have aI:Hid (FK (fun i=> !decide (i=0)) 4 H (j*4)= .int .i64 (V:Int)):=zej (c:=0) (by omega) (by decide) (by omega);have aD:Hid (FK (fun i=> !decide (i=0)) 4 H (j*4+1)= .string (mtS M)):=zdy (c:=1) (by omega) (by decide) (by omega);have aO:Hid (FK (fun i=> !decide (i=0)) 4 H (j*4+2)= .string (mtS L)):=zdy (c:=2) (by omega) (by decide) (by omega);have aP:Hid (FK (fun i=> !decide (i=0)) 4 H (j*4+3)= .string (mtS J)):=zdy (c:=3) (by omega) (by decide) (by omega);have HQ:Hid (q4=H+(j*4+4)):=by show q4=_;omega
   have a8:q4<=7950000:=by omega
   have aY:0<V:=by omega
   have O:Hid (0<M/\M<=8000000):=⟨by omega,by omega⟩;have N:Hid (0<L/\L<=8000000):=⟨by omega,by omega⟩;have U:Hid (0<J/\J<=8000000):=⟨by omega,by omega⟩;obtain⟨j1,ae⟩: ∃j1,j1=j+1:=⟨_,rfl⟩;have ej:(j:Int)+1=(j1:Int):=by omega
   have HJ:=zc ae;clear ae af aK aG aC aE;obtain⟨a9,aT⟩:=A.o.has h.o (j*4) (by omega);have aS:=A.o.free h.o (j*4);obtain⟨a7,aU⟩:=A.o.has h.o (j*4+1) (by omega);have aX:=A.o.free h.o (j*4+1);obtain⟨ba,a0⟩:=A.o.has h.o (j*4+2) (by omega);have aZ:=A.o.free h.o (j*4+2);obtain⟨a6,aW⟩:=A.o.has h.o (j*4+3) (by omega);have aV:=A.o.free h.o (j*4+3);have ah:Hid (OwnG (wr.setCell ⟨B,j*4,none⟩ (.int .i64 (V:Int))) g 103 4 r n (FK (fun i=> !decide (i=0)) 4 H) (j*4+1)):=A.o.put h.o (by omega) aI.o;have ad:Hid (w.grownBy (wr.setCell ⟨B,j*4,none⟩ (.int .i64 (V:Int))) r.blk):=zbB ac.o (zbA h.o);go_wp2_with fail;refine (zdx M _ O.o.1 O.o.2).mono ?_;rintro e w1 ⟨rfl,aa⟩;have I:=zc (ah.o.later aa);have aR:=zc (zdz ad.o aa);clear aa;obtain⟨aF,aw⟩:=I.o.has h.o (j*4+1) (by omega);have ax:=I.o.free h.o (j*4+1);obtain⟨aL,az⟩:=I.o.has h.o (j*4+2) (by omega);have an:=I.o.free h.o (j*4+2);obtain⟨aQ,aq⟩:=I.o.has h.o (j*4+3) (by omega);have ap:=I.o.free h.o (j*4+3);have aj:Hid (OwnG (w1.setCell ⟨B,j*4+1,none⟩ (.string (mtS M))) g 103 4 r n (FK (fun i=> !decide (i=0)) 4 H) (j*4+1+1)):=I.o.put h.o (by omega) aD.o;have ai:Hid (w.grownBy (w1.setCell ⟨B,j*4+1,none⟩ (.string (mtS M))) r.blk):=zbB aR.o (zbA h.o);go_wp2_with fail;refine (zdx L _ N.o.1 N.o.2).mono ?_;rintro e w2 ⟨rfl,X⟩;have K:=zc (aj.o.later X);have aJ:=zc (zdz ai.o X);clear X;obtain⟨aM,ay⟩:=K.o.has h.o (j*4+2) (by omega);have ao:=K.o.free h.o (j*4+2);obtain⟨aH,au⟩:=K.o.has h.o (j*4+3) (by omega);have aA:=K.o.free h.o (j*4+3);have am:Hid (OwnG (w2.setCell ⟨B,j*4+2,none⟩ (.string (mtS L))) g 103 4 r n (FK (fun i=> !decide (i=0)) 4 H) (j*4+2+1)):=K.o.put h.o (by omega) aO.o;have ak:Hid (w.grownBy (w2.setCell ⟨B,j*4+2,none⟩ (.string (mtS L))) r.blk):=zbB aJ.o (zbA h.o);go_wp2_with fail;refine (zdx J _ U.o.1 U.o.2).mono ?_;rintro e w3 ⟨rfl,Y⟩;have Z:=zc (am.o.later Y);have aN:=zc (zdz ak.o Y);clear Y;obtain⟨aB,av⟩:=Z.o.has h.o (j*4+3) (by omega);have ar:=Z.o.free h.o (j*4+3);have al:Hid (OwnG (w3.setCell ⟨B,j*4+3,none⟩ (.string (mtS J))) g 103 4 r n (FK (fun i=> !decide (i=0)) 4 H) (j*4+3+1)):=Z.o.put h.o (by omega) aP.o;have ab:Hid (w.grownBy (w3.setCell ⟨B,j*4+3,none⟩ (.string (mtS J))) r.blk):=zbB aN.o (zbA h.o);go_wp2;go_roundg (gk-1)
   case rel=>exact⟨j1,rfl,by have:=HJ.o;omega,by have:=HJ.o;have:=HQ.o;rw[show q4=H+j1*4 from by omega],by have:=al.o;rw[show j1*4=j*4+3+1 from by have:=HJ.o;omega];exact this,ab.o⟩
   case measure=>omega
  ·have ag: ¬(j:Int)<(n:Int):=by omega
   obtain rfl:j=n:=by omega
   subst hq;go_wp2;go_ret;exact⟨rfl,A.o,ac.o⟩
theorem zyS (I:OwnG V g 103 4 W b (FK (fun i=> !decide (i=0)) 4 c) 0) (N:b<=1048576) (q:0<c) (K:c+b*4<=7900000):
  Calls prog 87 #[.slice W.a b W.cap,.int .i64 c] V fun e w'=>e= .returned (.int .i64 ((c+b*4:Nat):Int))/\OwnG w' g 103 4 W b (FK (fun i=> !decide (i=0)) 4 c) (b*4)/\V.grownBy w' W.blk:=by
 by_cases J:b=0
 ·subst J;refine (zyQ _ _ c V).mono ?_;rintro e O ⟨rfl,rfl⟩;exact⟨by simp,by rw[zero_mul];exact I,zdd _ _⟩
 ·obtain⟨L,H,M⟩:=I;rcases H.nil_or with ⟨_,_,e⟩|⟨B,A⟩
  ·exact absurd e J
  ·rw[A];exact zyR g B b c W V ⟨L,H,M⟩ A N q K
theorem zyT (B:World):Calls prog 88 #[.slice w 0 c,.int .i64 d] B fun e w'=>e= .returned (.int .i64 d)/\w'=B:=by
 go_enter func88,ntmps88;go_wp2;go_loopg [1,5] 1 (fun k q i wr=>k=1/\q= .int .i64 d/\i= .int .i64 0/\wr=B)
 case atStart=>exact⟨rfl,rfl,rfl,rfl⟩
 case round=>
  obtain⟨rfl,rfl,rfl,rfl⟩:=hrel;go_wp2;go_ret;exact⟨rfl,rfl⟩
theorem zyU (B n A:Nat) (r:Rw) (w:World) (h1:OwnG w g 108 3 r n (FK (fun i=>decide (i=1)) 3 A) 0) (e1:r.a=some ⟨B,0,none⟩) (hn:n<=1048576) (aF:0<A) (hk:A+n*3<=7900000):
  Calls prog 88 #[.slice (some ⟨B,0,none⟩) n r.cap,.int .i64 A] w fun e w'=>e= .returned (.int .i64 ((A+n*3:Nat):Int))/\OwnG w' g 108 3 r n (FK (fun i=>decide (i=1)) 3 A) (n*3)/\w.grownBy w' r.blk:=by
 have H1:=zc h1;have H:=zc e1;clear h1 e1;go_enter func88,ntmps88;go_wp2;go_loopg [1,5] n (fun k q i wr=>∃j:Nat,i= .int .i64 j/\j+k=n/\q= .int .i64 ((A+j*3:Nat):Int)/\OwnG wr g 108 3 r n (FK (fun i=>decide (i=1)) 3 A) (j*3)/\w.grownBy wr r.blk)
 case atStart=>exact⟨0,rfl,by omega,by simp,by rw[zero_mul];exact H1.o,zdd _ _⟩
 case round=>
  obtain⟨j,rfl,hj,hq,ho,hg⟩:=hrel;have h:=zc ho;have ac:=zc hg;clear ho hg;by_cases aC:j<n
  ·have ad:(j:Int)<(n:Int):=by omega
   obtain⟨K,Z⟩: ∃K:Nat,K=A+(j*3):=⟨_,rfl⟩;rw[<-Z] at hq;subst hq;obtain⟨I,ak⟩: ∃I:Nat,I=K+1:=⟨_,rfl⟩;have aJ:(K:Int)+1=(I:Int):=by omega
   obtain⟨M,au⟩: ∃M:Nat,M=I+1:=⟨_,rfl⟩;have aH:(I:Int)+1=(M:Int):=by omega
   obtain⟨N,ap⟩: ∃N:Nat,N=M+1:=⟨_,rfl⟩;have aG:(M:Int)+1=(N:Int):=by omega
   have al:Hid (FK (fun i=>decide (i=1)) 3 A (j*3)= .int .i64 (K:Int)):=zej (c:=0) (by omega) (by decide) (by omega);have ar:Hid (FK (fun i=>decide (i=1)) 3 A (j*3+1)= .string (mtS I)):=zdy (c:=1) (by omega) (by decide) (by omega);have an:Hid (FK (fun i=>decide (i=1)) 3 A (j*3+2)= .int .i64 (M:Int)):=zej (c:=2) (by omega) (by decide) (by omega);have HQ:Hid (N=A+(j*3+3)):=by show N=_;omega
   have aI:N<=7950000:=by omega
   have az:0<K:=by omega
   have L:Hid (0<I/\I<=8000000):=⟨by omega,by omega⟩;obtain⟨U,V⟩: ∃U,U=j+1:=⟨_,rfl⟩;have ej:(j:Int)+1=(U:Int):=by omega
   have HJ:=zc V;clear V Z ak au ap;obtain⟨aK,aA⟩:=h.o.has H.o (j*3) (by omega);have aw:=h.o.free H.o (j*3);obtain⟨aE,ax⟩:=h.o.has H.o (j*3+1) (by omega);have av:=h.o.free H.o (j*3+1);obtain⟨aD,aB⟩:=h.o.has H.o (j*3+2) (by omega);have ay:=h.o.free H.o (j*3+2);have af:Hid (OwnG (wr.setCell ⟨B,j*3,none⟩ (.int .i64 (K:Int))) g 108 3 r n (FK (fun i=>decide (i=1)) 3 A) (j*3+1)):=h.o.put H.o (by omega) al.o;have ae:Hid (w.grownBy (wr.setCell ⟨B,j*3,none⟩ (.int .i64 (K:Int))) r.blk):=zbB ac.o (zbA H.o);go_wp2_with fail;refine (zdx I _ L.o.1 L.o.2).mono ?_;rintro e w1 ⟨rfl,O⟩;have J:=zc (af.o.later O);have aq:=zc (zdz ae.o O);clear O;obtain⟨ao,ag⟩:=J.o.has H.o (j*3+1) (by omega);have ah:=J.o.free H.o (j*3+1);obtain⟨am,aj⟩:=J.o.has H.o (j*3+2) (by omega);have ai:=J.o.free H.o (j*3+2);have aa:Hid (OwnG (w1.setCell ⟨B,j*3+1,none⟩ (.string (mtS I))) g 108 3 r n (FK (fun i=>decide (i=1)) 3 A) (j*3+1+1)):=J.o.put H.o (by omega) ar.o;have Y:Hid (w.grownBy (w1.setCell ⟨B,j*3+1,none⟩ (.string (mtS I))) r.blk):=zbB aq.o (zbA H.o);have X:Hid (OwnG ((w1.setCell ⟨B,j*3+1,none⟩ (.string (mtS I))).setCell ⟨B,j*3+2,none⟩ (.int .i64 (M:Int))) g 108 3 r n (FK (fun i=>decide (i=1)) 3 A) (j*3+2+1)):=aa.o.put H.o (by omega) an.o;have ab:Hid (w.grownBy ((w1.setCell ⟨B,j*3+1,none⟩ (.string (mtS I))).setCell ⟨B,j*3+2,none⟩ (.int .i64 (M:Int))) r.blk):=zbB Y.o (zbA H.o);go_wp2;go_roundg (gk-1)
   case rel=>exact⟨U,rfl,by have:=HJ.o;omega,by have:=HJ.o;have:=HQ.o;rw[show N=A+U*3 from by omega],by have:=X.o;rw[show U*3=j*3+2+1 from by have:=HJ.o;omega];exact this,ab.o⟩
   case measure=>omega
  ·have ad: ¬(j:Int)<(n:Int):=by omega
   obtain rfl:j=n:=by omega
   subst hq;go_wp2;go_ret;exact⟨rfl,h.o,ac.o⟩
theorem zyV (I:OwnG V g 108 3 W b (FK (fun i=>decide (i=1)) 3 c) 0) (N:b<=1048576) (q:0<c) (K:c+b*3<=7900000):
  Calls prog 88 #[.slice W.a b W.cap,.int .i64 c] V fun e w'=>e= .returned (.int .i64 ((c+b*3:Nat):Int))/\OwnG w' g 108 3 W b (FK (fun i=>decide (i=1)) 3 c) (b*3)/\V.grownBy w' W.blk:=by
 by_cases J:b=0
 ·subst J;refine (zyT _ _ c V).mono ?_;rintro e O ⟨rfl,rfl⟩;exact⟨by simp,by rw[zero_mul];exact I,zdd _ _⟩
 ·obtain⟨L,H,M⟩:=I;rcases H.nil_or with ⟨_,_,e⟩|⟨B,A⟩
  ·exact absurd e J
  ·rw[A];exact zyU g B b c W V ⟨L,H,M⟩ A N q K
theorem zyW (B:World):Calls prog 89 #[.slice w 0 c,.int .i64 d] B fun e w'=>e= .returned (.int .i64 d)/\w'=B:=by
 go_enter func89,ntmps89;go_wp2;go_loopg [1,5] 1 (fun k q i wr=>k=1/\q= .int .i64 d/\i= .int .i64 0/\wr=B)
 case atStart=>exact⟨rfl,rfl,rfl,rfl⟩
 case round=>
  obtain⟨rfl,rfl,rfl,rfl⟩:=hrel;go_wp2;go_ret;exact⟨rfl,rfl⟩
theorem zyX (B n H:Nat) (r:Rw) (w:World) (h1:OwnG w g 106 6 r n (FK (fun i=>decide (i=2)||decide (i=3)) 6 H) 0) (e1:r.a=some ⟨B,0,none⟩) (hn:n<=1048576) (bj:0<H) (hk:H+n*6<=7900000):
  Calls prog 89 #[.slice (some ⟨B,0,none⟩) n r.cap,.int .i64 H] w fun e w'=>e= .returned (.int .i64 ((H+n*6:Nat):Int))/\OwnG w' g 106 6 r n (FK (fun i=>decide (i=2)||decide (i=3)) 6 H) (n*6)/\w.grownBy w' r.blk:=by
 have H1:=zc h1;have h:=zc e1;clear h1 e1;go_enter func89,ntmps89;go_wp2;go_loopg [1,5] n (fun k q i wr=>∃j:Nat,i= .int .i64 j/\j+k=n/\q= .int .i64 ((H+j*6:Nat):Int)/\OwnG wr g 106 6 r n (FK (fun i=>decide (i=2)||decide (i=3)) 6 H) (j*6)/\w.grownBy wr r.blk)
 case atStart=>exact⟨0,rfl,by omega,by simp,by rw[zero_mul];exact H1.o,zdd _ _⟩
 case round=>
  obtain⟨j,rfl,hj,hq,ho,hg⟩:=hrel;have A:=zc ho;have ad:=zc hg;clear ho hg;by_cases bi:j<n
  ·have ai:(j:Int)<(n:Int):=by omega
   obtain⟨M,ag⟩: ∃M:Nat,M=H+(j*6):=⟨_,rfl⟩;rw[<-ag] at hq;subst hq;obtain⟨X,aV⟩: ∃X:Nat,X=M+1:=⟨_,rfl⟩;have bs:(M:Int)+1=(X:Int):=by omega
   obtain⟨L,aP⟩: ∃L:Nat,L=X+1:=⟨_,rfl⟩;have bh:(X:Int)+1=(L:Int):=by omega
   obtain⟨J,aM⟩: ∃J:Nat,J=L+1:=⟨_,rfl⟩;have bk:(L:Int)+1=(J:Int):=by omega
   obtain⟨N,aO⟩: ∃N:Nat,N=J+1:=⟨_,rfl⟩;have bg:(J:Int)+1=(N:Int):=by omega
   obtain⟨V,a0⟩: ∃V:Nat,V=N+1:=⟨_,rfl⟩;have bn:(N:Int)+1=(V:Int):=by omega
   obtain⟨Y,a1⟩: ∃Y:Nat,Y=V+1:=⟨_,rfl⟩;have bu:(V:Int)+1=(Y:Int):=by omega
   have aS:Hid (FK (fun i=>decide (i=2)||decide (i=3)) 6 H (j*6)= .int .i64 (M:Int)):=zej (c:=0) (by omega) (by decide) (by omega);have aN:Hid (FK (fun i=>decide (i=2)||decide (i=3)) 6 H (j*6+1)= .int .i64 (X:Int)):=zej (c:=1) (by omega) (by decide) (by omega);have aY:Hid (FK (fun i=>decide (i=2)||decide (i=3)) 6 H (j*6+2)= .string (mtS L)):=zdy (c:=2) (by omega) (by decide) (by omega);have aZ:Hid (FK (fun i=>decide (i=2)||decide (i=3)) 6 H (j*6+3)= .string (mtS J)):=zdy (c:=3) (by omega) (by decide) (by omega);have aR:Hid (FK (fun i=>decide (i=2)||decide (i=3)) 6 H (j*6+4)= .int .i64 (N:Int)):=zej (c:=4) (by omega) (by decide) (by omega);have aU:Hid (FK (fun i=>decide (i=2)||decide (i=3)) 6 H (j*6+5)= .int .i64 (V:Int)):=zej (c:=5) (by omega) (by decide) (by omega);have HQ:Hid (Y=H+(j*6+6)):=by show Y=_;omega
   have bo:Y<=7950000:=by omega
   have bb:0<M:=by omega
   have O:Hid (0<L/\L<=8000000):=⟨by omega,by omega⟩;have U:Hid (0<J/\J<=8000000):=⟨by omega,by omega⟩;obtain⟨j1,af⟩: ∃j1,j1=j+1:=⟨_,rfl⟩;have ej:(j:Int)+1=(j1:Int):=by omega
   have HJ:=zc af;clear af ag aV aP aM aO a0 a1;obtain⟨bp,a3⟩:=A.o.has h.o (j*6) (by omega);have a2:=A.o.free h.o (j*6);obtain⟨bm,a5⟩:=A.o.has h.o (j*6+1) (by omega);have a9:=A.o.free h.o (j*6+1);obtain⟨bq,bf⟩:=A.o.has h.o (j*6+2) (by omega);have bc:=A.o.free h.o (j*6+2);obtain⟨bl,a8⟩:=A.o.has h.o (j*6+3) (by omega);have a6:=A.o.free h.o (j*6+3);obtain⟨bt,be⟩:=A.o.has h.o (j*6+4) (by omega);have a7:=A.o.free h.o (j*6+4);obtain⟨br,a4⟩:=A.o.has h.o (j*6+5) (by omega);have ba:=A.o.free h.o (j*6+5);have aj:Hid (OwnG (wr.setCell ⟨B,j*6,none⟩ (.int .i64 (M:Int))) g 106 6 r n (FK (fun i=>decide (i=2)||decide (i=3)) 6 H) (j*6+1)):=A.o.put h.o (by omega) aS.o;have ae:Hid (w.grownBy (wr.setCell ⟨B,j*6,none⟩ (.int .i64 (M:Int))) r.blk):=zbB ad.o (zbA h.o);have al:Hid (OwnG ((wr.setCell ⟨B,j*6,none⟩ (.int .i64 (M:Int))).setCell ⟨B,j*6+1,none⟩ (.int .i64 (X:Int))) g 106 6 r n (FK (fun i=>decide (i=2)||decide (i=3)) 6 H) (j*6+1+1)):=aj.o.put h.o (by omega) aN.o;have ak:Hid (w.grownBy ((wr.setCell ⟨B,j*6,none⟩ (.int .i64 (M:Int))).setCell ⟨B,j*6+1,none⟩ (.int .i64 (X:Int))) r.blk):=zbB ae.o (zbA h.o);go_wp2_with fail;refine (zdx L _ O.o.1 O.o.2).mono ?_;rintro e w2 ⟨rfl,Z⟩;have I:=zc (al.o.later Z);have aT:=zc (zdz ak.o Z);clear Z;obtain⟨aW,aE⟩:=I.o.has h.o (j*6+2) (by omega);have ar:=I.o.free h.o (j*6+2);obtain⟨aQ,aB⟩:=I.o.has h.o (j*6+3) (by omega);have aG:=I.o.free h.o (j*6+3);obtain⟨aK,ay⟩:=I.o.has h.o (j*6+4) (by omega);have aw:=I.o.free h.o (j*6+4);obtain⟨aI,aD⟩:=I.o.has h.o (j*6+5) (by omega);have av:=I.o.free h.o (j*6+5);have aq:Hid (OwnG (w2.setCell ⟨B,j*6+2,none⟩ (.string (mtS L))) g 106 6 r n (FK (fun i=>decide (i=2)||decide (i=3)) 6 H) (j*6+2+1)):=I.o.put h.o (by omega) aY.o;have am:Hid (w.grownBy (w2.setCell ⟨B,j*6+2,none⟩ (.string (mtS L))) r.blk):=zbB aT.o (zbA h.o);go_wp2_with fail;refine (zdx J _ U.o.1 U.o.2).mono ?_;rintro e w3 ⟨rfl,aa⟩;have K:=zc (aq.o.later aa);have aX:=zc (zdz am.o aa);clear aa;obtain⟨aJ,aC⟩:=K.o.has h.o (j*6+3) (by omega);have az:=K.o.free h.o (j*6+3);obtain⟨aL,au⟩:=K.o.has h.o (j*6+4) (by omega);have ax:=K.o.free h.o (j*6+4);obtain⟨aH,aA⟩:=K.o.has h.o (j*6+5) (by omega);have aF:=K.o.free h.o (j*6+5);have ap:Hid (OwnG (w3.setCell ⟨B,j*6+3,none⟩ (.string (mtS J))) g 106 6 r n (FK (fun i=>decide (i=2)||decide (i=3)) 6 H) (j*6+3+1)):=K.o.put h.o (by omega) aZ.o;have ab:Hid (w.grownBy (w3.setCell ⟨B,j*6+3,none⟩ (.string (mtS J))) r.blk):=zbB aX.o (zbA h.o);have ah:Hid (OwnG ((w3.setCell ⟨B,j*6+3,none⟩ (.string (mtS J))).setCell ⟨B,j*6+4,none⟩ (.int .i64 (N:Int))) g 106 6 r n (FK (fun i=>decide (i=2)||decide (i=3)) 6 H) (j*6+4+1)):=ap.o.put h.o (by omega) aR.o;have ac:Hid (w.grownBy ((w3.setCell ⟨B,j*6+3,none⟩ (.string (mtS J))).setCell ⟨B,j*6+4,none⟩ (.int .i64 (N:Int))) r.blk):=zbB ab.o (zbA h.o);have ao:Hid (OwnG (((w3.setCell ⟨B,j*6+3,none⟩ (.string (mtS J))).setCell ⟨B,j*6+4,none⟩ (.int .i64 (N:Int))).setCell ⟨B,j*6+5,none⟩ (.int .i64 (V:Int))) g 106 6 r n (FK (fun i=>decide (i=2)||decide (i=3)) 6 H) (j*6+5+1)):=ah.o.put h.o (by omega) aU.o;have an:Hid (w.grownBy (((w3.setCell ⟨B,j*6+3,none⟩ (.string (mtS J))).setCell ⟨B,j*6+4,none⟩ (.int .i64 (N:Int))).setCell ⟨B,j*6+5,none⟩ (.int .i64 (V:Int))) r.blk):=zbB ac.o (zbA h.o);go_wp2;go_roundg (gk-1)
   case rel=>exact⟨j1,rfl,by have:=HJ.o;omega,by have:=HJ.o;have:=HQ.o;rw[show Y=H+j1*6 from by omega],by have:=ao.o;rw[show j1*6=j*6+5+1 from by have:=HJ.o;omega];exact this,an.o⟩
   case measure=>omega
  ·have ai: ¬(j:Int)<(n:Int):=by omega
   obtain rfl:j=n:=by omega
   subst hq;go_wp2;go_ret;exact⟨rfl,A.o,ad.o⟩
theorem zyY (I:OwnG V g 106 6 W b (FK (fun i=>decide (i=2)||decide (i=3)) 6 c) 0) (N:b<=1048576) (q:0<c) (K:c+b*6<=7900000):
  Calls prog 89 #[.slice W.a b W.cap,.int .i64 c] V fun e w'=>e= .returned (.int .i64 ((c+b*6:Nat):Int))/\OwnG w' g 106 6 W b (FK (fun i=>decide (i=2)||decide (i=3)) 6 c) (b*6)/\V.grownBy w' W.blk:=by
 by_cases J:b=0
 ·subst J;refine (zyW _ _ c V).mono ?_;rintro e O ⟨rfl,rfl⟩;exact⟨by simp,by rw[zero_mul];exact I,zdd _ _⟩
 ·obtain⟨L,H,M⟩:=I;rcases H.nil_or with ⟨_,_,e⟩|⟨B,A⟩
  ·exact absurd e J
  ·rw[A];exact zyX g B b c W V ⟨L,H,M⟩ A N q K
end
theorem zyZ (A:Option Addr) (H h:Nat) (w:World):Calls prog 61 #[.slice A 0 H,.int .i64 h] w fun e w'=>e= .returned (.int .i64 h)/\w'=w:=by
 go_enter func61,ntmps61;go_wp2;go_loopg [1,5] 1 (fun k q i wr=>k=1/\q= .int .i64 h/\i= .int .i64 0/\wr=w)
 case atStart=>exact⟨rfl,rfl,rfl,rfl⟩
 case round=>
  obtain⟨rfl,rfl,rfl,rfl⟩:=hrel;go_wp2;go_ret;exact⟨rfl,rfl⟩
theorem zza (base g n A:Nat) (r:Rw) (w:World) (h1:OwnG w base 62 3 r n (FK (fun i=>decide (i=1)) 3 A) 0) (e1:r.a=some ⟨g,0,none⟩) (hn:n<=1048576) (aF:0<A) (hk:A+n*3<=7900000):
  Calls prog 61 #[.slice (some ⟨g,0,none⟩) n r.cap,.int .i64 A] w fun e w'=>e= .returned (.int .i64 ((A+n*3:Nat):Int))/\OwnG w' base 62 3 r n (FK (fun i=>decide (i=1)) 3 A) (n*3)/\w.grownBy w' r.blk:=by
 have H1:=zc h1;have H:=zc e1;clear h1 e1;go_enter func61,ntmps61;go_wp2;go_loopg [1,5] n (fun k q i wr=>∃j:Nat,i= .int .i64 j/\j+k=n/\q= .int .i64 ((A+j*3:Nat):Int)/\OwnG wr base 62 3 r n (FK (fun i=>decide (i=1)) 3 A) (j*3)/\w.grownBy wr r.blk)
 case atStart=>exact⟨0,rfl,by omega,by simp,by rw[Nat.zero_mul];exact H1.o,zdd _ _⟩
 case round=>
  obtain⟨j,rfl,hj,hq,ho,hg⟩:=hrel;have h:=zc ho;have ac:=zc hg;clear ho hg;by_cases aC:j<n
  ·have ad:(j:Int)<(n:Int):=by omega
   obtain⟨K,Z⟩: ∃K:Nat,K=A+(j*3):=⟨_,rfl⟩;rw[<-Z] at hq;subst hq;obtain⟨I,ak⟩: ∃I:Nat,I=K+1:=⟨_,rfl⟩;have aJ:(K:Int)+1=(I:Int):=by omega
   obtain⟨M,au⟩: ∃M:Nat,M=I+1:=⟨_,rfl⟩;have aH:(I:Int)+1=(M:Int):=by omega
   obtain⟨N,ap⟩: ∃N:Nat,N=M+1:=⟨_,rfl⟩;have aG:(M:Int)+1=(N:Int):=by omega
   have al:Hid (FK (fun i=>decide (i=1)) 3 A (j*3)= .int .i64 (K:Int)):=zej (c:=0) (by omega) (by decide) (by omega);have ar:Hid (FK (fun i=>decide (i=1)) 3 A (j*3+1)= .string (mtS I)):=zdy (c:=1) (by omega) (by decide) (by omega);have an:Hid (FK (fun i=>decide (i=1)) 3 A (j*3+2)= .int .i64 (M:Int)):=zej (c:=2) (by omega) (by decide) (by omega);have HQ:Hid (N=A+(j*3+3)):=by show N=_;omega
   have aI:N<=7950000:=by omega
   have az:0<K:=by omega
   have L:Hid (0<I/\I<=8000000):=⟨by omega,by omega⟩;obtain⟨U,V⟩: ∃U,U=j+1:=⟨_,rfl⟩;have ej:(j:Int)+1=(U:Int):=by omega
   have HJ:=zc V;clear V Z ak au ap;obtain⟨aK,aA⟩:=h.o.has H.o (j*3) (by omega);have aw:=h.o.free H.o (j*3);obtain⟨aE,ax⟩:=h.o.has H.o (j*3+1) (by omega);have av:=h.o.free H.o (j*3+1);obtain⟨aD,aB⟩:=h.o.has H.o (j*3+2) (by omega);have ay:=h.o.free H.o (j*3+2);have af:Hid (OwnG (wr.setCell ⟨g,j*3,none⟩ (.int .i64 (K:Int))) base 62 3 r n (FK (fun i=>decide (i=1)) 3 A) (j*3+1)):=h.o.put H.o (by omega) al.o;have ae:Hid (w.grownBy (wr.setCell ⟨g,j*3,none⟩ (.int .i64 (K:Int))) r.blk):=zbB ac.o (zbA H.o);go_wp2_with fail;refine (zdx I _ L.o.1 L.o.2).mono ?_;rintro e w1 ⟨rfl,O⟩;have J:=zc (af.o.later O);have aq:=zc (zdz ae.o O);clear O;obtain⟨ao,ag⟩:=J.o.has H.o (j*3+1) (by omega);have ah:=J.o.free H.o (j*3+1);obtain⟨am,aj⟩:=J.o.has H.o (j*3+2) (by omega);have ai:=J.o.free H.o (j*3+2);have aa:Hid (OwnG (w1.setCell ⟨g,j*3+1,none⟩ (.string (mtS I))) base 62 3 r n (FK (fun i=>decide (i=1)) 3 A) (j*3+1+1)):=J.o.put H.o (by omega) ar.o;have Y:Hid (w.grownBy (w1.setCell ⟨g,j*3+1,none⟩ (.string (mtS I))) r.blk):=zbB aq.o (zbA H.o);have X:Hid (OwnG ((w1.setCell ⟨g,j*3+1,none⟩ (.string (mtS I))).setCell ⟨g,j*3+2,none⟩ (.int .i64 (M:Int))) base 62 3 r n (FK (fun i=>decide (i=1)) 3 A) (j*3+2+1)):=aa.o.put H.o (by omega) an.o;have ab:Hid (w.grownBy ((w1.setCell ⟨g,j*3+1,none⟩ (.string (mtS I))).setCell ⟨g,j*3+2,none⟩ (.int .i64 (M:Int))) r.blk):=zbB Y.o (zbA H.o);go_wp2;go_roundg (gk-1)
   case rel=>exact⟨U,rfl,by have:=HJ.o;omega,by have:=HJ.o;have:=HQ.o;rw[show N=A+U*3 from by omega],by have:=X.o;rw[show U*3=j*3+2+1 from by have:=HJ.o;omega];exact this,ab.o⟩
   case measure=>omega
  ·have ad: ¬(j:Int)<(n:Int):=by omega
   obtain rfl:j=n:=by omega
   subst hq;go_wp2;go_ret;exact⟨rfl,h.o,ac.o⟩
theorem zzb (base n h:Nat) (r:Rw) (w:World) (I:OwnG w base 62 3 r n (FK (fun i=>decide (i=1)) 3 h) 0) (N:n<=1048576) (q:0<h) (K:h+n*3<=7900000):
  Calls prog 61 #[.slice r.a n r.cap,.int .i64 h] w fun e w'=>e= .returned (.int .i64 ((h+n*3:Nat):Int))/\OwnG w' base 62 3 r n (FK (fun i=>decide (i=1)) 3 h) (n*3)/\w.grownBy w' r.blk:=by
 by_cases J:n=0
 ·subst J;refine (zyZ _ _ h w).mono ?_;rintro e O ⟨rfl,rfl⟩;exact⟨by simp,by rw[Nat.zero_mul];exact I,zdd _ _⟩
 ·obtain⟨L,H,M⟩:=I;rcases H.nil_or with ⟨_,_,e⟩|⟨g,A⟩
  ·exact absurd e J
  ·rw[A];exact zza base g n h r w ⟨L,H,M⟩ A N q K
open Nat (le_trans)
def RowZ (w:World) (base:Nat) (e:TypeId) (size:Nat) (r:Rw) (n:Nat):Prop:=∃xs,OwnR w base e size r n xs
def MkT (e:TypeId) (size:Nat):Prop:=(e=9/\size=1)∨(e=101/\size=3)∨(e=103/\size=4)∨(e=108/\size=3)∨(e=106/\size=6)∨(e=62/\size=3)
theorem zjW:MkT 9 1:=.inl ⟨rfl,rfl⟩
theorem zo1:MkT 101 3:=.inr (.inl ⟨rfl,rfl⟩)
theorem zo2:MkT 103 4:=.inr (.inr (.inl ⟨rfl,rfl⟩))
theorem zo3:MkT 108 3:=.inr (.inr (.inr (.inl ⟨rfl,rfl⟩)))
theorem zo4:MkT 106 6:=.inr (.inr (.inr (.inr (.inl ⟨rfl,rfl⟩))))
theorem zjX:MkT 62 3:=.inr (.inr (.inr (.inr (.inr ⟨rfl,rfl⟩))))
theorem MkT.one {e:TypeId} {s q:Nat} (h:MkT e s) (w:MkT e q):s=q/\0<s:=by
 rcases h with ⟨rfl,rfl⟩|⟨rfl,rfl⟩|⟨rfl,rfl⟩|⟨rfl,rfl⟩|⟨rfl,rfl⟩|⟨rfl,rfl⟩<;>rcases w with ⟨k,rfl⟩|⟨k,rfl⟩|⟨k,rfl⟩|⟨k,rfl⟩|⟨k,rfl⟩|⟨k,rfl⟩<;>first|exact⟨rfl,by decide⟩|exact absurd k (by decide)
theorem RowZ.marked {w w':World} {base I n n' size A:Nat} {e e':TypeId} {r r':Rw} (h:RowZ w I e' A r' n') (t':MkT e' A) (t:MkT e size) (h0:RowZ w base e size r n) (h1:RowZ w' base e size r n) (hg:w.grownBy w' r.blk):RowZ w' I e' A r' n':=by
 obtain⟨xs,hx⟩:=h;by_cases hb: ∃q,r'.blk=some q/\r.blk=some q
 ·obtain⟨q,J,K⟩:=hb;obtain⟨ys,hy⟩:=h0;obtain⟨zs,hz⟩:=h1;obtain⟨_,_,an,hc⟩:=hx.typed J;obtain⟨_,_,N,af⟩:=hy.typed K;rw[hc] at af;have e0:=oI af;simp only[Obj.cells.injEq] at e0;obtain⟨rfl,rfl,_⟩:=e0;obtain⟨rfl,ad⟩:=t.one t';rcases hx.2 with ⟨Y,_⟩|⟨g1,H,ae,Y,am,ai,ab,ah,aj,_⟩
  ·simp only[vI] at Y;rw[Rw.blk,Y.1] at J;cases J
  ·rcases hy.2 with ⟨X,_⟩|⟨g2,M,N,X,_,V,_,_,ak,_⟩
   ·simp only[vI] at X;rw[Rw.blk,X.1] at K;cases K
   ·rcases hz.2 with ⟨Z,_⟩|⟨g3,O,U,Z,_,ac,_,_,aa,_⟩
    ·simp only[vI] at Z;rw[Rw.blk,Z.1] at K;cases K
    ·simp only[vI] at Y X Z;have q1:g1=q:=by rw[Rw.blk,Y.1] at J;simpa [Value.ownBlock] using J
     have q2:g2=q:=by rw[Rw.blk,X.1] at K;simpa [Value.ownBlock] using K
     have q3:g3=q:=by rw[Rw.blk,Z.1] at K;simpa [Value.ownBlock] using K
     subst q1;rw[q2] at V;rw[q3] at ac;have ag:ae=N:=by
      rw[ai] at V
      simpa using oI V
     have al:M=O:=X.2.2.symm.trans Z.2.2;have L:H=O:=by
      rw[<-al];have:H*size=M*size:=by rw[<-aj,<-ak,ag]
      exact Nat.eq_of_mul_eq_mul_right ad this
     refine⟨(U.toList.take (n'*size)),?_,.inr ⟨g1,H,U,by simp only[vI];exact Y,am,ac,ab,ah,by rw[aa,L],rfl⟩⟩;rw[List.length_take,Array.length_toList,aa,<-L];exact Nat.min_eq_left (Nat.mul_le_mul_right _ ab)
 ·exact⟨xs,hx.keep fun k hk=>hg.block k (hx.typed hk).2.1 fun e=>hb ⟨k,hk,e.symm⟩⟩
structure Mkd (base:Nat) (w w':World):Prop where
 bel:Below base w w'
 rows: ∀{b s n:Nat} {e:TypeId} {r:Rw},MkT e s->RowZ w b e s r n->RowZ w' b e s r n
 off: ∀{j:Nat} {cur:Array Value} {t:TypeId},w.heap[j]? =some (.cells cur t (0,0))->(∀s,¬MkT t s)->w'.heap[j]? =w.heap[j]?
theorem Mkd.refl (base:Nat) (w:World):Mkd base w w:=⟨Below.refl _ _,fun _ h=>h,fun _ _=>rfl⟩
theorem Mkd.trans {base:Nat} {w A I:World} (h:Mkd base w A) (k:Mkd base A I):Mkd base w I:=
 ⟨h.bel.trans k.bel,fun t r=>k.rows t (h.rows t r),fun q H=>by
  have e:=h.off q H
  exact (k.off (e.trans q) H).trans e⟩
theorem Mkd.one {base size n:Nat} {w w':World} {e:TypeId} {r:Rw} (t:MkT e size) (U:RowZ w base e size r n) (O:RowZ w' base e size r n) (H:w.grownBy w' r.blk) (K:base<=w.heap.size):Mkd base w w':=by
 obtain⟨M,A⟩:=U;refine⟨(Below.refl _ _).mono K|>.grown H K (fun j q=>(A.typed q).1),fun N h=>h.marked N t ⟨M,A⟩ O H,fun {j cur t2} q ht=>?_⟩;refine H.block j (aLt q) fun V=>?_;obtain⟨_,_,J,L⟩:=A.typed V.symm;rw[q] at L;have I:=oI L;simp only[Obj.cells.injEq] at I;exact ht size (I.2.1▸t)
def zcb (m:Md):Nat:=m.rq.length+m.im.length+m.ep.length+m.st.length+m.ex.length
structure MdS (w:World) (base:Nat) (S:Sv) (m:Md):Prop where
 rq:RowZ w base 9 1 S.rq m.rq.length
 im:RowZ w base 101 3 S.im m.im.length
 ep:RowZ w base 103 4 S.ep m.ep.length
 st:RowZ w base 108 3 S.st m.st.length
 ex:RowZ w base 106 6 S.ex m.ex.length
theorem MdS.of {w:World} {base:Nat} {S:Sv} {m:Md} (h:OwnMd w base S m):MdS w base S m:=⟨⟨_,h.rq⟩,⟨_,h.im⟩,⟨_,h.ep⟩,⟨_,h.st⟩,⟨_,h.ex⟩⟩
theorem MdS.later {w w':World} {base b:Nat} {S:Sv} {m:Md} (h:MdS w base S m) (k:Mkd b w w'):MdS w' base S m:=⟨k.rows zjW h.rq,k.rows zo1 h.im,k.rows zo2 h.ep,k.rows zo3 h.st,k.rows zo4 h.ex⟩
theorem OwnG.s {w:World} {base size n c:Nat} {e:TypeId} {r:Rw} {F:Nat->Value} (h:OwnG w base e size r n F c):RowZ w base e size r n:=by obtain⟨A,q,_⟩:=h;exact⟨A,q⟩
theorem RowZ.g {w:World} {base size n:Nat} {e:TypeId} {r:Rw} (h:RowZ w base e size r n) (F:Nat->Value):OwnG w base e size r n F 0:=by obtain⟨A,q⟩:=h;exact OwnG.start q F
theorem zo5: ∀s,¬MkT 59 s:=by
 intro s h;rcases h with ⟨k,_⟩|⟨k,_⟩|⟨k,_⟩|⟨k,_⟩|⟨k,_⟩|⟨k,_⟩<;>exact absurd k (by decide)
theorem zzc {q:List Md} {j:Nat} {m:Md} (h:q[j]? =some m):((q.take (j+1)).map zcb).sum=((q.take j).map zcb).sum+zcb m:=by
 obtain⟨w,rfl⟩:=gS h;rw[tG w,List.map_append,List.sum_append];simp
theorem zzd (h:List Md) (j:Nat):((h.take j).map zcb).sum<=(h.map zcb).sum:=by
 have e:h.map zcb=(h.take j).map zcb++(h.drop j).map zcb:=by rw[<-List.map_append,List.take_append_drop]
 rw[e,List.sum_append];omega
theorem zze (base:Nat) (mr:Rw) (U:List Sv) (I:List Md) (k:Nat) (w:World) (hu:U.length=I.length) (h:OwnR w base 59 5 mr I.length ((U.zip I).flatMap mdL)) (hm: ∀x∈U.zip I,MdS w base x.1 x.2) (hb:base<=w.heap.size) (hk:0<k) (ay:k<=1100000) (hs:(I.map zcb).sum<=1048576) (hn:I.length<=1048576):
  Calls prog 60 #[.slice mr.a I.length mr.cap,.int .i64 (k:Int)] w fun e w'=>(∃k2:Nat,e= .returned (.int .i64 (k2:Int))/\k<=k2/\k2<=k+6*(I.map zcb).sum)/\Mkd base w w':=by
 have HM:=zc hm
 have HR:Hid (∀W,Mkd base w W->RowAt W mr.a mdL 5 (U.zip I)):=zc (fun W k=>RowAt.of (f:=mdL) (m:=5) (fun _=>rfl) (by
  rw[show (U.zip I).length=I.length from by rw[List.length_zip];omega];exact h.keep fun q hq=>by
   obtain⟨_,_,ax,hc⟩:=h.typed hq
   exact k.off hc zo5))
 have HU:=zc hu;clear hm h hu;go_enter func60,ntmps60;go_wp2;go_loopw [5,1] (fun i s wr=>∃j k':Nat,j<=I.length/\i= .int .i64 j/\s= .int .i64 k'/\k<=k'/\k'<=k+6*((I.take j).map zcb).sum/\Hid (Mkd base w wr)) (fun i _ _=>(I.length-intOf i).toNat)
 case atStart=>exact⟨0,k,Nat.zero_le _,rfl,rfl,Nat.le_refl _,by omega,zc (Mkd.refl _ _)⟩
 case round=>
  obtain⟨j,k',hj,rfl,rfl,am,ag,M0⟩:=hrel;by_cases al:j<I.length
  ·have av:(j:Int)<(I.length:Int):=by omega
   obtain⟨⟨S,m⟩,hx⟩: ∃x,(U.zip I)[j]? =some x:=⟨_,gE (by rw[List.length_zip];have:=HU.o;omega)⟩;have aj:I[j]? =some m:=by
    rw[List.getElem?_zip_eq_some] at hx;exact hx.2
   have V:=zc (HM.o _ (mG hx));have N:=zzc aj;have ak:=zzd I (j+1);have ad:zcb m=m.rq.length+m.im.length+m.ep.length+m.st.length+m.ex.length:=rfl;rw[N,ad] at ak;obtain⟨sj,an⟩: ∃sj,sj=((I.take j).map zcb).sum:=⟨_,rfl⟩;rw[<-an] at N ak ag;obtain⟨b,O,ai,_⟩:=(HR.o wr M0.o).get hx
   have HC:Hid (∀W,Mkd base w W->W.cell? ⟨b,O+j*5,none⟩=some (.slice S.rq.a m.rq.length S.rq.cap)/\W.cell? ⟨b,O+j*5+1,none⟩=some (.slice S.im.a m.im.length S.im.cap)/\W.cell? ⟨b,O+j*5+2,none⟩=some (.slice S.ep.a m.ep.length S.ep.cap)/\W.cell? ⟨b,O+j*5+3,none⟩=some (.slice S.st.a m.st.length S.st.cap)/\W.cell? ⟨b,O+j*5+4,none⟩=some (.slice S.ex.a m.ex.length S.ex.cap)):=zc (fun W kw=>by
    obtain⟨b',ao,e,hc⟩:=(HR.o W kw).get hx;rw[ai] at e;cases e
    exact⟨hc 0 _ rfl,hc 1 _ rfl,hc 2 _ rfl,hc 3 _ rfl,hc 4 _ rfl⟩)
   rw[ai];clear hx aj ai;obtain⟨c0,X,Y,Z,c4⟩:=HC.o wr M0.o;go_wp2_with fail;refine (zo0 base m.rq.length k' S.rq wr ((V.o.later M0.o).rq.g _) (by omega) (by omega) (by omega)).mono ?_;rintro e w1 ⟨rfl,A,H⟩;have M1:Hid (Mkd base w w1):=zc (M0.o.trans (Mkd.one zjW (V.o.later M0.o).rq A.s H (le_trans hb M0.o.bel.size)));obtain⟨K,ab⟩: ∃q,q=k'+m.rq.length:=⟨_,rfl⟩;rw[<-ab];have au:k'<=K/\K<=k'+m.rq.length:=by omega
   clear ab A H c0 X Y Z c4;obtain⟨c0,X,Y,Z,c4⟩:=HC.o w1 M1.o;go_wp2_with fail;refine (zyP base m.im.length K S.im w1 ((V.o.later M1.o).im.g _) (by omega) (by omega) (by omega)).mono ?_;rintro e w2 ⟨rfl,A,H⟩;have M2:Hid (Mkd base w w2):=zc (M1.o.trans (Mkd.one zo1 (V.o.later M1.o).im A.s H (le_trans hb M1.o.bel.size)));obtain⟨L,aa⟩: ∃q,q=K+m.im.length*3:=⟨_,rfl⟩;rw[<-aa];have ar:K<=L/\L<=K+m.im.length*3:=by omega
   clear aa A H c0 X Y Z c4;obtain⟨c0,X,Y,Z,c4⟩:=HC.o w2 M2.o;go_wp2_with fail;refine (zyS base m.ep.length L S.ep w2 ((V.o.later M2.o).ep.g _) (by omega) (by omega) (by omega)).mono ?_;rintro e w3 ⟨rfl,A,H⟩;have M3:Hid (Mkd base w w3):=zc (M2.o.trans (Mkd.one zo2 (V.o.later M2.o).ep A.s H (le_trans hb M2.o.bel.size)));obtain⟨M,af⟩: ∃q,q=L+m.ep.length*4:=⟨_,rfl⟩;rw[<-af];have ap:L<=M/\M<=L+m.ep.length*4:=by omega
   clear af A H c0 X Y Z c4;obtain⟨c0,X,Y,Z,c4⟩:=HC.o w3 M3.o;go_wp2_with fail;refine (zyV base m.st.length M S.st w3 ((V.o.later M3.o).st.g _) (by omega) (by omega) (by omega)).mono ?_;rintro e w4 ⟨rfl,A,H⟩;have M4:Hid (Mkd base w w4):=zc (M3.o.trans (Mkd.one zo3 (V.o.later M3.o).st A.s H (le_trans hb M3.o.bel.size)));obtain⟨J,ae⟩: ∃q,q=M+m.st.length*3:=⟨_,rfl⟩;rw[<-ae];have aw:M<=J/\J<=M+m.st.length*3:=by omega
   clear ae A H c0 X Y Z c4;obtain⟨c0,X,Y,Z,c4⟩:=HC.o w4 M4.o;go_wp2_with fail;refine (zyY base m.ex.length J S.ex w4 ((V.o.later M4.o).ex.g _) (by omega) (by omega) (by omega)).mono ?_;rintro e w5 ⟨rfl,A,H⟩;have M5:Hid (Mkd base w w5):=zc (M4.o.trans (Mkd.one zo4 (V.o.later M4.o).ex A.s H (le_trans hb M4.o.bel.size)));obtain⟨ah,ac⟩: ∃q,q=J+m.ex.length*6:=⟨_,rfl⟩;rw[<-ac];have aq:J<=ah/\ah<=J+m.ex.length*6:=by omega
   clear ac A H c0 X Y Z c4;go_wp2;go_roundw
   case rel=>exact⟨j+1,ah,al,by go_num,rfl,by omega,by rw[N,ad];omega,M5⟩
   case measure=>simp[intOf];omega
  ·obtain rfl:j=I.length:=by omega
   rw[List.take_length] at ag;go_wp2;go_ret;exact⟨⟨_,rfl,am,ag⟩,M0.o⟩
theorem Mkd.below {base:Nat} {w w':World} (h:Bw w w') (H:base<=w.heap.size):Mkd base w w':=
 ⟨h.mono H,fun _ k=>by obtain⟨A,I⟩:=k;exact⟨A,I.later h⟩,fun q _=>h.block _ (aLt q)⟩
theorem zo6: ∀s,¬MkT 32 s:=by
 intro s h;rcases h with ⟨k,_⟩|⟨k,_⟩|⟨k,_⟩|⟨k,_⟩|⟨k,_⟩|⟨k,_⟩<;>exact absurd k (by decide)
theorem zgE (base:Nat) (G:GS) (g:Gr) (w:World) (ho:GrOwn w base G g) (Y:base<=w.heap.size) (hs:g.ps.length+(g.ms.map zcb).sum+g.ls.length<=1048576) (hn:g.ms.length<=1048576):
  Calls prog 20 #[grD G g,.int .i64 1] w fun e w'=>(∃k:Nat,e= .returned (.int .i64 (k:Int)))/\Mkd base w w':=by
 have O:=zc ho;have L:=ho.len;clear ho;unfold grD;go_enter func20,ntmps20;go_upto_region 1 with fail;refine zp (R:=fun W=>Bk W w.heap.size (grC G g) 32/\Below w.heap.size w W) ⟨hN0 w _,zn w _⟩ ?_;rintro W0 ⟨hx,H⟩;have Z:=zc hx;have M0:Hid (Mkd base w W0):=zc (Mkd.below H Y);have P0:Hid (RowZ W0 base 9 1 G.pr g.ps.length):=zc ⟨_,O.o.ps.later H⟩;clear hx H;obtain⟨V,M,N,U⟩:=zg Z.o;go_wp2_with fail;refine (zo0 base g.ps.length 1 G.pr W0 (P0.o.g _) (by omega) (by omega) (by omega)).mono ?_;rintro e J ⟨rfl,h,A⟩;have N1:=Mkd.one zjW P0.o h.s A (le_trans Y M0.o.bel.size);have I:=zc (M0.o.trans N1);have X1:Hid (Bk J w.heap.size (grC G g) 32):=zc ((N1.off Z.o zo6).trans Z.o);obtain⟨k1,K⟩: ∃q,q=1+g.ps.length:=⟨_,rfl⟩;rw[<-K];have aa:0<k1/\k1<=1+g.ps.length:=by omega
 have MS:Hid (OwnR J base 59 5 G.mr g.ms.length ((G.sv.zip g.ms).flatMap mdL)):=zc (O.o.ms.keep fun q hq=>by
  obtain⟨_,_,ac,hc⟩:=O.o.ms.typed hq
  exact I.o.off hc zo5)
 have MM:Hid (∀x∈G.sv.zip g.ms,MdS J base x.1 x.2):=zc (fun x hx=>(MdS.of (O.o.md x hx)).later I.o);have L1:Hid (RowZ J base 62 3 G.lr g.ls.length):=zc (I.o.rows zjX ⟨_,O.o.ls⟩);clear K h A N1 V M N U Z M0 P0;obtain⟨V,M,N,U⟩:=zg X1.o;go_wp2_with fail;refine (zze base G.mr G.sv g.ms k1 J L MS.o MM.o (le_trans Y I.o.bel.size) aa.1 (by omega) (by omega) hn).mono ?_;rintro e w2 ⟨⟨k2,rfl,ab,ad⟩,X⟩;have M2:=zc (I.o.trans X);have X2:Hid (Bk w2 w.heap.size (grC G g) 32):=zc ((X.off X1.o zo6).trans X1.o);have L2:=zc (X.rows zjX L1.o);clear X V M N U X1 I MS MM L1;obtain⟨V,M,N,U⟩:=zg X2.o;go_wp2_with fail;refine (zzb base g.ls.length k2 G.lr w2 (L2.o.g _) (by omega) (by omega) (by omega)).mono ?_;rintro e w3 ⟨rfl,h,A⟩;have M3:=zc (M2.o.trans (Mkd.one zjX L2.o h.s A (le_trans Y M2.o.bel.size)));clear h A V M N U X2 M2 L2;go_wp2;go_ret;exact⟨⟨_,rfl⟩,M3.o⟩
set_option maxHeartbeats 1600000
theorem OwnX.put1 {w:World} {base size g n q c:Nat} {A:Nat->Value} {e:TypeId} {v:Value} (h:OwnX w base e size g n q A c) (I:c<n*size) (H:A c=v):OwnX (w.setCell ⟨g,c,none⟩ v) base e size g n q A (c+1):=by rw[<-H];exact h.put I
section
variable (g:Nat) (w W:Option Addr) (d n:Nat)
theorem zzf (l:List Int) (C:World) (O:RowAt C w itE.f 1 l) (N:RowAt C W itE.f 1 l) (hl:l.length<=1048576):
  Calls prog 19 #[.slice w l.length d,.slice W l.length n] C fun e w'=>e= .returned (.bool true)/\Bw C w':=by
 have Z:=zed O;have H2:=zed N;clear O N;go_enter func19,ntmps19;go_wp2;go_loopw [5] (fun i wr=>∃k:Nat,k<=l.length/\i= .int .i64 k/\Hid (Bw C wr)) (fun i _=>(l.length-intOf i).toNat)
 case atStart=>exact⟨0,by omega,rfl,zed (Below.refl _ _)⟩
 case round=>
  obtain⟨k,hk,rfl,B⟩:=hrel;by_cases h:k<l.length
  ·obtain⟨x,L⟩: ∃x,l[k]? =some x:=⟨_,gE h⟩;obtain⟨b1,o1,rfl,H⟩:=(Z.o.later B.o).get L;obtain⟨b2,o2,rfl,q⟩:=(H2.o.later B.o).get L;have I:=H 0 _ rfl;have M:=q 0 _ rfl;simp only[Nat.add_zero,Nat.mul_one] at I M;clear H q L;have k0:=cR0 I;have k2:=cR0 M;clear I M;go_wp2;refine wp_region_quiet_below (by kernel_rfl) (by kernel_rfl) ?_
   repeat (go_big_quiet_step (fail))
   refine wpQuiet_nil ?_;intro _ J;obtain⟨⟨dq,K⟩,A⟩:=J;subst A;have B2:=zed (B.o.trans ((below_regrown wr dq K).mono B.o.size));go_wp2;go_roundw
   case rel=>exact⟨k+1,h,by go_num,B2⟩
   case measure=>simp[intOf];omega
  ·go_wp2;go_ret;exact⟨rfl,B.o⟩
def mkI (k0 i:Nat):Value:=.int .i64 ((k0+i:Nat):Int)
theorem zo7 (C:World):Calls prog 21 #[.slice w 0 d,.int .i64 n] C fun e w'=>e= .returned (.int .i64 n)/\w'=C:=by
 go_enter func21,ntmps21;go_wp2;go_loopg [1,5] 1 (fun k q i wr=>k=1/\q= .int .i64 n/\i= .int .i64 0/\wr=C)
 case atStart=>exact⟨rfl,rfl,rfl,rfl⟩
 case round=>
  obtain⟨rfl,rfl,rfl,rfl⟩:=hrel;go_wp2;go_ret;exact⟨rfl,rfl⟩
theorem zo8 (C n H A:Nat) (w:World) (Y:OwnX w g 3 1 C n H (mkI A) 0) (hn:n<=1048576) (hk:A<=8388608):
  Calls prog 21 #[.slice (some ⟨C,0,none⟩) n H,.int .i64 A] w fun e w'=>e= .returned (.int .i64 ((A+n:Nat):Int))/\OwnX w' g 3 1 C n H (mkI A) (n)/\w.grownBy w' (some C):=by
 have H1:=zed Y;clear Y;go_enter func21,ntmps21;go_wp2;go_loopw [1,5] (fun q i wr=>∃j:Nat,j<=n/\i= .int .i64 j/\q= .int .i64 ((A+j:Nat):Int)/\Hid (OwnX wr g 3 1 C n H (mkI A) (j))/\Hid (w.grownBy wr (some C))) (fun _ i _=>(n-intOf i).toNat)
 case atStart=>exact⟨0,by omega,rfl,by simp,by have h:=H1;exact h,zed (zyB _ _)⟩
 case round=>
  obtain⟨j,hj,rfl,rfl,K,X⟩:=hrel;by_cases M:j<n
  ·obtain⟨N,I⟩: ∃q:Nat,q=A+(j):=⟨_,rfl⟩;obtain⟨J,L⟩: ∃q:Nat,q=A+(j+1):=⟨_,rfl⟩;rw[<-I];have aa:(N:Int)+1=(J:Int):=by omega
   have V:Hid (mkI A (j)= .int .i64 (N:Int)):=by show mkI A (j)=_;rw[I];rfl
   have Z:Hid (J=A+((j+1))):=by show J=_;omega
   have ab:J<=20000000:=by omega
   obtain⟨v0,e0⟩:=K.o.has (j) (by omega);have f0:=K.o.free (j);have O:=zed (K.o.put1 (by omega) V.o);have U:=zed (zyD (i:=j) (u:=.int .i64 (N:Int)) (X.o));clear I L;go_wp2;go_roundw
   case rel=>exact⟨j+1,M,by go_num,by rw[Z.o],by have h:=O;exact h,U⟩
   case measure=>simp[intOf];omega
  ·obtain rfl:j=n:=by omega
   go_wp2;go_ret;exact⟨rfl,K.o,X.o⟩
theorem zo9 (C:World):Calls prog 22 #[.slice w 0 d,.int .i64 n] C fun e w'=>e= .returned (.int .i64 n)/\w'=C:=by
 go_enter func22,ntmps22;go_wp2;go_loopg [1,5] 1 (fun k q i wr=>k=1/\q= .int .i64 n/\i= .int .i64 0/\wr=C)
 case atStart=>exact⟨rfl,rfl,rfl,rfl⟩
 case round=>
  obtain⟨rfl,rfl,rfl,rfl⟩:=hrel;go_wp2;go_ret;exact⟨rfl,rfl⟩
theorem zoA (C n H h:Nat) (w:World) (N:OwnX w g 3 1 C n H (mkI h) (n)) (hn:n<=1048576) (Y:h<=8388608):
  Calls prog 22 #[.slice (some ⟨C,0,none⟩) n H,.int .i64 h] w fun e w'=>e= .returned (.int .i64 ((h+n:Nat):Int))/\w'=w:=by
 have U:=zed N;clear N;go_enter func22,ntmps22;go_wp2;go_loopw [1,5] (fun q i wr=>∃j:Nat,j<=n/\i= .int .i64 j/\q= .int .i64 ((h+j:Nat):Int)/\w=wr) (fun _ i _=>(n-intOf i).toNat)
 case atStart=>exact⟨0,by omega,rfl,by simp,rfl⟩
 case round=>
  obtain⟨j,Z,rfl,rfl,rfl⟩:=hrel;by_cases K:j<n
  ·obtain⟨L,A⟩: ∃q:Nat,q=h+(j):=⟨_,rfl⟩;obtain⟨I,J⟩: ∃q:Nat,q=h+(j+1):=⟨_,rfl⟩;rw[<-A];have V:(L:Int)+1=(I:Int):=by omega
   have M:Hid (mkI h (j)= .int .i64 (L:Int)):=by show mkI h (j)=_;rw[A];rfl
   have X:Hid (I=h+((j+1))):=by show I=_;omega
   have O:I<=20000000:=by omega
   have c0:w.cell? ⟨C,j,none⟩=some (.int .i64 (L:Int)):=by rw[U.o.cell (j) (by omega) (by omega),M.o]
   clear A J;go_wp2;go_roundw
   case rel=>exact⟨j+1,K,by go_num,by rw[X.o],trivial⟩
   case measure=>simp[intOf];omega
  ·obtain rfl:j=n:=by omega
   go_wp2;go_ret;exact⟨rfl,rfl⟩
end
def SzO (left:Int) (c:Nat) (e:Ending):Prop:=∃z:Int,e= .returned (.int .i64 z)/\ -1<=z/\z<=left/\(0<=z->z+(c:Int)<=left)
def z0n (l:List BA0):Nat:=(l.map ByteArray.size).sum
def z0o (c:Cd):Prop:=c.ins.length<=9223372036854775807/\c.cells.length<=9223372036854775807/\c.ent.length<=9223372036854775807/\∀x∈c.cells,x.size<=9223372036854775807
def z0p (c:Cd):Prop:=c.ins.length<=1048576/\c.cells.length<=1048576/\c.ent.length<=1048576/\∀x∈c.cells,x.size<=1048576
def z0q (c:Cd) (g0 g1 g2:Nat):CA:=⟨some ⟨g0,0,none⟩,c.ins.length,some ⟨g1,0,none⟩,c.cells.length,some ⟨g2,0,none⟩,c.ent.length⟩
abbrev Fl:=BA0×BA0
def flL (x:Fl):List Value:=[.string x.1,.string x.2]
def zoB:Fl:=({data:=#[]},{data:=#[]})
def z0r (fs:List Fl) (j:Nat):BA0:=(fs.getD j zoB).1
def z0s (fs:List Fl) (j:Nat):BA0:=(fs.getD j zoB).2
def z0t (len:Nat) (Pt Tx:Nat->BA0):List Fl:=(List.range len).map fun j=>(Pt j,Tx j)
def z0u (w:World) (base:Nat) (e:TypeId) (g n cap:Nat) (fs:List Fl):Prop:=w.ownsRow base e 2 (.slice (some ⟨g,0,none⟩) n cap) n (fs.flatMap flL)/\n=fs.length
def OwnM (w:World) (base:Nat) (e:TypeId) (size g n cap k0 c:Nat):Prop:=∃xs,w.ownsRow base e size (.slice (some ⟨g,0,none⟩) n cap) n xs/\∀i,i<c->xs[i]? =some (.string (mtS (k0+i)))
section
variable {w:World} {g b c d k:Nat} {W:TypeId}
structure Kept3 (g0 g1 g2:Nat) (w W:World):Prop where
 os:W.os=w.os
 tape:W.tape=w.tape
 output:W.output=w.output
 size:w.heap.size<=W.heap.size
 block: ∀k,k<w.heap.size->k≠g0->k≠g1->k≠g2->W.heap[k]? =w.heap[k]?
end
