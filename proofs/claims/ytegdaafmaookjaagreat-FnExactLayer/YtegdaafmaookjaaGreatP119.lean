/- Facts. -/
import Derived.Test.YtegdaafmaookjaaGreatP118
import Derived.Test.YtegdaafmaookjaaGreatP89
import Derived.Test.YtegdaafmaookjaaGreatP87
namespace Go.Proofs.YtegdaafmaookjaaGreat
open Go.Proofs.Tryz
set_option maxRecDepth 100000
set_option maxHeartbeats 6400000
open Go.RowKit Go.PlainAid Go.Sort
def wtG (g:Gr) (l:Lk):Nat:=if zx g l.to.toNat l.frm.toNat=true then 0 else 1
theorem zzA (g:Gr) (l:Lk):wtG g l<=1:=by
 unfold wtG
 split<;>omega
variable {w:Gr} {W:List Nat} {g b c:Nat} {V:World} {C:GS} {S:Lk}
theorem zpd (h:GrS w): ∀l∈w.ls,RchF w.ls l.to.toNat l.frm.toNat->wtG w l=0:=by
 intro l A H;have z:=h.inn l A;have q:=(zid z.2 h.inn l.frm.toNat).2 H;rw[zdO z.1] at q;rw[wtG,if_pos (oI q)]
def zgG (g:Gr):List Nat:=zbg (wtG g) g.ls g.ms.length (List.replicate g.ms.length 0)
def zgH (g:Gr):List Int:=(zgG g).map Int.ofNat
theorem zzB (g:Gr):(zgH g).length=g.ms.length:=by rw[zgH,List.length_map,zgG,zfQ,List.length_replicate]
def zpe (g:Gr) (w:World) (e:Ending) (w':World):Prop:=
 ∃a n cap l,e= .returned (.slice a n cap)/\OutE itE 3 w' w.heap.size a n cap l/\Bw w w'/\(GrS g->l=zgH g)/\(¬GrS g->l=[])
theorem zpf {wt:Lk->Nat} {ls:List Lk} (q: ∀l,wt l<=1): ∀(p:List Nat) (a m:Nat),Wy wt ls (a::p) m->m<=p.length
 |[],a,m,h=>by
  have:m=0:=h;omega
 |b::p,a,m,h=>by
  obtain⟨l,A,rfl,rfl,k,rfl,w⟩:=h;have H:=zpf q p _ k w;have I:=q l;rw[List.length_cons];omega
theorem zii (h:GrS w) (L:W.length=w.ms.length) (I:VW (wtG w) w.ls W) {a:Nat} (z:W[a]? =some b):b<=8:=by
 have J:=(gS z).1;obtain⟨p,H⟩:=I a J;obtain⟨q,K,A⟩:=zih h.inn (zpd h) p.length p a _ (Nat.le_refl _) (by omega) H;have N:=zpf (zzA w) q a _ A;have M:=h.1.2;have O:vAt W a=b:=by rw[vAt,List.getD,z];rfl
 omega
def nums (v:List Nat):List Value:=v.map fun k:Nat=>Value.int .i64 (k:Int)
def OwnN (w:World) (base g n:Nat) (v:List Nat):Prop:=OwnR w base 3 1 ⟨some ⟨g,0,none⟩,n⟩ n (nums v)
theorem OwnN.len {q:Nat} (h:OwnN V g q b W):W.length=b:=by have:=h.1;unfold nums at this;rw[List.length_map] at this;omega
theorem OwnN.cell {z:Nat} {v:List Nat} (h:OwnN V g z b v) {j:Nat} (q:v[j]? =some c):V.cell? ⟨z,j,none⟩=some (.int .i64 (c:Int)):=by
 have I:=h.len;have H:=(gS q).1;have A:V.ownsRow g 3 1 (.slice (some ⟨z,0,none⟩) b b) b (nums v):=h;rw[A.cellAt j (by omega),nums,List.getElem?_map,q];rfl
theorem OwnN.free {z:Nat} (h:OwnN V g z b W) (j:Nat):V.frozen? ⟨z,j,none⟩=false:=by
 have q:V.ownsRow g 3 1 (.slice (some ⟨z,0,none⟩) b b) b (nums W):=h;exact q.frozenAt j
theorem OwnN.set {z:Nat} (h:OwnN V g z b W) (j x:Nat):OwnN (V.setCell ⟨z,j,none⟩ (.int .i64 (x:Int))) g z b (W.set j x):=by
 have q:V.ownsRow g 3 1 (.slice (some ⟨z,0,none⟩) b b) b (nums W):=h;unfold OwnN OwnR nums;rw[List.map_set];exact (q.stored j (.int .i64 (x:Int))).1
theorem OwnN.later {w':World} {z:Nat} (h:OwnN V g z b W) (q:Bw V w'):OwnN w' g z b W:=OwnR.later h q
theorem OwnN.at {q n:Nat} (h:OwnN V g q n W):g<=q/\q<V.heap.size:=⟨(h.typed rfl).1,(h.typed rfl).2.1⟩
theorem OwnN.o {z:Nat} (h:OwnN V g z b W):OutE itE 3 V g (some ⟨z,0,none⟩) b b (W.map Int.ofNat):=by
 refine OutE.own ⟨?_,by rw[List.length_map,h.len]⟩;have e:(W.map Int.ofNat).flatMap itE.f=nums W:=by
  clear h
  induction W with
  |nil=>rfl
  |cons x W q=>rw[List.map_cons,List.flatMap_cons,q];rfl
 rw[e];exact h
structure LyW (w W:World) (G:GS) (g:Gr) (gx gb:Nat) (v:List Nat):Prop where
 x:Bk W gx (grC G g) 32
 r:OwnN W w.heap.size gb g.ms.length v
 ne:gx≠gb
 b:Bw w W
 vw:VW (wtG g) g.ls v
theorem LyW.later {s H:World} {z:Gr} {I:Nat} (h:LyW V s C z g I W) (q:Bw s H):LyW V H C z g I W:=⟨h.x.later q,h.r.later q,h.ne,zi h.b q,h.vw⟩
theorem zij {wt:Lk->Nat} {y z:Nat} (w:S.frm=(g:Int)) (H:S.to=(b:Int)) (I:W[g]? =some c) (A:W[b]? =some y) (J:max c (y+wt S)=z):rlx wt W S=W.set g z:=by
 rw[rlx,w,H,Int.toNat_natCast,Int.toNat_natCast,vAt,vAt,List.getD,List.getD,I,A];show W.set g (max c (y+wt S))=_;rw[J]
theorem zpg {wt:Lk->Nat} {y:Nat} (A:S.frm=(g:Int)) (K:S.to=(b:Int)) (w:W[g]? =some c) (J:W[b]? =some y) (L:y+wt S<=c):rlx wt W S=W:=by
 rw[zij A K w J (Nat.max_eq_left L)];obtain⟨H,I⟩:=gS w;rw[<-I];exact List.set_getElem_self H
theorem LyW.step {d:World} {s:Gr} {q:Nat} (h:LyW V d C s g q W) (K:GrS s) (I:S∈s.ls) {z:Nat} (J:rlx (wtG s) W S=W.set c z):LyW V (d.setCell ⟨q,c,none⟩ (.int .i64 (z:Int))) C s g q (rlx (wtG s) W S):=
 ⟨(heap_setCell_other d ⟨q,c,none⟩ g (.int .i64 (z:Int)) h.ne).trans h.x,by rw[J];exact h.r.set c z,h.ne,h.b.setCell h.r.at.1 _,zoX I (by rw[h.r.len];exact (K.inn S I).2) h.vw⟩
theorem zph {wt:Lk->Nat} {ls:List Lk} (h:ls[g]? =some S) (v:List Nat):rnd wt (ls.take (g+1)) v=rlx wt (rnd wt (ls.take g) v) S:=by
 obtain⟨q,rfl⟩:=gS h;rw[tG q,rnd,List.foldl_append];rfl
theorem Tryz.infoItL:(prog.info? 3).map (fun i=>(i.zero,i.size,i.bytes))=some (some (.int .i64 0),1,8):=by kernel_rfl
theorem zzC (cG:GrC 11) (base:Nat) (G:GS) (g:Gr) (w:World) (ho:GrOwn w base G g) (hg:GdG g):
  Calls prog 27 #[grD G g] w (zpe g w):=by
 obtain⟨i0,hi,az,aG,aB⟩:=info_parts Tryz.infoItL;have CG:=zc cG;have HG:=zc hg;have aF:=hg.ll;have O0:=zc ho;clear ho hg cG;obtain⟨pr,mr,sv,⟨la,lc⟩⟩:=G;unfold grD;simp only;go_enter func27,ntmps27;go_upto_region 1 with fail;obtain⟨gx,ac⟩: ∃gx,gx=w.heap.size:=⟨_,rfl⟩;rw[<-ac];refine zp (R:=fun W=>Bk W gx (grC ⟨pr,mr,sv,⟨la,lc⟩⟩ g) 32/\Below w.heap.size w W) ⟨by rw[ac];exact hN0 w _,zn w _⟩ ?_;clear ac;rintro W0 ⟨hx,hb⟩;have X0:=zc hx;have B0:=zc hb;clear hx hb;obtain⟨Y,X,U,cf⟩:=zg X0.o;simp only at Y X U;go_wp2_with fail;refine (CG.o base ⟨pr,mr,sv,⟨la,lc⟩⟩ g W0 (O0.o.later B0.o) HG.o).mono ?_;rintro e w1 ⟨⟨b,rfl,ah⟩,hb⟩;have X1:=zc (X0.o.later hb);have B1:=zc (zi B0.o hb);have OK:=zc ah;clear ah hb Y X U cf X0 B0;obtain⟨Y,X,U,cf⟩:=zg X1.o;simp only at Y X U;cases b with
 |false=>
  have HK:Hid (¬GrS g):=zc (fun k=>absurd (OK.o.2 k) (by decide));have R1:=zc ((OwnE.nil itE w1 3).low B1.o.size);have B2:=zc (zi B1.o (zn w1 (.cells #[] 3)));clear OK;go_wp2;go_ret;exact⟨_,_,_,_,rfl,OutE.own R1.o,B2.o,fun k=>absurd k HK.o,fun _=>rfl⟩
 |true=>
  have q:Hid (GrS g):=OK.o.1 (by simp);clear OK;have ag:1<=g.ms.length:=q.o.1.1;have ae:g.ms.length<=8:=q.o.1.2;have LK:=zc q.o.links;have HR:=zc (RowAt.of (f:=lkL) (m:=3) (fun _=>rfl) O0.o.ls);have ay:gx<w1.heap.size:=(aLt X1.o);go_wp2_with (first|(at_make;refine wpList_make_full w1 rfl _ _ 36 rfl w.heap.size 3 i0 _ 1 underlying36 hi az aG .i64 .i64 _ _ g.ms.length (by rfl) (by rfl) rfl rfl (by rw[aB];omega) (by unfold maxLen;omega) B1.o.size ?_));intro w2 I au;have ad:Bw w1 w2:=(Below.refl _ _).grown au (Nat.le_refl _) (fun k h=>by cases h);obtain⟨gb,af⟩: ∃gb,gb=w1.heap.size:=⟨_,rfl⟩;have L0:Hid (LyW w w2 ⟨pr,mr,sv,⟨la,lc⟩⟩ g gx gb (zbg (wtG g) g.ls 0 (List.replicate g.ms.length 0))):=by
   refine⟨X1.o.later ad,?_,by omega,zi B1.o ad,zkc q.o.inn 0⟩;unfold OwnN OwnR;rw[toList_madeCells_one] at I;rw[zbg,nums,List.map_replicate,af];exact I
  rw[<-af];obtain⟨N,hN⟩: ∃N,N=g.ms.length*g.ms.length:=⟨_,rfl⟩;have aK:N<=64:=by rw[hN];exact Nat.mul_le_mul ae ae
  have aJ:IntKind.i64.wrap ((g.ms.length:Int)*(g.ms.length:Int))=(N:Int):=by
   have e:(g.ms.length:Int)*(g.ms.length:Int)=(N:Int):=by rw[hN];exact (Int.natCast_mul _ _).symm
   rw[e];exact IntWalk.i64_in _ ⟨by omega,by omega⟩
  have aE:Hid (g.ms.length<=N+1):=by
   have:=Nat.mul_le_mul_left g.ms.length ag;rw[Nat.mul_one] at this;show _<=_;omega
  clear hN I au ad af X1 B1 Y X U cf ay;obtain⟨zs,ab⟩: ∃zs,zs=List.replicate g.ms.length 0:=⟨_,rfl⟩;rw[<-ab] at L0;have aH:=zc ab;clear ab;go_wp2;go_loopw [5] (fun i wr=>∃r:Nat,r<=N+1/\i= .int .i64 r/\Hid (LyW w wr ⟨pr,mr,sv,⟨la,lc⟩⟩ g gx gb (zbg (wtG g) g.ls r zs))) (fun i _=>(N+1-intOf i).toNat)
  case atStart=>exact⟨0,Nat.zero_le _,rfl,L0⟩
  case round=>
   obtain⟨r,hr,rfl,RW⟩:=hrel;clear L0;by_cases aL:r<=N
   ·have ak:(r:Int)<=(N:Int):=by omega
    obtain⟨r1,aa⟩: ∃r1,r1=r+1:=⟨_,rfl⟩;have er:(r:Int)+1=(r1:Int):=by omega
    have av:Hid (zbg (wtG g) g.ls r1 zs=rnd (wtG g) (g.ls.take g.ls.length) (zbg (wtG g) g.ls r zs)):=by rw[aa,List.take_length];exact zc rfl
    obtain⟨V,hV⟩: ∃V,V=zbg (wtG g) g.ls r zs:=⟨_,rfl⟩;rw[<-hV] at RW av;have ai:=zc aa;clear aa hV;go_wp2;go_loopw [6] (fun i wq=>∃j:Nat,j<=g.ls.length/\i= .int .i64 j/\Hid (LyW w wq ⟨pr,mr,sv,⟨la,lc⟩⟩ g gx gb (rnd (wtG g) (g.ls.take j) V))) (fun i _=>(g.ls.length-intOf i).toNat)
    case atStart=>exact⟨0,Nat.zero_le _,rfl,RW⟩
    case round=>
     obtain⟨j,hj,rfl,A⟩:=hrel;clear RW;obtain⟨Y,X,U,cf⟩:=zg A.o.x;simp only at Y X U;by_cases aD:j<g.ls.length
     ·have aq:(j:Int)<(g.ls.length:Int):=by omega
      obtain⟨l,hl⟩: ∃l,g.ls[j]? =some l:=⟨_,gE aD⟩;obtain⟨y0,y1,y2,y3⟩:=LK.o l (mG hl);obtain⟨bl,aj,ao,hc⟩:=(HR.o.later A.o.b).get hl;have k0:=hc 0 _ rfl;have k2:=hc 2 _ rfl;simp only[Nat.add_zero] at k0;have aw:la=some ⟨bl,aj,none⟩:=ao;subst aw;obtain⟨K,O⟩: ∃K:Nat,l.frm=K:=⟨l.frm.toNat,by omega⟩;obtain⟨L,J⟩: ∃L:Nat,l.to=L:=⟨l.to.toNat,by omega⟩;have aC:K<g.ms.length:=by omega
      have ax:L<g.ms.length:=by omega
      have aO:(K:Int)<(g.ms.length:Int):=by omega
      have aQ:(L:Int)<(g.ms.length:Int):=by omega
      have NX:=zc (zph (wt:=wtG g) hl V);obtain⟨v,hv⟩: ∃v,v=rnd (wtG g) (g.ls.take j) V:=⟨_,rfl⟩;rw[<-hv] at A NX;clear hv;have ap:=A.o.r.len;obtain⟨x,hx⟩: ∃x,v[K]? =some x:=⟨_,gE (by omega)⟩;obtain⟨y,hy⟩: ∃y,v[L]? =some y:=⟨_,gE (by omega)⟩;have aN:=zii q.o ap A.o.vw hx;have aP:=zii q.o ap A.o.vw hy;have x0:=A.o.r.cell hx;have yy:=A.o.r.cell hy;have xf:=A.o.r.free K;have aI:IntKind.i64.wrap ((y:Int)+1)=((y+1:Nat):Int):=IntWalk.i64_in _ ⟨by omega,by omega⟩;have HX:=zc hx;have HY:=zc hy;have HF:=zc O;have HT:=zc J;have HL:=zc (mG hl);have ar:Hid (wtG g l=if zx g L K=true then 0 else 1):=by rw[wtG,O,J,Int.toNat_natCast,Int.toNat_natCast];exact zc rfl
      have an:=zdO (g:=g) (a:=L) aC;rw[O] at k0;rw[J] at k2;clear hx hy y0 y1 y2 y3 O J hl hc ao;go_wp2_with fail;refine (zfO base ⟨pr,mr,sv,⟨some ⟨bl,aj,none⟩,lc⟩⟩ g L ax _ (O0.o.later A.o.b) ag ae aF LK.o).mono ?_;rintro e w3 ⟨gq,rfl,am,al⟩;have q0:=am.cell an;have Z:=zc (A.o.later al);have x3:=Z.o.r.cell HX.o;have y3:=Z.o.r.cell HY.o;have aM:=Z.o.r.free K;clear am al A an x0 yy xf Y X U cf k0 k2;cases M:zx g L K with
      |true=>
       rw[M] at q0;have HW:Hid (wtG g l=0):=by rw[ar.o,M];exact zc rfl
       by_cases aA:x<y
       ·have H:(y:Int)>(x:Int):=by omega
        have E:=zc (zij (wt:=wtG g) (z:=y) HF.o HT.o HX.o HY.o (by rw[HW.o];omega));have Q4:=zc (Z.o.step q.o HL.o E.o);go_wp2;go_roundw
        case rel=>exact⟨j+1,by omega,by go_num,by rw[NX.o];exact Q4⟩
        case measure=>simp[intOf];omega
       ·have H: ¬(y:Int)>(x:Int):=by omega
        have E:=zc (zpg (wt:=wtG g) HF.o HT.o HX.o HY.o (by rw[HW.o];omega));go_wp2;go_roundw
        case rel=>exact⟨j+1,by omega,by go_num,by rw[NX.o,E.o];exact Z⟩
        case measure=>simp[intOf];omega
      |false=>
       rw[M] at q0;have HW:Hid (wtG g l=1):=by rw[ar.o,M];exact zc rfl
       by_cases aA:x<y+1
       ·have H:((y+1:Nat):Int)>(x:Int):=by omega
        have E:=zc (zij (wt:=wtG g) (z:=y+1) HF.o HT.o HX.o HY.o (by rw[HW.o];omega));have Q4:=zc (Z.o.step q.o HL.o E.o);go_wp2;go_roundw
        case rel=>exact⟨j+1,by omega,by go_num,by rw[NX.o];exact Q4⟩
        case measure=>simp[intOf];omega
       ·have H: ¬((y+1:Nat):Int)>(x:Int):=by omega
        have E:=zc (zpg (wt:=wtG g) HF.o HT.o HX.o HY.o (by rw[HW.o];omega));go_wp2;go_roundw
        case rel=>exact⟨j+1,by omega,by go_num,by rw[NX.o,E.o];exact Z⟩
        case measure=>simp[intOf];omega
     ·obtain rfl:j=g.ls.length:=by omega
      have aq: ¬((g.ls.length:Nat):Int)<(g.ls.length:Int):=by omega
      go_wp2;go_roundw
      case rel=>exact⟨r1,by have:=ai.o;omega,rfl,by rw[av.o];exact A⟩
      case measure=>have:=ai.o;simp[intOf];omega
   ·have ak: ¬(r:Int)<=(N:Int):=by omega
    have HV:Hid (zgG g=zbg (wtG g) g.ls r zs):=by
     rw[zgG,aH.o];exact zc (zz9 q.o.inn (zpd q.o) (by have:=aE.o;omega)).symm
    go_wp2;go_ret;exact⟨_,_,_,_,rfl,RW.o.r.o,RW.o.b,fun _=>by rw[zgH,HV.o],fun k=>absurd q.o k⟩
theorem Tryz.infoItM:(prog.info? 3).map (fun i=>(i.zero,i.size,i.bytes))=some (some (.int .i64 0),1,8):=by kernel_rfl
theorem zpi (cG:GrC 13) (base:Nat) (G:GS) (g:Gr) (w:World) (ho:GrOwn w base G g) (hg:GdG g):
  Calls prog 28 #[grD G g] w (zpe g w):=by
 obtain⟨i0,hi,aA,aH,aD⟩:=info_parts Tryz.infoItM;have CG:=zc cG;have HG:=zc hg;have aG:=hg.ll;have O0:=zc ho;clear ho hg cG;obtain⟨pr,mr,sv,⟨la,lc⟩⟩:=G;unfold grD;simp only;go_enter func28,ntmps28;go_upto_region 1 with fail;obtain⟨gx,ae⟩: ∃gx,gx=w.heap.size:=⟨_,rfl⟩;rw[<-ae];refine zp (R:=fun W=>Bk W gx (grC ⟨pr,mr,sv,⟨la,lc⟩⟩ g) 32/\Below w.heap.size w W) ⟨by rw[ae];exact hN0 w _,zn w _⟩ ?_;clear ae;rintro W0 ⟨hx,N⟩;have X0:=zc hx;have B0:=zc N;clear hx N;obtain⟨J,I,H,Y⟩:=zg X0.o;simp only at J I H;go_wp2_with fail;refine (CG.o base ⟨pr,mr,sv,⟨la,lc⟩⟩ g W0 (O0.o.later B0.o) HG.o).mono ?_;rintro e w1 ⟨⟨b,rfl,aj⟩,N⟩;have X1:=zc (X0.o.later N);have B1:=zc (zi B0.o N);have OK:=zc aj;clear aj N J I H Y X0 B0;obtain⟨J,I,H,Y⟩:=zg X1.o;simp only at J I H;cases b with
 |false=>
  have HK:Hid (¬GrS g):=zc (fun k=>absurd (OK.o.2 k) (by decide));clear OK;go_wp2;go_ret;exact⟨none,0,0,[],rfl,⟨rfl,fun h=>absurd h (by decide)⟩,B1.o,fun k=>absurd k HK.o,fun _=>rfl⟩
 |true=>
  have A:Hid (GrS g):=OK.o.1 (by simp);clear OK;have aK:1<=g.ms.length:=A.o.1.1;have aB:g.ms.length<=8:=A.o.1.2;have LK:=zc A.o.links;have HR:=zc (RowAt.of (f:=lkL) (m:=3) (fun _=>rfl) O0.o.ls);go_wp2_with fail;refine (zgC base ⟨pr,mr,sv,⟨la,lc⟩⟩ g w1 (O0.o.later B1.o) aB aG LK.o).mono ?_;rintro e L ⟨bb,gs,rfl,ai,N⟩;have X2:=zc (X1.o.later N);have B2:=zc (zi B1.o N);have RA:=zc ai;clear ai N X1 B1 J I H Y;obtain⟨J,I,H,Y⟩:=zg X2.o;simp only at J I H;have az:gx<L.heap.size:=(aLt X2.o);go_wp2_with (first|(at_make;refine wpList_make_full L rfl _ _ 36 rfl w.heap.size 3 i0 _ 1 underlying36 hi aA aH .i64 .i64 _ _ g.ms.length (by rfl) (by rfl) rfl rfl (by rw[aD];omega) (by unfold maxLen;omega) B2.o.size ?_));intro w3 M av;have q:Bw L w3:=(Below.refl _ _).grown av (Nat.le_refl _) (fun k h=>by cases h);obtain⟨X,ah⟩: ∃X,X=L.heap.size:=⟨_,rfl⟩;have L0:Hid (LyW w w3 ⟨pr,mr,sv,⟨la,lc⟩⟩ g gx X (zbg (wtG g) g.ls 0 (List.replicate g.ms.length 0))):=by
   refine⟨X2.o.later q,?_,by omega,zi B2.o q,zkc A.o.inn 0⟩;unfold OwnN OwnR;rw[toList_madeCells_one] at M;rw[zbg,nums,List.map_replicate,ah];exact M
  have C0:=zc q;have GB:Hid (L.heap.size<=X):=zc (by omega);rw[<-ah];clear M av q ah X2 B2 J I H Y az;obtain⟨zs,ad⟩: ∃zs,zs=List.replicate g.ms.length 0:=⟨_,rfl⟩;rw[<-ad] at L0;have aI:=zc ad;clear ad;obtain⟨J,I,H,Y⟩:=zg L0.o.x;simp only at J I H;go_wp2;go_loopw [20] (fun i wr=>∃r:Nat,r<=g.ms.length/\i= .int .i64 r/\Hid (LyW w wr ⟨pr,mr,sv,⟨la,lc⟩⟩ g gx X (zbg (wtG g) g.ls r zs))/\Hid (Bw L wr)) (fun i _=>(g.ms.length-intOf i).toNat)
  case atStart=>exact⟨0,Nat.zero_le _,rfl,L0,C0⟩
  case round=>
   obtain⟨r,hr,rfl,RW,RC⟩:=hrel;clear L0 C0 J I H Y;by_cases aL:r<g.ms.length
   ·have an:(r:Int)<(g.ms.length:Int):=by omega
    obtain⟨r1,ac⟩: ∃r1,r1=r+1:=⟨_,rfl⟩;have er:(r:Int)+1=(r1:Int):=by omega
    have aw:Hid (zbg (wtG g) g.ls r1 zs=rnd (wtG g) (g.ls.take g.ls.length) (zbg (wtG g) g.ls r zs)):=by rw[ac,List.take_length];exact zc rfl
    obtain⟨V,hV⟩: ∃V,V=zbg (wtG g) g.ls r zs:=⟨_,rfl⟩;rw[<-hV] at RW aw;have al:=zc ac;clear ac hV;obtain⟨J,I,H,Y⟩:=zg RW.o.x;simp only at J I H;go_wp2;go_loopw [25] (fun i wq=>∃j:Nat,j<=g.ls.length/\i= .int .i64 j/\Hid (LyW w wq ⟨pr,mr,sv,⟨la,lc⟩⟩ g gx X (rnd (wtG g) (g.ls.take j) V))/\Hid (Bw L wq)) (fun i _=>(g.ls.length-intOf i).toNat)
    case atStart=>exact⟨0,Nat.zero_le _,rfl,RW,RC⟩
    case round=>
     obtain⟨j,hj,rfl,QW,QC⟩:=hrel;clear RW RC J I H Y;by_cases aF:j<g.ls.length
     ·have au:(j:Int)<(g.ls.length:Int):=by omega
      obtain⟨l,hl⟩: ∃l,g.ls[j]? =some l:=⟨_,gE aF⟩;obtain⟨y0,y1,y2,y3⟩:=LK.o l (mG hl);obtain⟨bl,am,ao,hc⟩:=(HR.o.later QW.o.b).get hl;have k0:=hc 0 _ rfl;have k1:=hc 1 _ rfl;have k2:=hc 2 _ rfl;simp only[Nat.add_zero] at k0;have ax:la=some ⟨bl,am,none⟩:=ao;subst ax;obtain⟨K,ab⟩: ∃K:Nat,l.frm=K:=⟨l.frm.toNat,by omega⟩;obtain⟨O,U⟩: ∃O:Nat,l.to=O:=⟨l.to.toNat,by omega⟩;have aE:K<g.ms.length:=by omega
      have ay:O<g.ms.length:=by omega
      have aO:(K:Int)<(g.ms.length:Int):=by omega
      have aQ:(O:Int)<(g.ms.length:Int):=by omega
      have NX:=zc (zph (wt:=wtG g) hl V);obtain⟨v,hv⟩: ∃v,v=rnd (wtG g) (g.ls.take j) V:=⟨_,rfl⟩;rw[<-hv] at QW NX;clear hv;have aq:=QW.o.r.len;obtain⟨x,hx⟩: ∃x,v[K]? =some x:=⟨_,gE (by omega)⟩;obtain⟨y,hy⟩: ∃y,v[O]? =some y:=⟨_,gE (by omega)⟩;have aN:=zii A.o aq QW.o.vw hx;have aP:=zii A.o aq QW.o.vw hy;have aJ:IntKind.i64.wrap ((y:Int)+1)=((y+1:Nat):Int):=IntWalk.i64_in _ ⟨by omega,by omega⟩;have HX:=zc hx;have HY:=zc hy;have HF:=zc ab;have HT:=zc U;have HL:=zc (mG hl);have ar:Hid (wtG g l=if zx g O K=true then 0 else 1):=by rw[wtG,ab,U,Int.toNat_natCast,Int.toNat_natCast];exact zc rfl
      rw[ab] at k0;rw[U] at k2;clear hx hy y0 y1 y2 y3 ab U hl hc ao;obtain⟨bx,af⟩: ∃bx,bx=wr.heap.size:=⟨_,rfl⟩;obtain⟨W2,aa⟩: ∃W2,W2=wr.alloc (.cells #[.int .i64 (K:Int),.string l.spec,.int .i64 (O:Int)] 62):=⟨_,rfl⟩;have ag:Bw wr W2:=by rw[aa];exact bA0
      have Q2:=zc (QW.o.later ag);have C2:=zc (QC.o.trans (ag.mono QC.o.size));have E2:Hid (Bk W2 bx #[.int .i64 (K:Int),.string l.spec,.int .i64 (O:Int)] 62):=zc (by rw[aa,af];exact hN0 wr _);go_upto_region 10 with fail;rw[<-aa,<-af];clear ag QW QC aa af k0 k1 k2;obtain⟨e0,e1,e2,ef⟩:=zg E2.o;have yy:=Q2.o.r.cell HY.o;go_wp2_with fail;refine (zoy g bb K O gs l.spec W2 (RA.o.later C2.o) aE ay).mono ?_;rintro e W3 ⟨rfl,q⟩;have Q3:=zc (Q2.o.later q);have C3:=zc (C2.o.trans (q.mono C2.o.size));have E3:=zc (E2.o.later q);clear q Q2 C2 E2 e0 e1 e2 ef yy;obtain⟨e0,e1,e2,ef⟩:=zg E3.o;have x3:=Q3.o.r.cell HX.o;have aM:=Q3.o.r.free K;have ak: ∀z:Nat,max x (y+wtG g l)=z->Hid (LyW w (W3.drew.setCell ⟨X,K,none⟩ (.int .i64 (z:Int))) ⟨pr,mr,sv,⟨some ⟨bl,am,none⟩,lc⟩⟩ g gx X (rnd (wtG g) (g.ls.take (j+1)) V))/\Hid (Bw L (W3.drew.setCell ⟨X,K,none⟩ (.int .i64 (z:Int)))):=fun z hz=>by
       have E:=zij (wt:=wtG g) HF.o HT.o HX.o HY.o hz;rw[NX.o];exact⟨zc ((Q3.o.later (Below.refl _ _).drew).step A.o HL.o E),zc ((C3.o.trans ((Below.refl W3.heap.size W3).drew.mono C3.o.size)).setCell GB.o _)⟩
      have Z:=zc ak;clear ak;cases ap:zx g O K with
      |true=>
       have HW:Hid (wtG g l=0):=by rw[ar.o,ap];exact zc rfl
       obtain⟨z,hz⟩: ∃z,z=max x y:=⟨_,rfl⟩;have aC:max (x:Int) (y:Int)=(z:Int):=by omega
       have F:=zc (Z.o z (by rw[HW.o];omega));clear hz Z;go_wp2_with fail;go_region;go_wp2;go_roundw
       case rel=>exact⟨j+1,by omega,by go_num,F.o.1,F.o.2⟩
       case measure=>simp[intOf];omega
      |false=>
       have HW:Hid (wtG g l=1):=by rw[ar.o,ap];exact zc rfl
       obtain⟨z,hz⟩: ∃z,z=max x (y+1):=⟨_,rfl⟩;have aC:max (x:Int) ((y:Int)+1)=(z:Int):=by omega
       have F:=zc (Z.o z (by rw[HW.o];omega));clear hz Z;go_wp2_with fail;go_region;go_wp2;go_roundw
       case rel=>exact⟨j+1,by omega,by go_num,F.o.1,F.o.2⟩
       case measure=>simp[intOf];omega
     ·obtain rfl:j=g.ls.length:=by omega
      have au: ¬((g.ls.length:Nat):Int)<(g.ls.length:Int):=by omega
      go_wp2;go_roundw
      case rel=>exact⟨r1,by have:=al.o;omega,rfl,by rw[aw.o];exact QW,QC⟩
      case measure=>have:=al.o;simp[intOf];omega
   ·obtain rfl:r=g.ms.length:=by omega
    have an: ¬((g.ms.length:Nat):Int)<(g.ms.length:Int):=by omega
    go_wp2;go_ret;exact⟨_,_,_,_,rfl,RW.o.r.o,RW.o.b,fun _=>by rw[zgH,zgG,<-aI.o],fun k=>absurd A.o k⟩
