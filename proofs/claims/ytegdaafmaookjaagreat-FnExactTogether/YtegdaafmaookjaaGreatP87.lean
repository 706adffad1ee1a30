/- Facts. -/
import Derived.Test.YtegdaafmaookjaaGreatP86
namespace Go.Proofs.YtegdaafmaookjaaGreat
open Go.Proofs.Tryz
set_option maxRecDepth 100000
set_option maxHeartbeats 6400000
open Go.RowKit Go.PlainAid Go.Sort
theorem zfO (base:Nat) (G:GS) (g:Gr) (A:Nat) (hm:A<g.ms.length) (w:World) (ho:GrOwn w base G g) (hn:1<=g.ms.length) (ay:g.ms.length<=8) (hl:g.ls.length<=1048576) (hr: ∀l∈g.ls,0<=l.frm/\l.frm<(g.ms.length:Int)/\0<=l.to/\l.to<(g.ms.length:Int)):
  Calls prog 53 #[grD G g,.int .i64 (A:Int)] w fun e w'=>zjO w g.ms.length (zai g.ls g.ms.length (zas g.ms.length A)) e w':=by
 have HR:=zc (RowAt.of (f:=lkL) (m:=3) (fun _=>rfl) ho.ls);have HC:=zc hr;clear ho hr;obtain⟨i0,hi,aj,an,al⟩:=info_parts Tryz.infoBl;unfold grD;go_enter func53,ntmps53;go_upto_region 1 with fail;obtain⟨H,U⟩: ∃H,H=w.heap.size:=⟨_,rfl⟩;rw[<-U];refine zp (R:=fun W=>Bk W H (grC G g) 32/\Below w.heap.size w W) (by rw[U];exact⟨hN0 w _,zn w _⟩) ?_;rintro W0 ⟨hx,hb⟩;have aw:w.heap.size<=H:=by omega
 clear U;have X0:=zc hx;have X:=zc hb;have ai:H<W0.heap.size:=(aLt hx);clear hx hb;obtain⟨c0,c1,N,cf⟩:=zg X0.o;go_wp2_with (first|(at_make;refine wpList_make_full W0 rfl _ _ 63 rfl w.heap.size 4 i0 _ 1 underlying63 hi aj an .i64 .i64 _ _ g.ms.length (by rfl) (by rfl) rfl rfl (by rw[al];omega) (by unfold maxLen;omega) X.o.size ?_));intro w1 q M;have ab:Bw W0 w1:=(Below.refl _ _).grown M (Nat.le_refl _) (fun k h=>by cases h);obtain⟨L,aa⟩: ∃L,L=W0.heap.size:=⟨_,rfl⟩;have RR:Hid (RchW w w1 G g H L g.ms.length (List.replicate g.ms.length false)):=by
  refine⟨X0.o.later ab,?_,by omega,zi X.o ab⟩;unfold OwnBl OwnR;rw[toList_madeCells_one] at q;rw[aa,List.map_replicate];exact q
 rw[<-aa];clear q M ab aa X0 X ai c0 c1 N cf;obtain⟨c0,c1,N,cf⟩:=zg RR.o.x;have f0:=RR.o.r.free A;have b0:=RR.o.r.cell (j:=A) (v:=false) (by rw[List.getElem?_replicate,if_pos (by omega)]);have au:(A:Int)<(g.ms.length:Int):=by omega
 have R1:=zc (RR.o.set A);go_upto_region 3 with fail;obtain⟨w2,ac⟩: ∃w2,w2=w1.setCell ⟨L,A,none⟩ (.bool true):=⟨_,rfl⟩;rw[<-ac] at R1 ⊢;clear ac RR f0 b0 c0 c1 N cf;have ao:(List.replicate g.ms.length false).length=g.ms.length:=List.length_replicate ..;change Hid (RchW w w2 G g H L g.ms.length (zas g.ms.length A)) at R1;go_wp2;go_loopg [6,7] g.ms.length (fun k s4 s5 wr=>∃r:Nat,s4= .int .i64 r/\r+k=g.ms.length/\RchW w wr G g H L g.ms.length (zai g.ls r (zas g.ms.length A)))
 case atStart=>exact⟨0,rfl,by omega,R1.o⟩
 case round=>
  obtain⟨r,rfl,hr,hw⟩:=hrel;have RW:=zc hw;clear hw R1;obtain⟨c0,c1,N,cf⟩:=zg RW.o.x;by_cases aq:r<g.ms.length
  ·have af:(r:Int)<(g.ms.length:Int):=by omega
   obtain⟨r1,ad⟩: ∃r1,r1=r+1:=⟨_,rfl⟩;have er:(r:Int)+1=(r1:Int):=by omega
   have V:=zc ad;clear ad;go_wp2;clear c0 c1 N cf;go_loopg [7] g.ls.length (fun k s5 wq=>∃i:Nat,s5= .int .i64 i/\i+k=g.ls.length/\RchW w wq G g H L g.ms.length (zbr (g.ls.take i) (zai g.ls r (zas g.ms.length A))))
   case atStart=>exact⟨0,rfl,by omega,RW.o⟩
   case round=>
    obtain⟨i,rfl,ap,hw⟩:=hrel;have I:=zc hw;clear hw;obtain⟨c0,c1,N,cf⟩:=zg I.o.x;by_cases am:i<g.ls.length
    ·have ah:(i:Int)<(g.ls.length:Int):=by omega
     obtain⟨l,K⟩: ∃l,g.ls[i]? =some l:=⟨_,gE am⟩;obtain⟨y0,y1,y2,y3⟩:=HC.o l (mG K);obtain⟨bl,ar,ag,hc⟩:=(HR.o.later I.o.b).get K;have k0:=hc 0 _ rfl;have k2:=hc 2 _ rfl;have HN:=zc (zoa K (zai g.ls r (zas g.ms.length A)));simp only[Nat.add_zero] at k0;clear hc K;obtain⟨fr,Z⟩: ∃fr:Nat,l.frm=fr:=⟨l.frm.toNat,by omega⟩;obtain⟨Y,O⟩: ∃Y:Nat,l.to=Y:=⟨l.to.toNat,by omega⟩;obtain⟨b,hb⟩: ∃b,b=zbr (g.ls.take i) (zai g.ls r (zas g.ms.length A)):=⟨_,rfl⟩;rw[<-hb] at I HN;clear hb;have ak:=I.o.r.len;obtain⟨v,hv⟩: ∃v,b[fr]? =some v:=⟨_,gE (by omega)⟩;obtain⟨u,hu⟩: ∃u,b[Y]? =some u:=⟨_,gE (by omega)⟩;have HS:Hid (zbZ b l=if v=true then b.set Y true else b):=by
      show zbZ b l=_;unfold zbZ;rw[Z,O,Int.toNat_natCast,Int.toNat_natCast,List.getD,hv];rfl
     have b0:=I.o.r.cell hv;have b1:=I.o.r.cell hu;have f1:=I.o.r.free Y;have av:(fr:Int)<(g.ms.length:Int):=by omega
     have ax:(Y:Int)<(g.ms.length:Int):=by omega
     have Q1:=zc (I.o.set Y);rw[Z] at k0;rw[O] at k2;rw[ag] at N;clear Z O ag hv hu ak y0 y1 y2 y3;obtain⟨i1,ae⟩: ∃i1,i1=i+1:=⟨_,rfl⟩;have ei:(i:Int)+1=(i1:Int):=by omega
     have J:=zc ae;clear ae;cases v with
     |true=>
      go_wp2;go_roundg (gk-1)
      case rel=>exact⟨i1,rfl,by have:=J.o;omega,by rw[J.o,HN.o,HS.o];exact Q1.o⟩
      case measure=>omega
     |false=>
      go_wp2;go_roundg (gk-1)
      case rel=>exact⟨i1,rfl,by have:=J.o;omega,by rw[J.o,HN.o,HS.o];exact I.o⟩
      case measure=>omega
    ·have ah: ¬(i:Int)<(g.ls.length:Int):=by omega
     have QE:Hid (RchW w wr G g H L g.ms.length (zai g.ls r1 (zas g.ms.length A))):=by
      show RchW ..;rw[V.o,ziM];have:=I.o;rw[List.take_of_length_le (by omega)] at this;exact this
     go_wp2;go_roundg (g.ms.length-r1)
     case rel=>exact⟨r1,rfl,by have:=V.o;omega,QE.o⟩
     case measure=>have:=V.o;omega
  ·have af: ¬(r:Int)<(g.ms.length:Int):=by omega
   obtain rfl:r=g.ms.length:=by omega
   go_wp2;go_ret;exact⟨L,rfl,RW.o.r,RW.o.b⟩
def ntE:Enc Nat:=⟨fun x=>[.int .i64 (x:Int)],1,fun _=>rfl,by decide,fun x v hv=>by simp at hv;rw[hv];rfl⟩
variable {w:World} {g b c d:Nat} {W:TypeId} {S:GS} {q:Gr} {z:List Nat}
theorem OwnE.cut {α:Type} {E:Enc α} {s:Nat} {l:List α} (h:OwnE E w g W s b c l) {k:Nat} (N:k<=b):OwnE E w g W s k c (l.take k):=by
 have Z:=h.2;refine⟨⟨?_,?_⟩,by rw[List.length_take];omega⟩
 ·rw[zox,List.length_take];congr 1;omega
 ·rcases h.1.2 with ⟨I,_⟩|⟨g',M,q,I,V,X,U,K,L,A⟩
  ·simp at I
  ·simp only[vI,sI0,Addr.mk.injEq,and_true,true_and] at I;obtain⟨rfl,rfl⟩:=I;refine .inr ⟨s,c,q,rfl,V,X,by omega,K,L,?_⟩;have J:k*E.m<=b*E.m:=Nat.mul_le_mul_right _ N;have O:q.toList.take (k*E.m)=(q.toList.take (b*E.m)).take (k*E.m):=by rw[List.take_take,Nat.min_eq_left J]
   rw[O,A];have Y:l.flatMap E.f=(l.take k).flatMap E.f++(l.drop k).flatMap E.f:=by rw[<-List.flatMap_append,List.take_append_drop]
   have e3:((l.take k).flatMap E.f).length=k*E.m:=by rw[zox,List.length_take,<-Z];congr 1;omega
   rw[Y,List.take_append_of_le_length (by omega),List.take_of_length_le (by omega)]
theorem OwnE.cells {α:Type} {E:Enc α} {base g:Nat} {l:List α} (h:OwnE E w base W g b c l): ∃q,w.heap[g]? =some (.cells q W (0,0)):=by
 rcases h.1.2 with ⟨A,_⟩|⟨L,I,q,A,K,J,_⟩
 ·simp at A
 ·simp only[vI,sI0,Addr.mk.injEq,and_true,true_and] at A;obtain⟨rfl,rfl⟩:=A;exact⟨q,J⟩
def zdP (w:World) (g:Nat):Nat->Nat
 |0=>0
 |n+1=>zdP w g n+match w.cell? ⟨g,n,none⟩ with|some (.bool true)=>1|_=>0
theorem zjV {s:Nat} {m:List Bool} (h:OwnBl w g s b m):zdP w s b=zF m:=by
 have H: ∀k,k<=b->zdP w s k=zF (m.take k):=by
  intro k
  induction k with
  |zero=>intro _;rfl
  |succ k J=>
   intro L;have M:=h.len;obtain⟨v,I⟩: ∃v,m[k]? =some v:=⟨_,gE (by omega)⟩;have K:=h.cell I;rw[zdP,J (by omega),K];obtain⟨A,q⟩:=gS I;rw[tG A,q,zF,zF,List.count_append];cases v<;>rfl
 have:=H b (Nat.le_refl _);rw[List.take_of_length_le (by rw[h.len];exact Nat.le_refl _)] at this;exact this
structure WkW (w W:World) (G:GS) (g:Gr) (gx gb gs cap:Nat) (n:Nat) (b:List Bool) (st:List Nat):Prop where
 r:RchW w W G g gx gb n b
 s:OwnE ntE W w.heap.size 3 gs st.length cap st
theorem WkW.later {W K:World} {J I k:Nat} {b:List Bool} (h:WkW w W S q J I c k d b z) (A:Bw W K):WkW w K S q J I c k d b z:=
 ⟨⟨h.r.x.later A,h.r.r.later A,h.r.ne,h.r.b.trans (A.mono h.r.b.size)⟩,h.s.later A⟩
theorem WkW.ne {W:World} {J n:Nat} {m:List Bool} (h:WkW w W S q J b c d n m z):c≠b/\c≠J:=by
 obtain⟨M,k⟩:=h.s.cells;obtain⟨K,A⟩:=h.r.r.block;constructor
 ·intro e;rw[e,A] at k;exact absurd (oI k) (by simp)
 ·intro e;have N:W.heap[J]? =_:=h.r.x;rw[e,N] at k;exact absurd (oI k) (by simp)
theorem WkW.set {W:World} {I A k:Nat} {b:List Bool} (h:WkW w W S q I A c k d b z) (j:Nat):WkW w (W.setCell ⟨A,j,none⟩ (.bool true)) S q I A c k d (b.set j true) z:=
 ⟨h.r.set j,h.s.keep (heap_setCell_other W ⟨A,j,none⟩ c _ h.ne.1)⟩
theorem WkW.grow {W L:World} {H J m n:Nat} {p:List Bool} {st':List Nat} (h:WkW w W S q H b c J n p z) (K:W.grownBy L (some c)) (U:OwnE ntE L w.heap.size 3 d st'.length m st'):WkW w L S q H b d m n p st':=by
 have N:W.heap[H]? =_:=h.r.x;refine⟨⟨(K.block H (aLt N) fun e=>h.ne.2 (oI e).symm).trans N,?_,h.r.ne,h.r.b.grown K h.r.b.size fun j e=>by cases e;exact h.s.blk.1⟩,U⟩;exact OwnR.keep h.r.r fun k O=>by
  have e:k=b:=by simpa [Rw.blk,Value.ownBlock] using O.symm
  rw[e];exact K.block b h.r.r.at.2 fun e=>h.ne.1 (oI e).symm
set_option maxRecDepth 1000000
def zyE:Value->Nat| .slice _ n _=>n|_=>0
def zyF:Value->Nat| .slice (some a) _ _=>a.block|_=>0
theorem Tryz.infoNt:(prog.info? 3).map (fun i=>(i.zero,i.size,i.bytes))=some (some (.int .i64 0),1,8):=by kernel_rfl
variable (w:Gr) (g:Nat) {b c d:Nat} {W V:World} {C:GS} {S:Gr} {q:Nat->Nat}
theorem zyG (G:GS) (z:Gr) (O:Nat) (hm:O<z.ms.length) (w:World) (ho:GrOwn w g G z) (b6:z.ms.length<=8) (hl:z.ls.length<=1048576) (hr: ∀l∈z.ls,0<=l.frm/\l.frm<(z.ms.length:Int)/\0<=l.to/\l.to<(z.ms.length:Int)):
  Calls prog 84 #[grD G z,.int .i64 (O:Int)] w fun e w'=>zjO w z.ms.length (zai z.ls z.ms.length (zas z.ms.length O)) e w':=by
 have HR:=zc (RowAt.of (f:=lkL) (m:=3) (fun _=>rfl) ho.ls);have HC:=zc hr;have bc:Hid (zdu z.ls z.ms.length):=zc (fun l hl=>by have:=hr l hl;exact⟨by omega,by omega⟩);have HZ:Hid (∀l∈z.ls,0<=l.frm):=zc (fun l hl=>(hr l hl).1);clear ho hr;obtain⟨i0,hi,bD,bL,bI⟩:=info_parts Tryz.infoBl;obtain⟨j0,ji,bG,bN,bz⟩:=info_parts Tryz.infoNt;unfold grD;go_enter func84,ntmps84;go_wp2;obtain⟨V,al⟩: ∃V,V=w.heap.size:=⟨_,rfl⟩;rw[<-al];refine zp (R:=fun W=>Bk W V (grC G z) 32/\Below w.heap.size w W) (by rw[al];exact⟨hN0 w _,zn w _⟩) ?_;rintro W0 ⟨hx,hb⟩;have bY:w.heap.size<=V:=by omega
 clear al;have X0:=zc hx;have af:=zc hb;have aj:V<W0.heap.size:=(aLt hx);clear hx hb;refine zoj 0 (fun a' w'=>∃(J a gs ag:Nat) (b:List Bool) (st:List Nat) (u3 u8 u9 aJ bn aH aZ bj a3 aA a9 aB aF aK bq aE aC a2 aw bk bm bs ax br a1 bu aU aL bb bp aV a5 aY bg a6 aP bi a7 bf a4 ay aG aI aS aN ar aT bw a0 aX bt aM bv aR bo:Value),a'={tmps:=#[grD G z,.int .i64 (O:Int),.pointer (some ⟨V,0,none⟩),u3,.slice none 0 0,.slice (some ⟨J,0,none⟩) z.ms.length z.ms.length,.int .i64 (a:Int),.slice (some ⟨gs,0,none⟩) st.length ag,u8,u9,aJ,bn,aH,aZ,bj,a3,aA,a9,aB,aF,aK,bq,aE,aC,a2,aw,bk,bm,bs,ax,br,a1,bu,aU,aL,bb,bp,aV,a5,aY,bg,a6,aP,bi,a7,bf,a4,ay,aG,aI,aS,aN,ar,aT,bw,a0,aX,bt,aM,bv,aR,bo],defers:=[]}/\Hid (WkP z.ls z.ms.length O a (b,st))/\Hid (WkW w w' G z V J gs ag z.ms.length b st)) (fun a' w'=>(z.ms.length-zdP w' (zyF (a'.tmps.getD 5 undef)) z.ms.length)+zyE (a'.tmps.getD 7 undef)) rfl ?_ ?_
 ·rintro a' wr ⟨J,a,gs,ag,b,st,u3,u8,u9,aJ,bn,aH,aZ,bj,a3,aA,a9,aB,aF,aK,bq,aE,aC,a2,aw,bk,bm,bs,ax,br,a1,bu,aU,aL,bb,bp,aV,a5,aY,bg,a6,aP,bi,a7,bf,a4,ay,aG,aI,aS,aN,ar,aT,bw,a0,aX,bt,aM,bv,aR,bo,rfl,HP,L⟩;clear X0 af aj;have ah:=HC.o;obtain⟨c0,c1,c2,cf⟩:=zg L.o.r.x;have bx:Hid (zdP wr J z.ms.length=zF b):=zc (zjV L.o.r.r);have KK:Hid (WkK z.ls z.ms.length O a (b,st) 0 (b,st)):=zc (WkK.first HP.o);clear HP;go_wp2;go_loopw [23,7] (fun i s wq=>∃(k M A:Nat) (H:List Bool) (q:List Nat),k<=z.ls.length/\i= .int .i64 k/\s= .slice (some ⟨M,0,none⟩) q.length A/\Hid (WkK z.ls z.ms.length O a (b,st) k (H,q))/\Hid (WkW w wq G z V J M A z.ms.length H q)) (fun i _ _=>(z.ls.length-intOf i).toNat)
  case atStart=>exact⟨0,gs,ag,b,st,Nat.zero_le _,rfl,rfl,KK,L⟩
  case round=>
   clear KK L c0 c1 c2 cf;obtain⟨k,M,A,H,q,hk,rfl,rfl,Y,L⟩:=hrel;by_cases ae:k<z.ls.length
   ·have bQ:(k:Int)<(z.ls.length:Int):=by omega
    obtain⟨l,aa⟩: ∃l,z.ls[k]? =some l:=⟨_,gE ae⟩;obtain⟨y0,y1,y2,y3⟩:=HC.o l (mG aa);obtain⟨bl,bV,bh,hc⟩:=(HR.o.later L.o.r.b).get aa;have k0:=hc 0 _ rfl;have k1:=hc 1 _ rfl;have k2:=hc 2 _ rfl;simp only[Nat.add_zero] at k0;have HN:=zc (Y.o.next bc.o HZ.o aa);obtain⟨X,am⟩: ∃X:Nat,l.frm=X:=⟨l.frm.toNat,by omega⟩;obtain⟨I,aD⟩: ∃I:Nat,l.to=I:=⟨l.to.toNat,by omega⟩;have bX:=L.o.r.r.len;have b5:I<z.ms.length:=by omega
    obtain⟨v,hv⟩: ∃v,H[I]? =some v:=⟨_,gE (by omega)⟩;have HS:Hid (zdN a (H,q) l=if X=a/\v=false then (H.set I true,q++[I]) else (H,q)):=by
     show zdN a (H,q) l=_;unfold zdN;rw[am,aD,Int.toNat_natCast];have e1:H.getD I true=v:=by rw[List.getD,hv];rfl
     show (if (X:Int)=(a:Int)/\H.getD I true=false then _ else _)=_;rw[e1];congr 1;simp only[Int.natCast_inj]
    have bJ:=Y.o.wk.cnt;have au:=zdG H;rw[am] at k0;rw[aD] at k2;rw[bh];have ad:q.length<=8:=by have:=Y.o.wk.cnt;have:=Y.o.wk.len;simp only at*;omega
    clear Y am bh hc y0 y1 y2 y3 aa bJ au ah;obtain⟨W2,ac⟩: ∃W2,W2=wr.alloc (.cells #[.int .i64 (X:Int),.string l.spec,.int .i64 (I:Int)] 62):=⟨_,rfl⟩;have aW:Bw wr W2:=by rw[ac];exact bA0
    have ak:=zc (L.o.later aW);have X2:Hid (W2.heap[wr.heap.size]? =some (.cells #[.int .i64 (X:Int),.string l.spec,.int .i64 (I:Int)] 62)):=by rw[ac];exact hN0 wr _
    clear aW;have b1:=L.o.r.r.cell hv;have bU:J<wr.heap.size:=L.o.r.r.at.2;have f1:=L.o.r.r.free I;have bO:wr.heap.size<W2.heap.size:=(aLt X2.o);have bT:(I:Int)<(z.ms.length:Int):=by omega
    by_cases ap:X=a
    ·subst ap;cases v with
     |true=>
      have ab:Hid (zdN X (H,q) l=(H,q)):=by show _=_;rw[HS.o,if_neg (by simp)]
      clear HS;go_wp2;rw[<-ac];go_roundw
      case rel=>exact⟨k+1,M,A,H,q,ae,by go_num,rfl,by rw[<-ab.o];exact HN,ak⟩
      case measure=>simp[intOf];omega
     |false=>
      have ab:Hid (zdN X (H,q) l=(H.set I true,q++[I])):=by show _=_;rw[HS.o,if_pos ⟨rfl,rfl⟩]
      have be:=zc (L.o.set I);have e3:((wr.setCell ⟨J,I,none⟩ (.bool true)).alloc (.cells #[.int .i64 (X:Int),.string l.spec,.int .i64 (I:Int)] 62)).heap.size=wr.heap.size+1:=by rw[zh,World.size_setCell]
      clear HS X2 ak ac L bO;go_wp2_with (at_builtin;refine zeh ntE _ rfl _ _ 36 rfl w.heap.size 3 j0 _ 8 underlying36 ji bG bN bz rfl (by decide) M q.length A q (by rfl) (by exact ((be.o.later (bA0)).later (bA0)).s) (wr.heap.size+1) I (by rfl) (by have h:=hN0 ((wr.setCell ⟨J,I,none⟩ (.bool true)).alloc (.cells #[.int .i64 (X:Int),.string l.spec,.int .i64 (I:Int)] 62)) (.cells #[.int .i64 (I:Int)] 3);rw[e3] at h;exact h) (by omega) ?_;intro g4 ba w4 bM bK bP);have bB:=zc (((be.o.later (bA0)).later (bA0)).grow bK (st':=q++[I]) (by rw[List.length_append];exact bM));go_roundw
      case rel=>exact⟨k+1,g4,ba,H.set I true,q++[I],ae,by go_num,by rw[List.length_append];rfl,by rw[<-ab.o];exact HN,bB⟩
      case measure=>simp[intOf];omega
    ·have b7:((X:Int)==(a:Int))=false:=bN0 (by omega);have ab:Hid (zdN a (H,q) l=(H,q)):=by show _=_;rw[HS.o,if_neg (fun k=>ap k.1)]
     clear HS;go_wp2;rw[<-ac];go_roundw
     case rel=>exact⟨k+1,M,A,H,q,ae,by go_num,rfl,by rw[<-ab.o];exact HN,ak⟩
     case measure=>simp[intOf];omega
   ·obtain rfl:k=z.ls.length:=by omega
    have a8:=Y.o.wk.cnt;have bF:=Y.o.wk.len;have au:=zdG H;have bS:=zdG b;have ad:q.length<=8:=by simp only at*;omega
    rcases List.eq_nil_or_concat q with rfl|⟨N,x,rfl⟩
    ·have HE:=zc (Y.o.over hm bc.o rfl);go_wp2;simp only[Exit.jump];go_ret;refine⟨J,rfl,?_,L.o.r.b⟩;rw[<-show H=_ from HE.o];exact L.o.r.r
    ·rw[List.concat_eq_append] at Y L ad a8 ⊢;have bC:=zc (Y.o.pop rfl);have HM:=zc Y.o.meas;obtain⟨ln,Z⟩: ∃ln,ln=N.length:=⟨_,rfl⟩;have bA:(N++[x]).length=ln+1:=by rw[List.length_append,Z];rfl
     have bE:Hid (OwnE ntE wr w.heap.size 3 M ln A N):=zc (by
      have h:=L.o.s.cut (k:=ln) (by omega);rw[Z,List.take_left] at h;rw[Z]
      exact h)
     have hx:wr.cell? ⟨M,ln,none⟩=some (.int .i64 (x:Int)):=by
      obtain⟨b4,bR,he,hc⟩:=L.o.s.row.get (j:=ln) (x:=x) (by rw[Z,List.getElem?_append_right (Nat.le_refl _),Nat.sub_self];rfl);cases he;have h:=hc 0 _ rfl
      simpa [ntE] using h
     have az:=L.o.s.cap;have aQ:=zc L.o.r;have bZ:Hid (zdP wr J z.ms.length=zF H):=zc (zjV L.o.r.r);rw[bA] at az ad ⊢;clear L Y a8 bF;subst Z;have bW:(N.length:Int)<=(A:Int):=by omega
     have aa:N.length<N.length+1:=by omega
     have aO:Bw wr wr.drew:=(Below.refl _ _).drew;have W9:Hid (WkW w wr.drew G z V J M A z.ms.length H N):=zc (WkW.later ⟨aQ.o,bE.o⟩ aO);have M9:Hid (zdP wr.drew J z.ms.length=zF H):=zc (zjV W9.o.r.r);clear aO;go_wp2;go_region
     all_goals
      go_wp2;go_step3;refine⟨rfl,⟨J,x,M,A,H,N,_,_,_,_,_,_,_,_,_,_,_,_,_,_,_,_,_,_,_,_,_,_,_,_,_,_,_,_,_,_,_,_,_,_,_,_,_,_,_,_,_,_,_,_,_,_,_,_,_,_,_,_,_,_,_,rfl,bC,W9⟩,?_⟩;have q1:=HM.o;have q2:=M9.o;have q3:=bx.o;simp only[List.length_append,List.length_singleton] at q1;have q4:=aQ.o.r.len;show (z.ms.length-zdP wr.drew J z.ms.length)+N.length<(z.ms.length-zdP _ J z.ms.length)+st.length;rw[q2,q3];omega
 ·intro aq;obtain⟨c0,c1,c2,cf⟩:=zg X0.o;go_wp2_with (first|(at_make;refine wpList_make_full W0 rfl _ _ 63 rfl w.heap.size 4 i0 _ 1 underlying63 hi bD bL .i64 .i64 _ _ z.ms.length (by rfl) (by rfl) rfl rfl (by rw[bI];omega) (by unfold maxLen;omega) af.o.size ?_));intro w1 U ai;have ao:Bw W0 w1:=(Below.refl _ _).grown ai (Nat.le_refl _) (fun k h=>by cases h);obtain⟨J,an⟩: ∃J,J=W0.heap.size:=⟨_,rfl⟩;have RR:Hid (RchW w w1 G z V J z.ms.length (List.replicate z.ms.length false)):=by
   refine⟨X0.o.later ao,?_,by omega,zi af.o ao⟩;unfold OwnBl OwnR;rw[toList_madeCells_one] at U;rw[an,List.map_replicate];exact U
  rw[<-an];clear U ai ao an X0 af aj c0 c1 c2 cf;obtain⟨c0,c1,c2,cf⟩:=zg RR.o.x;have f0:=RR.o.r.free O;have b0:=RR.o.r.cell (j:=O) (v:=false) (by rw[List.getElem?_replicate,if_pos (by omega)]);have bH:(O:Int)<(z.ms.length:Int):=by omega
  have R1:=zc (RR.o.set O);go_upto_region 3 with fail;obtain⟨w2,av⟩: ∃w2,w2=w1.setCell ⟨J,O,none⟩ (.bool true):=⟨_,rfl⟩;rw[<-av] at R1 ⊢;clear av RR f0 b0 c0 c1 c2 cf bH;change Hid (RchW w w2 G z V J z.ms.length (zas z.ms.length O)) at R1;have HP:Hid (WkP z.ls z.ms.length O O (zas z.ms.length O,[])):=zc (WkP.start hm)
  have W1:Hid (WkW w (w2.alloc (.cells #[] 3)) G z V J w2.heap.size 0 z.ms.length (zas z.ms.length O) []):=zc (by
   have hb:Bw w2 (w2.alloc (.cells #[] 3)):=bA0
   exact⟨⟨R1.o.x.later hb,R1.o.r.later hb,R1.o.ne,R1.o.b.trans (hb.mono R1.o.b.size)⟩,(OwnE.nil ntE w2 3).low R1.o.b.size⟩)
  go_wp2;go_step3
  rename_i K hK
  refine hK _ _ (aq _ _ ⟨J,O,w2.heap.size,0,zas z.ms.length O,[],_,_,_,_,_,_,_,_,_,_,_,_,_,_,_,_,_,_,_,_,_,_,_,_,_,_,_,_,_,_,_,_,_,_,_,_,_,_,_,_,_,_,_,_,_,_,_,_,_,_,_,_,_,_,_,rfl,HP,W1⟩)
theorem Tryz.infoBls:(prog.info? 63).map (fun i=>(i.zero,i.size,i.bytes))=some (some (.slice none 0 0),1,24):=by kernel_rfl
def reV (n:Nat) (gs:Nat->Nat) (k j:Nat):Value:=if j<k then .slice (some ⟨gs j,0,none⟩) n n else .slice none 0 0
def reL (n:Nat) (gs:Nat->Nat) (k:Nat):List Value:=(List.range n).map (reV n gs k)
theorem zyH (w:Nat->Nat) (A:c<b) (q:Nat):(reL b w c).set c (.slice (some ⟨q,0,none⟩) b b)=reL b (fun j=>if j=c then q else w j) (c+1):=by
 apply List.ext_getElem?;intro i;rw[List.getElem?_set];simp only[reL,List.getElem?_map,List.length_map,List.length_range];by_cases I:i<b
 ·rw[List.getElem?_range I];by_cases e:c=i
  ·subst e;simp[reV,A]
  ·simp only[e,if_false,Option.map_some,reV];have H:(i<c+1)=(i<c):=by apply propext;omega
   simp only[H,show ¬i=c from fun h=>e h.symm,if_false]
 ·rw[List.getElem?_eq_none (by simp;omega)];by_cases e:c=i
  ·omega
  ·simp[e]
theorem zyI {q:Nat} {e:TypeId} {size:Nat} {k:Nat} {xs:List Value} (h:W.ownsRow b e size (.slice (some ⟨c,0,none⟩) d q) k xs) (K:V.heap[c]? =W.heap[c]?):V.ownsRow b e size (.slice (some ⟨c,0,none⟩) d q) k xs:=by
 refine⟨h.1,?_⟩;rcases h.2 with ⟨w,_⟩|⟨M,H,A,w,J,L,rest⟩
 ·simp at w
 ·simp only[vI,sI0,Addr.mk.injEq,and_true] at w;obtain⟨rfl,rfl,rfl⟩:=w;exact .inr ⟨c,q,A,rfl,J,K.trans L,rest⟩
structure ReW (w W:World) (G:GS) (g:Gr) (gx b:Nat) (gs:Nat->Nat) (k:Nat):Prop where
 x:Bk W gx (grC G g) 32
 row:W.ownsRow w.heap.size 63 1 (.slice (some ⟨b,0,none⟩) g.ms.length g.ms.length) g.ms.length (reL g.ms.length gs k)
 bl: ∀j,j<k->OwnBl W w.heap.size (gs j) g.ms.length (zai g.ls g.ms.length (zas g.ms.length j))
 bel:Bw w W
theorem ReW.blk {z:World} {s:Nat} (h:ReW W z C S b s q c):W.heap.size<=s/\∃n,z.heap[s]? =some (.cells n 63 (0,0)):=by
 rcases h.row.2 with ⟨A,_⟩|⟨M,H,n,A,K,L,_⟩
 ·simp at A
 ·simp only[vI,sI0,Addr.mk.injEq,and_true,true_and] at A;obtain⟨rfl,_⟩:=A;exact⟨K,n,L⟩
theorem ReW.later {z:World} {H b:Nat} (h:ReW W z C S H b q c) (s:Bw z V):ReW W V C S H b q c:=by
 obtain⟨_,J,L⟩:=h.blk;exact⟨h.x.later s,zyI h.row (s.block b (aLt L)),fun j K=>(h.bl j K).later s,h.bel.trans (s.mono h.bel.size)⟩
theorem ReW.put {z:World} {s:Nat} (h:ReW W z C S b s q c) (Z:c<S.ms.length) (ho:OwnBl z W.heap.size d S.ms.length (zai S.ls S.ms.length (zas S.ms.length c))):
  ReW W (z.setCell ⟨s,c,none⟩ (.slice (some ⟨d,0,none⟩) S.ms.length S.ms.length)) C S b s (fun j=>if j=c then d else q j) (c+1):=by
 obtain⟨hb,Y,V⟩:=h.blk;have X:z.heap[b]? =_:=h.x;have J:b≠s:=fun e=>by
  rw[e,V] at X;exact absurd (oI X) (by simp)
 have M: ∀{n:Nat} {l:List Bool},OwnBl z W.heap.size n S.ms.length l->OwnBl (z.setCell ⟨s,c,none⟩ (.slice (some ⟨d,0,none⟩) S.ms.length S.ms.length)) W.heap.size n S.ms.length l:=fun {n l} hq=>by
  refine OwnR.keep hq fun j O=>?_;have e:j=n:=by simpa [Rw.blk,Value.ownBlock] using O.symm
  rw[e];refine heap_setCell_other z ⟨s,c,none⟩ n _ fun L=>?_;obtain⟨N,H⟩:=hq.block;have L:n=s:=L;rw[L,V] at H;exact absurd (oI H) (by simp)
 have U:=(h.row.stored c (.slice (some ⟨d,0,none⟩) S.ms.length S.ms.length)).1;rw[zyH q Z] at U;refine⟨(heap_setCell_other z ⟨s,c,none⟩ b _ J).trans h.x,U,fun j O=>?_,h.bel.setCell (p:=⟨s,c,none⟩) hb _⟩;by_cases e:j=c
 ·subst e;simp only[if_true];exact M ho
 ·simp only[e,if_false];exact M (h.bl j (by omega))
theorem ReW.cell {z:World} {s j:Nat} (h:ReW W z C S b s q c) (A:j<S.ms.length):z.cell? ⟨s,j,none⟩=some (reV S.ms.length q c j):=by
 rw[h.row.cellAt j (by omega)];simp[reL,List.getElem?_range A]
theorem ReW.free {z:World} {s j:Nat} (h:ReW W z C S b s q c):z.frozen? ⟨s,j,none⟩=false:=h.row.frozenAt j
def ReAt (W:World) (g:Gr) (b:Nat) (gs:Nat->Nat):Prop:=b<W.heap.size/\∀j,j<g.ms.length->W.cell? ⟨b,j,none⟩=some (.slice (some ⟨gs j,0,none⟩) g.ms.length g.ms.length)/\gs j<W.heap.size/\∀i,i<g.ms.length->W.cell? ⟨gs j,i,none⟩=some (.bool (zx g j i))
theorem ReAt.later {b:Nat} (h:ReAt W S b q) (z:Bw W V):ReAt V S b q:=
 ⟨Nat.lt_of_lt_of_le h.1 z.size,fun j I=>by
  obtain⟨J,A,K⟩:=h.2 j I
  exact⟨(z.cell (p:=⟨b,j,none⟩) h.1).trans J,Nat.lt_of_lt_of_le A z.size,fun i L=>(z.cell (p:=⟨q j,i,none⟩) A).trans (K i L)⟩⟩
theorem zgC (G:GS) (z:Gr) (w:World) (ho:GrOwn w g G z) (ad:z.ms.length<=8) (hl:z.ls.length<=1048576) (hr: ∀l∈z.ls,0<=l.frm/\l.frm<(z.ms.length:Int)/\0<=l.to/\l.to<(z.ms.length:Int)):
  Calls prog 54 #[grD G z] w fun e w'=>∃b V,e= .returned (.slice (some ⟨b,0,none⟩) z.ms.length z.ms.length)/\ReAt w' z b V/\Bw w w':=by
 have HO:=zc ho;have HC:=zc hr;clear ho hr;obtain⟨i0,K,aa,ab,ac⟩:=info_parts Tryz.infoBls;unfold grD;go_enter func54,ntmps54;go_upto_region 1 with fail;obtain⟨X,N⟩: ∃X,X=w.heap.size:=⟨_,rfl⟩;rw[<-N];refine zp (R:=fun W=>Bk W X (grC G z) 32/\Below w.heap.size w W) (by rw[N];exact⟨hN0 w _,zn w _⟩) ?_;rintro W0 ⟨hx,hb⟩;clear N;have X0:=zc hx;have J:=zc hb;clear hx hb;obtain⟨c0,c1,c2,cf⟩:=zg X0.o;go_wp2_with (first|(at_make;refine wpList_make_full W0 rfl _ _ 75 rfl w.heap.size 63 i0 _ 1 underlying75 K aa ab .i64 .i64 _ _ z.ms.length (by rfl) (by rfl) rfl rfl (by rw[ac];omega) (by unfold maxLen;omega) J.o.size ?_));intro w1 q I;have M:Bw W0 w1:=(Below.refl _ _).grown I (Nat.le_refl _) (fun k h=>by cases h);obtain⟨b,L⟩: ∃b,b=W0.heap.size:=⟨_,rfl⟩;have R1:Hid (ReW w w1 G z X b (fun _=>0) 0):=by
  refine zc ⟨X0.o.later M,?_,fun j O=>absurd O (Nat.not_lt_zero j),zi J.o M⟩;rw[toList_madeCells_one] at q;rw[L];have e:reL z.ms.length (fun _=>0) 0=List.replicate z.ms.length (.slice none 0 0):=by
   apply List.ext_getElem?;intro i;rw[reL,List.getElem?_map,List.getElem?_replicate];by_cases K:i<z.ms.length
   ·rw[List.getElem?_range K,if_pos K];rfl
   ·rw[List.getElem?_eq_none (by simp;omega),if_neg K];rfl
  rw[e];exact q
 rw[<-L];clear q I M L X0 J c0 c1 c2 cf;go_wp2;go_loopw [11,4] (fun i _ wr=>∃(k:Nat) (V:Nat->Nat),k<=z.ms.length/\i= .int .i64 k/\Hid (ReW w wr G z X b V k)) (fun i _ _=>(z.ms.length-intOf i).toNat)
 case atStart=>exact⟨0,_,Nat.zero_le _,rfl,R1⟩
 case round=>
  clear R1;obtain⟨k,V,hk,rfl,A⟩:=hrel;by_cases H:k<z.ms.length
  ·have Z:(k:Int)<(z.ms.length:Int):=by omega
   obtain⟨c0,c1,c2,cf⟩:=zg A.o.x;go_wp2_with fail;refine (zyG g G z k H wr (HO.o.later A.o.bel) ad hl HC.o).mono ?_;rintro e w2 ⟨g2,rfl,U,Y⟩;have R2:=zc (A.o.later Y);have O2:Hid (OwnBl w2 w.heap.size g2 z.ms.length (zai z.ls z.ms.length (zas z.ms.length k))):=zc (OwnR.low U A.o.bel.size);have q0:=R2.o.cell H;have qf:=R2.o.free (j:=k);have R3:=zc (R2.o.put H O2.o);clear U Y A c0 c1 c2 cf;go_wp2;go_roundw
   case rel=>exact⟨k+1,_,H,by go_num,R3⟩
   case measure=>simp[intOf];omega
  ·have Z: ¬(k:Int)<(z.ms.length:Int):=by omega
   obtain rfl:k=z.ms.length:=by omega
   go_wp2;go_ret;obtain⟨_,ae,hc⟩:=A.o.blk;refine⟨b,rfl,⟨V,(aLt hc),fun j O=>⟨?_,(A.o.bl j O).at.2,fun i K=>(A.o.bl j O).cell (zdO K)⟩⟩,A.o.bel⟩;have:=A.o.cell O;rw[reV,if_pos O] at this;exact this