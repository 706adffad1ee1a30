/- Facts. -/
import Derived.Test.YtegdaafmaookjaaGreatP41
import Derived.Test.YtegdaafmaookjaaGreatP43
namespace Go.Proofs.YtegdaafmaookjaaGreat
open List (length_append foldl_cons foldl_nil)
open Go.Proofs.Tryz
set_option maxHeartbeats 2000000
set_option maxRecDepth 100000
open Go.RowKit Go.PlainAid Go.Sort
def KeepB (b:Nat) (w w':World):Prop:=∀(k:Nat) (cur:Array Value) (t:TypeId) (fz:Nat×Nat),w.heap[k]? =some (.cells cur t fz)->k≠b->t≠5->w'.heap[k]? =w.heap[k]?
theorem KeepB.refl (b:Nat) (w:World):KeepB b w w:=fun _ _ _ _ _ _ _=>rfl
theorem KeepB.trans {b:Nat} {w H K:World} (h:KeepB b w H) (M:KeepB b H K):KeepB b w K:=fun k q t A I L J=>by
 have e:=h k q t A I L J;rw[M k q t A (e.trans I) L J,e]
def zmG (B b:Nat) (bs:List Value) (w w':World):Prop:=Lib.IsBuilder 174 5 B b bs w'/\Below B w w'/\KeepB b w w'
theorem zmH {h:List BA0} {j:Nat} (q:j<h.length):(h.take (j+1)).flatMap Lib.strCells=(h.take j).flatMap Lib.strCells++Lib.strCells h[j]:=by
 rw[tG q,List.flatMap_append];simp
theorem zuZ (h:List BA0) {j:Nat} (q:j<h.length):((h.take j).flatMap Lib.strCells).length+h[j].size<=(h.flatMap Lib.strCells).length:=by
 have e:=congrArg List.length (congrArg (List.flatMap Lib.strCells) (List.take_append_drop (j+1) h));rw[List.flatMap_append,zmH q] at e;simp only[length_append,Lib.strCells_length] at e;omega
theorem zva (B b J:Nat) (N:List Value) (q:List BA0) (w:World) (h:Lib.IsBuilder 174 5 B b N w) (hq:w.heap[J]? =some (.cells (q.map Value.string).toArray 9 (0,0))) (aa:N.length+(q.flatMap Lib.strCells).length<=140737488355328) (hn:q.length<=4294967296) (hB:B<=w.heap.size) (O:J≠b):
  Calls prog 193 #[.slice (some ⟨J,0,none⟩) q.length q.length,.pointer (some ⟨b,0,none⟩)] w fun e w'=>e= .returned (.tuple #[])/\zmG B b (N++q.flatMap Lib.strCells) w w':=by
 have HI:=zc h;have HQ:=zc hq;clear h hq;go_enter func193,ntmps193;go_wp2;go_loopg [7] q.length (fun k i wr=>∃j:Nat,i= .int .i64 j/\j+k=q.length/\zmG B b (N++(q.take j).flatMap Lib.strCells) w wr)
 case atStart=>exact⟨0,rfl,by omega,by simp only[List.take_zero,List.flatMap_nil,List.append_nil];exact HI.o,Below.refl _ _,KeepB.refl _ _⟩
 case round=>
  obtain⟨j,rfl,hj,hp⟩:=hrel;have H:=zc hp;clear hp;by_cases A:j<q.length
  ·have L:(j:Int)<(q.length:Int):=by omega
   have V:=zc ((H.o.2.2 J _ _ _ HQ.o O (by decide)).trans HQ.o);have q0:wr.cell? ⟨J,j,none⟩=some (.string q[j]):=by
    rw[Lib.cell_of_heap V.o];simp[gE A]
   obtain⟨s,X⟩: ∃s,q[j]=s:=⟨_,rfl⟩;rw[X] at q0;have HS:=zc X;clear X;obtain⟨M,I⟩: ∃M,M=j+1:=⟨_,rfl⟩;have ej:(j:Int)+1=(M:Int):=by omega
   have Y:=zc I;clear I;go_wp2_with fail;have K:=zuZ q A;rw[HS.o] at K;refine (zuY B b _ s wr H.o.1 (by rw[length_append];omega) (by have:=H.o.2.1.size;omega)).mono ?_;rintro e w2 ⟨rfl,Z⟩;have U:=zc Z;clear Z K;go_wp2;go_roundg (gk-1)
   case rel=>
    refine⟨M,rfl,by have:=Y.o;omega,?_,H.o.2.1.trans U.o.2.1,H.o.2.2.trans U.o.2.2⟩;rw[Y.o,zmH A,HS.o,<-List.append_assoc];exact .inr U.o.1
   case measure=>omega
  ·have L: ¬(j:Int)<(q.length:Int):=by omega
   obtain rfl:j=q.length:=by omega
   go_wp2;go_end0;exact⟨rfl,by have:=H.o;rw[List.take_length] at this;exact this⟩
theorem zvb (a b:BA0):Lib.strCells (a++b)=Lib.strCells a++Lib.strCells b:=by simp[Lib.strCells]
def zA (t:BA0) (ps:List BA0):BA0:=ps.foldl (· ++ ·) t
theorem zmI (h:List BA0): ∀t,Lib.strCells (zA t h)=Lib.strCells t++h.flatMap Lib.strCells:=by
 induction h with
 |nil=>intro t;simp[zA]
 |cons p h q=>
  intro t;have:=q (t++p);simp only[zA,foldl_cons] at this ⊢;rw[this,zvb,List.flatMap_cons,List.append_assoc]
structure PC where
 B:Nat
 b:Nat
 gp:Nat
 base:Nat
 S:Sv
 m:Md
def PP (c:PC) (t:BA0) (w:World):Prop:=
 (Lib.IsBuilder 174 5 c.B c.b (Lib.strCells t) w/\c.B<=w.heap.size)/\OwnMd w c.base c.S c.m/\
 (w.heap[c.gp]? =some (.cells #[.slice c.S.rq.a c.m.rq.length c.S.rq.cap,.slice c.S.im.a c.m.im.length c.S.im.cap,.slice c.S.ep.a c.m.ep.length c.S.ep.cap,.slice c.S.st.a c.m.st.length c.S.st.cap,.slice c.S.ex.a c.m.ex.length c.S.ex.cap,.func (.func 193) #[] #[.pointer (some ⟨c.b,0,none⟩)]] 226 (0,0))/\c.gp≠c.b)
variable (w:PC) (s:BA0) {g:Nat} {W:List Value} {V:World}
theorem zcy {b:Nat} (h:Lib.IsBuilder 174 5 g b W V): ∃q,V.heap[b]? =some (.cells q 174 (0,0)):=by
 rcases h with ⟨_,v,h,_⟩|⟨_,v,h,_⟩<;>exact⟨_,h⟩
theorem OwnMd.keepT {w':World} {b:Nat} {S:Sv} {m:Md} {I:Array Value} (h:OwnMd V g S m) (U:V.heap[b]? =some (.cells I 174 (0,0))) (L:KeepB b V w'):OwnMd w' g S m:=by
 have A: ∀(e:TypeId) (q n:Nat) (r:Rw) (J:List Value),OwnR V g e q r n J->e≠5->e≠174->OwnR w' g e q r n J:=fun e q n r J h M K=>h.keep fun k N=>by
  obtain⟨_,_,c,H⟩:=h.typed N;refine L k c e _ H (fun O=>?_) M;rw[O,U] at H;simp only[sI0,Obj.cells.injEq] at H;exact K H.2.1.symm
 exact⟨A _ _ _ _ _ h.rq (by decide) (by decide),A _ _ _ _ _ h.im (by decide) (by decide),A _ _ _ _ _ h.ep (by decide) (by decide),A _ _ _ _ _ h.st (by decide) (by decide),A _ _ _ _ _ h.ex (by decide) (by decide)⟩
theorem zmJ {b:Nat} {w':World} (h:Lib.IsBuilder 174 5 g b W V) (q:Bw V w'):Lib.IsBuilder 174 5 g b W w':=by
 have A: ∀p,Lib.BuilderAt 174 5 g b p W V->Lib.BuilderAt 174 5 g b p W w':=by
  rintro p ⟨hB,v,K,H,J⟩;refine⟨hB,v,(q.block _ (aLt K)).trans K,?_,J⟩;refine H.kept (row:=none) ⟨q.os,q.tape,q.output,q.size,fun k M _=>q.block k M⟩ ?_;cases L:v.ownBlock with
  |none=>exact .inl rfl
  |some k=>exact .inr (by simp)
 exact h.elim (fun h=>.inl (A _ h)) fun h=>.inr (A _ h)
theorem PP.later {c:PC} {t:BA0} {w':World} (h:PP c t V) (q:Bw V w'):PP c t w':=
 ⟨⟨zmJ h.1.1 q,Nat.le_trans h.1.2 q.size⟩,h.2.1.later q,(q.block _ (aLt h.2.2.1)).trans h.2.2.1,h.2.2.2⟩
theorem KeepB.of_below {b:Nat} {w':World} (h:Bw V w'):KeepB b V w':=fun k _ _ _ q _ _=>h.block k (aLt q)
def PO (c:PC) (t:BA0) (w:World) (e:Ending) (w':World):Prop:=e= .returned (.tuple #[])/\PP c t w'/\Below c.B w w'/\KeepB c.b w w'
theorem zmK (A:List BA0) (J:Nat) (C:World) (h:PP w s C) (I:C.heap[J]? =some (.cells (A.map Value.string).toArray 9 (0,0))) (H:(zA s A).size<=140737488355328) (U:A.length<=4294967296):
  Calls prog 193 #[.slice (some ⟨J,0,none⟩) A.length A.length,.pointer (some ⟨w.b,0,none⟩)] C (PO w (zA s A) C):=by
 obtain⟨O,q⟩:=zcy h.1.1;have K:J≠w.b:=fun e=>by
  rw[e,q] at I;simp only[sI0,Obj.cells.injEq] at I;exact absurd I.2.1 (by decide)
 refine (zva w.B w.b J (Lib.strCells s) A C h.1.1 I (by rw[<-length_append,<-zmI,Lib.strCells_length];exact H) U h.1.2 K).mono ?_;rintro e V ⟨rfl,N,M,L⟩;rw[<-zmI] at N;exact⟨rfl,⟨⟨N,Nat.le_trans h.1.2 M.size⟩,h.2.1.keepT q L,(L _ _ _ _ h.2.2.1 h.2.2.2 (by decide)).trans h.2.2.1,h.2.2.2⟩,M,L⟩
theorem zca (q:List BA0) (C:World) (h:PP w s C) (A:(zA s q).size<=140737488355328) (M:q.length<=4294967296):
  Calls prog 193 #[.slice (some ⟨C.heap.size,0,none⟩) q.length q.length,.pointer (some ⟨w.b,0,none⟩)] (C.alloc (.cells (q.map Value.string).toArray 9)) (PO w (zA s q) C):=by
 have H:Bw C (C.alloc (.cells (q.map Value.string).toArray 9)):=bA0;refine (zmK w s q C.heap.size _ (h.later H) (hN0 C _) A M).mono ?_;rintro e N ⟨I,K,J,L⟩;exact⟨I,K,(H.mono h.1.2).trans J,(KeepB.of_below H).trans L⟩
theorem zhH (w:World) (q:s.size<=1099511627776):Calls prog 219 #[.string s] w fun e w'=>e= .returned (.string (za7 s))/\w'=w:=by
 have h:Hid (za7 s=({data:=#[34]}:BA0)++s++({data:=#[34]}:BA0)):=rfl;go_enter func219,ntmps219;go_wp2;go_ret;exact⟨by rw[h.o];rfl,rfl⟩
def zcq (a b:BA0):BA0:=({data:=#[123,32]}:BA0)++asT a b++({data:=#[32,125]}:BA0)
theorem zjq (a b:BA0) (C:World) (h:PP w s C) (q:(s++zcq a b).size<=140737488355328):
  Calls prog 240 #[.pointer (some ⟨w.gp,0,none⟩),.string a,.string b] C (PO w (s++zcq a b) C):=by
 have HP:=zc h;have HL:=zc q;clear h q;obtain⟨p0,p1,Y,U,X,V,Z⟩:=zD HP.o.2.2.1;go_enter func240,ntmps240;have z1:(({data:=#[123,32]}:BA0)).size=2:=rfl;have z2:(({data:=#[32,125]}:BA0)).size=2:=rfl;have z3:(({data:=#[32,97,115,32]}:BA0)).size=4:=rfl;have q:=HL.o;simp only[zcq,sA,z1,z2] at q;have HZ:=zc q;clear q;cases ae:(b.toList==a.toList) with
 |true=>
  have K:(a.toList==b.toList)=true:=by rw[BEq.comm];exact ae
  have HA:Hid (asT a b=a):=by show _=_;rw[asT,K];rfl
  go_wp2_with fail;refine (zca w s [{data:=#[123,32]},a] C HP.o (by have:=HZ.o;rw[HA.o] at this;simp only[zA,foldl_cons,foldl_nil,sA,z1];omega) (by simp)).mono ?_;rintro e w1 ⟨rfl,A,N,I⟩;have L:=zc A;have ac:=zc N;have aa:=zc I;clear A N I p0 p1 Y U X V Z;obtain⟨p0,p1,Y,U,X,V,Z⟩:=zD L.o.2.2.1;go_wp2_with fail;refine (zca w _ [{data:=#[32,125]}] w1 L.o (by have:=HZ.o;rw[HA.o] at this;simp only[zA,foldl_cons,foldl_nil,sA,z1,z2];omega) (by simp)).mono ?_;rintro e w2 ⟨rfl,J,M,H⟩;have O:=zc J;have ad:=zc (ac.o.trans M);have ab:=zc (aa.o.trans H);clear J M H p0 p1 Y U X V Z;go_wp2;go_end0;refine⟨rfl,?_,ad.o,ab.o⟩;have:=O.o;simp only[zA,foldl_cons,foldl_nil] at this;rw[zcq,HA.o,<-aA0,<-aA0];exact this
 |false=>
  have K:(a.toList==b.toList)=false:=by rw[BEq.comm];exact ae
  have HA:Hid (asT a b=a++({data:=#[32,97,115,32]}:BA0)++b):=by show _=_;rw[asT,K];rfl
  go_wp2_with fail;refine (zca w s [{data:=#[123,32]},a] C HP.o (by have:=HZ.o;rw[HA.o] at this;simp only[zA,foldl_cons,foldl_nil,sA,z1,z3] at this ⊢;omega) (by simp)).mono ?_;rintro e w1 ⟨rfl,A,N,I⟩;have L:=zc A;have ac:=zc N;have aa:=zc I;clear A N I p0 p1 Y U X V Z;obtain⟨p0,p1,Y,U,X,V,Z⟩:=zD L.o.2.2.1;go_wp2_with fail;refine (zca w _ [{data:=#[32,97,115,32]},b] w1 L.o (by have:=HZ.o;rw[HA.o] at this;simp only[zA,foldl_cons,foldl_nil,sA,z1,z3] at this ⊢;omega) (by simp)).mono ?_;rintro e w2 ⟨rfl,J,M,H⟩;have O:=zc J;have ad:=zc (ac.o.trans M);have ab:=zc (aa.o.trans H);clear J M H p0 p1 Y U X V Z;obtain⟨p0,p1,Y,U,X,V,Z⟩:=zD O.o.2.2.1;go_wp2_with fail;refine (zca w _ [{data:=#[32,125]}] w2 O.o (by have:=HZ.o;rw[HA.o] at this;simp only[zA,foldl_cons,foldl_nil,sA,z1,z2,z3] at this ⊢;omega) (by simp)).mono ?_;rintro e w3 ⟨rfl,af,ah,ag⟩;have aj:=zc af;have ai:=zc (ad.o.trans ah);have ak:=zc (ab.o.trans ag);clear af ah ag p0 p1 Y U X V Z;go_wp2;go_end0;refine⟨rfl,?_,ai.o,ak.o⟩;have:=aj.o;simp only[zA,foldl_cons,foldl_nil] at this;rw[zcq,HA.o];simp only[<-aA0] at this ⊢;exact this
