/- Facts. -/
import Derived.Test.YtegdaafmaookjaaGreatP66
import Derived.Test.YtegdaafmaookjaaGreatP34
import Derived.Shelf.Abstract
import Derived.Shelf.RegionOpen
import Derived.TacticsInMore
import Derived.LoopNIn
import Derived.LoopIn
import Derived.RangeFuncBound
namespace Go.Proofs.YtegdaafmaookjaaGreat
open List (append_assoc)
open Go.Proofs.Tryz
set_option maxRecDepth 100000
set_option maxHeartbeats 4000000
open Go.RowKit Go.PlainAid Go.Shelf
def nmV (m:Md):List BA0:=zbj m.st++zaV m.ex
variable {g:Nat} {w:World} {W:Option Addr} {S:Sv} {C:Md}
theorem zjL {α β:Type} (p:α->Bool) (f:α->β) {l:List α} {x:α} (h:l[g]? =some x):((l.take (g+1)).filter p).map f=if p x=true then ((l.take g).filter p).map f++[f x] else ((l.take g).filter p).map f:=by
 rw[zxT h,List.filter_append];cases q:p x<;>simp[q]
theorem znV {α β:Type} (p:α->Bool) (f:α->β) {l:List α} {x:α} (h:l[g]? =some x) (w:p x=true):(l.filter p).map f=((l.take g).filter p).map f++f x::((l.drop (g+1)).filter p).map f:=by
 have e:=List.take_append_drop (g+1) l;have q:=congrArg (fun z=>(z.filter p).map f) e;simp only[List.filter_append,List.map_append] at q;rw[<-q,zjL p f h,if_pos w,append_assoc];rfl
theorem RowAt.same {α:Type} {w':World} {f:α->List Value} {l:List α} (h:RowAt w W f g l) (K:l≠[]->∀b o,W=some ⟨b,o,none⟩->w'.heap[b]? =w.heap[b]?):RowAt w' W f g l:=by
 by_cases H:l=[]
 ·exact .inl H
 rcases h with h|⟨b,q,I,A,L⟩
 ·exact .inl h
 ·have e:=K H b q I;refine .inr ⟨b,q,I,?_,fun j x M i v J=>?_⟩
  ·rw[Array.getElem?_eq_getElem A] at e;exact (aLt e)
  ·rw[<-L j x M i v J];simp only[World.cell?,e]
structure NmH (V:Sv) (m:Md) (b:Nat) (W:World):Prop where
 box:W.heap[b]? =some (zfL V m)
 st:RowAt W V.st.a smL 3 m.st
 ex:RowAt W V.ex.a exL 6 m.ex
def NmB (V:Sv) (m:Md) (b:Nat) (k:Nat):Prop:=k=b∨(m.st≠[]/\∃o,V.st.a=some ⟨k,o,none⟩)∨m.ex≠[]/\∃o,V.ex.a=some ⟨k,o,none⟩
theorem RowAt.lt {α:Type} {f:α->List Value} {l:List α} (h:RowAt w W f g l) (I:l≠[]) {k o:Nat} (A:W=some ⟨k,o,none⟩):k<w.heap.size:=by
 rcases h with h|⟨b,H,J,q,_⟩
 ·exact absurd h I
 ·rw[J] at A;cases A;exact q
theorem NmH.lt (h:NmH S C g w) {k:Nat} (A:NmB S C g k):k<w.heap.size:=by
 rcases A with rfl|⟨q,o,z⟩|⟨q,o,z⟩
 ·exact (aLt h.box)
 ·exact h.st.lt q z
 ·exact h.ex.lt q z
theorem NmH.same {A:World} (h:NmH S C g w) (q: ∀k,NmB S C g k->A.heap[k]? =w.heap[k]?):NmH S C g A:=
 ⟨(q g (.inl rfl)).trans h.box,h.st.same fun z k o e=>q k (.inr (.inl ⟨z,o,e⟩)),h.ex.same fun z k o e=>q k (.inr (.inr ⟨z,o,e⟩))⟩
theorem NmH.hd {s:World} {z H:Nat->Prop} (h:NmH S C g w) (I: ∀k,NmB S C g k->¬z k) (A:Hd z w H s):NmH S C g s:=h.same fun k q=>A.same k (h.lt q) (I k q)
attribute [local go_sem] Oper.semAt_some
theorem zxW (V:Sv) (m:Md) (b:Nat) (ak:m.st.length<=1048576) (aj:m.ex.length<=1048576):
  znQ prog 200 #[.pointer (some ⟨b,0,none⟩)] (nmV m) (NmH V m b) (NmB V m b):=fun n l J Jx C W hH ad hJ af hC h0 hY=>by
 refine callsIn_of_wp func200 rfl trivial ?_ rfl;simp only[ntmps200,List.size_toArray,List.length_cons,List.length_nil,Nat.reduceAdd,Nat.reduceSub,Array.replicate_succ,Array.replicate_zero,List.push_toArray,List.append_toArray,List.nil_append,List.cons_append];have HH:=zc hH;have HK:Hid (∀w W1,Hd C W w W1->NmH V m b W1):=fun w W1 hf=>hH.hd ad hf;have ai:=zc ad;have HC:=zc hC;have HJ:=zc hJ;have ah:=zc af;have HY:=zc hY;have H0:=zc h0;clear hH ad hC hJ af hY h0;obtain⟨c0,c1,c2,c3,c4,cf⟩:=zl HH.o.box;have F0:Hid (Hd C W C W):=Hd.refl HC.o;gi_wp2;gi_loopw [10] (fun i wr=>∃(k:Nat) (w:Nat->Prop),k<=m.st.length/\i= .int .i64 k/\Hid (Hd C W w wr)/\Hid (J (zbj (m.st.take k)) w wr)) (fun i _=>(m.st.length-intOf i).toNat)
 case atStart=>exact⟨0,C,Nat.zero_le _,rfl,F0,H0⟩
 case round=>
  obtain⟨k,w,hk,rfl,U,HI⟩:=hrel;clear F0 H0 c0 c1 c2 c3 c4 cf;by_cases L:k<m.st.length
  ·obtain⟨x,hx⟩: ∃x,m.st[k]? =some x:=⟨_,gE L⟩;obtain⟨b1,ag,ha,hc⟩:=(HK.o w wr U.o).st.get hx;rw[ha];have d0:=hc 0 _ rfl;have d1:=hc 1 _ rfl;have d2:=hc 2 _ rfl;simp only[Nat.add_zero] at d0;have q:=zc (zjL (fun x:Sm=>x.kind==3) (fun x=>x.name) hx);have K:=zc (znV (fun x:Sm=>x.kind==3) (fun x=>x.name) hx);obtain⟨W2,H⟩: ∃W2,W2=wr.alloc (.cells #[.int .i64 x.kind,.string x.name,.int .i64 x.expr] 108):=⟨_,rfl⟩;have X:Bw wr W2:=by rw[H];exact bA0
   have F2:Hid (Hd C W w W2):=U.o.trans (Hd.below U.o.lt X);have J2:Hid (J (zbj (m.st.take k)) w W2):=HJ.o _ _ _ _ HI.o fun j hj=>X.block j (U.o.lt j hj);clear X hc hx ha U HI;cases aa:(x.kind==3) with
   |true=>
    have A:=K.o aa;have I:=q.o;rw[aa,if_pos rfl] at I;have HM:Hid (zbj (m.st.take (k+1))=zbj (m.st.take k)++[x.name]):=I;have HL:Hid (nmV m=zbj (m.st.take k)++x.name::(zbj (m.st.drop (k+1))++zaV m.ex)):=by
     show zbj m.st++_=_;rw[show zbj m.st=_ from A,append_assoc];rfl
    clear A I q K;obtain⟨fn,ac,Z,ab,hy,hR⟩:=HY.o (n-1) _ x.name _ w W2 HL.o F2.o J2.o;have M:=zc hR;clear hR;rw[H] at hy;gi_wp2;rw[<-H];refine⟨zhV,M.o.mono ?_⟩;rintro e W3 ⟨Y,N,hj⟩;obtain⟨bv,rfl,O⟩:=zjJ hj;have F3:=zc (F2.o.trans N);have J3:=zc O;clear N hj O M;cases bv with
    |true=>
     have J4:Hid (J (zbj (m.st.take k)++[x.name]) Y W3):=J3.o.elim (fun h=>h.2) (fun h=>by cases h.1);gi_wp2;go_roundw
     case rel=>exact⟨k+1,Y,L,by go_num,F3,by rw[HM.o];exact J4⟩
     case measure=>simp[intOf];omega
    |false=>
     have J4:Hid (Jx (zbj (m.st.take k)++[x.name]) Y W3):=J3.o.elim (fun h=>by cases h.1) (fun h=>h.2);gi_wp2;refine bodyPost_ret (results_none rfl _ _ _) rfl ?_;exact⟨⟨_,rfl⟩,Y,F3.o,.inr ⟨_,⟨zbj (m.st.drop (k+1))++zaV m.ex,by rw[HL.o,append_assoc];rfl⟩,J4.o⟩⟩
   |false=>
    have I:=q.o;rw[aa,if_neg (by decide)] at I;have HM:Hid (zbj (m.st.take (k+1))=zbj (m.st.take k)):=I;clear I q K HY;gi_wp2;refine⟨fun f hf=>(by cases hf),?_⟩;gi_wp2;rw[<-H];go_roundw
    case rel=>exact⟨k+1,w,L,by go_num,F2,by rw[HM.o];exact J2⟩
    case measure=>simp[intOf];omega
  ·obtain rfl:k=m.st.length:=by omega
   have J1:Hid (J (zbj m.st) w wr):=by have:=HI.o;rw[List.take_length] at this;exact this
   clear HI;obtain⟨c0,c1,c2,c3,c4,cf⟩:=zl (HK.o w wr U.o).box;gi_wp2;gi_loopw [28] (fun i wr=>∃(k:Nat) (w:Nat->Prop),k<=m.ex.length/\i= .int .i64 k/\Hid (Hd C W w wr)/\Hid (J (zbj m.st++zaV (m.ex.take k)) w wr)) (fun i _=>(m.ex.length-intOf i).toNat)
   case atStart=>exact⟨0,w,Nat.zero_le _,rfl,U,by rw[show zaV (m.ex.take 0)=[] from rfl,List.append_nil];exact J1⟩
   case round=>
    clear c0 c1 c2 c3 c4 cf U J1;obtain⟨k,w,hk,rfl,U,HI⟩:=hrel;by_cases L:k<m.ex.length
    ·obtain⟨x,hx⟩: ∃x,m.ex[k]? =some x:=⟨_,gE L⟩;obtain⟨b1,ag,ha,hc⟩:=(HK.o w wr U.o).ex.get hx;rw[ha];have d0:=hc 0 _ rfl;have d1:=hc 1 _ rfl;have d2:=hc 2 _ rfl;have d3:=hc 3 _ rfl;have d4:=hc 4 _ rfl;have d5:=hc 5 _ rfl;simp only[Nat.add_zero] at d0;have q:=zc (zjL (fun x:Ex=>x.kind==2||x.kind==3) (fun x=>x.name) hx);have K:=zc (znV (fun x:Ex=>x.kind==2||x.kind==3) (fun x=>x.name) hx);obtain⟨W2,H⟩: ∃W2,W2=wr.alloc (.cells #[.int .i64 x.kind,.int .i64 x.num,.string x.name,.string x.field,.int .i64 x.l,.int .i64 x.r] 106):=⟨_,rfl⟩;have X:Bw wr W2:=by rw[H];exact bA0
     have F2:Hid (Hd C W w W2):=U.o.trans (Hd.below U.o.lt X);have J2:Hid (J (zbj m.st++zaV (m.ex.take k)) w W2):=HJ.o _ _ _ _ HI.o fun j hj=>X.block j (U.o.lt j hj);clear X hc hx ha U HI;cases ae:(x.kind==2) with
     |true=>
      have KT:(x.kind==2||x.kind==3)=true:=by rw[ae];rfl
      have A:=K.o KT;have I:=q.o;rw[KT,if_pos rfl] at I;have HM:Hid (zaV (m.ex.take (k+1))=zaV (m.ex.take k)++[x.name]):=I;have HL:Hid (nmV m=(zbj m.st++zaV (m.ex.take k))++x.name::zaV (m.ex.drop (k+1))):=by
       show _++zaV m.ex=_;rw[show zaV m.ex=_ from A,append_assoc];rfl
      clear A I q K KT;obtain⟨fn,ac,Z,ab,hy,hR⟩:=HY.o (n-1) _ x.name _ w W2 HL.o F2.o J2.o;have M:=zc hR;clear hR;rw[H] at hy;gi_wp2;rw[<-H];refine⟨zhV,M.o.mono ?_⟩;rintro e W3 ⟨Y,N,hj⟩;obtain⟨bv,rfl,O⟩:=zjJ hj;have F3:=zc (F2.o.trans N);have J3:=zc O;clear N hj O M;cases bv with
      |true=>
       have J4:Hid (J (zbj m.st++zaV (m.ex.take k)++[x.name]) Y W3):=J3.o.elim (fun h=>h.2) (fun h=>by cases h.1);gi_wp2;go_roundw
       case rel=>exact⟨k+1,Y,L,by go_num,F3,by rw[HM.o,<-append_assoc];exact J4⟩
       case measure=>simp[intOf];omega
      |false=>
       have J4:Hid (Jx (zbj m.st++zaV (m.ex.take k)++[x.name]) Y W3):=J3.o.elim (fun h=>by cases h.1) (fun h=>h.2);gi_wp2;refine bodyPost_ret (results_none rfl _ _ _) rfl ?_;exact⟨⟨_,rfl⟩,Y,F3.o,.inr ⟨_,⟨zaV (m.ex.drop (k+1)),by rw[HL.o,append_assoc];rfl⟩,J4.o⟩⟩
     |false=>
      cases aa:(x.kind==3) with
      |true=>
       have KT:(x.kind==2||x.kind==3)=true:=by rw[ae,aa];rfl
       have A:=K.o KT;have I:=q.o;rw[KT,if_pos rfl] at I;have HM:Hid (zaV (m.ex.take (k+1))=zaV (m.ex.take k)++[x.name]):=I;have HL:Hid (nmV m=(zbj m.st++zaV (m.ex.take k))++x.name::zaV (m.ex.drop (k+1))):=by
        show _++zaV m.ex=_;rw[show zaV m.ex=_ from A,append_assoc];rfl
       clear A I q K KT;obtain⟨fn,ac,Z,ab,hy,hR⟩:=HY.o (n-1) _ x.name _ w W2 HL.o F2.o J2.o;have M:=zc hR;clear hR;rw[H] at hy;gi_wp2;rw[<-H];refine⟨zhV,M.o.mono ?_⟩;rintro e W3 ⟨Y,N,hj⟩;obtain⟨bv,rfl,O⟩:=zjJ hj;have F3:=zc (F2.o.trans N);have J3:=zc O;clear N hj O M;cases bv with
       |true=>
        have J4:Hid (J (zbj m.st++zaV (m.ex.take k)++[x.name]) Y W3):=J3.o.elim (fun h=>h.2) (fun h=>by cases h.1);gi_wp2;go_roundw
        case rel=>exact⟨k+1,Y,L,by go_num,F3,by rw[HM.o,<-append_assoc];exact J4⟩
        case measure=>simp[intOf];omega
       |false=>
        have J4:Hid (Jx (zbj m.st++zaV (m.ex.take k)++[x.name]) Y W3):=J3.o.elim (fun h=>by cases h.1) (fun h=>h.2);gi_wp2;refine bodyPost_ret (results_none rfl _ _ _) rfl ?_;exact⟨⟨_,rfl⟩,Y,F3.o,.inr ⟨_,⟨zaV (m.ex.drop (k+1)),by rw[HL.o,append_assoc];rfl⟩,J4.o⟩⟩
      |false=>
       have I:=q.o;rw[ae,aa,if_neg (by decide)] at I;have HM:Hid (zaV (m.ex.take (k+1))=zaV (m.ex.take k)):=I;clear I q K HY;gi_wp2;refine⟨fun f hf=>(by cases hf),?_⟩;gi_wp2;rw[<-H];go_roundw
       case rel=>exact⟨k+1,w,L,by go_num,F2,by rw[HM.o];exact J2⟩
       case measure=>simp[intOf];omega
    ·obtain rfl:k=m.ex.length:=by omega
     have J1:Hid (J (nmV m) w wr):=by have:=HI.o;rw[List.take_length] at this;exact this
     clear HI;gi_wp2;go_end0;exact⟨⟨_,rfl⟩,w,U.o,.inl J1.o⟩
theorem zxX: ∀args w,(callFunc 200 args).run prog w= .ok (.enter 200 args) w:=enters_of func200 (by kernel_rfl) rfl
theorem zxY (V:Sv) (m:Md) (w:World):Calls prog 181 #[zo V m] w fun e w'=>e= .returned (.func (.func 200) #[] #[.pointer (some ⟨w.heap.size,0,none⟩)])/\w'=w.alloc (zfL V m):=by
 unfold zo;go_enter func181,ntmps181;go_wp2;go_ret;exact⟨rfl,rfl⟩
