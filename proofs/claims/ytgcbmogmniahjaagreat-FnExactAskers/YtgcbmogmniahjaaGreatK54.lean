/- Facts and walks. -/
import Derived.Test.YtgcbmogmniahjaaGreatK47
import Derived.Test.YtgcbmogmniahjaaGreatK52
import Derived.Shelf.Abstract
import Derived.Shelf.RegionOpen
import Derived.TacticsInMore
import Derived.LoopNIn
import Derived.LoopIn
import Derived.RangeFuncBound
namespace Go.Proofs.YtgcbmogmniahjaaGreat
open List (append_assoc)
open Go.Proofs.Tryz
set_option maxRecDepth 100000
set_option maxHeartbeats 4000000
open Go.RowKit Go.PlainAid Go.Shelf
def nmV (m:Md):List BA:=zbb m.st++zaO m.ex
variable {g:Nat} {w:World} {W:Option Addr} {S:Sv} {C:Md}
theorem ziX {α β:Type} (p:α->Bool) (f:α->β) {l:List α} {x:α} (h:l[g]? =some x):((l.take (g+1)).filter p).map f=if p x=true then ((l.take g).filter p).map f++[f x] else ((l.take g).filter p).map f:=by
 rw[zwl h,List.filter_append];cases q:p x<;>simp[q]
theorem zmY {α β:Type} (p:α->Bool) (f:α->β) {l:List α} {x:α} (h:l[g]? =some x) (w:p x=true):(l.filter p).map f=((l.take g).filter p).map f++f x::((l.drop (g+1)).filter p).map f:=by
 have e:=List.take_append_drop (g+1) l;have q:=congrArg (fun z=>(z.filter p).map f) e;simp only[List.filter_append,List.map_append] at q;rw[<-q,ziX p f h,if_pos w,append_assoc];rfl
theorem RowAt.same {α:Type} {A:World} {f:α->List Value} {l:List α} (h:RowAt w W f g l) (I:l≠[]->∀b o,W=some ⟨b,o,none⟩->A.heap[b]? =w.heap[b]?):RowAt A W f g l:=by
 by_cases D:l=[]
 ·exact .inl D
 rcases h with h|⟨b,q,E,z,J⟩
 ·exact .inl h
 ·have e:=I D b q E;refine .inr ⟨b,q,E,?_,fun j x K i v H=>?_⟩
  ·rw[Array.getElem?_eq_getElem z] at e;exact (aLt e)
  ·rw[<-J j x K i v H];simp only[World.cell?,e]
structure NmH (V:Sv) (m:Md) (b:Nat) (W:World):Prop where
 box:W.heap[b]? =some (zft V m)
 st:RowAt W V.st.a smL 3 m.st
 ex:RowAt W V.ex.a exL 6 m.ex
def NmB (V:Sv) (m:Md) (b:Nat) (k:Nat):Prop:=k=b∨(m.st≠[]/\∃o,V.st.a=some ⟨k,o,none⟩)∨m.ex≠[]/\∃o,V.ex.a=some ⟨k,o,none⟩
theorem RowAt.lt {α:Type} {f:α->List Value} {l:List α} (h:RowAt w W f g l) (D:l≠[]) {k o:Nat} (z:W=some ⟨k,o,none⟩):k<w.heap.size:=by
 rcases h with h|⟨b,A,E,q,_⟩
 ·exact absurd h D
 ·rw[E] at z;cases z;exact q
theorem NmH.lt (h:NmH S C g w) {k:Nat} (z:NmB S C g k):k<w.heap.size:=by
 rcases z with rfl|⟨q,o,s⟩|⟨q,o,s⟩
 ·exact (aLt h.box)
 ·exact h.st.lt q s
 ·exact h.ex.lt q s
theorem NmH.same {z:World} (h:NmH S C g w) (q: ∀k,NmB S C g k->z.heap[k]? =w.heap[k]?):NmH S C g z:=
 ⟨(q g (.inl rfl)).trans h.box,h.st.same fun s k o e=>q k (.inr (.inl ⟨s,o,e⟩)),h.ex.same fun s k o e=>q k (.inr (.inr ⟨s,o,e⟩))⟩
theorem NmH.hd {c:World} {s A:Nat->Prop} (h:NmH S C g w) (D: ∀k,NmB S C g k->¬s k) (z:Hd s w A c):NmH S C g c:=h.same fun k q=>z.same k (h.lt q) (D k q)
attribute [local go_sem] Oper.semAt_some
theorem zwo (V:Sv) (m:Md) (b:Nat) (aj:m.st.length<=1048576) (ai:m.ex.length<=1048576):
  zmT prog 178 #[.pointer (some ⟨b,0,none⟩)] (nmV m) (NmH V m b) (NmB V m b):=fun n l J Jx C W hH ac hJ ae hC h0 hY=>by
 refine callsIn_of_wp func178 rfl trivial ?_ rfl;simp only[ntmps178,List.size_toArray,List.length_cons,List.length_nil,Nat.reduceAdd,Nat.reduceSub,Array.replicate_succ,Array.replicate_zero,List.push_toArray,List.append_toArray,List.nil_append,List.cons_append];have HH:=zc hH;have HK:Hid (∀w W1,Hd C W w W1->NmH V m b W1):=fun w W1 hf=>hH.hd ac hf;have ah:=zc ac;have HC:=zc hC;have HJ:=zc hJ;have ag:=zc ae;have HY:=zc hY;have H0:=zc h0;clear hH ac hC hJ ae hY h0;obtain⟨c0,c1,c2,c3,c4,cf⟩:=zj HH.o.box;have F0:Hid (Hd C W C W):=Hd.refl HC.o;gi_wp2;gi_loopw [10] (fun i wr=>∃(k:Nat) (w:Nat->Prop),k<=m.st.length/\i= .int .i64 k/\Hid (Hd C W w wr)/\Hid (J (zbb (m.st.take k)) w wr)) (fun i _=>(m.st.length-intOf i).toNat)
 case atStart=>exact⟨0,C,Nat.zero_le _,rfl,F0,H0⟩
 case round=>
  obtain⟨k,w,hk,rfl,M,HI⟩:=hrel;clear F0 H0 c0 c1 c2 c3 c4 cf;by_cases H:k<m.st.length
  ·obtain⟨x,hx⟩: ∃x,m.st[k]? =some x:=⟨_,List.getElem?_eq_getElem H⟩;obtain⟨b1,af,ha,hc⟩:=(HK.o w wr M.o).st.get hx;rw[ha];have d0:=hc 0 _ rfl;have d1:=hc 1 _ rfl;have d2:=hc 2 _ rfl;simp only[Nat.add_zero] at d0;have q:=zc (ziX (fun x:Sm=>x.kind==3) (fun x=>x.name) hx);have E:=zc (zmY (fun x:Sm=>x.kind==3) (fun x=>x.name) hx);obtain⟨X,A⟩: ∃X,X=wr.alloc (.cells #[.int .i64 x.kind,.string x.name,.int .i64 x.expr] 102):=⟨_,rfl⟩;have N:Bw wr X:=by rw[A];exact bA0
   have F2:Hid (Hd C W w X):=M.o.trans (Hd.below M.o.lt N);have J2:Hid (J (zbb (m.st.take k)) w X):=HJ.o _ _ _ _ HI.o fun j Z=>N.block j (M.o.lt j Z);clear N hc hx ha M HI;cases Y:(x.kind==3) with
   |true=>
    have z:=E.o Y;have D:=q.o;rw[Y,if_pos rfl] at D;have HM:Hid (zbb (m.st.take (k+1))=zbb (m.st.take k)++[x.name]):=D;have HL:Hid (nmV m=zbb (m.st.take k)++x.name::(zbb (m.st.drop (k+1))++zaO m.ex)):=by
     show zbb m.st++_=_;rw[show zbb m.st=_ from z,append_assoc];rfl
    clear z D q E;obtain⟨fn,ab,U,aa,hy,hR⟩:=HY.o (n-1) _ x.name _ w X HL.o F2.o J2.o;have I:=zc hR;clear hR;rw[A] at hy;gi_wp2;rw[<-A];refine⟨zhp,I.o.mono ?_⟩;rintro e W3 ⟨O,K,Z⟩;obtain⟨bv,rfl,L⟩:=ziV Z;have F3:=zc (F2.o.trans K);have J3:=zc L;clear K Z L I;cases bv with
    |true=>
     have J4:Hid (J (zbb (m.st.take k)++[x.name]) O W3):=J3.o.elim (fun h=>h.2) (fun h=>by cases h.1);gi_wp2;go_roundw
     case rel=>exact⟨k+1,O,H,by go_num,F3,by rw[HM.o];exact J4⟩
     case measure=>simp[intOf];omega
    |false=>
     have J4:Hid (Jx (zbb (m.st.take k)++[x.name]) O W3):=J3.o.elim (fun h=>by cases h.1) (fun h=>h.2);gi_wp2;refine bodyPost_ret (results_none rfl _ _ _) rfl ?_;exact⟨⟨_,rfl⟩,O,F3.o,.inr ⟨_,⟨zbb (m.st.drop (k+1))++zaO m.ex,by rw[HL.o,append_assoc];rfl⟩,J4.o⟩⟩
   |false=>
    have D:=q.o;rw[Y,if_neg (by decide)] at D;have HM:Hid (zbb (m.st.take (k+1))=zbb (m.st.take k)):=D;clear D q E HY;gi_wp2;refine⟨fun f hf=>(by cases hf),?_⟩;gi_wp2;rw[<-A];go_roundw
    case rel=>exact⟨k+1,w,H,by go_num,F2,by rw[HM.o];exact J2⟩
    case measure=>simp[intOf];omega
  ·obtain rfl:k=m.st.length:=by omega
   have J1:Hid (J (zbb m.st) w wr):=by have:=HI.o;rw[List.take_length] at this;exact this
   clear HI;obtain⟨c0,c1,c2,c3,c4,cf⟩:=zj (HK.o w wr M.o).box;gi_wp2;gi_loopw [28] (fun i wr=>∃(k:Nat) (w:Nat->Prop),k<=m.ex.length/\i= .int .i64 k/\Hid (Hd C W w wr)/\Hid (J (zbb m.st++zaO (m.ex.take k)) w wr)) (fun i _=>(m.ex.length-intOf i).toNat)
   case atStart=>exact⟨0,w,Nat.zero_le _,rfl,M,by rw[show zaO (m.ex.take 0)=[] from rfl,List.append_nil];exact J1⟩
   case round=>
    clear c0 c1 c2 c3 c4 cf M J1;obtain⟨k,w,hk,rfl,M,HI⟩:=hrel;by_cases H:k<m.ex.length
    ·obtain⟨x,hx⟩: ∃x,m.ex[k]? =some x:=⟨_,List.getElem?_eq_getElem H⟩;obtain⟨b1,af,ha,hc⟩:=(HK.o w wr M.o).ex.get hx;rw[ha];have d0:=hc 0 _ rfl;have d1:=hc 1 _ rfl;have d2:=hc 2 _ rfl;have d3:=hc 3 _ rfl;have d4:=hc 4 _ rfl;have d5:=hc 5 _ rfl;simp only[Nat.add_zero] at d0;have q:=zc (ziX (fun x:Ex=>x.kind==2||x.kind==3) (fun x=>x.name) hx);have E:=zc (zmY (fun x:Ex=>x.kind==2||x.kind==3) (fun x=>x.name) hx);obtain⟨X,A⟩: ∃X,X=wr.alloc (.cells #[.int .i64 x.kind,.int .i64 x.num,.string x.name,.string x.field,.int .i64 x.l,.int .i64 x.r] 100):=⟨_,rfl⟩;have N:Bw wr X:=by rw[A];exact bA0
     have F2:Hid (Hd C W w X):=M.o.trans (Hd.below M.o.lt N);have J2:Hid (J (zbb m.st++zaO (m.ex.take k)) w X):=HJ.o _ _ _ _ HI.o fun j Z=>N.block j (M.o.lt j Z);clear N hc hx ha M HI;cases ad:(x.kind==2) with
     |true=>
      have KT:(x.kind==2||x.kind==3)=true:=by rw[ad];rfl
      have z:=E.o KT;have D:=q.o;rw[KT,if_pos rfl] at D;have HM:Hid (zaO (m.ex.take (k+1))=zaO (m.ex.take k)++[x.name]):=D;have HL:Hid (nmV m=(zbb m.st++zaO (m.ex.take k))++x.name::zaO (m.ex.drop (k+1))):=by
       show _++zaO m.ex=_;rw[show zaO m.ex=_ from z,append_assoc];rfl
      clear z D q E KT;obtain⟨fn,ab,U,aa,hy,hR⟩:=HY.o (n-1) _ x.name _ w X HL.o F2.o J2.o;have I:=zc hR;clear hR;rw[A] at hy;gi_wp2;rw[<-A];refine⟨zhp,I.o.mono ?_⟩;rintro e W3 ⟨O,K,Z⟩;obtain⟨bv,rfl,L⟩:=ziV Z;have F3:=zc (F2.o.trans K);have J3:=zc L;clear K Z L I;cases bv with
      |true=>
       have J4:Hid (J (zbb m.st++zaO (m.ex.take k)++[x.name]) O W3):=J3.o.elim (fun h=>h.2) (fun h=>by cases h.1);gi_wp2;go_roundw
       case rel=>exact⟨k+1,O,H,by go_num,F3,by rw[HM.o,<-append_assoc];exact J4⟩
       case measure=>simp[intOf];omega
      |false=>
       have J4:Hid (Jx (zbb m.st++zaO (m.ex.take k)++[x.name]) O W3):=J3.o.elim (fun h=>by cases h.1) (fun h=>h.2);gi_wp2;refine bodyPost_ret (results_none rfl _ _ _) rfl ?_;exact⟨⟨_,rfl⟩,O,F3.o,.inr ⟨_,⟨zaO (m.ex.drop (k+1)),by rw[HL.o,append_assoc];rfl⟩,J4.o⟩⟩
     |false=>
      cases Y:(x.kind==3) with
      |true=>
       have KT:(x.kind==2||x.kind==3)=true:=by rw[ad,Y];rfl
       have z:=E.o KT;have D:=q.o;rw[KT,if_pos rfl] at D;have HM:Hid (zaO (m.ex.take (k+1))=zaO (m.ex.take k)++[x.name]):=D;have HL:Hid (nmV m=(zbb m.st++zaO (m.ex.take k))++x.name::zaO (m.ex.drop (k+1))):=by
        show _++zaO m.ex=_;rw[show zaO m.ex=_ from z,append_assoc];rfl
       clear z D q E KT;obtain⟨fn,ab,U,aa,hy,hR⟩:=HY.o (n-1) _ x.name _ w X HL.o F2.o J2.o;have I:=zc hR;clear hR;rw[A] at hy;gi_wp2;rw[<-A];refine⟨zhp,I.o.mono ?_⟩;rintro e W3 ⟨O,K,Z⟩;obtain⟨bv,rfl,L⟩:=ziV Z;have F3:=zc (F2.o.trans K);have J3:=zc L;clear K Z L I;cases bv with
       |true=>
        have J4:Hid (J (zbb m.st++zaO (m.ex.take k)++[x.name]) O W3):=J3.o.elim (fun h=>h.2) (fun h=>by cases h.1);gi_wp2;go_roundw
        case rel=>exact⟨k+1,O,H,by go_num,F3,by rw[HM.o,<-append_assoc];exact J4⟩
        case measure=>simp[intOf];omega
       |false=>
        have J4:Hid (Jx (zbb m.st++zaO (m.ex.take k)++[x.name]) O W3):=J3.o.elim (fun h=>by cases h.1) (fun h=>h.2);gi_wp2;refine bodyPost_ret (results_none rfl _ _ _) rfl ?_;exact⟨⟨_,rfl⟩,O,F3.o,.inr ⟨_,⟨zaO (m.ex.drop (k+1)),by rw[HL.o,append_assoc];rfl⟩,J4.o⟩⟩
      |false=>
       have D:=q.o;rw[ad,Y,if_neg (by decide)] at D;have HM:Hid (zaO (m.ex.take (k+1))=zaO (m.ex.take k)):=D;clear D q E HY;gi_wp2;refine⟨fun f hf=>(by cases hf),?_⟩;gi_wp2;rw[<-A];go_roundw
       case rel=>exact⟨k+1,w,H,by go_num,F2,by rw[HM.o];exact J2⟩
       case measure=>simp[intOf];omega
    ·obtain rfl:k=m.ex.length:=by omega
     have J1:Hid (J (nmV m) w wr):=by have:=HI.o;rw[List.take_length] at this;exact this
     clear HI;gi_wp2;go_end0;exact⟨⟨_,rfl⟩,w,M.o,.inl J1.o⟩
theorem zwp: ∀args w,(callFunc 178 args).run prog w= .ok (.enter 178 args) w:=enters_of func178 (by kernel_rfl) rfl
theorem zwq (V:Sv) (m:Md) (w:World):Calls prog 140 #[zl V m] w fun e h=>e= .returned (.func (.func 178) #[] #[.pointer (some ⟨w.heap.size,0,none⟩)])/\h=w.alloc (zft V m):=by
 unfold zl;go_enter func140,ntmps140;go_wp2;go_ret;exact⟨rfl,rfl⟩
end Go.Proofs.YtgcbmogmniahjaaGreat
