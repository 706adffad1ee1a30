/-
  What slices.Index and slices.Contains answer over a row of texts,and strings.Clone: the walks.
  What request of impl's parser answers: the walks.
  What nameOrCall of impl's parser answers: the walk.
  What part of impl's parser answers: the walk.
  What product and sum of impl's parser answer: the walks.
  What statement of impl's parser answers: the walk.
  What the small items of impl's parser,itemWord and exportLast answer: the walks.
  Rows beside impl's parser: lists of names under way. No program is spoken of but for the numbers of its types.
  A program in memory,of any size. No program is spoken of but for the numbers of its types.
  What slices.Equal answers of rows of the call's own,the model's != handed in: the walks.
-/
import Derived.Test.YtcidlffeeninbaaGreatClImplParseHToImplParseI
import Derived.Test.YtcidlffeeninbaaGreatClShelf
namespace Go.Proofs.YtcidlffeeninbaaGreat
set_option maxRecDepth 100000
set_option maxHeartbeats 6400000
open Go.RowKit Go.PlainAid Go.Sort
theorem zjh (s:ByteArray) (w:World) (h:s.size≤281474976710656):
  Calls Tryz.prog 152 #[.string s] w fun e q=>e= .returned (.string s)∧Below w.heap.size w q:=by
 go_enter Tryz.func152,Tryz.ntmps152
 go_wp2_with fail
 refine (Tryz.stringslite_Clone _ _ h).mono ?_
 rintro e A ⟨rfl,z⟩
 go_wp2
 go_ret
 exact⟨rfl,z⟩
theorem OwnR.text {w:World} {q n:Nat} {r:Rw} {l:List ByteArray} (h:OwnR w q 9 1 r n (l.map .string)) {j:Nat} (I:j<n): ∃g,r.a=some ⟨g,0,none⟩∧w.cell? ⟨g,j,none⟩=some (.string (l.getD j sNone)):=by
 rcases h.2 with ⟨_,J⟩|⟨g,E,D,z,_⟩
 ·omega
 ·simp only[Value.slice.injEq] at z
  have A:=h
  unfold OwnR at A
  rw[z.1,z.2.2] at A
  have H:l.length=n:=by have:=h.1;simpa using this
  refine⟨g,z.1,?_⟩
  rw[World.ownsRow.cellAt A j (by omega)]
  simp only[List.getElem?_map,List.getD]
  rw[List.getElem?_eq_getElem (by omega)]
  rfl
theorem zn3 {l:List ByteArray} {x:ByteArray} {j:Nat} (h:j<l.length):zaQ (l.drop j) x=((l.getD j sNone).toList==x.toList||zaQ (l.drop (j+1)) x):=by
 rw[List.drop_eq_getElem_cons h]
 simp only[zaQ,List.any_cons,List.getD,List.getElem?_eq_getElem h,Option.getD_some]
theorem zn4 (E g:Nat) (r:Rw) (l:List ByteArray) (x:ByteArray) (w:World) (h:OwnR w E 9 1 r l.length (l.map .string)) (hl:l.length≤1000000) (O:r.a=some ⟨g,0,none⟩):
  Calls Tryz.prog 67 #[.slice (some ⟨g,0,none⟩) l.length r.cap,.string x] w fun e V=>(∃v:Int,e= .returned (.int .i64 v)∧decide (0≤v)=zaQ l x)∧V=w:=by
 have Z:=zc h
 have M:=zc O
 clear h O
 go_enter Tryz.func67,Tryz.ntmps67
 go_wp2
 go_loopg [8] (l.length+1) (fun k i wr=>∃j:Nat,i= .int .i64 j∧j+k=l.length+1∧zaQ (l.drop j) x=zaQ l x∧wr=w)
 case atStart=>exact⟨0,rfl,by omega,by simp,rfl⟩
 case round=>
  obtain⟨j,rfl,hj,N,rfl⟩:=hrel
  have K:=zc N
  clear N
  by_cases z:j<l.length
  ·have D:(j:Int)<(l.length:Int):=by omega
   obtain⟨X,q,hc⟩:=Z.out.text z
   have Y:X=g:=by have:=q.symm.trans M.out;simpa using this
   subst Y
   clear q
   obtain⟨I,A⟩: ∃I,I=j+1:=⟨_,rfl⟩
   have ej:(j:Int)+1=(I:Int):=by omega
   have U:=zc A
   clear A
   have J:Hid (zaQ (l.drop j) x=((l.getD j sNone).toList==x.toList||zaQ (l.drop (j+1)) x)):=zn3 z
   generalize l.getD j sNone=y at hc J
   cases H:(x.toList==y.toList) with
   |true=>
    go_wp2
    go_ret
    refine⟨⟨_,rfl,?_⟩,rfl⟩
    have L:(y.toList==x.toList)=true:=by rw[beq_iff_eq] at H ⊢;exact H.symm
    rw[←K.out,J.out,L]
    simp
   |false=>
    go_wp2
    go_roundg (gk-1)
    case rel=>
     have L:(y.toList==x.toList)=false:=by
      rw[beq_eq_false_iff_ne] at H ⊢;exact fun e=>H e.symm
     refine⟨I,rfl,by have:=U.out;omega,?_,rfl⟩
     rw[←K.out,J.out,L,U.out]
     simp
    case measure=>omega
  ·have D: ¬(j:Int)<(l.length:Int):=by omega
   go_wp2
   go_ret
   refine⟨⟨_,rfl,?_⟩,rfl⟩
   rw[←K.out,List.drop_eq_nil_of_le (by omega)]
   rfl
theorem zn5 (x:ByteArray) (w:World):
  Calls Tryz.prog 67 #[.slice none 0 0,.string x] w fun e h=>e= .returned (.int .i64 (-1))∧h=w:=by
 go_enter Tryz.func67,Tryz.ntmps67
 go_wp2
 go_loopg [8] 1 (fun k i wr=>k=1∧i= .int .i64 0∧wr=w)
 case atStart=>exact⟨rfl,rfl,rfl⟩
 case round=>
  obtain⟨rfl,rfl,rfl⟩:=hrel
  go_wp2
  go_ret
  exact⟨rfl,rfl⟩
theorem zn6 (q:Nat) (r:Rw) (l:List ByteArray) (x:ByteArray) (w:World) (h:OwnR w q 9 1 r l.length (l.map .string)) (D:l.length≤1000000):
  Calls Tryz.prog 67 #[.slice r.a l.length r.cap,.string x] w fun e E=>(∃v:Int,e= .returned (.int .i64 v)∧decide (0≤v)=zaQ l x)∧E=w:=by
 rcases h.nil_or with ⟨I,H,A⟩|⟨g,z⟩
 ·rw[I,H,A]
  refine (zn5 x w).mono ?_
  rintro e J ⟨rfl,rfl⟩
  have:l=[]:=List.length_eq_zero_iff.1 A
  subst this
  exact⟨⟨_,rfl,rfl⟩,rfl⟩
 ·rw[z]
  exact zn4 q g r l x w h D z
theorem zgg (q:Nat) (r:Rw) (l:List ByteArray) (x:ByteArray) (w:World) (h:OwnR w q 9 1 r l.length (l.map .string)) (A:l.length≤1000000):
  Calls Tryz.prog 41 #[.slice r.a l.length r.cap,.string x] w fun e D=>e= .returned (.bool (zaQ l x))∧D=w:=by
 have H:=zc h
 clear h
 go_enter Tryz.func41,Tryz.ntmps41
 go_wp2_with fail
 refine (zn6 q r l x _ H.out A).mono ?_
 rintro e I ⟨⟨v,rfl,z⟩,rfl⟩
 have E:=zc z
 clear z
 go_wp2
 go_ret
 exact⟨zh E.out,rfl⟩
theorem Tryz.infoText:(Tryz.prog.info? 9).map (fun i=>(i.zero,i.size,i.bytes))=some (some (.string {data:=#[]}),1,16):=by kernel_rfl
def zbm (C:Cx):Prop:=∀i,(ze C i).text.size≤281474976710656
theorem zcO (x:ByteArray): ∀u∈[Value.string x],u.oneCell'=true:=by
 intro u h
 simp at h
 rw[h]
 rfl
theorem zn7 (C:Cx) (V A z D:Nat) (S:Sv) (q:PS) (w:World) (h:IM C V A z D S q w) (hC:zbm C) (hk:((ze C q.pos).kind==3)=true) (hs:zaQ q.rq (ze C q.pos).text=false) (hn:q.rq.length<40):
  Calls Tryz.prog 195 #[.pointer (some ⟨D,0,none⟩)] w fun e w'=>e= .returned (.string (ze C q.pos).text)∧∃S',IM C V A z D S' {adv q with rq:=q.rq++[(ze C q.pos).text]} w'∧IS D S w S' w':=by
 obtain⟨i0,hi,af,ae,ad⟩:=info_parts Tryz.infoText
 have HH:=zc h
 have ah:=zcM
 have L:=hC q.pos
 clear h
 go_enter Tryz.func195,Tryz.ntmps195
 go_wp2_with fail
 refine (zdW C V A z D S q 3 _ HH.out hk (by decide)).mono ?_
 rintro e X ⟨rfl,m1,s1⟩
 have U:=zc m1
 have ab:=zc s1
 clear m1 s1
 unfold tkV
 obtain⟨c0,c1,c2,c3,c4,c5,c6,c7,c8,c9,cf⟩:=zah U.out.cells
 rw[show (adv q).rq=q.rq from rfl] at c4
 generalize M:(ze C q.pos).text=tx at hs L ⊢
 have Z:=zc M
 clear M
 go_wp2_with fail
 refine (zgg z S.rq q.rq tx _ U.out.mem.own.rq (by omega)).mono ?_
 rintro e E ⟨rfl,K⟩
 rw[hs,K]
 clear K E
 go_wp2_with fail
 refine (zdX D q.rq.length 40 _ (by omega)).mono ?_
 rintro e E ⟨rfl,K⟩
 rw[K]
 clear K E
 have HN:Hid (some D≠S.rq.blk):=fun e=>U.out.free (.inl e.symm)
 go_wp2_with fail
 go_region_law (first|(refine zfp rfl (.tmp 28) (.tmp 31) 22 rfl z 9 i0 _ 1 16 Tryz.underlying22 hi af ae ad rfl (by decide) (by decide) S.rq q.rq.length (q.rq.map .string) (by rfl) (by exact H.out.mem.own.rq.alloc _) O.heap.size [.string tx] (by rfl) (by exact heap_alloc_new O _) rfl (zcO tx) (by omega) (by exact (H.out.alloc _).mem.base) ?_;intro r' w2 hr J N;have g2:=(J.block D (by exact (H.out.alloc _).lt) HN.out).trans (by exact (H.out.alloc _).cells);obtain⟨d0,d1,d2,d3,d4,d5,d6,d7,d8,d9,df⟩:=zah g2)|(go_simp;go_wp2_with (go_at_call 152;refine (zjh _ _ L).mono ?_;rintro e O ⟨rfl,I⟩;have H:Hid (IM C V A z D S (adv q) O):=U.out.drew.later I;have Y:Hid (Below X.heap.size X O):=(Below.refl X.heap.size X).drew.trans I;obtain⟨e0,e1,e2,e3,e4,e5,e6,e7,e8,e9,ef⟩:=zah H.out.cells;rw[show (adv q).rq=q.rq from rfl] at e4;have ag:=H.out.lt;clear I)))
 all_goals
  have HR:=zc hr
  have aa:=zc J
  have ac:=zc N
  clear hr J N g2 c0 c1 c2 c3 c4 c5 c6 c7 c8 c9 cf e0 e1 e2 e3 e4 e5 e6 e7 e8 e9 ef
  go_wp2
  go_ret
  obtain⟨m',s'⟩:=H.out.grow_rq (x:=tx) ((Below.refl _ _).alloc (Nat.le_refl _) _) aa.out HR.out ac.out hn
  rw[Z.out]
  exact⟨rfl,_,m',ab.out.trans (s'.grownI Y.out)⟩
theorem zgh (C:Cx) (H A z D:Nat) (S:Sv) (q:PS) (w:World) (h:IM C H A z D S q w) (hC:zbm C):
  Calls Tryz.prog 195 #[.pointer (some ⟨D,0,none⟩)] w (zT C H A z D (zL C q) (·.1) (fun a=>.string a.2) S w):=by
 cases I:((ze C q.pos).kind==3) with
 |false=>
  have K:=zc h
  have V:Hid (zL C q= .error (zs C q.pos)):=by show _=_;rw[zL,I];rfl
  clear h
  go_enter Tryz.func195,Tryz.ntmps195
  go_wp2_with fail
  refine (zjf C H A z D S q 3 _ K.out I).mono ?_
  rintro e Y ⟨rfl,U⟩
  have HB:Hid (Below z w Y):=U.mono K.out.mem.base
  clear U
  unfold Pan
  go_wp2
  refine⟨rfl,?_⟩
  rw[V.out]
  exact⟨rfl,HB.out⟩
 |true=>
  cases O:zaQ q.rq (ze C q.pos).text with
  |true=>
   have K:=zc h
   have V:Hid (zL C q= .ok (adv q,(ze C q.pos).text)):=by show _=_;rw[zL,I,O];rfl
   have aa:=zcM
   have Z:=h.mem.inv.rq
   clear h
   go_enter Tryz.func195,Tryz.ntmps195
   go_wp2_with fail
   refine (zdW C H A z D S q 3 _ K.out I (by decide)).mono ?_
   rintro e Y ⟨rfl,L,N⟩
   have E:=zc L
   have J:=zc N
   clear L N
   unfold tkV
   obtain⟨c0,c1,c2,c3,c4,c5,c6,c7,c8,c9,cf⟩:=zah E.out.cells
   rw[show (adv q).rq=q.rq from rfl] at c4
   go_wp2_with fail
   refine (zgg z S.rq q.rq (ze C q.pos).text _ E.out.mem.own.rq (by omega)).mono ?_
   rintro e M ⟨rfl,X⟩
   rw[O,X]
   clear X M
   go_wp2
   go_ret
   rw[V.out]
   exact⟨rfl,S,E.out,J.out⟩
  |false=>
   by_cases hn:q.rq.length<40
   ·refine (zn7 C H A z D S q w h hC I O hn).mono ?_
    rintro e Y ⟨rfl,S1,L,N⟩
    rw[zL,I,O,if_pos rfl,if_neg (by decide),if_neg (by omega)]
    exact⟨rfl,S1,L,N⟩
   ·have K:Hid (IM C H A z D S q w):=h
    have V:Hid (zL C q= .error (zs C q.pos)):=by show _=_;rw[zL,I,O,if_pos rfl,if_neg (by decide),if_pos (by omega)]
    have aa:=zcM
    have Z:=h.mem.inv.rq
    clear h
    go_enter Tryz.func195,Tryz.ntmps195
    go_wp2_with fail
    refine (zdW C H A z D S q 3 _ K.out I (by decide)).mono ?_
    rintro e Y ⟨rfl,L,N⟩
    have E:=zc L
    have J:=zc N
    clear L N
    unfold tkV
    obtain⟨c0,c1,c2,c3,c4,c5,c6,c7,c8,c9,cf⟩:=zah E.out.cells
    rw[show (adv q).rq=q.rq from rfl] at c4
    go_wp2_with fail
    refine (zgg z S.rq q.rq (ze C q.pos).text _ E.out.mem.own.rq (by omega)).mono ?_
    rintro e M ⟨rfl,X⟩
    rw[O,X]
    clear X M
    go_wp2_with fail
    refine (zeE C H A z D S (adv q) q.rq.length 40 _ E.out (by omega) (by rw[zz];omega)).mono ?_
    rintro e w2 ⟨rfl,U⟩
    have HB:Hid (Below z w w2):=(K.out.back J.out).trans (U.mono E.out.mem.base)
    clear U
    unfold Pan
    go_wp2
    refine⟨rfl,?_⟩
    rw[V.out]
    exact⟨rfl,HB.out⟩
theorem bdO {α β:Type} {Y:Except Nat β} {x:Except Nat α} {f:α→Except Nat β} {a:α} (h:Y=bd x f) (q:x= .ok a):Y=f a:=by rw[h,q];rfl
theorem bdE {α β:Type} {Y:Except Nat β} {x:Except Nat α} {f:α→Except Nat β} {p:Nat} (h:Y=bd x f) (q:x= .error p):Y= .error p:=by rw[h,q];rfl
theorem zeG {α:Type} (x:Except Nat α):bd x .ok=x:=by cases x<;>rfl
abbrev cCall:ByteArray:={data:=#[40,41,123]}
abbrev cShutSemi:ByteArray:={data:=#[41,59]}
abbrev cSemiRight:ByteArray:={data:=#[59,125]}
theorem zji (C:Cx) (b:UInt8) (q:PS):zaF C {data:=#[b]} 1 0 q=zd C 4 {data:=#[b]} q:=by
 have e:({data:=#[b]}:ByteArray).extract 0 (0+1)={data:=#[b]}:=by simp[ByteArray.extract,ByteArray.copySlice]
 rw[zaF,e]
 exact zeG _
theorem zjj (C:Cx) (b c:UInt8) (q:PS):zaF C {data:=#[b,c]} 2 0 q=bd (zd C 4 {data:=#[b]} q) (zd C 4 {data:=#[c]}):=by
 have e:({data:=#[b,c]}:ByteArray).extract 0 (0+1)={data:=#[b]}:=by simp[ByteArray.extract,ByteArray.copySlice]
 have h:({data:=#[b,c]}:ByteArray).extract (0+1) (0+1+1)={data:=#[c]}:=by simp[ByteArray.extract,ByteArray.copySlice]
 rw[zaF,e]
 refine zaf fun a _=>?_
 rw[zaF,h]
 exact zeG _
theorem zn8 (C:Cx) (b c d:UInt8) (q:PS):zaF C {data:=#[b,c,d]} 3 0 q=bd (zd C 4 {data:=#[b]} q) fun a=>bd (zd C 4 {data:=#[c]} a) (zd C 4 {data:=#[d]}):=by
 have e:({data:=#[b,c,d]}:ByteArray).extract 0 (0+1)={data:=#[b]}:=by simp[ByteArray.extract,ByteArray.copySlice]
 have w:({data:=#[b,c,d]}:ByteArray).extract (0+1) (0+1+1)={data:=#[c]}:=by simp[ByteArray.extract,ByteArray.copySlice]
 have h:({data:=#[b,c,d]}:ByteArray).extract (0+1+1) (0+1+1+1)={data:=#[d]}:=by simp[ByteArray.extract,ByteArray.copySlice]
 rw[zaF,e]
 refine zaf fun a _=>?_
 rw[zaF,w]
 refine zaf fun a _=>?_
 rw[zaF,h]
 exact zeG _
theorem zn9 (C:Cx) (E A z D:Nat) (S:Sv) (q:PS) (s:ByteArray) (f:PS→PR) (w:World) (h:IM C E A z D S q w) (I:zaF C s s.size 0 q=f q) (H:s.size≤100):
  Calls Tryz.prog 185 #[.pointer (some ⟨D,0,none⟩),.string s] w (zT C E A z D (f q) id (fun _=>.tuple #[]) S w):=by
 rw[←I]
 exact zhl C E A z D S q s w h H
theorem zcz (C:Cx) (E A z D:Nat) (S:Sv) (q:PS) (b:UInt8) (w:World) (h:IM C E A z D S q w):
  Calls Tryz.prog 185 #[.pointer (some ⟨D,0,none⟩),.string {data:=#[b]}] w (zT C E A z D (zd C 4 {data:=#[b]} q) id (fun _=>.tuple #[]) S w):=
 zn9 C E A z D S q {data:=#[b]} (zd C 4 {data:=#[b]}) w h (zji C b q) (by show 1≤100;omega)
structure Six (w:World) (b:Nat) (v0 v1 v2 v3 v4 v5:Value):Prop where
 c0:w.cell? ⟨b,0,none⟩=some v0
 c1:w.cell? ⟨b,1,none⟩=some v1
 c2:w.cell? ⟨b,2,none⟩=some v2
 c3:w.cell? ⟨b,3,none⟩=some v3
 c4:w.cell? ⟨b,4,none⟩=some v4
 c5:w.cell? ⟨b,5,none⟩=some v5
 fz: ∀i,w.frozen? ⟨b,i,none⟩=false
theorem zw {w:World} {b:Nat} {t:TypeId} {z E A D H q:Value} (h:w.heap[b]? =some (.cells #[z,E,A,D,H,q] t (0,0))):Six w b z E A D H q:=by
 constructor<;>simp[World.cell?,World.frozen?,h]
theorem IS.kept {C:Cx} {J A z E b:Nat} {S H:Sv} {q:PS} {w D:World} {o:Obj} (h:IM C J A z E S q w) (s:IS E S (w.alloc o) H D) (I:b=w.heap.size):D.heap[b]? =some o:=by
 subst I
 refine (s.block _ (by rw[zg];omega) (fun g=>?_) (by have:=h.lt;omega)).trans (heap_alloc_new w _)
 have:=(h.mem.own.has g).2
 omega
theorem IS.from {z:Nat} {S h:Sv} {w q:World} {o:Obj} (s:IS z S (w.alloc o) h q):IS z S w h q:=(IS.below ((Below.refl _ _).alloc (Nat.le_refl _) _)).trans s
theorem IS.free {C:Cx} {I A z E:Nat} {S D:Sv} {q:PS} {w H:World} {o:Obj} (h:IM C I A z E S q w) (s:IS E S (w.alloc o) D H): ¬D.has w.heap.size:=by
 intro g
 rcases s.sub _ g with k|k
 ·have:=(h.mem.own.has k).2
  omega
 ·rw[zg] at k
  omega
def zbn (C:Cx) (x:Ex) (call:Int) (q:PS):PR:=if isT C q.pos 4 zo then bd (zd C 4 za7 (adv q)) (zQ C ⟨call,x.num,x.name,x.field,x.l,x.r⟩) else zQ C x q
theorem zft (C:Cx) (L D z H:Nat) (S:Sv) (q:PS) (x:Ex) (A:Int) (w:World) (h:IM C L D z H S q w) (hp:0<q.pos):
  Calls Tryz.prog 224 #[.pointer (some ⟨H,0,none⟩),exV x,.int .i64 A] w (zT C L D z H (zbn C x A q) id (fun q'=>.int .i64 ((q'.ex.length:Int)-1)) S w):=by
 have I:=zc h
 clear h
 cases hi:isT C q.pos 4 zo with
 |false=>
  have HY:Hid (zbn C x A q=zQ C x q):=by show _=_;rw[zbn,hi];rfl
  unfold exV
  go_enter Tryz.func224,Tryz.ntmps224
  go_wp2_with fail
  refine (zN C L D z H S q 4 zo _ (I.out.alloc _) (by decide)).mono ?_
  rintro e w1 ⟨rfl,m,s⟩
  rw[hi] at m ⊢
  have N:=zc m
  have V:Hid (IS H S w S w1):=s.from
  have ac:Hid (w1.heap[w.heap.size]? =some (.cells #[.int .i64 x.kind,.int .i64 x.num,.string x.name,.string x.field,.int .i64 x.l,.int .i64 x.r] 85 (0,0))):=IS.kept I.out s rfl
  obtain⟨b0,b1,b2,b3,b4,b5,bf⟩:=zw ac.out
  clear m s
  go_wp2_with fail
  refine (zeF C L D z H S q x _ N.out hp).mono ?_
  cases E:zQ C x q with
  |error p=>
   rintro e M ⟨rfl,X⟩
   have Y:Hid (Below z w M):=(I.out.back V.out).trans X
   have K:Hid (zbn C x A q= .error p):=HY.out.trans E
   unfold Pan
   go_wp2
   refine⟨rfl,?_⟩
   rw[K.out]
   exact⟨rfl,Y.out⟩
  |ok a2=>
   rintro e M ⟨rfl,U,m,s⟩
   have O:=zc m
   have ae:Hid (IS H S w U M):=V.out.trans s
   clear m s
   have K:=zc (HY.out.trans E)
   go_wp2
   go_ret
   rw[K.out]
   exact⟨rfl,U,O.out,ae.out⟩
 |true=>
  have HY:Hid (zbn C x A q=bd (zd C 4 za7 (adv q)) (zQ C ⟨A,x.num,x.name,x.field,x.l,x.r⟩)):=by show _=_;rw[zbn,hi];rfl
  unfold exV
  go_enter Tryz.func224,Tryz.ntmps224
  go_wp2_with fail
  refine (zN C L D z H S q 4 zo _ (I.out.alloc _) (by decide)).mono ?_
  rintro e w1 ⟨rfl,m,s⟩
  rw[hi] at m ⊢
  have N:=zc m
  have ab:=zc s
  clear m s
  go_wp2_with fail
  refine (zcz C L D z H S (adv q) 41 _ N.out).mono ?_
  cases E:zd C 4 za7 (adv q) with
  |error p=>
   rintro e M ⟨rfl,X⟩
   have Y:Hid (Below z w M):=(I.out.back ab.out.from).trans X
   have K:Hid (zbn C x A q= .error p):=bdE HY.out E
   unfold Pan
   go_wp2
   refine⟨rfl,?_⟩
   rw[K.out]
   exact⟨rfl,Y.out⟩
  |ok a2=>
   rintro e M ⟨rfl,U,m,s⟩
   have O:=zc m
   have J:Hid (IS H S (w.alloc (.cells #[.int .i64 x.kind,.int .i64 x.num,.string x.name,.string x.field,.int .i64 x.l,.int .i64 x.r] 85)) U M):=ab.out.trans s
   have af:Hid (M.heap[w.heap.size]? =some (.cells #[.int .i64 x.kind,.int .i64 x.num,.string x.name,.string x.field,.int .i64 x.l,.int .i64 x.r] 85 (0,0))):=IS.kept I.out J.out rfl
   have ag:Hid (a2=adv (adv q)):=(zbO E).1
   have ad:Hid (¬U.has w.heap.size):=IS.free I.out J.out
   have aj:H<w.heap.size:=I.out.lt
   have ak:L<w.heap.size:=(zau I.out.mem.tok).1
   clear m s
   have aa:=zc (bdO HY.out E)
   obtain⟨b0,b1,b2,b3,b4,b5,bf⟩:=zw af.out
   go_wp2_with fail
   refine (zeF C L D z H U a2 ⟨A,x.num,x.name,x.field,x.l,x.r⟩ _ (O.out.set (by omega) (by omega) ad.out _ _) (by rw[ag.out];show 0<q.pos+1+1;omega)).mono ?_
   cases Z:zQ C ⟨A,x.num,x.name,x.field,x.l,x.r⟩ a2 with
   |error p=>
    rintro e w3 ⟨rfl,X⟩
    have Y:Hid (Below z w w3):=(I.out.back (J.out.from.new (Nat.le_refl _) _ _)).trans X
    have K:Hid (zbn C x A q= .error p):=aa.out.trans Z
    unfold Pan
    go_wp2
    refine⟨rfl,?_⟩
    rw[K.out]
    exact⟨rfl,Y.out⟩
   |ok a3=>
    rintro e w3 ⟨rfl,S3,m,s⟩
    have ah:=zc m
    have ai:Hid (IS H S w S3 w3):=(J.out.from.new (Nat.le_refl _) _ _).trans s
    clear m s
    have K:=zc (aa.out.trans Z)
    go_wp2
    go_ret
    rw[K.out]
    exact⟨rfl,S3,ah.out,ai.out⟩
def exI (q:PS):Value:=.int .i64 ((q.ex.length:Int)-1)
def zfu (C:Cx) (gt cap base gp m:Nat):Prop:=∀(d:Nat) (S:Sv) (q:PS) (w:World),C.ts.length-q.pos<m→d≤20→IM C gt cap base gp S q w→
 Calls Tryz.prog 206 #[.pointer (some ⟨gp,0,none⟩),.int .i64 d] w (zT C gt cap base gp (pE C .sum d q) id exI S w)
theorem zjk (C:Cx) (n:ByteArray) (q:PS):zbB C n q=zbn C ⟨2,0,n,sNone,0,0⟩ 3 q:=by
 unfold zbB zbn
 cases h:isT C q.pos 4 zo with
 |true=>rw[zca h];rfl
 |false=>rfl
theorem znA (C:Cx) (n f:ByteArray) (q:PS):zbN C n f q=zbn C ⟨4,0,n,f,0,0⟩ 5 q:=by
 unfold zbN zbn
 cases h:isT C q.pos 4 zo with
 |true=>rw[zca h];rfl
 |false=>rfl
theorem znB {x y:ByteArray} (h:(x.toList==y.toList)=true):x=y:=by
 rw[beq_iff_eq,Lib.toList_data,Lib.toList_data] at h
 cases x
 cases y
 simp only at h
 rw[Array.toList_inj.1 h]
theorem zhp {C:Cx} {i:Nat} {k:Int} {x:ByteArray} (h:isT C i k x=true):(ze C i).text=x:=by
 simp only[isT,Bool.and_eq_true] at h
 exact znB h.2
theorem zgi {C:Cx} {i:Nat} {k:Int} {x:ByteArray} (h:isT C i k x=true):((ze C i).kind==k)=true:=by
 simp only[isT,Bool.and_eq_true] at h
 exact h.1
theorem znC {C:Cx} {d:Nat} {q:PS} (h:((ze C q.pos).kind==2)=true):pE C .part d q=zQ C ⟨1,(ze C q.pos).num,sNone,sNone,0,0⟩ (adv q):=by rw[zbH,h];rfl
theorem znD {C:Cx} {d:Nat} {q:PS} (h:((ze C q.pos).kind==2)=false) (w:isT C q.pos 4 zo=true) (z:20≤d):pE C .part d q= .error (zs C q.pos):=by rw[zbH,h,w,if_neg (by decide),if_pos rfl,if_pos z]
theorem znE {C:Cx} {d:Nat} {q:PS} (h:((ze C q.pos).kind==2)=false) (w:isT C q.pos 4 zo=true) (z: ¬20≤d):pE C .part d q=bd (pE C .sum (d+1) (adv q)) (zd C 4 za7):=by rw[zbH,h,w,if_neg (by decide),if_pos rfl,if_neg z]
theorem znF {C:Cx} {d:Nat} {q:PS} (h:((ze C q.pos).kind==2)=false) (z:isT C q.pos 4 zo=false) (A:C.scr=true) (w:isT C q.pos 1 zaD=true):pE C .part d q=zbn C ⟨2,0,zaD,sNone,0,0⟩ 3 (adv q):=by
 rw[zbH,h,z,A,w,if_neg (by decide),if_neg (by decide),if_pos (by decide),zjk]
theorem zjl {C:Cx} {d:Nat} {q:PS} (h:((ze C q.pos).kind==2)=false) (w:isT C q.pos 4 zo=false) (z:(C.scr&&isT C q.pos 1 zaD)=false):
  pE C .part d q=bd (zl C false q) fun x=>if isT C x.1.pos 4 cPoint then bd (zl C true (adv x.1)) fun y=>zbn C ⟨4,0,x.2,y.2,0,0⟩ 5 y.1 else zbn C ⟨2,0,x.2,sNone,0,0⟩ 3 x.1:=by
 rw[zbH,h,w,z,if_neg (by decide),if_neg (by decide),if_neg (by decide)]
 simp only[zjk,znA]
theorem znG (C:Cx) (E A z D d:Nat) (S:Sv) (q:PS) (w:World) (h:IM C E A z D S q w) (hk:((ze C q.pos).kind==2)=true):
  Calls Tryz.prog 223 #[.pointer (some ⟨D,0,none⟩),.int .i64 d] w (zT C E A z D (pE C .part d q) id exI S w):=by
 have N:=zc h
 have ac:=zdb
 have ab:=zcM
 have aa:=zeB
 clear h
 have HY:=zc (znC (d:=d) hk)
 go_enter Tryz.func223,Tryz.ntmps223
 go_wp2_with fail
 refine (zb3 C E A z D S q _ N.out).mono ?_
 rintro e Z ⟨rfl,H⟩
 unfold tkV
 have M:Hid (IM C E A z D S q Z):=N.out.later H
 have K:Hid (IS D S w S Z):=IS.below H
 clear H
 go_wp2_with fail
 refine (zdW C E A z D S q 2 _ M.out hk (by decide)).mono ?_
 rintro e w2 ⟨rfl,m,s⟩
 have X:=zc m
 have J:Hid (IS D S w S w2):=K.out.trans s
 clear m s
 unfold tkV
 go_wp2_with fail
 refine (zeF C E A z D S (adv q) ⟨1,(ze C q.pos).num,sNone,sNone,0,0⟩ _ X.out (by rw[zz];omega)).mono ?_
 cases I:zQ C ⟨1,(ze C q.pos).num,sNone,sNone,0,0⟩ (adv q) with
 |error p=>
  rintro e O ⟨rfl,H⟩
  have HB:Hid (Below z w O):=(N.out.back J.out).trans H
  have HX:Hid (pE C .part d q= .error p):=HY.out.trans I
  unfold Pan
  go_wp2
  refine⟨rfl,?_⟩
  rw[HX.out]
  exact⟨rfl,HB.out⟩
 |ok a3=>
  rintro e O ⟨rfl,Y,m,s⟩
  have U:=zc m
  have V:Hid (IS D S w Y O):=J.out.trans s
  clear m s
  have L:=zc (HY.out.trans I)
  go_wp2
  go_ret
  rw[L.out]
  exact⟨rfl,Y,U.out,V.out⟩
theorem znH (C:Cx) (E A z D d:Nat) (S:Sv) (q:PS) (w:World) (h:IM C E A z D S q w) (hk:((ze C q.pos).kind==2)=false) (O:isT C q.pos 4 zo=true) (X:20≤d):
  Calls Tryz.prog 223 #[.pointer (some ⟨D,0,none⟩),.int .i64 d] w (zT C E A z D (pE C .part d q) id exI S w):=by
 have L:=zc h
 have ab:=zdb
 have aa:=zcM
 have V:=zeB
 clear h
 have HY:=zc (znD (d:=d) hk O X)
 have ac:(20:Int)≤(d:Int):=by omega
 go_enter Tryz.func223,Tryz.ntmps223
 go_wp2_with fail
 refine (zb3 C E A z D S q _ L.out).mono ?_
 rintro e N ⟨rfl,H⟩
 unfold tkV
 have K:Hid (IM C E A z D S q N):=L.out.later H
 have J:Hid (IS D S w S N):=IS.below H
 clear H
 go_wp2_with fail
 refine (zN C E A z D S q 4 zo _ K.out (by decide)).mono ?_
 rintro e w2 ⟨rfl,m,s⟩
 rw[O] at m ⊢
 have I:=zc m
 have M:Hid (IS D S w S w2):=J.out.trans s
 clear m s
 go_wp2_with fail
 refine (zeE C E A z D S (adv q) d 20 _ I.out (by omega) (by rw[zz];omega)).mono ?_
 rintro e Y ⟨rfl,H⟩
 have U:Hid (Below z w Y):=(L.out.back M.out).trans (H.mono I.out.mem.base)
 have Z:Hid (pE C .part d q= .error (zs C q.pos)):=HY.out
 unfold Pan
 go_wp2
 refine⟨rfl,?_⟩
 rw[Z.out]
 exact⟨rfl,U.out⟩
theorem znI (C:Cx) (I A z D m d:Nat) (S:Sv) (q:PS) (w:World) (h:IM C I A z D S q w) (hk:((ze C q.pos).kind==2)=false) (h1:isT C q.pos 4 zo=true) (hd:d<20) (hS:zfu C I A z D m) (hm:C.ts.length-q.pos≤m):
  Calls Tryz.prog 223 #[.pointer (some ⟨D,0,none⟩),.int .i64 d] w (zT C I A z D (pE C .part d q) id exI S w):=by
 have U:=zc h
 have ai:=zdb
 have ah:=zcM
 have ag:=zeB
 clear h
 have HY:=zc (znE (d:=d) hk h1 (by omega))
 have aj: ¬(20:Int)≤(d:Int):=by omega
 have af:=za8 h1 (by decide)
 obtain⟨J,O⟩: ∃J:Nat,J=d+1:=⟨_,rfl⟩
 have ed:(d:Int)+1=(J:Int):=by omega
 rw[←O] at HY
 have ae:J≤20:=by omega
 clear O
 go_enter Tryz.func223,Tryz.ntmps223
 go_wp2_with fail
 refine (zb3 C I A z D S q _ U.out).mono ?_
 rintro e w1 ⟨rfl,E⟩
 unfold tkV
 have Y:Hid (IM C I A z D S q w1):=U.out.later E
 have V:Hid (IS D S w S w1):=IS.below E
 clear E
 go_wp2_with fail
 refine (zN C I A z D S q 4 zo _ Y.out (by decide)).mono ?_
 rintro e w2 ⟨rfl,m,s⟩
 rw[h1] at m ⊢
 have ac:=zc m
 have M:Hid (IS D S w S w2):=V.out.trans s
 clear m s
 go_wp2_with fail
 refine (zdX D d 20 _ (by omega)).mono ?_
 rintro e w' ⟨rfl,hw⟩
 rw[hw]
 clear hw w'
 go_wp2_with fail
 refine (hS J S (adv q) _ (by rw[zz];omega) ae ac.out).mono ?_
 cases L:pE C .sum J (adv q) with
 |error p=>
  rintro e w3 ⟨rfl,E⟩
  have X:Hid (Below z w w3):=(U.out.back M.out).trans E
  have HX:Hid (pE C .part d q= .error p):=bdE HY.out L
  unfold Pan
  go_wp2
  refine⟨rfl,?_⟩
  rw[HX.out]
  exact⟨rfl,X.out⟩
 |ok a3=>
  rintro e w3 ⟨rfl,S3,m,s⟩
  have ab:=zc m
  have N:Hid (IS D S w S3 w3):=M.out.trans s
  clear m s
  have K:=zc (bdO HY.out L)
  unfold exI
  go_wp2_with fail
  refine (zcz C I A z D S3 a3 41 _ ab.out).mono ?_
  cases H:zd C 4 za7 a3 with
  |error p=>
   rintro e w4 ⟨rfl,E⟩
   have X:Hid (Below z w w4):=(U.out.back N.out).trans E
   have HX:Hid (pE C .part d q= .error p):=K.out.trans H
   unfold Pan
   go_wp2
   refine⟨rfl,?_⟩
   rw[HX.out]
   exact⟨rfl,X.out⟩
  |ok a4=>
   rintro e w4 ⟨rfl,S4,m,s⟩
   have ad:=zc m
   have Z:Hid (IS D S w S4 w4):=N.out.trans s
   clear m s
   have aa:=zc (K.out.trans H)
   have HP:Hid (a4=adv a3):=(zbO H).1
   go_wp2
   go_ret
   rw[aa.out]
   exact⟨by rw[HP.out];rfl,S4,ad.out,Z.out⟩
theorem znJ (C:Cx) (H A z D d:Nat) (S:Sv) (q:PS) (w:World) (h:IM C H A z D S q w) (hk:((ze C q.pos).kind==2)=false) (h1:isT C q.pos 4 zo=false) (h2:C.scr=true) (L:isT C q.pos 1 zaD=true):
  Calls Tryz.prog 223 #[.pointer (some ⟨D,0,none⟩),.int .i64 d] w (zT C H A z D (pE C .part d q) id exI S w):=by
 have U:=zc h
 have ae:=zdb
 have ad:=zcM
 have ac:=zeB
 clear h
 have HY:=zc (znF (d:=d) hk h1 h2 L)
 go_enter Tryz.func223,Tryz.ntmps223
 go_wp2_with fail
 refine (zb3 C H A z D S q _ U.out).mono ?_
 rintro e w1 ⟨rfl,E⟩
 unfold tkV
 have O:Hid (IM C H A z D S q w1):=U.out.later E
 have M:Hid (IS D S w S w1):=IS.below E
 clear E
 go_wp2_with fail
 refine (zN C H A z D S q 4 zo _ O.out (by decide)).mono ?_
 rintro e w2 ⟨rfl,m,s⟩
 rw[h1] at m ⊢
 have I:=zc m
 have X:Hid (IS D S w S w2):=M.out.trans s
 clear m s
 obtain⟨_,_,_,c3,_,_,_,_,_,_,cf⟩:=zah I.out.cells
 rw[h2] at c3
 go_wp2_with fail
 refine (zck C H A z D S q 1 zaD _ I.out).mono ?_
 rintro e w3 ⟨rfl,E⟩
 rw[L]
 have Y:Hid (IM C H A z D S q w3):=I.out.later E
 have Z:Hid (IS D S w S w3):=(X.out.trans (IS.below E))
 clear E
 go_wp2_with fail
 refine (zdW C H A z D S q 1 _ Y.out (zgi L) (by decide)).mono ?_
 rintro e w4 ⟨rfl,m,s⟩
 have ab:=zc m
 have J:Hid (IS D S w S w4):=Z.out.trans s
 clear m s
 unfold tkV
 rw[zhp L]
 go_wp2_with fail
 refine (zft C H A z D S (adv q) ⟨2,0,zaD,sNone,0,0⟩ 3 _ ab.out (by rw[zz];omega)).mono ?_
 cases K:zbn C ⟨2,0,zaD,sNone,0,0⟩ 3 (adv q) with
 |error p=>
  rintro e w5 ⟨rfl,E⟩
  have HB:Hid (Below z w w5):=(U.out.back J.out).trans E
  have HX:Hid (pE C .part d q= .error p):=HY.out.trans K
  unfold Pan
  go_wp2
  refine⟨rfl,?_⟩
  rw[HX.out]
  exact⟨rfl,HB.out⟩
 |ok a5=>
  rintro e w5 ⟨rfl,S5,m,s⟩
  have V:=zc m
  have N:Hid (IS D S w S5 w5):=J.out.trans s
  clear m s
  have aa:=zc (HY.out.trans K)
  go_wp2
  go_ret
  rw[aa.out]
  exact⟨rfl,S5,V.out,N.out⟩
theorem znK (C:Cx) (I A z D d:Nat) (S:Sv) (q:PS) (w:World) (h:IM C I A z D S q w) (hk:((ze C q.pos).kind==2)=false) (h1:isT C q.pos 4 zo=false) (h2:C.scr=true) (h3:isT C q.pos 1 zaD=false):
  Calls Tryz.prog 223 #[.pointer (some ⟨D,0,none⟩),.int .i64 d] w (zT C I A z D (pE C .part d q) id exI S w):=by
 have HH:=zc h
 have ap:=zdb
 have ao:=zcM
 have an:=zeB
 clear h
 have HY:=zc (zjl (d:=d) hk h1 (by rw[h2,h3];rfl))
 go_enter Tryz.func223,Tryz.ntmps223
 go_wp2_with fail
 refine (zb3 C I A z D S q _ HH.out).mono ?_
 rintro e w1 ⟨rfl,E⟩
 unfold tkV
 have ah:Hid (IM C I A z D S q w1):=HH.out.later E
 have ag:Hid (IS D S w S w1):=IS.below E
 clear E
 go_wp2_with fail
 refine (zN C I A z D S q 4 zo _ ah.out (by decide)).mono ?_
 rintro e w2 ⟨rfl,m,s⟩
 rw[h1] at m ⊢
 have Y:=zc m
 have ak:Hid (IS D S w S w2):=ag.out.trans s
 clear m s
 obtain⟨_,_,_,c3,_,_,_,_,_,_,cf⟩:=zah Y.out.cells
 rw[h2] at c3
 go_wp2_with fail
 refine (zck C I A z D S q 1 zaD _ Y.out).mono ?_
 rintro e w3 ⟨rfl,E⟩
 rw[h3]
 have am:Hid (IM C I A z D S q w3):=Y.out.later E
 have ae:Hid (IS D S w S w3):=(ak.out.trans (IS.below E))
 clear E
 go_wp2_with fail
 refine (zd0 C I A z D S q _ am.out).mono ?_
 cases X:zl C false q with
 |error p=>
  rintro e w4 ⟨rfl,E⟩
  have N:Hid (Below z w w4):=(HH.out.back ae.out).trans E
  have V:Hid (pE C .part d q= .error p):=bdE HY.out X
  unfold Pan
  go_wp2
  refine⟨rfl,?_⟩
  rw[V.out]
  exact⟨rfl,N.out⟩
 |ok J=>
  rintro e w4 ⟨rfl,O,m,s⟩
  have af:=zc m
  have ac:Hid (IS D S w O w4):=ae.out.trans s
  clear m s
  have ad:=zc (bdO HY.out X)
  have ab:0<J.1.pos:=by rw[(zby X).1];exact Nat.succ_pos _
  cases hd:isT C J.1.pos 4 cPoint with
  |true=>
   have HZ:=zc (ad.out.trans (if_pos hd))
   go_wp2_with fail
   refine (zN C I A z D O (J.1) 4 cPoint _ af.out (by decide)).mono ?_
   rintro e w5 ⟨rfl,m,s⟩
   rw[hd] at m ⊢
   have U:=zc m
   have K:Hid (IS D S w O w5):=ac.out.trans s
   clear m s
   go_wp2_with fail
   refine (zfo C I A z D O (adv (J.1)) _ U.out).mono ?_
   cases H:zl C true (adv (J.1)) with
   |error p=>
    rintro e w6 ⟨rfl,E⟩
    have N:Hid (Below z w w6):=(HH.out.back K.out).trans E
    have V:Hid (pE C .part d q= .error p):=bdE HZ.out H
    unfold Pan
    go_wp2
    refine⟨rfl,?_⟩
    rw[V.out]
    exact⟨rfl,N.out⟩
   |ok a6=>
    rintro e w6 ⟨rfl,S6,m,s⟩
    have Z:=zc m
    have L:Hid (IS D S w S6 w6):=K.out.trans s
    clear m s
    have M:=zc (bdO HZ.out H)
    go_wp2_with fail
    refine (zft C I A z D S6 (a6.1) ⟨4,0,J.2,a6.2,0,0⟩ 5 _ Z.out (by rw[(zby H).1];exact Nat.succ_pos _)).mono ?_
    cases aa:zbn C ⟨4,0,J.2,a6.2,0,0⟩ 5 (a6.1) with
    |error p=>
     rintro e w7 ⟨rfl,E⟩
     have N:Hid (Below z w w7):=(HH.out.back L.out).trans E
     have V:Hid (pE C .part d q= .error p):=M.out.trans aa
     unfold Pan
     go_wp2
     refine⟨rfl,?_⟩
     rw[V.out]
     exact⟨rfl,N.out⟩
    |ok a7=>
     rintro e w7 ⟨rfl,S7,m,s⟩
     have aj:=zc m
     have ai:Hid (IS D S w S7 w7):=L.out.trans s
     clear m s
     have al:=zc (M.out.trans aa)
     go_wp2
     go_ret
     rw[al.out]
     exact⟨rfl,S7,aj.out,ai.out⟩
  |false=>
   have HZ:=zc (ad.out.trans (if_neg (by rw[hd];decide)))
   go_wp2_with fail
   refine (zN C I A z D O (J.1) 4 cPoint _ af.out (by decide)).mono ?_
   rintro e w5 ⟨rfl,m,s⟩
   rw[hd] at m ⊢
   have U:=zc m
   have K:Hid (IS D S w O w5):=ac.out.trans s
   clear m s
   go_wp2_with fail
   refine (zft C I A z D O (J.1) ⟨2,0,J.2,sNone,0,0⟩ 3 _ U.out ab).mono ?_
   cases H:zbn C ⟨2,0,J.2,sNone,0,0⟩ 3 (J.1) with
   |error p=>
    rintro e w6 ⟨rfl,E⟩
    have N:Hid (Below z w w6):=(HH.out.back K.out).trans E
    have V:Hid (pE C .part d q= .error p):=HZ.out.trans H
    unfold Pan
    go_wp2
    refine⟨rfl,?_⟩
    rw[V.out]
    exact⟨rfl,N.out⟩
   |ok a6=>
    rintro e w6 ⟨rfl,S6,m,s⟩
    have Z:=zc m
    have L:Hid (IS D S w S6 w6):=K.out.trans s
    clear m s
    have M:=zc (HZ.out.trans H)
    go_wp2
    go_ret
    rw[M.out]
    exact⟨rfl,S6,Z.out,L.out⟩
theorem znL (C:Cx) (K A z D d:Nat) (S:Sv) (q:PS) (w:World) (h:IM C K A z D S q w) (hk:((ze C q.pos).kind==2)=false) (h1:isT C q.pos 4 zo=false) (h2:C.scr=false):
  Calls Tryz.prog 223 #[.pointer (some ⟨D,0,none⟩),.int .i64 d] w (zT C K A z D (pE C .part d q) id exI S w):=by
 have HH:=zc h
 have ao:=zdb
 have an:=zcM
 have am:=zeB
 clear h
 have HY:=zc (zjl (d:=d) hk h1 (by rw[h2];rfl))
 go_enter Tryz.func223,Tryz.ntmps223
 go_wp2_with fail
 refine (zb3 C K A z D S q _ HH.out).mono ?_
 rintro e w1 ⟨rfl,I⟩
 unfold tkV
 have ai:Hid (IM C K A z D S q w1):=HH.out.later I
 have ah:Hid (IS D S w S w1):=IS.below I
 clear I
 go_wp2_with fail
 refine (zN C K A z D S q 4 zo _ ai.out (by decide)).mono ?_
 rintro e w2 ⟨rfl,m,s⟩
 rw[h1] at m ⊢
 have ag:=zc m
 have ad:Hid (IS D S w S w2):=ah.out.trans s
 clear m s
 obtain⟨_,_,_,c3,_,_,_,_,_,_,cf⟩:=zah ag.out.cells
 rw[h2] at c3
 go_wp2_with fail
 refine (zd0 C K A z D S q _ ag.out).mono ?_
 cases V:zl C false q with
 |error p=>
  rintro e w3 ⟨rfl,I⟩
  have N:Hid (Below z w w3):=(HH.out.back ad.out).trans I
  have X:Hid (pE C .part d q= .error p):=bdE HY.out V
  unfold Pan
  go_wp2
  refine⟨rfl,?_⟩
  rw[X.out]
  exact⟨rfl,N.out⟩
 |ok H=>
  rintro e w3 ⟨rfl,U,m,s⟩
  have ae:=zc m
  have af:Hid (IS D S w U w3):=ad.out.trans s
  clear m s
  have ab:=zc (bdO HY.out V)
  have aa:0<H.1.pos:=by rw[(zby V).1];exact Nat.succ_pos _
  cases hd:isT C H.1.pos 4 cPoint with
  |true=>
   have HZ:=zc (ab.out.trans (if_pos hd))
   go_wp2_with fail
   refine (zN C K A z D U (H.1) 4 cPoint _ ae.out (by decide)).mono ?_
   rintro e w4 ⟨rfl,m,s⟩
   rw[hd] at m ⊢
   have Z:=zc m
   have J:Hid (IS D S w U w4):=af.out.trans s
   clear m s
   go_wp2_with fail
   refine (zfo C K A z D U (adv (H.1)) _ Z.out).mono ?_
   cases E:zl C true (adv (H.1)) with
   |error p=>
    rintro e Y ⟨rfl,I⟩
    have N:Hid (Below z w Y):=(HH.out.back J.out).trans I
    have X:Hid (pE C .part d q= .error p):=bdE HZ.out E
    unfold Pan
    go_wp2
    refine⟨rfl,?_⟩
    rw[X.out]
    exact⟨rfl,N.out⟩
   |ok a5=>
    rintro e Y ⟨rfl,S5,m,s⟩
    have O:=zc m
    have L:Hid (IS D S w S5 Y):=J.out.trans s
    clear m s
    have M:=zc (bdO HZ.out E)
    go_wp2_with fail
    refine (zft C K A z D S5 (a5.1) ⟨4,0,H.2,a5.2,0,0⟩ 5 _ O.out (by rw[(zby E).1];exact Nat.succ_pos _)).mono ?_
    cases ac:zbn C ⟨4,0,H.2,a5.2,0,0⟩ 5 (a5.1) with
    |error p=>
     rintro e w6 ⟨rfl,I⟩
     have N:Hid (Below z w w6):=(HH.out.back L.out).trans I
     have X:Hid (pE C .part d q= .error p):=M.out.trans ac
     unfold Pan
     go_wp2
     refine⟨rfl,?_⟩
     rw[X.out]
     exact⟨rfl,N.out⟩
    |ok a6=>
     rintro e w6 ⟨rfl,S6,m,s⟩
     have al:=zc m
     have aj:Hid (IS D S w S6 w6):=L.out.trans s
     clear m s
     have ak:=zc (M.out.trans ac)
     go_wp2
     go_ret
     rw[ak.out]
     exact⟨rfl,S6,al.out,aj.out⟩
  |false=>
   have HZ:=zc (ab.out.trans (if_neg (by rw[hd];decide)))
   go_wp2_with fail
   refine (zN C K A z D U (H.1) 4 cPoint _ ae.out (by decide)).mono ?_
   rintro e w4 ⟨rfl,m,s⟩
   rw[hd] at m ⊢
   have Z:=zc m
   have J:Hid (IS D S w U w4):=af.out.trans s
   clear m s
   go_wp2_with fail
   refine (zft C K A z D U (H.1) ⟨2,0,H.2,sNone,0,0⟩ 3 _ Z.out aa).mono ?_
   cases E:zbn C ⟨2,0,H.2,sNone,0,0⟩ 3 (H.1) with
   |error p=>
    rintro e Y ⟨rfl,I⟩
    have N:Hid (Below z w Y):=(HH.out.back J.out).trans I
    have X:Hid (pE C .part d q= .error p):=HZ.out.trans E
    unfold Pan
    go_wp2
    refine⟨rfl,?_⟩
    rw[X.out]
    exact⟨rfl,N.out⟩
   |ok a5=>
    rintro e Y ⟨rfl,S5,m,s⟩
    have O:=zc m
    have L:Hid (IS D S w S5 Y):=J.out.trans s
    clear m s
    have M:=zc (HZ.out.trans E)
    go_wp2
    go_ret
    rw[M.out]
    exact⟨rfl,S5,O.out,L.out⟩
theorem zjm (C:Cx) (E A z D m d:Nat) (S:Sv) (q:PS) (w:World) (h:IM C E A z D S q w) (O:d≤20) (M:zfu C E A z D m) (N:C.ts.length-q.pos≤m):
  Calls Tryz.prog 223 #[.pointer (some ⟨D,0,none⟩),.int .i64 d] w (zT C E A z D (pE C .part d q) id exI S w):=by
 cases H:((ze C q.pos).kind==2) with
 |true=>exact znG C E A z D d S q w h H
 |false=>
  cases I:isT C q.pos 4 zo with
  |true=>
   by_cases J:20≤d
   ·exact znH C E A z D d S q w h H I J
   ·exact znI C E A z D m d S q w h H I (by omega) M N
  |false=>
   cases K:C.scr with
   |true=>
    cases L:isT C q.pos 1 zaD with
    |true=>exact znJ C E A z D d S q w h H I K L
    |false=>exact znK C E A z D d S q w h H I K L
   |false=>exact znL C E A z D d S q w h H I K
theorem znM {C:Cx} {d:Nat} {q:PS} (h:isT C q.pos 4 zy=false):pE C .prodT d q= .ok q:=by rw[zfP,if_neg (by rw[h];decide)]
theorem znN {C:Cx} {d:Nat} {q:PS} (h:isT C q.pos 4 zy=true):pE C .prodT d q=bd (pE C .part d (adv q)) fun a=>bd (zQ C ⟨8,0,sNone,sNone,(q.ex.length:Int)-1,(a.ex.length:Int)-1⟩ a) (pE C .prodT d):=by rw[zfP,if_pos h,zO]
theorem znO {C:Cx} {d:Nat} {q:PS} (h:isT C q.pos 4 zbk=false) (w:isT C q.pos 4 zcw=false):pE C .sumT d q= .ok q:=by rw[zff,if_neg (by rw[h,w];decide)]
theorem znP {C:Cx} {d:Nat} {q:PS} (h:isT C q.pos 4 zbk=true):pE C .sumT d q=bd (pE C .prod d (adv q)) fun a=>bd (zQ C ⟨7,0,sNone,sNone,(q.ex.length:Int)-1,(a.ex.length:Int)-1⟩ a) (pE C .sumT d):=by
 rw[zff,if_pos (by rw[h];exact Bool.or_true _),zO,zdv,if_pos h]
theorem znQ {C:Cx} {d:Nat} {q:PS} (h:isT C q.pos 4 zbk=false) (w:isT C q.pos 4 zcw=true):pE C .sumT d q=bd (pE C .prod d (adv q)) fun a=>bd (zQ C ⟨6,0,sNone,sNone,(q.ex.length:Int)-1,(a.ex.length:Int)-1⟩ a) (pE C .sumT d):=by
 rw[zff,if_pos (by rw[w];rfl),zO,zdv,if_neg (by rw[h];decide)]
theorem zhq (C:Cx) (I A z D m d:Nat) (S:Sv) (q:PS) (w:World) (h:IM C I A z D S q w) (hd:d≤20) (hS:zfu C I A z D m) (hm:C.ts.length-q.pos≤m):
  Calls Tryz.prog 219 #[.pointer (some ⟨D,0,none⟩),.int .i64 d] w (zT C I A z D (pE C .prod d q) id exI S w):=by
 have HH:=zc h
 have HY:=zc (ziF C d q)
 clear h
 go_enter Tryz.func219,Tryz.ntmps219
 go_wp2_with fail
 refine (zjm C I A z D m d S q _ HH.out hd hS hm).mono ?_
 cases K:pE C .part d q with
 |error p=>
  rintro e w1 ⟨rfl,V⟩
  have X:Hid (Below z w w1):=(HH.out.back (IS.refl _ _ _)).trans V
  have Z:Hid (pE C .prod d q= .error p):=bdE HY.out K
  unfold Pan
  go_wp2
  refine⟨rfl,?_⟩
  rw[Z.out]
  exact⟨rfl,X.out⟩
 |ok a1=>
  rintro e w1 ⟨rfl,S1,m,s⟩
  have ag:=zc m
  have ae:=zc s
  clear m s
  have aj:=zc (bdO HY.out K)
  unfold exI
  have an:=zbe K
  go_wp2
  go_loopg [5] (C.ts.length+1) (fun k l wr=>∃(H:Sv) (E:PS),l=exI E∧pE C .prod d q=pE C .prodT d E∧C.ts.length-E.pos<k∧C.ts.length-E.pos≤m∧IM C I A z D H E wr∧IS D S w H wr)
  case atStart=>exact⟨S1,a1,rfl,aj.out,by omega,by omega,ag.out,ae.out⟩
  case round=>
   obtain⟨H,E,rfl,hy,hk,ao,m',s'⟩:=hrel
   have ab:=zc hy
   have ad:Hid (IM C I A z D H E wr):=m'
   have U:Hid (IS D S w H wr):=s'
   clear hy m' s'
   unfold exI
   cases hi:isT C E.pos 4 zy with
   |false=>
    have HZ:=zc (ab.out.trans (znM hi))
    go_wp2_with fail
    refine (zN C I A z D H E 4 zy _ ad.out (by decide)).mono ?_
    rintro e w2 ⟨rfl,m,s⟩
    rw[hi] at m ⊢
    have N:=zc m
    have J:Hid (IS D S w H w2):=U.out.trans s
    clear m s
    go_wp2
    go_ret
    rw[HZ.out]
    exact⟨rfl,H,N.out,J.out⟩
   |true=>
    have am:=za8 hi (by decide)
    have HZ:=zc (ab.out.trans (znN hi))
    go_wp2_with fail
    refine (zN C I A z D H E 4 zy _ ad.out (by decide)).mono ?_
    rintro e w2 ⟨rfl,m,s⟩
    rw[hi] at m ⊢
    have N:=zc m
    have J:Hid (IS D S w H w2):=U.out.trans s
    clear m s
    go_wp2_with fail
    refine (zjm C I A z D m d H (adv E) _ N.out hd hS (by rw[zz];omega)).mono ?_
    cases L:pE C .part d (adv E) with
    |error p=>
     rintro e w3 ⟨rfl,V⟩
     have X:Hid (Below z w w3):=(HH.out.back J.out).trans V
     have Z:Hid (pE C .prod d q= .error p):=bdE HZ.out L
     unfold Pan
     go_wp2
     refine⟨rfl,?_⟩
     rw[Z.out]
     exact⟨rfl,X.out⟩
    |ok O=>
     rintro e w3 ⟨rfl,S3,m,s⟩
     have ak:=zc m
     have aa:Hid (IS D S w S3 w3):=J.out.trans s
     clear m s
     have Y:=zc (bdO HZ.out L)
     unfold exI
     have ac:=zbe L
     rw[zz] at ac
     have af:0<O.pos:=by omega
     go_wp2_with fail
     refine (zeF C I A z D S3 O ⟨8,0,sNone,sNone,(E.ex.length:Int)-1,(O.ex.length:Int)-1⟩ _ ak.out af).mono ?_
     cases M:zQ C ⟨8,0,sNone,sNone,(E.ex.length:Int)-1,(O.ex.length:Int)-1⟩ O with
     |error p=>
      rintro e w4 ⟨rfl,V⟩
      have X:Hid (Below z w w4):=(HH.out.back aa.out).trans V
      have Z:Hid (pE C .prod d q= .error p):=bdE Y.out M
      unfold Pan
      go_wp2
      refine⟨rfl,?_⟩
      rw[Z.out]
      exact⟨rfl,X.out⟩
     |ok a4=>
      rintro e w4 ⟨rfl,S4,m,s⟩
      have al:=zc m
      have ah:Hid (IS D S w S4 w4):=aa.out.trans s
      clear m s
      have ai:=zc (bdO Y.out M)
      have HP:Hid (a4.pos=O.pos):=by show _=_;rw[(zbC M).1]
      go_wp2
      go_roundg (gk-1)
      case rel=>exact⟨S4,a4,rfl,ai.out,by have:=HP.out;omega,by have:=HP.out;omega,al.out,ah.out⟩
      case measure=>omega
theorem znR (C:Cx) (J A z D m d:Nat) (S:Sv) (q:PS) (w:World) (h:IM C J A z D S q w) (hd:d≤20) (hS:zfu C J A z D m) (hm:C.ts.length-q.pos≤m):
  Calls Tryz.prog 206 #[.pointer (some ⟨D,0,none⟩),.int .i64 d] w (zT C J A z D (pE C .sum d q) id exI S w):=by
 have HH:=zc h
 have HY:=zc (ziE C d q)
 clear h
 go_enter Tryz.func206,Tryz.ntmps206
 go_wp2_with fail
 refine (zhq C J A z D m d S q _ HH.out hd hS hm).mono ?_
 cases ah:pE C .prod d q with
 |error p=>
  rintro e w1 ⟨rfl,H⟩
  have HB:Hid (Below z w w1):=(HH.out.back (IS.refl _ _ _)).trans H
  have HX:Hid (pE C .sum d q= .error p):=bdE HY.out ah
  unfold Pan
  go_wp2
  refine⟨rfl,?_⟩
  rw[HX.out]
  exact⟨rfl,HB.out⟩
 |ok a1=>
  rintro e w1 ⟨rfl,S1,m,s⟩
  have al:=zc m
  have an:=zc s
  clear m s
  have ao:=zc (bdO HY.out ah)
  unfold exI
  have au:=zbe ah
  go_wp2
  go_loopg [5] (C.ts.length+1) (fun k l wr=>∃(I:Sv) (E:PS),l=exI E∧pE C .sum d q=pE C .sumT d E∧C.ts.length-E.pos<k∧C.ts.length-E.pos≤m∧IM C J A z D I E wr∧IS D S w I wr)
  case atStart=>exact⟨S1,a1,rfl,ao.out,by omega,by omega,al.out,an.out⟩
  case round=>
   obtain⟨I,E,rfl,hy,hk,av,m',s'⟩:=hrel
   have ad:=zc hy
   have M:Hid (IM C J A z D I E wr):=m'
   have ae:Hid (IS D S w I wr):=s'
   clear hy m' s'
   unfold exI
   have ar:=M.out.mem.few
   cases hi:isT C E.pos 4 zbk with
   |true=>
    have aj:=za8 hi (by decide)
    have HZ:=zc (ad.out.trans (znP hi))
    go_wp2_with fail
    refine (zck C J A z D I E 4 zbk _ M.out).mono ?_
    rintro e Y ⟨rfl,H⟩
    rw[hi]
    have K:Hid (IM C J A z D I E Y):=M.out.later H
    have X:Hid (IS D S w I Y):=(ae.out.trans (IS.below H))
    clear H
    obtain⟨c0,c1,c2,c3,c4,c5,c6,c7,c8,c9,cf⟩:=zah K.out.cells
    go_wp2_with fail
    have O:Hid (IM C J A z D I (adv E) (Y.setCell ⟨D,1,none⟩ (.int .i64 ((E.pos:Int)+1)))):=K.out.adv aj
    have N:Hid (IS D S w I (Y.setCell ⟨D,1,none⟩ (.int .i64 ((E.pos:Int)+1)))):=X.out.set _ _
    refine (zhq C J A z D m d I (adv E) _ O.out hd hS (by rw[zz];omega)).mono ?_
    cases ac:pE C .prod d (adv E) with
    |error p=>
     rintro e w4 ⟨rfl,H⟩
     have HB:Hid (Below z w w4):=(HH.out.back N.out).trans H
     have HX:Hid (pE C .sum d q= .error p):=bdE HZ.out ac
     unfold Pan
     go_wp2
     refine⟨rfl,?_⟩
     rw[HX.out]
     exact⟨rfl,HB.out⟩
    |ok a4=>
     rintro e w4 ⟨rfl,S4,m,s⟩
     have ai:=zc m
     have V:Hid (IS D S w S4 w4):=N.out.trans s
     clear m s
     have ak:=zc (bdO HZ.out ac)
     unfold exI
     have U:=zbe ac
     rw[zz] at U
     have af:0<a4.pos:=by omega
     go_wp2_with fail
     refine (zeF C J A z D S4 a4 ⟨7,0,sNone,sNone,(E.ex.length:Int)-1,(a4.ex.length:Int)-1⟩ _ ai.out af).mono ?_
     cases L:zQ C ⟨7,0,sNone,sNone,(E.ex.length:Int)-1,(a4.ex.length:Int)-1⟩ a4 with
     |error p=>
      rintro e w5 ⟨rfl,H⟩
      have HB:Hid (Below z w w5):=(HH.out.back V.out).trans H
      have HX:Hid (pE C .sum d q= .error p):=bdE ak.out L
      unfold Pan
      go_wp2
      refine⟨rfl,?_⟩
      rw[HX.out]
      exact⟨rfl,HB.out⟩
     |ok a5=>
      rintro e w5 ⟨rfl,S5,m,s⟩
      have ab:=zc m
      have Z:Hid (IS D S w S5 w5):=V.out.trans s
      clear m s
      have aa:=zc (bdO ak.out L)
      have HP:Hid (a5.pos=a4.pos):=by show _=_;rw[(zbC L).1]
      go_wp2
      go_roundg (gk-1)
      case rel=>exact⟨S5,a5,rfl,aa.out,by have:=HP.out;omega,by have:=HP.out;omega,ab.out,Z.out⟩
      case measure=>omega
   |false=>
    cases hj:isT C E.pos 4 zcw with
    |true=>
     have aj:=za8 hj (by decide)
     have HZ:=zc (ad.out.trans (znQ hi hj))
     go_wp2_with fail
     refine (zck C J A z D I E 4 zbk _ M.out).mono ?_
     rintro e Y ⟨rfl,H⟩
     rw[hi]
     have K:Hid (IM C J A z D I E Y):=M.out.later H
     have X:Hid (IS D S w I Y):=(ae.out.trans (IS.below H))
     clear H
     go_wp2_with fail
     refine (zck C J A z D I E 4 zcw _ K.out).mono ?_
     rintro e w3 ⟨rfl,H⟩
     rw[hj]
     have O:Hid (IM C J A z D I E w3):=K.out.later H
     have N:Hid (IS D S w I w3):=(X.out.trans (IS.below H))
     clear H
     obtain⟨c0,c1,c2,c3,c4,c5,c6,c7,c8,c9,cf⟩:=zah O.out.cells
     go_wp2_with fail
     have ai:Hid (IM C J A z D I (adv E) (w3.setCell ⟨D,1,none⟩ (.int .i64 ((E.pos:Int)+1)))):=O.out.adv aj
     have V:Hid (IS D S w I (w3.setCell ⟨D,1,none⟩ (.int .i64 ((E.pos:Int)+1)))):=N.out.set _ _
     refine (zhq C J A z D m d I (adv E) _ ai.out hd hS (by rw[zz];omega)).mono ?_
     cases L:pE C .prod d (adv E) with
     |error p=>
      rintro e w5 ⟨rfl,H⟩
      have HB:Hid (Below z w w5):=(HH.out.back V.out).trans H
      have HX:Hid (pE C .sum d q= .error p):=bdE HZ.out L
      unfold Pan
      go_wp2
      refine⟨rfl,?_⟩
      rw[HX.out]
      exact⟨rfl,HB.out⟩
     |ok a5=>
      rintro e w5 ⟨rfl,S5,m,s⟩
      have ab:=zc m
      have Z:Hid (IS D S w S5 w5):=V.out.trans s
      clear m s
      have aa:=zc (bdO HZ.out L)
      unfold exI
      have U:=zbe L
      rw[zz] at U
      have af:0<a5.pos:=by omega
      go_wp2_with fail
      refine (zeF C J A z D S5 a5 ⟨6,0,sNone,sNone,(E.ex.length:Int)-1,(a5.ex.length:Int)-1⟩ _ ab.out af).mono ?_
      cases ag:zQ C ⟨6,0,sNone,sNone,(E.ex.length:Int)-1,(a5.ex.length:Int)-1⟩ a5 with
      |error p=>
       rintro e w6 ⟨rfl,H⟩
       have HB:Hid (Below z w w6):=(HH.out.back Z.out).trans H
       have HX:Hid (pE C .sum d q= .error p):=bdE aa.out ag
       unfold Pan
       go_wp2
       refine⟨rfl,?_⟩
       rw[HX.out]
       exact⟨rfl,HB.out⟩
      |ok a6=>
       rintro e w6 ⟨rfl,S6,m,s⟩
       have aq:=zc m
       have ap:Hid (IS D S w S6 w6):=Z.out.trans s
       clear m s
       have am:=zc (bdO aa.out ag)
       have HP:Hid (a6.pos=a5.pos):=by show _=_;rw[(zbC ag).1]
       go_wp2
       go_roundg (gk-1)
       case rel=>exact⟨S6,a6,rfl,am.out,by have:=HP.out;omega,by have:=HP.out;omega,aq.out,ap.out⟩
       case measure=>omega
    |false=>
     have HZ:=zc (ad.out.trans (znO hi hj))
     go_wp2_with fail
     refine (zck C J A z D I E 4 zbk _ M.out).mono ?_
     rintro e Y ⟨rfl,H⟩
     rw[hi]
     have K:Hid (IM C J A z D I E Y):=M.out.later H
     have X:Hid (IS D S w I Y):=(ae.out.trans (IS.below H))
     clear H
     go_wp2_with fail
     refine (zck C J A z D I E 4 zcw _ K.out).mono ?_
     rintro e w3 ⟨rfl,H⟩
     rw[hj]
     have O:Hid (IM C J A z D I E w3):=K.out.later H
     have N:Hid (IS D S w I w3):=(X.out.trans (IS.below H))
     clear H
     go_wp2
     go_ret
     rw[HZ.out]
     exact⟨rfl,I,O.out,N.out⟩
theorem znS (C:Cx) (H A z E m:Nat):zfu C H A z E m:=by
 induction m with
 |zero=>intro d S q w D;omega
 |succ m J=>intro d S q w D I h;exact znR C H A z E m d S q w h I J (by omega)
theorem znT (C:Cx) (E A z D d:Nat) (S:Sv) (q:PS) (w:World) (h:IM C E A z D S q w) (H:d≤20):
  Calls Tryz.prog 206 #[.pointer (some ⟨D,0,none⟩),.int .i64 d] w (zT C E A z D (pE C .sum d q) id exI S w):=znS C E A z D _ d S q w (Nat.lt_succ_self _) H h
theorem zjn {C:Cx} {s:ByteArray} (n:Nat): ∀{k:Nat} {q b:PS},zaF C s n k q= .ok b→b={q with pos:=q.pos+n}:=by
 induction n with
 |zero=>intro k q b h;cases h;rfl
 |succ n z=>
  intro k q b h
  rw[zaF] at h
  obtain⟨a,w,A⟩:=zm h
  rw[z A,(zbO w).1]
  show ({q with pos:=q.pos+1+n}:PS)=_
  congr 1
  omega
theorem znU (x:Sm): ∀u∈smL x,u.oneCell'=true:=by
 intro u h
 simp[smL] at h
 rcases h with rfl|rfl|rfl<;>rfl
def stmtI (C:Cx) (k:Int) (n s:ByteArray) (q:PS):PR:=bd (pE C .sum 0 q) fun a=>bd (zaF C s s.size 0 a) fun b=>zY C k n b
theorem zec (C:Cx) (O D z H:Nat) (S:Sv) (q:PS) (I:Int) (n s:ByteArray) (w:World) (h:IM C O D z H S q w) (hs:s.size≤100) (h0:0<s.size):
  Calls Tryz.prog 186 #[.pointer (some ⟨H,0,none⟩),.int .i64 I,.string n,.string s] w (zT C O D z H (stmtI C I n s q) id (fun _=>.tuple #[]) S w):=by
 obtain⟨i0,hi,am,al,ak⟩:=info_parts Tryz.infoStmt
 have HH:=zc h
 have HY:=zc (stmtI.eq_1 C I n s q)
 clear h
 go_enter Tryz.func186,Tryz.ntmps186
 go_wp2_with fail
 refine (znT C O D z H 0 S q _ HH.out (by omega)).mono ?_
 cases aa:pE C .sum 0 q with
 |error p=>
  rintro e w1 ⟨rfl,U⟩
  have HB:Hid (Below z w w1):=(HH.out.back (IS.refl _ _ _)).trans U
  have HX:Hid (stmtI C I n s q= .error p):=bdE HY.out aa
  unfold Pan
  go_wp2
  refine⟨rfl,?_⟩
  rw[HX.out]
  exact⟨rfl,HB.out⟩
 |ok X=>
  rintro e w1 ⟨rfl,S1,m,s⟩
  have ah:=zc m
  have Z:=zc s
  clear m s
  have ab:=zc (bdO HY.out aa)
  unfold exI
  go_wp2_with fail
  refine (zhl C O D z H S1 X s _ ah.out hs).mono ?_
  cases M:zaF C s s.size 0 X with
  |error p=>
   rintro e w2 ⟨rfl,U⟩
   have HB:Hid (Below z w w2):=(HH.out.back Z.out).trans U
   have HX:Hid (stmtI C I n s q= .error p):=bdE ab.out M
   unfold Pan
   go_wp2
   refine⟨rfl,?_⟩
   rw[HX.out]
   exact⟨rfl,HB.out⟩
  |ok E=>
   rintro e w2 ⟨rfl,S2,m,s⟩
   have A:=zc m
   have ac:Hid (IS H S w S2 w2):=Z.out.trans s
   clear m s
   have af:=zc (bdO ab.out M)
   have L:=zjn _ M
   have ad:0<E.pos:=by rw[L];show 0<X.pos+s.size;omega
   have HE:Hid (E.ex=X.ex):=by show _=_;rw[L]
   clear L
   have an:=A.out.mem.inv.st
   obtain⟨c0,c1,c2,c3,c4,c5,c6,c7,c8,c9,cf⟩:=zah A.out.cells
   go_wp2_with fail
   by_cases hn:E.st.length<80
   ·have HZ:=zc (af.out.trans (show zY C I n E=_ from if_neg (by omega)))
    refine (zdX H E.st.length 80 _ (by omega)).mono ?_
    rintro e w' ⟨rfl,hw⟩
    rw[hw]
    clear hw w'
    have HN:Hid (some H≠S2.st.blk):=fun e=>A.out.free (.inr (.inr (.inr (.inl e.symm))))
    have ao:=A.out.lt
    have J:=fun K=>(A.out.mem.own.st.alloc K)
    have V:=fun K=>(A.out.alloc K).mem.base
    have ag:=fun K=>(A.out.alloc K).lt
    have Y:=fun K=>(A.out.alloc K).cells
    go_wp2_with (at_builtin;refine zaZ _ rfl _ _ 45 rfl z 87 i0 _ 3 32 Tryz.underlying45 hi am al ak rfl (by decide) (by decide) S2.st E.st.length _ (by rfl) (J _) w2.heap.size (smL ⟨I,n,(X.ex.length:Int)-1⟩) (by rfl) (by exact heap_alloc_new w2 _) rfl (znU _) (by omega) (V _) ?_;intro r' wz hr N ae;have g2:=(N.block H (ag _) HN.out).trans (Y _);obtain⟨d0,d1,d2,d3,d4,d5,d6,d7,d8,d9,df⟩:=zah g2;have HR:Hid (OwnR wz z 87 3 r' (E.st.length+1) _):=hr;have ai:Hid (World.grownBy _ wz _):=N;have aj:Hid (_∨_):=ae;clear hr N ae g2 c0 c1 c2 c3 c4 c5 c6 c7 c8 c9 cf J V ag Y)
    go_wp2
    go_end0
    obtain⟨m',s'⟩:=A.out.grow_st ((Below.refl _ _).alloc (Nat.le_refl _) _) ai.out HR.out aj.out hn
    rw[HZ.out]
    rw[←HE.out] at m'
    exact⟨rfl,_,m',ac.out.trans s'⟩
   ·have HZ:Hid (stmtI C I n s q= .error (zs C (E.pos-1))):=af.out.trans (if_pos (by omega))
    refine (zeE C O D z H S2 E E.st.length 80 _ A.out (by omega) ad).mono ?_
    rintro e wz ⟨rfl,U⟩
    have HB:Hid (Below z w wz):=(HH.out.back ac.out).trans (U.mono A.out.mem.base)
    have HX:Hid (stmtI C I n s q= .error (zs C (E.pos-1))):=HZ.out
    unfold Pan
    go_wp2
    refine⟨rfl,?_⟩
    rw[HX.out]
    exact⟨rfl,HB.out⟩
def letJ (C:Cx) (k:Int) (q:PS):PR:=bd (zl C false q) fun a=>bd (zd C 4 cEq a.1) fun b=>stmtI C k a.2 cSemi b
def fnI (C:Cx) (q:PS):PR:=bd (zl C false q) fun a=>bd (zaF C cCall cCall.size 0 a.1) fun b=>bd (zd C 1 ze2 b) fun c=>stmtI C 2 a.2 cSemiRight c
def printI (C:Cx) (q:PS):PR:=bd (zd C 4 zo q) fun a=>stmtI C 4 sNone cShutSemi a
theorem zhr (C:Cx) (V A z D:Nat) (S:Sv) (q:PS) (w:World) (h:IM C V A z D S q w):
  Calls Tryz.prog 176 #[.pointer (some ⟨D,0,none⟩)] w (zT C V A z D (letJ C 1 q) id (fun _=>.tuple #[]) S w):=by
 have X:=zc h
 have HY:=zc (letJ.eq_1 C 1 q)
 clear h
 go_enter Tryz.func176,Tryz.ntmps176
 go_wp2_with fail
 refine (zd0 C V A z D S q _ X.out).mono ?_
 cases K:zl C false q with
 |error p=>
  rintro e w1 ⟨rfl,I⟩
  have J:Hid (Below z w w1):=(X.out.back (IS.refl _ _ _)).trans I
  have N:Hid (letJ C 1 q= .error p):=bdE HY.out K
  unfold Pan
  go_wp2
  refine⟨rfl,?_⟩
  rw[N.out]
  exact⟨rfl,J.out⟩
 |ok Y=>
  rintro e w1 ⟨rfl,S1,m,s⟩
  have aa:=zc m
  have E:=zc s
  clear m s
  have M:=zc (bdO HY.out K)
  go_wp2_with fail
  refine (zcz C V A z D S1 (Y.1) 61 _ aa.out).mono ?_
  cases H:zd C 4 cEq (Y.1) with
  |error p=>
   rintro e w2 ⟨rfl,I⟩
   have J:Hid (Below z w w2):=(X.out.back E.out).trans I
   have N:Hid (letJ C 1 q= .error p):=bdE M.out H
   unfold Pan
   go_wp2
   refine⟨rfl,?_⟩
   rw[N.out]
   exact⟨rfl,J.out⟩
  |ok a2=>
   rintro e w2 ⟨rfl,S2,m,s⟩
   have ad:=zc m
   have U:Hid (IS D S w S2 w2):=E.out.trans s
   clear m s
   have O:=zc (bdO M.out H)
   go_wp2_with fail
   refine (zec C V A z D S2 a2 1 Y.2 cSemi _ ad.out (by decide) (by decide)).mono ?_
   cases L:stmtI C 1 Y.2 cSemi a2 with
   |error p=>
    rintro e w3 ⟨rfl,I⟩
    have J:Hid (Below z w w3):=(X.out.back U.out).trans I
    have N:Hid (letJ C 1 q= .error p):=O.out.trans L
    unfold Pan
    go_wp2
    refine⟨rfl,?_⟩
    rw[N.out]
    exact⟨rfl,J.out⟩
   |ok a3=>
    rintro e w3 ⟨rfl,S3,m,s⟩
    have ab:=zc m
    have ac:Hid (IS D S w S3 w3):=U.out.trans s
    clear m s
    have Z:=zc (O.out.trans L)
    go_wp2
    go_end0
    rw[Z.out]
    exact⟨rfl,S3,ab.out,ac.out⟩
theorem zjo (C:Cx) (V A z D:Nat) (S:Sv) (q:PS) (w:World) (h:IM C V A z D S q w):
  Calls Tryz.prog 157 #[.pointer (some ⟨D,0,none⟩)] w (zT C V A z D (letJ C 3 q) id (fun _=>.tuple #[]) S w):=by
 have X:=zc h
 have HY:=zc (letJ.eq_1 C 3 q)
 clear h
 go_enter Tryz.func157,Tryz.ntmps157
 go_wp2_with fail
 refine (zd0 C V A z D S q _ X.out).mono ?_
 cases K:zl C false q with
 |error p=>
  rintro e w1 ⟨rfl,I⟩
  have J:Hid (Below z w w1):=(X.out.back (IS.refl _ _ _)).trans I
  have N:Hid (letJ C 3 q= .error p):=bdE HY.out K
  unfold Pan
  go_wp2
  refine⟨rfl,?_⟩
  rw[N.out]
  exact⟨rfl,J.out⟩
 |ok Y=>
  rintro e w1 ⟨rfl,S1,m,s⟩
  have aa:=zc m
  have E:=zc s
  clear m s
  have M:=zc (bdO HY.out K)
  go_wp2_with fail
  refine (zcz C V A z D S1 (Y.1) 61 _ aa.out).mono ?_
  cases H:zd C 4 cEq (Y.1) with
  |error p=>
   rintro e w2 ⟨rfl,I⟩
   have J:Hid (Below z w w2):=(X.out.back E.out).trans I
   have N:Hid (letJ C 3 q= .error p):=bdE M.out H
   unfold Pan
   go_wp2
   refine⟨rfl,?_⟩
   rw[N.out]
   exact⟨rfl,J.out⟩
  |ok a2=>
   rintro e w2 ⟨rfl,S2,m,s⟩
   have ad:=zc m
   have U:Hid (IS D S w S2 w2):=E.out.trans s
   clear m s
   have O:=zc (bdO M.out H)
   go_wp2_with fail
   refine (zec C V A z D S2 a2 3 Y.2 cSemi _ ad.out (by decide) (by decide)).mono ?_
   cases L:stmtI C 3 Y.2 cSemi a2 with
   |error p=>
    rintro e w3 ⟨rfl,I⟩
    have J:Hid (Below z w w3):=(X.out.back U.out).trans I
    have N:Hid (letJ C 3 q= .error p):=O.out.trans L
    unfold Pan
    go_wp2
    refine⟨rfl,?_⟩
    rw[N.out]
    exact⟨rfl,J.out⟩
   |ok a3=>
    rintro e w3 ⟨rfl,S3,m,s⟩
    have ab:=zc m
    have ac:Hid (IS D S w S3 w3):=U.out.trans s
    clear m s
    have Z:=zc (O.out.trans L)
    go_wp2
    go_end0
    rw[Z.out]
    exact⟨rfl,S3,ab.out,ac.out⟩
theorem zhs (C:Cx) (J A z D:Nat) (S:Sv) (q:PS) (w:World) (h:IM C J A z D S q w):
  Calls Tryz.prog 177 #[.pointer (some ⟨D,0,none⟩)] w (zT C J A z D (fnI C q) id (fun _=>.tuple #[]) S w):=by
 have N:=zc h
 have HY:=zc (fnI.eq_1 C q)
 clear h
 go_enter Tryz.func177,Tryz.ntmps177
 go_wp2_with fail
 refine (zd0 C J A z D S q _ N.out).mono ?_
 cases O:zl C false q with
 |error p=>
  rintro e w1 ⟨rfl,E⟩
  have H:Hid (Below z w w1):=(N.out.back (IS.refl _ _ _)).trans E
  have I:Hid (fnI C q= .error p):=bdE HY.out O
  unfold Pan
  go_wp2
  refine⟨rfl,?_⟩
  rw[I.out]
  exact⟨rfl,H.out⟩
 |ok a1=>
  rintro e w1 ⟨rfl,S1,m,s⟩
  have ab:=zc m
  have K:=zc s
  clear m s
  have V:=zc (bdO HY.out O)
  go_wp2_with fail
  refine (zhl C J A z D S1 (a1.1) cCall _ ab.out (by decide)).mono ?_
  cases L:zaF C cCall cCall.size 0 (a1.1) with
  |error p=>
   rintro e w2 ⟨rfl,E⟩
   have H:Hid (Below z w w2):=(N.out.back K.out).trans E
   have I:Hid (fnI C q= .error p):=bdE V.out L
   unfold Pan
   go_wp2
   refine⟨rfl,?_⟩
   rw[I.out]
   exact⟨rfl,H.out⟩
  |ok a2=>
   rintro e w2 ⟨rfl,S2,m,s⟩
   have af:=zc m
   have Y:Hid (IS D S w S2 w2):=K.out.trans s
   clear m s
   have X:=zc (bdO V.out L)
   go_wp2_with fail
   refine (zeD C J A z D S2 a2 ze2 _ af.out).mono ?_
   cases U:zd C 1 ze2 a2 with
   |error p=>
    rintro e w3 ⟨rfl,E⟩
    have H:Hid (Below z w w3):=(N.out.back Y.out).trans E
    have I:Hid (fnI C q= .error p):=bdE X.out U
    unfold Pan
    go_wp2
    refine⟨rfl,?_⟩
    rw[I.out]
    exact⟨rfl,H.out⟩
   |ok a3=>
    rintro e w3 ⟨rfl,S3,m,s⟩
    have ae:=zc m
    have aa:Hid (IS D S w S3 w3):=Y.out.trans s
    clear m s
    have M:=zc (bdO X.out U)
    go_wp2_with fail
    refine (zec C J A z D S3 a3 2 a1.2 cSemiRight _ ae.out (by decide) (by decide)).mono ?_
    cases Z:stmtI C 2 a1.2 cSemiRight a3 with
    |error p=>
     rintro e w4 ⟨rfl,E⟩
     have H:Hid (Below z w w4):=(N.out.back aa.out).trans E
     have I:Hid (fnI C q= .error p):=M.out.trans Z
     unfold Pan
     go_wp2
     refine⟨rfl,?_⟩
     rw[I.out]
     exact⟨rfl,H.out⟩
    |ok a4=>
     rintro e w4 ⟨rfl,S4,m,s⟩
     have ag:=zc m
     have ac:Hid (IS D S w S4 w4):=aa.out.trans s
     clear m s
     have ad:=zc (M.out.trans Z)
     go_wp2
     go_end0
     rw[ad.out]
     exact⟨rfl,S4,ag.out,ac.out⟩
theorem zjp (C:Cx) (K A z D:Nat) (S:Sv) (q:PS) (w:World) (h:IM C K A z D S q w):
  Calls Tryz.prog 178 #[.pointer (some ⟨D,0,none⟩)] w (zT C K A z D (printI C q) id (fun _=>.tuple #[]) S w):=by
 have O:=zc h
 have HY:=zc (printI.eq_1 C q)
 clear h
 go_enter Tryz.func178,Tryz.ntmps178
 go_wp2_with fail
 refine (zcz C K A z D S q 40 _ O.out).mono ?_
 cases I:zd C 4 zo q with
 |error p=>
  rintro e w1 ⟨rfl,L⟩
  have M:Hid (Below z w w1):=(O.out.back (IS.refl _ _ _)).trans L
  have U:Hid (printI C q= .error p):=bdE HY.out I
  unfold Pan
  go_wp2
  refine⟨rfl,?_⟩
  rw[U.out]
  exact⟨rfl,M.out⟩
 |ok a1=>
  rintro e w1 ⟨rfl,S1,m,s⟩
  have N:=zc m
  have E:=zc s
  clear m s
  have J:=zc (bdO HY.out I)
  go_wp2_with fail
  refine (zec C K A z D S1 a1 4 sNone cShutSemi _ N.out (by decide) (by decide)).mono ?_
  cases H:stmtI C 4 sNone cShutSemi a1 with
  |error p=>
   rintro e Y ⟨rfl,L⟩
   have M:Hid (Below z w Y):=(O.out.back E.out).trans L
   have U:Hid (printI C q= .error p):=J.out.trans H
   unfold Pan
   go_wp2
   refine⟨rfl,?_⟩
   rw[U.out]
   exact⟨rfl,M.out⟩
  |ok a2=>
   rintro e Y ⟨rfl,S2,m,s⟩
   have Z:=zc m
   have X:Hid (IS D S w S2 Y):=E.out.trans s
   clear m s
   have V:=zc (J.out.trans H)
   go_wp2
   go_end0
   rw[V.out]
   exact⟨rfl,S2,Z.out,X.out⟩
theorem zjq (C:Cx) (E A z D:Nat) (S:Sv) (q:PS) (w:World) (h:IM C E A z D S q w):
  Calls Tryz.prog 179 #[.pointer (some ⟨D,0,none⟩)] w (zT C E A z D (stmtI C 5 sNone cSemi q) id (fun _=>.tuple #[]) S w):=by
 have N:=zc h
 clear h
 go_enter Tryz.func179,Tryz.ntmps179
 go_wp2_with fail
 refine (zec C E A z D S q 5 sNone cSemi _ N.out (by decide) (by decide)).mono ?_
 cases H:stmtI C 5 sNone cSemi q with
 |error p=>
  rintro e I ⟨rfl,J⟩
  unfold Pan
  go_wp2
  refine⟨rfl,?_⟩
  rw[H]
  exact⟨rfl,J⟩
 |ok a=>
  rintro e I ⟨rfl,L,m,s⟩
  have M:=zc m
  have K:=zc s
  clear m s
  go_wp2
  go_end0
  rw[H]
  exact⟨rfl,L,M.out,K.out⟩
theorem znV (C:Cx) (E A z D:Nat) (S:Sv) (q:PS) (w:World) (h:IM C E A z D S q w):
  Calls Tryz.prog 180 #[.pointer (some ⟨D,0,none⟩)] w (zT C E A z D (stmtI C 6 sNone cSemi q) id (fun _=>.tuple #[]) S w):=by
 have N:=zc h
 clear h
 go_enter Tryz.func180,Tryz.ntmps180
 go_wp2_with fail
 refine (zec C E A z D S q 6 sNone cSemi _ N.out (by decide) (by decide)).mono ?_
 cases H:stmtI C 6 sNone cSemi q with
 |error p=>
  rintro e I ⟨rfl,J⟩
  unfold Pan
  go_wp2
  refine⟨rfl,?_⟩
  rw[H]
  exact⟨rfl,J⟩
 |ok a=>
  rintro e I ⟨rfl,L,m,s⟩
  have M:=zc m
  have K:=zc s
  clear m s
  go_wp2
  go_end0
  rw[H]
  exact⟨rfl,L,M.out,K.out⟩
def zcC (C:Cx) (i:Nat):ByteArray:=if (ze C i).kind==1 then (ze C i).text else sNone
theorem zjr (C:Cx) (I A z E:Nat) (S:Sv) (q:PS) (w:World) (h:IM C I A z E S q w):
  Calls Tryz.prog 156 #[.pointer (some ⟨E,0,none⟩)] w fun e M=>e= .returned (.string (zcC C q.pos))∧Below w.heap.size w M:=by
 have K:=zc h
 clear h
 cases J:((ze C q.pos).kind==1) with
 |true=>
  have H:Hid (zcC C q.pos=(ze C q.pos).text):=by show _=_;rw[zcC,J];rfl
  go_enter Tryz.func156,Tryz.ntmps156
  go_wp2_with fail
  refine (zb3 C I A z E S q _ K.out).mono ?_
  rintro e L ⟨rfl,D⟩
  unfold tkV
  go_wp2
  go_ret
  rw[H.out]
  exact⟨rfl,D.alloc D.size _⟩
 |false=>
  have H:Hid (zcC C q.pos=sNone):=by show _=_;rw[zcC,J];rfl
  go_enter Tryz.func156,Tryz.ntmps156
  go_wp2_with fail
  refine (zb3 C I A z E S q _ K.out).mono ?_
  rintro e L ⟨rfl,D⟩
  unfold tkV
  go_wp2
  go_ret
  rw[H.out]
  exact⟨rfl,D.alloc D.size _⟩
theorem OwnR.stmtName {w:World} {q:Nat} {r:Rw} {l:List Sm} {x:Sm} (h:OwnR w q 87 3 r (l++[x]).length ((l++[x]).flatMap smL)): ∃g,r.a=some ⟨g,0,none⟩∧w.cell? ⟨g,l.length*3+1,none⟩=some (.string x.name):=by
 rcases h.2 with ⟨_,I⟩|⟨g,J,H,z,_⟩
 ·simp at I
 ·simp only[Value.slice.injEq] at z
  have A:=h
  unfold OwnR at A
  rw[z.1,z.2.2] at A
  refine⟨g,z.1,?_⟩
  rw[World.ownsRow.cellAt A _ (by simp;omega)]
  have D: ∀l:List Sm,(l.flatMap smL).length=l.length*3:=by
   intro l
   induction l with
   |nil=>rfl
   |cons y l E=>simp[List.flatMap_cons,smL,E] at E ⊢;omega
  rw[List.flatMap_append,List.getElem?_append_right (by rw[D];omega),D]
  simp[smL]
theorem znW (C:Cx) (L A z H:Nat) (S:Sv) (q:PS) (l:List Sm) (x:Sm) (w:World) (h:IM C L A z H S q w) (O:q.st=l++[x]) (N:x.name.size≤281474976710656) (hp:0<q.pos):
  Calls Tryz.prog 202 #[.pointer (some ⟨H,0,none⟩)] w (zT C L A z H (zp C ⟨1,x.name,x.name,sNone⟩ q) id (fun _=>.tuple #[]) S w):=by
 have HH:=zc h
 obtain⟨_,_,_,_,_,_,_,J,_,_,_⟩:=zah h.cells
 have U:=h.mem.own.st
 rw[O] at U J
 obtain⟨g,hg,hc⟩:=U.stmtName
 have I:=h.mem.inv.st
 rw[O] at I
 have K:(l++[x]).length=l.length+1:=by simp
 rw[K] at J I
 rw[hg] at J
 have C7:=zc J
 have Z:=zc hc
 have e1:((l.length+1:Nat):Int)-1=(l.length:Int):=by omega
 have e2:(l.length:Int)+1-1=(l.length:Int):=by omega
 have ac:IntKind.i64.wrap (l.length:Int)=(l.length:Int):=IntWalk.i64_in _ ⟨by omega,by omega⟩
 have ab:(l.length:Int)<((l.length+1:Nat):Int):=by omega
 have aa:(l.length:Int)<(l.length:Int)+1:=by omega
 have cC: ∀d os,Calls Tryz.prog 152 #[.string x.name] (grow (redrawn w d) os) fun e X=>e= .returned (.string x.name)∧∃p:Regrown,X=grow (redrawn w p.d) p.os:=fun d os=>Calls.regrown_of (zjh _ _ N)
 clear h J hc U hg O
 go_enter Tryz.func202,Tryz.ntmps202
 go_wp2_with fail
 have k7:=cell_regrown C7.out
 have kN:=cell_regrown Z.out
 refine wp_region_quiet_below (by kernel_rfl) (by kernel_rfl) ?_
 repeat (go_big_quiet_step (exact cC _ _))
 refine wpQuiet_nil ?_
 intro w1 V
 obtain⟨⟨dq,ad⟩,D⟩:=V
 have E:Hid (Below w.heap.size w w1):=by show Below _ _ _;rw[D];exact below_regrown _ _ _
 clear D k7 kN cC C7 Z
 have M:Hid (IM C L A z H S q w1):=HH.out.later E.out
 go_wp2_with fail
 refine (zfs C L A z H S q ⟨1,x.name,x.name,sNone⟩ _ M.out hp).mono ?_
 cases hn:zp C ⟨1,x.name,x.name,sNone⟩ q with
 |error p=>
  rintro e Y ⟨rfl,hb⟩
  have HB:Hid (Below z w Y):=(E.out.mono HH.out.mem.base).trans hb
  unfold Pan
  go_wp2
  refine⟨rfl,?_⟩
  rw[hn]
  exact⟨rfl,HB.out⟩
 |ok a=>
  rintro e Y ⟨rfl,S1,m,s⟩
  have HM:=zc m
  have HS:Hid (IS H S w S1 Y):=(IS.below E.out).trans s
  clear m s
  go_wp2
  go_end0
  rw[hn]
  exact⟨rfl,S1,HM.out,HS.out⟩
def Fr (e:TypeId) (size:Nat) (w:World) (b:Nat) (r:Rw) (n:Nat) (xs:List Value) (S:Sv):Prop:=OwnR w b e size r n xs∧∀k,r.blk=some k→¬S.has k
theorem Fr.ngp {C:Cx} {I A z D size b n:Nat} {S:Sv} {q:PS} {w:World} {e:TypeId} {r:Rw} {xs:List Value} (f:Fr e size w b r n xs S) (h:IM C I A z D S q w) (H:e≠164) {k:Nat} (E:r.blk=some k):k≠D:=by
 rintro rfl
 obtain⟨_,_,c,g⟩:=f.1.typed E
 rw[h.cells] at g
 simp only[Option.some.injEq,Obj.cells.injEq] at g
 exact H g.2.1.symm
theorem Fr.ngt {C:Cx} {D A z H size b n:Nat} {S:Sv} {q:PS} {w:World} {e:TypeId} {r:Rw} {xs:List Value} (f:Fr e size w b r n xs S) (h:IM C D A z H S q w) (J:e≠136) {k:Nat} (I:r.blk=some k):k≠D:=by
 rintro rfl
 obtain⟨_,_,c,g⟩:=f.1.typed I
 obtain⟨K,E⟩:=zfT h.mem.tok
 rw[E] at g
 simp only[Option.some.injEq,Obj.cells.injEq] at g
 exact J g.2.1.symm
theorem Fr.step {C:Cx} {L A z I size b n:Nat} {S H:Sv} {q:PS} {w D:World} {e:TypeId} {r:Rw} {xs:List Value} (f:Fr e size w b r n xs S) (h:IM C L A z I S q w) (J:e≠164) (s:IS I S w H D):Fr e size D b r n xs H:=by
 refine⟨f.1.keep fun k g=>s.block k (f.1.typed g).2.1 (f.2 k g) (f.ngp h J g),fun k g K=>?_⟩
 rcases s.sub k K with E|E
 ·exact f.2 k g E
 ·have:=(f.1.typed g).2.1
  omega
theorem Fr.low {size b h n:Nat} {S:Sv} {w:World} {e:TypeId} {r:Rw} {xs:List Value} (f:Fr e size w b r n xs S) (q:h≤b):Fr e size w h r n xs S:=⟨f.1.low q,f.2⟩
theorem Fr.later {size b n:Nat} {S:Sv} {w h:World} {e:TypeId} {r:Rw} {xs:List Value} (f:Fr e size w b r n xs S) (q:Below w.heap.size w h):Fr e size h b r n xs S:=⟨f.1.keep fun k g=>q.block k (f.1.typed g).2.1,f.2⟩
theorem IM.aside {C:Cx} {D A w z:Nat} {S:Sv} {q:PS} {W I:World} {b:Option Nat} (h:IM C D A w z S q W) (E:W.grownBy I b) (H: ∀k,b=some k→¬S.has k∧k≠z∧k≠D):IM C D A w z S q I:=by
 refine⟨⟨h.mem.own.keep fun k g=>E.block k (h.mem.own.has g).2 fun e=>(H k e.symm).1 g,h.mem.inv,zbE h.mem.tok (E.block D (zau h.mem.tok).1 fun e=>(H D e.symm).2.2 rfl),h.mem.few,Nat.le_trans h.mem.base E.size⟩,(E.block z h.lt fun e=>(H z e.symm).2.1 rfl).trans h.cells,h.ge⟩
theorem IS.aside {A:Nat} {S D:Sv} {w W z:World} {b:Option Nat} (s:IS A S w D W) (h:W.grownBy z b) (H: ∀k,b=some k→w.heap.size≤k):IS A S w D z:=
 ⟨h.os.trans s.os,h.tape.trans s.tape,h.output.trans s.output,Nat.le_trans s.size h.size,fun k E I q=>(h.block k (Nat.lt_of_lt_of_le E s.size) fun e=>by have:=H k e.symm;omega).trans (s.block k E I q),s.sub⟩
theorem Fr.grown {size b n:Nat} {S:Sv} {W I:World} {e:TypeId} {r z:Rw} {xs H:List Value} {C:Cx} {L E w K:Nat} {q:PS} (f:Fr e size W b r n xs S) (h:IM C L E w K S q W) (M:OwnR I b e size z (n+1) H) (D:z.blk=r.blk∨z.blk=some W.heap.size):Fr e size I b z (n+1) H S:=by
 refine⟨M,fun k g J=>?_⟩
 rcases D with A|A
 ·exact f.2 k (A.symm.trans g) J
 ·have N:W.heap.size=k:=Option.some.inj (A.symm.trans g)
  have:=(h.mem.own.has J).2
  omega
theorem znX {α:Type} (f:α→List Value) (m:Nat) (q: ∀x,(f x).length=m) (l:List α):(l.flatMap f).length=l.length*m:=by
 induction l with
 |nil=>simp
 |cons y l h=>rw[List.flatMap_cons,List.length_append,q,h,List.length_cons,Nat.succ_mul];omega
theorem znY {α:Type} (f:α→List Value) (m:Nat) (q: ∀x,(f x).length=m): ∀(l:List α) (j i:Nat) (x:α),l[j]? =some x→i<m→(l.flatMap f)[j*m+i]? =(f x)[i]?:=by
 intro l
 induction l with
 |nil=>intro j i x h;simp at h
 |cons y l z=>
  intro j i x h w
  rw[List.flatMap_cons]
  match j with
  |0=>
   simp only[List.getElem?_cons_zero,Option.some.injEq] at h
   subst h
   rw[Nat.zero_mul,Nat.zero_add,List.getElem?_append_left (by rw[q];exact w)]
  |j+1=>
   simp only[List.getElem?_cons_succ] at h
   rw[List.getElem?_append_right (by rw[q,Nat.succ_mul];omega),q,←z j i x h w]
   congr 1
   rw[Nat.succ_mul]
   omega
theorem OwnR.elem {α:Type} {f:α→List Value} {m:Nat} (L: ∀x,(f x).length=m) {w:World} {q:Nat} {e:TypeId} {r:Rw} {l:List α} (h:OwnR w q e m r l.length (l.flatMap f)) {j:Nat} {x:α} (E:l[j]? =some x): ∃g,r.a=some ⟨g,0,none⟩∧∀i,i<m→w.cell? ⟨g,j*m+i,none⟩=(f x)[i]?:=by
 have A:j<l.length:=(List.getElem?_eq_some_iff.1 E).1
 rcases h.2 with ⟨_,M⟩|⟨g,K,I,z,_⟩
 ·omega
 ·simp only[Value.slice.injEq] at z
  have D:=h
  unfold OwnR at D
  rw[z.1,z.2.2] at D
  refine⟨g,z.1,fun i J=>?_⟩
  have H:j*m+i<l.length*m:=by
   have:=Nat.mul_le_mul_right m A
   rw[Nat.succ_mul] at this
   omega
  rw[World.ownsRow.cellAt D _ H]
  exact znY f m L l j i x E J
structure OwnMd (w:World) (base:Nat) (S:Sv) (m:Md):Prop where
 rq:OwnR w base 9 1 S.rq m.rq.length (m.rq.map .string)
 im:OwnR w base 80 3 S.im m.im.length (m.im.flatMap imL)
 ep:OwnR w base 82 4 S.ep m.ep.length (m.ep.flatMap epL)
 st:OwnR w base 87 3 S.st m.st.length (m.st.flatMap smL)
 ex:OwnR w base 85 6 S.ex m.ex.length (m.ex.flatMap exL)
theorem OwnMod.md {w:World} {z:Nat} {S:Sv} {q:PS} (h:OwnMod w z S q):OwnMd w z S (ze6 q):=⟨h.rq,h.im,h.ep,h.st,h.ex⟩
theorem OwnMd.later {w A:World} {q:Nat} {S:Sv} {m:Md} (h:OwnMd w q S m) (z:Below w.heap.size w A):OwnMd A q S m:=
 ⟨h.rq.keep fun k g=>z.block k (h.rq.typed g).2.1,h.im.keep fun k g=>z.block k (h.im.typed g).2.1,h.ep.keep fun k g=>z.block k (h.ep.typed g).2.1,h.st.keep fun k g=>z.block k (h.st.typed g).2.1,h.ex.keep fun k g=>z.block k (h.ex.typed g).2.1⟩
theorem OwnMd.alloc {w:World} {q:Nat} {S:Sv} {m:Md} (h:OwnMd w q S m) (o:Obj):OwnMd (w.alloc o) q S m:=h.later ((Below.refl _ _).alloc (Nat.le_refl _) _)
def zn (S:Sv) (m:Md):Value:=.agg #[.slice S.rq.a m.rq.length S.rq.cap,.slice S.im.a m.im.length S.im.cap,.slice S.ep.a m.ep.length S.ep.cap,.slice S.st.a m.st.length S.st.cap,.slice S.ex.a m.ex.length S.ex.cap]
theorem OwnMd.expr {w:World} {z:Nat} {S:Sv} {m:Md} (h:OwnMd w z S m) {i:Nat} (D:i<m.ex.length): ∃g,S.ex.a=some ⟨g,0,none⟩∧g<w.heap.size∧w.cell? ⟨g,i*6,none⟩=some (.int .i64 (m.ex.getD i zi).kind)∧w.cell? ⟨g,i*6+1,none⟩=some (.int .i64 (m.ex.getD i zi).num)∧w.cell? ⟨g,i*6+2,none⟩=some (.string (m.ex.getD i zi).name)∧w.cell? ⟨g,i*6+3,none⟩=some (.string (m.ex.getD i zi).field)∧w.cell? ⟨g,i*6+4,none⟩=some (.int .i64 (m.ex.getD i zi).l)∧w.cell? ⟨g,i*6+5,none⟩=some (.int .i64 (m.ex.getD i zi).r):=by
 obtain⟨g,A,q⟩:=OwnR.elem (f:=exL) (m:=6) (fun _=>rfl) h.ex (List.getElem?_eq_getElem D)
 rw[zdT D]
 exact⟨g,A,(h.ex.typed (by rw[Rw.blk,A];rfl)).2.1,q 0 (by omega),q 1 (by omega),q 2 (by omega),q 3 (by omega),q 4 (by omega),q 5 (by omega)⟩
def SameOut (P:Prop) (e:Ending):Prop:=∃b,e= .returned (.bool b)∧(b=true↔P)
theorem zbo {α:Type} {l:List α} {j:Nat} (h:j<l.length): ∃x,l[j]? =some x:=⟨_,List.getElem?_eq_getElem h⟩
theorem zdf {α:Type} {l1 q:List α} {j:Nat} {x:α} (h:l1.take j=q.take j) (w:l1[j]? =some x) (z:q[j]? =some x):l1.take (j+1)=q.take (j+1):=by
 obtain⟨a,rfl⟩:=List.getElem?_eq_some_iff.1 w
 obtain⟨b,A⟩:=List.getElem?_eq_some_iff.1 z
 rw[List.take_succ_eq_append_getElem a,List.take_succ_eq_append_getElem b,h,A]
theorem zdg {α:Type} {l1 q:List α} (w:l1.length=q.length) (h:l1.take l1.length=q.take l1.length):l1=q:=by
 rw[List.take_length,w,List.take_length] at h
 exact h
theorem zfv {a b:ByteArray} (h:(a.toList==b.toList)=true):a=b:=(zdN a b).1 h
def zht (x y:ByteArray):Bool:=x.toList==y.toList
theorem zgj {x y:ByteArray}:zht x y=true↔x=y:=⟨fun h=>zfv h,fun h=>by rw[h];exact beq_self_eq_true _⟩
theorem znZ (I H:Option Addr) (z q E A:Nat) (w:World) (h:(z:Int)≠(q:Int)):Calls Tryz.prog 114 #[.slice I z E,.slice H q A] w fun e D=>e= .returned (.bool false)∧Below w.heap.size w D:=by
 go_enter Tryz.func114,Tryz.ntmps114
 go_wp2
 go_ret
 exact⟨rfl,Below.refl _ _⟩
theorem zoa (D A:Option Addr) (z h:Nat) (w:World):Calls Tryz.prog 114 #[.slice D 0 z,.slice A 0 h] w fun e q=>e= .returned (.bool true)∧Below w.heap.size w q:=by
 go_enter Tryz.func114,Tryz.ntmps114
 go_wp2
 go_loopg [13] 1 (fun k i wr=>k=1∧i= .int .i64 0∧wr=w)
 case atStart=>exact⟨rfl,rfl,rfl⟩
 case round=>
  obtain⟨rfl,rfl,rfl⟩:=hrel
  go_wp2
  go_ret
  exact⟨rfl,Below.refl _ _⟩
theorem zob (b1 b2 g1 N:Nat) (Z X:Rw) (l1 z:List ByteArray) (w:World) (K:OwnR w b1 9 1 Z l1.length (l1.flatMap (fun x=>[Value.string x]))) (E:OwnR w b2 9 1 X z.length (z.flatMap (fun x=>[Value.string x]))) (e1:Z.a=some ⟨g1,0,none⟩) (e2:X.a=some ⟨N,0,none⟩) (hl:l1.length=z.length) (O:l1.length≤4294967296):
  Calls Tryz.prog 114 #[.slice (some ⟨g1,0,none⟩) l1.length Z.cap,.slice (some ⟨N,0,none⟩) l1.length X.cap] w fun e w'=>SameOut (l1=z) e∧Below w.heap.size w w':=by
 have H1:=zc K
 have H2:=zc E
 have E1:=zc e1
 have E2:=zc e2
 have HL:=zc hl
 clear K E e1 e2 hl
 go_enter Tryz.func114,Tryz.ntmps114
 go_wp2
 go_loopg [13] l1.length (fun k i wr=>∃j:Nat,i= .int .i64 j∧j+k=l1.length∧l1.take j=z.take j∧Below w.heap.size w wr)
 case atStart=>exact⟨0,rfl,by omega,rfl,Below.refl _ _⟩
 case round=>
  obtain⟨j,rfl,hj,ht,O⟩:=hrel
  have A:=zc O
  have HT:=zc ht
  clear O ht
  by_cases D:j<l1.length
  ·have H:(j:Int)<(l1.length:Int):=by omega
   obtain⟨x,U⟩:=zbo D
   obtain⟨y,Y⟩:=zbo (show j<z.length by rw[←HL.out];exact D)
   obtain⟨M,ga,K⟩:=OwnR.elem (f:=(fun x=>[Value.string x])) (m:=1) (fun _=>rfl) (H1.out.keep fun k g=>A.out.block k (H1.out.typed g).2.1) U
   obtain rfl:M=g1:=by have:=ga.symm.trans E1.out;simpa using this
   obtain⟨M,gb,E⟩:=OwnR.elem (f:=(fun x=>[Value.string x])) (m:=1) (fun _=>rfl) (H2.out.keep fun k g=>A.out.block k (H2.out.typed g).2.1) Y
   obtain rfl:M=N:=by have:=gb.symm.trans E2.out;simpa using this
   have C0:=zc (K 0 (by omega))
   have D0:=zc (E 0 (by omega))
   have HX:=zc U
   have HY:=zc Y
   clear K E ga gb U Y
   obtain⟨L,I⟩: ∃L,L=j+1:=⟨_,rfl⟩
   have ej:(j:Int)+1=(L:Int):=by omega
   have HJ:=zc I
   clear I
   obtain⟨b,h⟩: ∃b,zht x y=b:=⟨_,rfl⟩
   have ab:(x.toList==y.toList)=b:=h
   go_wp2
   have k0:=cell_regrown C0.out
   have m0:=cell_regrown D0.out
   simp only[Nat.add_zero,Nat.mul_one] at k0 m0
   refine wp_region_quiet_below (by kernel_rfl) (by kernel_rfl) ?_
   repeat (go_big_quiet_step (fail))
   refine wpQuiet_nil ?_
   intro w2 V
   obtain⟨⟨dq,aa⟩,q⟩:=V
   have J:Hid (Below w.heap.size w w2):=by show Below _ _ _;rw[q];exact A.out.trans ((below_regrown wr dq aa).mono A.out.size)
   clear q k0 m0 C0 D0
   cases b with
   |true=>
    go_wp2
    go_roundg (gk-1)
    case rel=>exact⟨L,rfl,by have:=HJ.out;omega,by rw[HJ.out];have e:=zgj.1 h;exact zdf HT.out HX.out (by rw[e];exact HY.out),J.out⟩
    case measure=>omega
   |false=>
    go_wp2
    go_ret
    exact⟨⟨false,rfl,⟨fun k=>(by cases k),fun k=>(by have e:=HX.out;rw[k,HY.out] at e;cases e;rw[zgj.2 rfl] at h;cases h)⟩⟩,J.out⟩
  ·have H: ¬(j:Int)<(l1.length:Int):=by omega
   obtain rfl:j=l1.length:=by omega
   go_wp2
   go_ret
   exact⟨⟨true,rfl,⟨fun _=>zdg HL.out HT.out,fun _=>rfl⟩⟩,A.out⟩
theorem zoc (L b2:Nat) (D A:Rw) (l1 h:List ByteArray) (w:World) (I:OwnR w L 9 1 D l1.length (l1.flatMap (fun x=>[Value.string x]))) (J:OwnR w b2 9 1 A h.length (h.flatMap (fun x=>[Value.string x]))) (O:l1.length≤4294967296):
  Calls Tryz.prog 114 #[.slice D.a l1.length D.cap,.slice A.a h.length A.cap] w fun e E=>SameOut (l1=h) e∧Below w.heap.size w E:=by
 by_cases q:l1.length=h.length
 ·rw[←q]
  by_cases z:l1.length=0
  ·rw[z]
   refine (zoa _ _ _ _ w).mono ?_
   rintro e E ⟨rfl,H⟩
   exact⟨⟨true,rfl,⟨fun _=>(by rw[List.eq_nil_of_length_eq_zero z,List.eq_nil_of_length_eq_zero (q.symm.trans z)]),fun _=>rfl⟩⟩,H⟩
  ·rcases I.nil_or with ⟨_,_,e⟩|⟨U,M⟩
   ·exact absurd e z
   ·rcases J.nil_or with ⟨_,_,e⟩|⟨N,K⟩
    ·exact absurd (q.trans e) z
    ·rw[M,K]
     exact zob L b2 U N D A l1 h w I J M K q O
 ·refine (znZ _ _ _ _ _ _ w (by omega)).mono ?_
  rintro e E ⟨rfl,H⟩
  exact⟨⟨false,rfl,⟨fun k=>(by cases k),fun k=>absurd (by rw[k]) q⟩⟩,H⟩
def zdh (x y:Im):Bool:=x.spec.toList==y.spec.toList&&x.first.toList==y.first.toList&&x.loc.toList==y.loc.toList
theorem zgk {x y:Im}:zdh x y=true↔x=y:=by
 constructor
 ·intro h
  unfold zdh at h
  simp only[Bool.and_eq_true] at h
  obtain⟨⟨z,q⟩,w⟩:=h
  cases x
  cases y
  simp only at z q w
  congr 1<;>first|(apply zfv;assumption)|(apply eq_of_beq;assumption)
 ·intro h
  rw[h]
  simp[zdh]
theorem zod (I H:Option Addr) (z q E A:Nat) (w:World) (h:(z:Int)≠(q:Int)):Calls Tryz.prog 115 #[.slice I z E,.slice H q A] w fun e D=>e= .returned (.bool false)∧Below w.heap.size w D:=by
 go_enter Tryz.func115,Tryz.ntmps115
 go_wp2
 go_ret
 exact⟨rfl,Below.refl _ _⟩
theorem zoe (D A:Option Addr) (z h:Nat) (w:World):Calls Tryz.prog 115 #[.slice D 0 z,.slice A 0 h] w fun e q=>e= .returned (.bool true)∧Below w.heap.size w q:=by
 go_enter Tryz.func115,Tryz.ntmps115
 go_wp2
 go_loopg [13] 1 (fun k i wr=>k=1∧i= .int .i64 0∧wr=w)
 case atStart=>exact⟨rfl,rfl,rfl⟩
 case round=>
  obtain⟨rfl,rfl,rfl⟩:=hrel
  go_wp2
  go_ret
  exact⟨rfl,Below.refl _ _⟩
theorem zof (aa: ∀(x y:Im) (W:World),Sem.run Tryz.prog (binOp .neq 80 (.agg #[.string x.spec,.string x.first,.string x.loc]) (.agg #[.string y.spec,.string y.first,.string y.loc])) W= .ok (.bool (!zdh x y)) W) (Z: ∀(L:BinOp) (a b:Operand) (x y:Im) (W:World),Sem.run Tryz.prog (eqGuard L 80 a b (.agg #[.string x.spec,.string x.first,.string x.loc]) (.agg #[.string y.spec,.string y.first,.string y.loc])) W= .ok () W) (b1 b2 g1 O:Nat) (r1 Y:Rw) (l1 D:List Im) (w:World) (A:OwnR w b1 80 3 r1 l1.length (l1.flatMap imL)) (z:OwnR w b2 80 3 Y D.length (D.flatMap imL)) (e1:r1.a=some ⟨g1,0,none⟩) (e2:Y.a=some ⟨O,0,none⟩) (hl:l1.length=D.length) (U:l1.length≤4294967296):
  Calls Tryz.prog 115 #[.slice (some ⟨g1,0,none⟩) l1.length r1.cap,.slice (some ⟨O,0,none⟩) l1.length Y.cap] w fun e w'=>SameOut (l1=D) e∧Below w.heap.size w w':=by
 have H1:=zc A
 have H2:=zc z
 have E1:=zc e1
 have E2:=zc e2
 have HL:=zc hl
 clear A z e1 e2 hl
 go_enter Tryz.func115,Tryz.ntmps115
 go_wp2
 go_loopg [13] l1.length (fun k i wr=>∃j:Nat,i= .int .i64 j∧j+k=l1.length∧l1.take j=D.take j∧Below w.heap.size w wr)
 case atStart=>exact⟨0,rfl,by omega,rfl,Below.refl _ _⟩
 case round=>
  obtain⟨j,rfl,hj,ht,U⟩:=hrel
  have E:=zc U
  have HT:=zc ht
  clear U ht
  by_cases H:j<l1.length
  ·have I:(j:Int)<(l1.length:Int):=by omega
   obtain⟨x,V⟩:=zbo H
   obtain⟨y,hy⟩:=zbo (show j<D.length by rw[←HL.out];exact H)
   obtain⟨N,ga,A⟩:=OwnR.elem (f:=imL) (m:=3) (fun _=>rfl) (H1.out.keep fun k g=>E.out.block k (H1.out.typed g).2.1) V
   obtain rfl:N=g1:=by have:=ga.symm.trans E1.out;simpa using this
   obtain⟨N,gb,z⟩:=OwnR.elem (f:=imL) (m:=3) (fun _=>rfl) (H2.out.keep fun k g=>E.out.block k (H2.out.typed g).2.1) hy
   obtain rfl:N=O:=by have:=gb.symm.trans E2.out;simpa using this
   have C0:=zc (A 0 (by omega))
   have D0:=zc (z 0 (by omega))
   have C1:=zc (A 1 (by omega))
   have D1:=zc (z 1 (by omega))
   have C2:=zc (A 2 (by omega))
   have D2:=zc (z 2 (by omega))
   have HX:=zc V
   have HY:=zc hy
   clear A z ga gb V hy
   obtain⟨M,J⟩: ∃M,M=j+1:=⟨_,rfl⟩
   have ej:(j:Int)+1=(M:Int):=by omega
   have HJ:=zc J
   clear J
   obtain⟨b,h⟩: ∃b,zdh x y=b:=⟨_,rfl⟩
   have ac: ∀W:World,Sem.run Tryz.prog (binOp .neq 80 (.agg #[.string x.spec,.string x.first,.string x.loc]) (.agg #[.string y.spec,.string y.first,.string y.loc])) W= .ok (.bool !b) W:=fun W=>by rw[aa,h]
   have ad: ∀(L:BinOp) (a b:Operand) (W:World),Sem.run Tryz.prog (eqGuard L 80 a b (.agg #[.string x.spec,.string x.first,.string x.loc]) (.agg #[.string y.spec,.string y.first,.string y.loc])) W= .ok () W:=fun L a b W=>Z L a b x y W
   go_wp2
   have k0:=cell_regrown C0.out
   have m0:=cell_regrown D0.out
   have k1:=cell_regrown C1.out
   have m1:=cell_regrown D1.out
   have k2:=cell_regrown C2.out
   have m2:=cell_regrown D2.out
   simp only[Nat.add_zero] at k0 m0
   refine wp_region_quiet_below (by kernel_rfl) (by kernel_rfl) ?_
   repeat (go_big_quiet_step (fail))
   refine wpQuiet_nil ?_
   intro w2 X
   obtain⟨⟨dq,ab⟩,q⟩:=X
   have K:Hid (Below w.heap.size w w2):=by show Below _ _ _;rw[q];exact E.out.trans ((below_regrown wr dq ab).mono E.out.size)
   clear q k0 m0 C0 D0 k1 m1 C1 D1 k2 m2 C2 D2
   cases b with
   |true=>
    go_wp2
    go_roundg (gk-1)
    case rel=>exact⟨M,rfl,by have:=HJ.out;omega,by rw[HJ.out];have e:=zgk.1 h;exact zdf HT.out HX.out (by rw[e];exact HY.out),K.out⟩
    case measure=>omega
   |false=>
    go_wp2
    go_ret
    exact⟨⟨false,rfl,⟨fun k=>(by cases k),fun k=>(by have e:=HX.out;rw[k,HY.out] at e;cases e;rw[zgk.2 rfl] at h;cases h)⟩⟩,K.out⟩
  ·have I: ¬(j:Int)<(l1.length:Int):=by omega
   obtain rfl:j=l1.length:=by omega
   go_wp2
   go_ret
   exact⟨⟨true,rfl,⟨fun _=>zdg HL.out HT.out,fun _=>rfl⟩⟩,E.out⟩
theorem zog (H: ∀(x y:Im) (W:World),Sem.run Tryz.prog (binOp .neq 80 (.agg #[.string x.spec,.string x.first,.string x.loc]) (.agg #[.string y.spec,.string y.first,.string y.loc])) W= .ok (.bool (!zdh x y)) W) (I: ∀(U:BinOp) (a b:Operand) (x y:Im) (W:World),Sem.run Tryz.prog (eqGuard U 80 a b (.agg #[.string x.spec,.string x.first,.string x.loc]) (.agg #[.string y.spec,.string y.first,.string y.loc])) W= .ok () W) (N b2:Nat) (D A:Rw) (l1 h:List Im) (w:World) (K:OwnR w N 80 3 D l1.length (l1.flatMap imL)) (L:OwnR w b2 80 3 A h.length (h.flatMap imL)) (X:l1.length≤4294967296):
  Calls Tryz.prog 115 #[.slice D.a l1.length D.cap,.slice A.a h.length A.cap] w fun e E=>SameOut (l1=h) e∧Below w.heap.size w E:=by
 by_cases q:l1.length=h.length
 ·rw[←q]
  by_cases z:l1.length=0
  ·rw[z]
   refine (zoe _ _ _ _ w).mono ?_
   rintro e E ⟨rfl,J⟩
   exact⟨⟨true,rfl,⟨fun _=>(by rw[List.eq_nil_of_length_eq_zero z,List.eq_nil_of_length_eq_zero (q.symm.trans z)]),fun _=>rfl⟩⟩,J⟩
  ·rcases K.nil_or with ⟨_,_,e⟩|⟨Y,O⟩
   ·exact absurd e z
   ·rcases L.nil_or with ⟨_,_,e⟩|⟨V,M⟩
    ·exact absurd (q.trans e) z
    ·rw[O,M]
     exact zof H I N b2 Y V D A l1 h w K L O M q X
 ·refine (zod _ _ _ _ _ _ w (by omega)).mono ?_
  rintro e E ⟨rfl,J⟩
  exact⟨⟨false,rfl,⟨fun k=>(by cases k),fun k=>absurd (by rw[k]) q⟩⟩,J⟩
def zdi (x y:Ep):Bool:=x.kind==y.kind&&x.name.toList==y.name.toList&&x.loc.toList==y.loc.toList&&x.spec.toList==y.spec.toList
theorem zgl {x y:Ep}:zdi x y=true↔x=y:=by
 constructor
 ·intro h
  unfold zdi at h
  simp only[Bool.and_eq_true] at h
  obtain⟨⟨⟨A,w⟩,z⟩,q⟩:=h
  cases x
  cases y
  simp only at A w z q
  congr 1<;>first|(apply zfv;assumption)|(apply eq_of_beq;assumption)
 ·intro h
  rw[h]
  simp[zdi]
theorem zoh (I H:Option Addr) (z q E A:Nat) (w:World) (h:(z:Int)≠(q:Int)):Calls Tryz.prog 116 #[.slice I z E,.slice H q A] w fun e D=>e= .returned (.bool false)∧Below w.heap.size w D:=by
 go_enter Tryz.func116,Tryz.ntmps116
 go_wp2
 go_ret
 exact⟨rfl,Below.refl _ _⟩
theorem zoi (D A:Option Addr) (z h:Nat) (w:World):Calls Tryz.prog 116 #[.slice D 0 z,.slice A 0 h] w fun e q=>e= .returned (.bool true)∧Below w.heap.size w q:=by
 go_enter Tryz.func116,Tryz.ntmps116
 go_wp2
 go_loopg [13] 1 (fun k i wr=>k=1∧i= .int .i64 0∧wr=w)
 case atStart=>exact⟨rfl,rfl,rfl⟩
 case round=>
  obtain⟨rfl,rfl,rfl⟩:=hrel
  go_wp2
  go_ret
  exact⟨rfl,Below.refl _ _⟩
theorem zoj (ab: ∀(x y:Ep) (W:World),Sem.run Tryz.prog (binOp .neq 82 (.agg #[.int .i64 x.kind,.string x.name,.string x.loc,.string x.spec]) (.agg #[.int .i64 y.kind,.string y.name,.string y.loc,.string y.spec])) W= .ok (.bool (!zdi x y)) W) (aa: ∀(L:BinOp) (a b:Operand) (x y:Ep) (W:World),Sem.run Tryz.prog (eqGuard L 82 a b (.agg #[.int .i64 x.kind,.string x.name,.string x.loc,.string x.spec]) (.agg #[.int .i64 y.kind,.string y.name,.string y.loc,.string y.spec])) W= .ok () W) (b1 b2 g1 O:Nat) (r1 Y:Rw) (l1 D:List Ep) (w:World) (z:OwnR w b1 82 4 r1 l1.length (l1.flatMap epL)) (q:OwnR w b2 82 4 Y D.length (D.flatMap epL)) (e1:r1.a=some ⟨g1,0,none⟩) (e2:Y.a=some ⟨O,0,none⟩) (hl:l1.length=D.length) (U:l1.length≤4294967296):
  Calls Tryz.prog 116 #[.slice (some ⟨g1,0,none⟩) l1.length r1.cap,.slice (some ⟨O,0,none⟩) l1.length Y.cap] w fun e w'=>SameOut (l1=D) e∧Below w.heap.size w w':=by
 have H1:=zc z
 have H2:=zc q
 have E1:=zc e1
 have E2:=zc e2
 have HL:=zc hl
 clear z q e1 e2 hl
 go_enter Tryz.func116,Tryz.ntmps116
 go_wp2
 go_loopg [13] l1.length (fun k i wr=>∃j:Nat,i= .int .i64 j∧j+k=l1.length∧l1.take j=D.take j∧Below w.heap.size w wr)
 case atStart=>exact⟨0,rfl,by omega,rfl,Below.refl _ _⟩
 case round=>
  obtain⟨j,rfl,hj,ht,U⟩:=hrel
  have E:=zc U
  have HT:=zc ht
  clear U ht
  by_cases H:j<l1.length
  ·have I:(j:Int)<(l1.length:Int):=by omega
   obtain⟨x,V⟩:=zbo H
   obtain⟨y,Z⟩:=zbo (show j<D.length by rw[←HL.out];exact H)
   obtain⟨N,ga,z⟩:=OwnR.elem (f:=epL) (m:=4) (fun _=>rfl) (H1.out.keep fun k g=>E.out.block k (H1.out.typed g).2.1) V
   obtain rfl:N=g1:=by have:=ga.symm.trans E1.out;simpa using this
   obtain⟨N,gb,q⟩:=OwnR.elem (f:=epL) (m:=4) (fun _=>rfl) (H2.out.keep fun k g=>E.out.block k (H2.out.typed g).2.1) Z
   obtain rfl:N=O:=by have:=gb.symm.trans E2.out;simpa using this
   have C0:=zc (z 0 (by omega))
   have D0:=zc (q 0 (by omega))
   have C1:=zc (z 1 (by omega))
   have D1:=zc (q 1 (by omega))
   have C2:=zc (z 2 (by omega))
   have D2:=zc (q 2 (by omega))
   have C3:=zc (z 3 (by omega))
   have D3:=zc (q 3 (by omega))
   have HX:=zc V
   have HY:=zc Z
   clear z q ga gb V Z
   obtain⟨M,J⟩: ∃M,M=j+1:=⟨_,rfl⟩
   have ej:(j:Int)+1=(M:Int):=by omega
   have HJ:=zc J
   clear J
   obtain⟨b,h⟩: ∃b,zdi x y=b:=⟨_,rfl⟩
   have ad: ∀W:World,Sem.run Tryz.prog (binOp .neq 82 (.agg #[.int .i64 x.kind,.string x.name,.string x.loc,.string x.spec]) (.agg #[.int .i64 y.kind,.string y.name,.string y.loc,.string y.spec])) W= .ok (.bool !b) W:=fun W=>by rw[ab,h]
   have ae: ∀(L:BinOp) (a b:Operand) (W:World),Sem.run Tryz.prog (eqGuard L 82 a b (.agg #[.int .i64 x.kind,.string x.name,.string x.loc,.string x.spec]) (.agg #[.int .i64 y.kind,.string y.name,.string y.loc,.string y.spec])) W= .ok () W:=fun L a b W=>aa L a b x y W
   go_wp2
   have k0:=cell_regrown C0.out
   have m0:=cell_regrown D0.out
   have k1:=cell_regrown C1.out
   have m1:=cell_regrown D1.out
   have k2:=cell_regrown C2.out
   have m2:=cell_regrown D2.out
   have k3:=cell_regrown C3.out
   have m3:=cell_regrown D3.out
   simp only[Nat.add_zero] at k0 m0
   refine wp_region_quiet_below (by kernel_rfl) (by kernel_rfl) ?_
   repeat (go_big_quiet_step (fail))
   refine wpQuiet_nil ?_
   intro w2 X
   obtain⟨⟨dq,ac⟩,A⟩:=X
   have K:Hid (Below w.heap.size w w2):=by show Below _ _ _;rw[A];exact E.out.trans ((below_regrown wr dq ac).mono E.out.size)
   clear A k0 m0 C0 D0 k1 m1 C1 D1 k2 m2 C2 D2 k3 m3 C3 D3
   cases b with
   |true=>
    go_wp2
    go_roundg (gk-1)
    case rel=>exact⟨M,rfl,by have:=HJ.out;omega,by rw[HJ.out];have e:=zgl.1 h;exact zdf HT.out HX.out (by rw[e];exact HY.out),K.out⟩
    case measure=>omega
   |false=>
    go_wp2
    go_ret
    exact⟨⟨false,rfl,⟨fun k=>(by cases k),fun k=>(by have e:=HX.out;rw[k,HY.out] at e;cases e;rw[zgl.2 rfl] at h;cases h)⟩⟩,K.out⟩
  ·have I: ¬(j:Int)<(l1.length:Int):=by omega
   obtain rfl:j=l1.length:=by omega
   go_wp2
   go_ret
   exact⟨⟨true,rfl,⟨fun _=>zdg HL.out HT.out,fun _=>rfl⟩⟩,E.out⟩
theorem zok (H: ∀(x y:Ep) (W:World),Sem.run Tryz.prog (binOp .neq 82 (.agg #[.int .i64 x.kind,.string x.name,.string x.loc,.string x.spec]) (.agg #[.int .i64 y.kind,.string y.name,.string y.loc,.string y.spec])) W= .ok (.bool (!zdi x y)) W) (I: ∀(U:BinOp) (a b:Operand) (x y:Ep) (W:World),Sem.run Tryz.prog (eqGuard U 82 a b (.agg #[.int .i64 x.kind,.string x.name,.string x.loc,.string x.spec]) (.agg #[.int .i64 y.kind,.string y.name,.string y.loc,.string y.spec])) W= .ok () W) (N b2:Nat) (D A:Rw) (l1 h:List Ep) (w:World) (K:OwnR w N 82 4 D l1.length (l1.flatMap epL)) (L:OwnR w b2 82 4 A h.length (h.flatMap epL)) (X:l1.length≤4294967296):
  Calls Tryz.prog 116 #[.slice D.a l1.length D.cap,.slice A.a h.length A.cap] w fun e E=>SameOut (l1=h) e∧Below w.heap.size w E:=by
 by_cases q:l1.length=h.length
 ·rw[←q]
  by_cases z:l1.length=0
  ·rw[z]
   refine (zoi _ _ _ _ w).mono ?_
   rintro e E ⟨rfl,J⟩
   exact⟨⟨true,rfl,⟨fun _=>(by rw[List.eq_nil_of_length_eq_zero z,List.eq_nil_of_length_eq_zero (q.symm.trans z)]),fun _=>rfl⟩⟩,J⟩
  ·rcases K.nil_or with ⟨_,_,e⟩|⟨Y,O⟩
   ·exact absurd e z
   ·rcases L.nil_or with ⟨_,_,e⟩|⟨V,M⟩
    ·exact absurd (q.trans e) z
    ·rw[O,M]
     exact zoj H I N b2 Y V D A l1 h w K L O M q X
 ·refine (zoh _ _ _ _ _ _ w (by omega)).mono ?_
  rintro e E ⟨rfl,J⟩
  exact⟨⟨false,rfl,⟨fun k=>(by cases k),fun k=>absurd (by rw[k]) q⟩⟩,J⟩
def zdj (x y:Sm):Bool:=x.kind==y.kind&&x.name.toList==y.name.toList&&x.expr==y.expr
theorem zgm {x y:Sm}:zdj x y=true↔x=y:=by
 constructor
 ·intro h
  unfold zdj at h
  simp only[Bool.and_eq_true] at h
  obtain⟨⟨z,q⟩,w⟩:=h
  cases x
  cases y
  simp only at z q w
  congr 1<;>first|(apply zfv;assumption)|(apply eq_of_beq;assumption)
 ·intro h
  rw[h]
  simp[zdj]
theorem zol (I H:Option Addr) (z q E A:Nat) (w:World) (h:(z:Int)≠(q:Int)):Calls Tryz.prog 117 #[.slice I z E,.slice H q A] w fun e D=>e= .returned (.bool false)∧Below w.heap.size w D:=by
 go_enter Tryz.func117,Tryz.ntmps117
 go_wp2
 go_ret
 exact⟨rfl,Below.refl _ _⟩
theorem zom (D A:Option Addr) (z h:Nat) (w:World):Calls Tryz.prog 117 #[.slice D 0 z,.slice A 0 h] w fun e q=>e= .returned (.bool true)∧Below w.heap.size w q:=by
 go_enter Tryz.func117,Tryz.ntmps117
 go_wp2
 go_loopg [13] 1 (fun k i wr=>k=1∧i= .int .i64 0∧wr=w)
 case atStart=>exact⟨rfl,rfl,rfl⟩
 case round=>
  obtain⟨rfl,rfl,rfl⟩:=hrel
  go_wp2
  go_ret
  exact⟨rfl,Below.refl _ _⟩
theorem zon (aa: ∀(x y:Sm) (W:World),Sem.run Tryz.prog (binOp .neq 87 (.agg #[.int .i64 x.kind,.string x.name,.int .i64 x.expr]) (.agg #[.int .i64 y.kind,.string y.name,.int .i64 y.expr])) W= .ok (.bool (!zdj x y)) W) (Z: ∀(L:BinOp) (a b:Operand) (x y:Sm) (W:World),Sem.run Tryz.prog (eqGuard L 87 a b (.agg #[.int .i64 x.kind,.string x.name,.int .i64 x.expr]) (.agg #[.int .i64 y.kind,.string y.name,.int .i64 y.expr])) W= .ok () W) (b1 b2 g1 O:Nat) (r1 Y:Rw) (l1 D:List Sm) (w:World) (A:OwnR w b1 87 3 r1 l1.length (l1.flatMap smL)) (z:OwnR w b2 87 3 Y D.length (D.flatMap smL)) (e1:r1.a=some ⟨g1,0,none⟩) (e2:Y.a=some ⟨O,0,none⟩) (hl:l1.length=D.length) (U:l1.length≤4294967296):
  Calls Tryz.prog 117 #[.slice (some ⟨g1,0,none⟩) l1.length r1.cap,.slice (some ⟨O,0,none⟩) l1.length Y.cap] w fun e w'=>SameOut (l1=D) e∧Below w.heap.size w w':=by
 have H1:=zc A
 have H2:=zc z
 have E1:=zc e1
 have E2:=zc e2
 have HL:=zc hl
 clear A z e1 e2 hl
 go_enter Tryz.func117,Tryz.ntmps117
 go_wp2
 go_loopg [13] l1.length (fun k i wr=>∃j:Nat,i= .int .i64 j∧j+k=l1.length∧l1.take j=D.take j∧Below w.heap.size w wr)
 case atStart=>exact⟨0,rfl,by omega,rfl,Below.refl _ _⟩
 case round=>
  obtain⟨j,rfl,hj,ht,U⟩:=hrel
  have E:=zc U
  have HT:=zc ht
  clear U ht
  by_cases H:j<l1.length
  ·have I:(j:Int)<(l1.length:Int):=by omega
   obtain⟨x,V⟩:=zbo H
   obtain⟨y,hy⟩:=zbo (show j<D.length by rw[←HL.out];exact H)
   obtain⟨N,ga,A⟩:=OwnR.elem (f:=smL) (m:=3) (fun _=>rfl) (H1.out.keep fun k g=>E.out.block k (H1.out.typed g).2.1) V
   obtain rfl:N=g1:=by have:=ga.symm.trans E1.out;simpa using this
   obtain⟨N,gb,z⟩:=OwnR.elem (f:=smL) (m:=3) (fun _=>rfl) (H2.out.keep fun k g=>E.out.block k (H2.out.typed g).2.1) hy
   obtain rfl:N=O:=by have:=gb.symm.trans E2.out;simpa using this
   have C0:=zc (A 0 (by omega))
   have D0:=zc (z 0 (by omega))
   have C1:=zc (A 1 (by omega))
   have D1:=zc (z 1 (by omega))
   have C2:=zc (A 2 (by omega))
   have D2:=zc (z 2 (by omega))
   have HX:=zc V
   have HY:=zc hy
   clear A z ga gb V hy
   obtain⟨M,J⟩: ∃M,M=j+1:=⟨_,rfl⟩
   have ej:(j:Int)+1=(M:Int):=by omega
   have HJ:=zc J
   clear J
   obtain⟨b,h⟩: ∃b,zdj x y=b:=⟨_,rfl⟩
   have ac: ∀W:World,Sem.run Tryz.prog (binOp .neq 87 (.agg #[.int .i64 x.kind,.string x.name,.int .i64 x.expr]) (.agg #[.int .i64 y.kind,.string y.name,.int .i64 y.expr])) W= .ok (.bool !b) W:=fun W=>by rw[aa,h]
   have ad: ∀(L:BinOp) (a b:Operand) (W:World),Sem.run Tryz.prog (eqGuard L 87 a b (.agg #[.int .i64 x.kind,.string x.name,.int .i64 x.expr]) (.agg #[.int .i64 y.kind,.string y.name,.int .i64 y.expr])) W= .ok () W:=fun L a b W=>Z L a b x y W
   go_wp2
   have k0:=cell_regrown C0.out
   have m0:=cell_regrown D0.out
   have k1:=cell_regrown C1.out
   have m1:=cell_regrown D1.out
   have k2:=cell_regrown C2.out
   have m2:=cell_regrown D2.out
   simp only[Nat.add_zero] at k0 m0
   refine wp_region_quiet_below (by kernel_rfl) (by kernel_rfl) ?_
   repeat (go_big_quiet_step (fail))
   refine wpQuiet_nil ?_
   intro w2 X
   obtain⟨⟨dq,ab⟩,q⟩:=X
   have K:Hid (Below w.heap.size w w2):=by show Below _ _ _;rw[q];exact E.out.trans ((below_regrown wr dq ab).mono E.out.size)
   clear q k0 m0 C0 D0 k1 m1 C1 D1 k2 m2 C2 D2
   cases b with
   |true=>
    go_wp2
    go_roundg (gk-1)
    case rel=>exact⟨M,rfl,by have:=HJ.out;omega,by rw[HJ.out];have e:=zgm.1 h;exact zdf HT.out HX.out (by rw[e];exact HY.out),K.out⟩
    case measure=>omega
   |false=>
    go_wp2
    go_ret
    exact⟨⟨false,rfl,⟨fun k=>(by cases k),fun k=>(by have e:=HX.out;rw[k,HY.out] at e;cases e;rw[zgm.2 rfl] at h;cases h)⟩⟩,K.out⟩
  ·have I: ¬(j:Int)<(l1.length:Int):=by omega
   obtain rfl:j=l1.length:=by omega
   go_wp2
   go_ret
   exact⟨⟨true,rfl,⟨fun _=>zdg HL.out HT.out,fun _=>rfl⟩⟩,E.out⟩
theorem zoo (H: ∀(x y:Sm) (W:World),Sem.run Tryz.prog (binOp .neq 87 (.agg #[.int .i64 x.kind,.string x.name,.int .i64 x.expr]) (.agg #[.int .i64 y.kind,.string y.name,.int .i64 y.expr])) W= .ok (.bool (!zdj x y)) W) (I: ∀(U:BinOp) (a b:Operand) (x y:Sm) (W:World),Sem.run Tryz.prog (eqGuard U 87 a b (.agg #[.int .i64 x.kind,.string x.name,.int .i64 x.expr]) (.agg #[.int .i64 y.kind,.string y.name,.int .i64 y.expr])) W= .ok () W) (N b2:Nat) (D A:Rw) (l1 h:List Sm) (w:World) (K:OwnR w N 87 3 D l1.length (l1.flatMap smL)) (L:OwnR w b2 87 3 A h.length (h.flatMap smL)) (X:l1.length≤4294967296):
  Calls Tryz.prog 117 #[.slice D.a l1.length D.cap,.slice A.a h.length A.cap] w fun e E=>SameOut (l1=h) e∧Below w.heap.size w E:=by
 by_cases q:l1.length=h.length
 ·rw[←q]
  by_cases z:l1.length=0
  ·rw[z]
   refine (zom _ _ _ _ w).mono ?_
   rintro e E ⟨rfl,J⟩
   exact⟨⟨true,rfl,⟨fun _=>(by rw[List.eq_nil_of_length_eq_zero z,List.eq_nil_of_length_eq_zero (q.symm.trans z)]),fun _=>rfl⟩⟩,J⟩
  ·rcases K.nil_or with ⟨_,_,e⟩|⟨Y,O⟩
   ·exact absurd e z
   ·rcases L.nil_or with ⟨_,_,e⟩|⟨V,M⟩
    ·exact absurd (q.trans e) z
    ·rw[O,M]
     exact zon H I N b2 Y V D A l1 h w K L O M q X
 ·refine (zol _ _ _ _ _ _ w (by omega)).mono ?_
  rintro e E ⟨rfl,J⟩
  exact⟨⟨false,rfl,⟨fun k=>(by cases k),fun k=>absurd (by rw[k]) q⟩⟩,J⟩
def zdk (x y:Ex):Bool:=x.kind==y.kind&&x.num==y.num&&x.name.toList==y.name.toList&&x.field.toList==y.field.toList&&x.l==y.l&&x.r==y.r
theorem zgn {x y:Ex}:zdk x y=true↔x=y:=by
 constructor
 ·intro h
  unfold zdk at h
  simp only[Bool.and_eq_true] at h
  obtain⟨⟨⟨⟨⟨E,w⟩,z⟩,q⟩,A⟩,D⟩:=h
  cases x
  cases y
  simp only at E w z q A D
  congr 1<;>first|(apply zfv;assumption)|(apply eq_of_beq;assumption)
 ·intro h
  rw[h]
  simp[zdk]
theorem zop (I H:Option Addr) (z q E A:Nat) (w:World) (h:(z:Int)≠(q:Int)):Calls Tryz.prog 118 #[.slice I z E,.slice H q A] w fun e D=>e= .returned (.bool false)∧Below w.heap.size w D:=by
 go_enter Tryz.func118,Tryz.ntmps118
 go_wp2
 go_ret
 exact⟨rfl,Below.refl _ _⟩
theorem zoq (D A:Option Addr) (z h:Nat) (w:World):Calls Tryz.prog 118 #[.slice D 0 z,.slice A 0 h] w fun e q=>e= .returned (.bool true)∧Below w.heap.size w q:=by
 go_enter Tryz.func118,Tryz.ntmps118
 go_wp2
 go_loopg [13] 1 (fun k i wr=>k=1∧i= .int .i64 0∧wr=w)
 case atStart=>exact⟨rfl,rfl,rfl⟩
 case round=>
  obtain⟨rfl,rfl,rfl⟩:=hrel
  go_wp2
  go_ret
  exact⟨rfl,Below.refl _ _⟩
theorem zor (ab: ∀(x y:Ex) (W:World),Sem.run Tryz.prog (binOp .neq 85 (.agg #[.int .i64 x.kind,.int .i64 x.num,.string x.name,.string x.field,.int .i64 x.l,.int .i64 x.r]) (.agg #[.int .i64 y.kind,.int .i64 y.num,.string y.name,.string y.field,.int .i64 y.l,.int .i64 y.r])) W= .ok (.bool (!zdk x y)) W) (aa: ∀(L:BinOp) (a b:Operand) (x y:Ex) (W:World),Sem.run Tryz.prog (eqGuard L 85 a b (.agg #[.int .i64 x.kind,.int .i64 x.num,.string x.name,.string x.field,.int .i64 x.l,.int .i64 x.r]) (.agg #[.int .i64 y.kind,.int .i64 y.num,.string y.name,.string y.field,.int .i64 y.l,.int .i64 y.r])) W= .ok () W) (b1 b2 g1 O:Nat) (r1 Y:Rw) (l1 D:List Ex) (w:World) (q:OwnR w b1 85 6 r1 l1.length (l1.flatMap exL)) (h:OwnR w b2 85 6 Y D.length (D.flatMap exL)) (e1:r1.a=some ⟨g1,0,none⟩) (e2:Y.a=some ⟨O,0,none⟩) (hl:l1.length=D.length) (U:l1.length≤4294967296):
  Calls Tryz.prog 118 #[.slice (some ⟨g1,0,none⟩) l1.length r1.cap,.slice (some ⟨O,0,none⟩) l1.length Y.cap] w fun e w'=>SameOut (l1=D) e∧Below w.heap.size w w':=by
 have H1:=zc q
 have H2:=zc h
 have E1:=zc e1
 have E2:=zc e2
 have HL:=zc hl
 clear q h e1 e2 hl
 go_enter Tryz.func118,Tryz.ntmps118
 go_wp2
 go_loopg [13] l1.length (fun k i wr=>∃j:Nat,i= .int .i64 j∧j+k=l1.length∧l1.take j=D.take j∧Below w.heap.size w wr)
 case atStart=>exact⟨0,rfl,by omega,rfl,Below.refl _ _⟩
 case round=>
  obtain⟨j,rfl,hj,ht,U⟩:=hrel
  have E:=zc U
  have HT:=zc ht
  clear U ht
  by_cases H:j<l1.length
  ·have I:(j:Int)<(l1.length:Int):=by omega
   obtain⟨x,V⟩:=zbo H
   obtain⟨y,Z⟩:=zbo (show j<D.length by rw[←HL.out];exact H)
   obtain⟨N,ga,q⟩:=OwnR.elem (f:=exL) (m:=6) (fun _=>rfl) (H1.out.keep fun k g=>E.out.block k (H1.out.typed g).2.1) V
   obtain rfl:N=g1:=by have:=ga.symm.trans E1.out;simpa using this
   obtain⟨N,gb,h⟩:=OwnR.elem (f:=exL) (m:=6) (fun _=>rfl) (H2.out.keep fun k g=>E.out.block k (H2.out.typed g).2.1) Z
   obtain rfl:N=O:=by have:=gb.symm.trans E2.out;simpa using this
   have C0:=zc (q 0 (by omega))
   have D0:=zc (h 0 (by omega))
   have C1:=zc (q 1 (by omega))
   have D1:=zc (h 1 (by omega))
   have C2:=zc (q 2 (by omega))
   have D2:=zc (h 2 (by omega))
   have C3:=zc (q 3 (by omega))
   have D3:=zc (h 3 (by omega))
   have C4:=zc (q 4 (by omega))
   have D4:=zc (h 4 (by omega))
   have C5:=zc (q 5 (by omega))
   have D5:=zc (h 5 (by omega))
   have HX:=zc V
   have HY:=zc Z
   clear q h ga gb V Z
   obtain⟨M,J⟩: ∃M,M=j+1:=⟨_,rfl⟩
   have ej:(j:Int)+1=(M:Int):=by omega
   have HJ:=zc J
   clear J
   obtain⟨b,z⟩: ∃b,zdk x y=b:=⟨_,rfl⟩
   have ad: ∀W:World,Sem.run Tryz.prog (binOp .neq 85 (.agg #[.int .i64 x.kind,.int .i64 x.num,.string x.name,.string x.field,.int .i64 x.l,.int .i64 x.r]) (.agg #[.int .i64 y.kind,.int .i64 y.num,.string y.name,.string y.field,.int .i64 y.l,.int .i64 y.r])) W= .ok (.bool !b) W:=fun W=>by rw[ab,z]
   have ae: ∀(L:BinOp) (a b:Operand) (W:World),Sem.run Tryz.prog (eqGuard L 85 a b (.agg #[.int .i64 x.kind,.int .i64 x.num,.string x.name,.string x.field,.int .i64 x.l,.int .i64 x.r]) (.agg #[.int .i64 y.kind,.int .i64 y.num,.string y.name,.string y.field,.int .i64 y.l,.int .i64 y.r])) W= .ok () W:=fun L a b W=>aa L a b x y W
   go_wp2
   have k0:=cell_regrown C0.out
   have m0:=cell_regrown D0.out
   have k1:=cell_regrown C1.out
   have m1:=cell_regrown D1.out
   have k2:=cell_regrown C2.out
   have m2:=cell_regrown D2.out
   have k3:=cell_regrown C3.out
   have m3:=cell_regrown D3.out
   have k4:=cell_regrown C4.out
   have m4:=cell_regrown D4.out
   have k5:=cell_regrown C5.out
   have m5:=cell_regrown D5.out
   simp only[Nat.add_zero] at k0 m0
   refine wp_region_quiet_below (by kernel_rfl) (by kernel_rfl) ?_
   repeat (go_big_quiet_step (fail))
   refine wpQuiet_nil ?_
   intro w2 X
   obtain⟨⟨dq,ac⟩,A⟩:=X
   have K:Hid (Below w.heap.size w w2):=by show Below _ _ _;rw[A];exact E.out.trans ((below_regrown wr dq ac).mono E.out.size)
   clear A k0 m0 C0 D0 k1 m1 C1 D1 k2 m2 C2 D2 k3 m3 C3 D3 k4 m4 C4 D4 k5 m5 C5 D5
   cases b with
   |true=>
    go_wp2
    go_roundg (gk-1)
    case rel=>exact⟨M,rfl,by have:=HJ.out;omega,by rw[HJ.out];have e:=zgn.1 z;exact zdf HT.out HX.out (by rw[e];exact HY.out),K.out⟩
    case measure=>omega
   |false=>
    go_wp2
    go_ret
    exact⟨⟨false,rfl,⟨fun k=>(by cases k),fun k=>(by have e:=HX.out;rw[k,HY.out] at e;cases e;rw[zgn.2 rfl] at z;cases z)⟩⟩,K.out⟩
  ·have I: ¬(j:Int)<(l1.length:Int):=by omega
   obtain rfl:j=l1.length:=by omega
   go_wp2
   go_ret
   exact⟨⟨true,rfl,⟨fun _=>zdg HL.out HT.out,fun _=>rfl⟩⟩,E.out⟩
theorem zos (H: ∀(x y:Ex) (W:World),Sem.run Tryz.prog (binOp .neq 85 (.agg #[.int .i64 x.kind,.int .i64 x.num,.string x.name,.string x.field,.int .i64 x.l,.int .i64 x.r]) (.agg #[.int .i64 y.kind,.int .i64 y.num,.string y.name,.string y.field,.int .i64 y.l,.int .i64 y.r])) W= .ok (.bool (!zdk x y)) W) (I: ∀(U:BinOp) (a b:Operand) (x y:Ex) (W:World),Sem.run Tryz.prog (eqGuard U 85 a b (.agg #[.int .i64 x.kind,.int .i64 x.num,.string x.name,.string x.field,.int .i64 x.l,.int .i64 x.r]) (.agg #[.int .i64 y.kind,.int .i64 y.num,.string y.name,.string y.field,.int .i64 y.l,.int .i64 y.r])) W= .ok () W) (N b2:Nat) (D A:Rw) (l1 h:List Ex) (w:World) (K:OwnR w N 85 6 D l1.length (l1.flatMap exL)) (L:OwnR w b2 85 6 A h.length (h.flatMap exL)) (X:l1.length≤4294967296):
  Calls Tryz.prog 118 #[.slice D.a l1.length D.cap,.slice A.a h.length A.cap] w fun e E=>SameOut (l1=h) e∧Below w.heap.size w E:=by
 by_cases q:l1.length=h.length
 ·rw[←q]
  by_cases z:l1.length=0
  ·rw[z]
   refine (zoq _ _ _ _ w).mono ?_
   rintro e E ⟨rfl,J⟩
   exact⟨⟨true,rfl,⟨fun _=>(by rw[List.eq_nil_of_length_eq_zero z,List.eq_nil_of_length_eq_zero (q.symm.trans z)]),fun _=>rfl⟩⟩,J⟩
  ·rcases K.nil_or with ⟨_,_,e⟩|⟨Y,O⟩
   ·exact absurd e z
   ·rcases L.nil_or with ⟨_,_,e⟩|⟨V,M⟩
    ·exact absurd (q.trans e) z
    ·rw[O,M]
     exact zor H I N b2 Y V D A l1 h w K L O M q X
 ·refine (zop _ _ _ _ _ _ w (by omega)).mono ?_
  rintro e E ⟨rfl,J⟩
  exact⟨⟨false,rfl,⟨fun k=>(by cases k),fun k=>absurd (by rw[k]) q⟩⟩,J⟩
end Go.Proofs.YtcidlffeeninbaaGreat
