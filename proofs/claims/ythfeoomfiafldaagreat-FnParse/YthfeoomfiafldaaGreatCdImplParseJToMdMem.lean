/-
  What slices.Index and slices.Contains answer over a row of texts,and strings.Clone: the walks.
  What request of impl's parser answers: the walks.
  What nameOrCall of impl's parser answers: the walk.
  What part of impl's parser answers: the walk.
  What product and sum of impl's parser answer: the walks.
  What statement of impl's parser answers: the walk.
  What the small items of impl's parser,itemWord and exportLast answer: the walks.
  Rows beside impl's parser: lists of names under way. No program is spoken of but for the numbers of its types.
  A program in memory,of any size. No program is spoken of but for the numbers of its types.
-/
import Derived.Test.YthfeoomfiafldaaGreatCdImplParseHToImplParseI
import Derived.Test.YthfeoomfiafldaaGreatCdShelf
namespace Go.Proofs.YthfeoomfiafldaaGreat
set_option maxRecDepth 100000
set_option maxHeartbeats 3200000
open Go.RowKit Go.PlainAid Go.Sort
theorem zjR (s:ByteArray) (w:World) (h:s.size≤281474976710656):
  Calls Tryz.prog 41 #[.string s] w fun e j=>e= .returned (.string s)∧Below w.heap.size w j:=by
 go_enter Tryz.func41,Tryz.ntmps41
 go_wp2_with fail
 refine (Tryz.stringslite_Clone _ _ h).mono ?_
 rintro e z ⟨rfl,o⟩
 go_wp2
 go_ret
 exact⟨rfl,o⟩
theorem OwnR.text {w:World} {o n:Nat} {r:Rw} {l:List ByteArray} (h:OwnR w o 9 1 r n (l.map .string)) {j:Nat} (J:j<n): ∃g,r.a=some ⟨g,0,none⟩∧w.cell? ⟨g,j,none⟩=some (.string (l.getD j sNone)):=by
 rcases h.2 with ⟨_,I⟩|⟨g,H,E,z,_⟩
 ·omega
 ·simp only[Value.slice.injEq] at z
  have D:=h
  unfold OwnR at D
  rw[z.1,z.2.2] at D
  have K:l.length=n:=by have:=h.1;simpa using this
  refine⟨g,z.1,?_⟩
  rw[World.ownsRow.cellAt D j (by omega)]
  simp only[List.getElem?_map,List.getD]
  rw[List.getElem?_eq_getElem (by omega)]
  rfl
theorem zo0 {l:List ByteArray} {x:ByteArray} {j:Nat} (o:j<l.length):zbe (l.drop j) x=((l.getD j sNone).toList==x.toList||zbe (l.drop (j+1)) x):=by
 rw[List.drop_eq_getElem_cons o]
 simp only[zbe,List.any_cons,List.getD,List.getElem?_eq_getElem o,Option.getD_some]
theorem zo1 (o g:Nat) (r:Rw) (l:List ByteArray) (x:ByteArray) (w:World) (h:OwnR w o 9 1 r l.length (l.map .string)) (hl:l.length≤1000000) (O:r.a=some ⟨g,0,none⟩):
  Calls Tryz.prog 146 #[.slice (some ⟨g,0,none⟩) l.length r.cap,.string x] w fun e Z=>(∃v:Int,e= .returned (.int .i64 v)∧decide (0≤v)=zbe l x)∧Z=w:=by
 have HO:=zc h
 have M:=zc O
 clear h O
 go_enter Tryz.func146,Tryz.ntmps146
 go_wp2
 go_loopg [8] (l.length+1) (fun k i wr=>∃j:Nat,i= .int .i64 j∧j+k=l.length+1∧zbe (l.drop j) x=zbe l x∧wr=w)
 case atStart=>exact⟨0,rfl,by omega,by simp,rfl⟩
 case round=>
  obtain⟨j,rfl,hj,U,rfl⟩:=hrel
  have N:=zc U
  clear U
  by_cases z:j<l.length
  ·have D:(j:Int)<(l.length:Int):=by omega
   obtain⟨V,E,Y⟩:=HO.out.text z
   have X:V=g:=by have:=E.symm.trans M.out;simpa using this
   subst X
   clear E
   obtain⟨I,H⟩: ∃I,I=j+1:=⟨_,rfl⟩
   have ej:(j:Int)+1=(I:Int):=by omega
   have Q:=zc H
   clear H
   have K:Hid (zbe (l.drop j) x=((l.getD j sNone).toList==x.toList||zbe (l.drop (j+1)) x)):=zo0 z
   generalize l.getD j sNone=y at Y K
   cases J:(x.toList==y.toList) with
   |true=>
    go_wp2
    go_ret
    refine⟨⟨_,rfl,?_⟩,rfl⟩
    have L:(y.toList==x.toList)=true:=by rw[beq_iff_eq] at J ⊢;exact J.symm
    rw[←N.out,K.out,L]
    simp
   |false=>
    go_wp2
    go_roundg (gk-1)
    case rel=>
     have L:(y.toList==x.toList)=false:=by
      rw[beq_eq_false_iff_ne] at J ⊢;exact fun e=>J e.symm
     refine⟨I,rfl,by have:=Q.out;omega,?_,rfl⟩
     rw[←N.out,K.out,L,Q.out]
     simp
    case measure=>omega
  ·have D: ¬(j:Int)<(l.length:Int):=by omega
   go_wp2
   go_ret
   refine⟨⟨_,rfl,?_⟩,rfl⟩
   rw[←N.out,List.drop_eq_nil_of_le (by omega)]
   rfl
theorem zo2 (x:ByteArray) (w:World):
  Calls Tryz.prog 146 #[.slice none 0 0,.string x] w fun e j=>e= .returned (.int .i64 (-1))∧j=w:=by
 go_enter Tryz.func146,Tryz.ntmps146
 go_wp2
 go_loopg [8] 1 (fun k i wr=>k=1∧i= .int .i64 0∧wr=w)
 case atStart=>exact⟨rfl,rfl,rfl⟩
 case round=>
  obtain⟨rfl,rfl,rfl⟩:=hrel
  go_wp2
  go_ret
  exact⟨rfl,rfl⟩
theorem zo3 (j:Nat) (r:Rw) (l:List ByteArray) (x:ByteArray) (w:World) (h:OwnR w j 9 1 r l.length (l.map .string)) (I:l.length≤1000000):
  Calls Tryz.prog 146 #[.slice r.a l.length r.cap,.string x] w fun e H=>(∃v:Int,e= .returned (.int .i64 v)∧decide (0≤v)=zbe l x)∧H=w:=by
 rcases h.nil_or with ⟨D,E,o⟩|⟨g,z⟩
 ·rw[D,E,o]
  refine (zo2 x w).mono ?_
  rintro e J ⟨rfl,rfl⟩
  have:l=[]:=List.length_eq_zero_iff.1 o
  subst this
  exact⟨⟨_,rfl,rfl⟩,rfl⟩
 ·rw[z]
  exact zo1 j g r l x w h I z
theorem zhS (j:Nat) (r:Rw) (l:List ByteArray) (x:ByteArray) (w:World) (h:OwnR w j 9 1 r l.length (l.map .string)) (E:l.length≤1000000):
  Calls Tryz.prog 135 #[.slice r.a l.length r.cap,.string x] w fun e z=>e= .returned (.bool (zbe l x))∧z=w:=by
 have H:=zc h
 clear h
 go_enter Tryz.func135,Tryz.ntmps135
 go_wp2_with fail
 refine (zo3 j r l x _ H.out E).mono ?_
 rintro e I ⟨⟨v,rfl,o⟩,rfl⟩
 have D:=zc o
 clear o
 go_wp2
 go_ret
 exact⟨zq D.out,rfl⟩
theorem Tryz.infoText:(Tryz.prog.info? 9).map (fun i=>(i.zero,i.size,i.bytes))=some (some (.string {data:=#[]}),1,16):=by kernel_rfl
def zb0 (C:Cx):Prop:=∀i,(zf C i).text.size≤281474976710656
theorem zo4 (x:ByteArray): ∀u∈[Value.string x],u.oneCell'=true:=by
 intro u j
 simp at j
 rw[j]
 rfl
theorem zo5 (C:Cx) (N z j o:Nat) (S:Sv) (q:PS) (w:World) (h:IM C N z j o S q w) (hC:zb0 C) (hk:((zf C q.pos).kind==3)=true) (hs:zbe q.rq (zf C q.pos).text=false) (hn:q.rq.length<40):
  Calls Tryz.prog 113 #[.pointer (some ⟨o,0,none⟩)] w fun e w'=>e= .returned (.string (zf C q.pos).text)∧∃S',IM C N z j o S' {adv q with rq:=q.rq++[(zf C q.pos).text]} w'∧IS o S w S' w':=by
 obtain⟨i0,hi,ad,X,Z⟩:=info_parts Tryz.infoText
 have HH:=zc h
 have af:=zcF
 have K:=hC q.pos
 clear h
 go_enter Tryz.func113,Tryz.ntmps113
 go_wp2_with fail
 refine (zel C N z j o S q 3 _ HH.out hk (by decide)).mono ?_
 rintro e U ⟨rfl,m1,s1⟩
 have Q:=zc m1
 have Y:=zc s1
 clear m1 s1
 unfold tkV
 obtain⟨c0,c1,c2,c3,c4,c5,c6,c7,c8,c9,cf⟩:=zag Q.out.cells
 rw[show (adv q).rq=q.rq from rfl] at c4
 generalize M:(zf C q.pos).text=tx at hs K ⊢
 have ab:=zc M
 clear M
 go_wp2_with fail
 refine (zhS j S.rq q.rq tx _ Q.out.mem.own.rq (by omega)).mono ?_
 rintro e E ⟨rfl,J⟩
 rw[hs,J]
 clear J E
 go_wp2_with fail
 refine (zem o q.rq.length 40 _ (by omega)).mono ?_
 rintro e E ⟨rfl,J⟩
 rw[J]
 clear J E
 have HN:Hid (some o≠S.rq.blk):=fun e=>Q.out.free (.inl e.symm)
 go_wp2_with fail
 go_region_law (first|(refine zfC rfl (.tmp 28) (.tmp 31) 26 rfl j 9 i0 _ 1 16 Tryz.underlying26 hi ad X Z rfl (by decide) (by decide) S.rq q.rq.length (q.rq.map .string) (by rfl) (by exact D.out.mem.own.rq.alloc _) O.heap.size [.string tx] (by rfl) (by exact heap_alloc_new O _) rfl (zo4 tx) (by omega) (by exact (D.out.alloc _).mem.base) ?_;intro r' w2 hr I L;have g2:=(I.block o (by exact (D.out.alloc _).lt) HN.out).trans (by exact (D.out.alloc _).cells);obtain⟨d0,d1,d2,d3,d4,d5,d6,d7,d8,d9,df⟩:=zag g2)|(go_simp;go_wp2_with (go_at_call 41;refine (zjR _ _ K).mono ?_;rintro e O ⟨rfl,H⟩;have D:Hid (IM C N z j o S (adv q) O):=Q.out.drew.later H;have ac:Hid (Below U.heap.size U O):=(Below.refl U.heap.size U).drew.trans H;obtain⟨e0,e1,e2,e3,e4,e5,e6,e7,e8,e9,ef⟩:=zag D.out.cells;rw[show (adv q).rq=q.rq from rfl] at e4;have ae:=D.out.lt;clear H)))
 all_goals
  have HR:=zc hr
  have V:=zc I
  have aa:=zc L
  clear hr I L g2 c0 c1 c2 c3 c4 c5 c6 c7 c8 c9 cf e0 e1 e2 e3 e4 e5 e6 e7 e8 e9 ef
  go_wp2
  go_ret
  obtain⟨m',s'⟩:=D.out.grow_rq (x:=tx) ((Below.refl _ _).alloc (Nat.le_refl _) _) V.out HR.out aa.out hn
  rw[ab.out]
  exact⟨rfl,_,m',Y.out.trans (s'.grownI ac.out)⟩
theorem zgA (C:Cx) (D o j z:Nat) (S:Sv) (q:PS) (w:World) (h:IM C D o j z S q w) (hC:zb0 C):
  Calls Tryz.prog 113 #[.pointer (some ⟨z,0,none⟩)] w (zT C D o j z (zy C q) (·.1) (fun a=>.string a.2) S w):=by
 cases H:((zf C q.pos).kind==3) with
 |false=>
  have K:=zc h
  have U:Hid (zy C q= .error (zu C q.pos)):=by show _=_;rw[zy,H];rfl
  clear h
  go_enter Tryz.func113,Tryz.ntmps113
  go_wp2_with fail
  refine (zjP C D o j z S q 3 _ K.out H).mono ?_
  rintro e V ⟨rfl,Q⟩
  have Z:Hid (Below j w V):=Q.mono K.out.mem.base
  clear Q
  unfold Pan
  go_wp2
  refine⟨rfl,?_⟩
  rw[U.out]
  exact⟨rfl,Z.out⟩
 |true=>
  cases N:zbe q.rq (zf C q.pos).text with
  |true=>
   have K:=zc h
   have U:Hid (zy C q= .ok (adv q,(zf C q.pos).text)):=by show _=_;rw[zy,H,N];rfl
   have Y:=zcF
   have aa:=h.mem.inv.rq
   clear h
   go_enter Tryz.func113,Tryz.ntmps113
   go_wp2_with fail
   refine (zel C D o j z S q 3 _ K.out H (by decide)).mono ?_
   rintro e V ⟨rfl,I,M⟩
   have E:=zc I
   have J:=zc M
   clear I M
   unfold tkV
   obtain⟨c0,c1,c2,c3,X,c5,c6,c7,c8,c9,cf⟩:=zag E.out.cells
   rw[show (adv q).rq=q.rq from rfl] at X
   go_wp2_with fail
   refine (zhS j S.rq q.rq (zf C q.pos).text _ E.out.mem.own.rq (by omega)).mono ?_
   rintro e L ⟨rfl,O⟩
   rw[N,O]
   clear O L
   go_wp2
   go_ret
   rw[U.out]
   exact⟨rfl,S,E.out,J.out⟩
  |false=>
   by_cases hn:q.rq.length<40
   ·refine (zo5 C D o j z S q w h hC H N hn).mono ?_
    rintro e V ⟨rfl,S1,I,M⟩
    rw[zy,H,N,if_pos rfl,if_neg (by decide),if_neg (by omega)]
    exact⟨rfl,S1,I,M⟩
   ·have K:Hid (IM C D o j z S q w):=h
    have U:Hid (zy C q= .error (zu C q.pos)):=by show _=_;rw[zy,H,N,if_pos rfl,if_neg (by decide),if_pos (by omega)]
    have Y:=zcF
    have aa:=h.mem.inv.rq
    clear h
    go_enter Tryz.func113,Tryz.ntmps113
    go_wp2_with fail
    refine (zel C D o j z S q 3 _ K.out H (by decide)).mono ?_
    rintro e V ⟨rfl,I,M⟩
    have E:=zc I
    have J:=zc M
    clear I M
    unfold tkV
    obtain⟨c0,c1,c2,c3,X,c5,c6,c7,c8,c9,cf⟩:=zag E.out.cells
    rw[show (adv q).rq=q.rq from rfl] at X
    go_wp2_with fail
    refine (zhS j S.rq q.rq (zf C q.pos).text _ E.out.mem.own.rq (by omega)).mono ?_
    rintro e L ⟨rfl,O⟩
    rw[N,O]
    clear O L
    go_wp2_with fail
    refine (zeV C D o j z S (adv q) q.rq.length 40 _ E.out (by omega) (by rw[zz];omega)).mono ?_
    rintro e w2 ⟨rfl,Q⟩
    have Z:Hid (Below j w w2):=(K.out.back J.out).trans (Q.mono E.out.mem.base)
    clear Q
    unfold Pan
    go_wp2
    refine⟨rfl,?_⟩
    rw[U.out]
    exact⟨rfl,Z.out⟩
theorem bdO {α β:Type} {Y:Except Nat β} {x:Except Nat α} {f:α→Except Nat β} {a:α} (h:Y=bd x f) (j:x= .ok a):Y=f a:=by rw[h,j];rfl
theorem bdE {α β:Type} {Y:Except Nat β} {x:Except Nat α} {f:α→Except Nat β} {p:Nat} (h:Y=bd x f) (j:x= .error p):Y= .error p:=by rw[h,j];rfl
theorem zeX {α:Type} (x:Except Nat α):bd x .ok=x:=by cases x<;>rfl
abbrev cCall:ByteArray:={data:=#[40,41,123]}
abbrev cShutSemi:ByteArray:={data:=#[41,59]}
abbrev cSemiRight:ByteArray:={data:=#[59,125]}
theorem zjS (C:Cx) (b:UInt8) (q:PS):zaE C {data:=#[b]} 1 0 q=zd C 4 {data:=#[b]} q:=by
 have e:({data:=#[b]}:ByteArray).extract 0 (0+1)={data:=#[b]}:=by simp[ByteArray.extract,ByteArray.copySlice]
 rw[zaE,e]
 exact zeX _
theorem zjT (C:Cx) (b c:UInt8) (q:PS):zaE C {data:=#[b,c]} 2 0 q=bd (zd C 4 {data:=#[b]} q) (zd C 4 {data:=#[c]}):=by
 have e:({data:=#[b,c]}:ByteArray).extract 0 (0+1)={data:=#[b]}:=by simp[ByteArray.extract,ByteArray.copySlice]
 have j:({data:=#[b,c]}:ByteArray).extract (0+1) (0+1+1)={data:=#[c]}:=by simp[ByteArray.extract,ByteArray.copySlice]
 rw[zaE,e]
 refine zaf fun a _=>?_
 rw[zaE,j]
 exact zeX _
theorem zo6 (C:Cx) (b c d:UInt8) (q:PS):zaE C {data:=#[b,c,d]} 3 0 q=bd (zd C 4 {data:=#[b]} q) fun a=>bd (zd C 4 {data:=#[c]} a) (zd C 4 {data:=#[d]}):=by
 have e:({data:=#[b,c,d]}:ByteArray).extract 0 (0+1)={data:=#[b]}:=by simp[ByteArray.extract,ByteArray.copySlice]
 have o:({data:=#[b,c,d]}:ByteArray).extract (0+1) (0+1+1)={data:=#[c]}:=by simp[ByteArray.extract,ByteArray.copySlice]
 have j:({data:=#[b,c,d]}:ByteArray).extract (0+1+1) (0+1+1+1)={data:=#[d]}:=by simp[ByteArray.extract,ByteArray.copySlice]
 rw[zaE,e]
 refine zaf fun a _=>?_
 rw[zaE,o]
 refine zaf fun a _=>?_
 rw[zaE,j]
 exact zeX _
theorem zo7 (C:Cx) (D o j z:Nat) (S:Sv) (q:PS) (s:ByteArray) (f:PS→PR) (w:World) (h:IM C D o j z S q w) (E:zaE C s s.size 0 q=f q) (H:s.size≤100):
  Calls Tryz.prog 94 #[.pointer (some ⟨z,0,none⟩),.string s] w (zT C D o j z (f q) id (fun _=>.tuple #[]) S w):=by
 rw[←E]
 exact zhO C D o j z S q s w h H
theorem zcw (C:Cx) (D o j z:Nat) (S:Sv) (q:PS) (b:UInt8) (w:World) (h:IM C D o j z S q w):
  Calls Tryz.prog 94 #[.pointer (some ⟨z,0,none⟩),.string {data:=#[b]}] w (zT C D o j z (zd C 4 {data:=#[b]} q) id (fun _=>.tuple #[]) S w):=
 zo7 C D o j z S q {data:=#[b]} (zd C 4 {data:=#[b]}) w h (zjS C b q) (by show 1≤100;omega)
structure Six (w:World) (b:Nat) (v0 v1 v2 v3 v4 v5:Value):Prop where
 c0:w.cell? ⟨b,0,none⟩=some v0
 c1:w.cell? ⟨b,1,none⟩=some v1
 c2:w.cell? ⟨b,2,none⟩=some v2
 c3:w.cell? ⟨b,3,none⟩=some v3
 c4:w.cell? ⟨b,4,none⟩=some v4
 c5:w.cell? ⟨b,5,none⟩=some v5
 fz: ∀i,w.frozen? ⟨b,i,none⟩=false
theorem zC {w:World} {b:Nat} {t:TypeId} {H D j E o z:Value} (h:w.heap[b]? =some (.cells #[H,D,j,E,o,z] t (0,0))):Six w b H D j E o z:=by
 constructor<;>simp[World.cell?,World.frozen?,h]
theorem IS.kept {C:Cx} {J z j E b:Nat} {S H:Sv} {q:PS} {w D:World} {o:Obj} (h:IM C J z j E S q w) (s:IS E S (w.alloc o) H D) (I:b=w.heap.size):D.heap[b]? =some o:=by
 subst I
 refine (s.block _ (by rw[zW];omega) (fun g=>?_) (by have:=h.lt;omega)).trans (heap_alloc_new w _)
 have:=(h.mem.own.has g).2
 omega
theorem IS.from {j:Nat} {S D:Sv} {w z:World} {o:Obj} (s:IS j S (w.alloc o) D z):IS j S w D z:=(IS.below ((Below.refl _ _).alloc (Nat.le_refl _) _)).trans s
theorem IS.free {C:Cx} {I z j E:Nat} {S D:Sv} {q:PS} {w H:World} {o:Obj} (h:IM C I z j E S q w) (s:IS E S (w.alloc o) D H): ¬D.has w.heap.size:=by
 intro g
 rcases s.sub _ g with k|k
 ·have:=(h.mem.own.has k).2
  omega
 ·rw[zW] at k
  omega
def zb1 (C:Cx) (x:Ex) (call:Int) (q:PS):PR:=if isT C q.pos 4 cOpen then bd (zd C 4 zU (adv q)) (zJ C ⟨call,x.num,x.name,x.field,x.l,x.r⟩) else zJ C x q
theorem zfG (C:Cx) (K z j D:Nat) (S:Sv) (q:PS) (x:Ex) (o:Int) (w:World) (h:IM C K z j D S q w) (hp:0<q.pos):
  Calls Tryz.prog 149 #[.pointer (some ⟨D,0,none⟩),exV x,.int .i64 o] w (zT C K z j D (zb1 C x o q) id (fun q'=>.int .i64 ((q'.ex.length:Int)-1)) S w):=by
 have H:=zc h
 clear h
 cases hi:isT C q.pos 4 cOpen with
 |false=>
  have Y:Hid (zb1 C x o q=zJ C x q):=by show _=_;rw[zb1,hi];rfl
  unfold exV
  go_enter Tryz.func149,Tryz.ntmps149
  go_wp2_with fail
  refine (zP C K z j D S q 4 cOpen _ (H.out.alloc _) (by decide)).mono ?_
  rintro e w1 ⟨rfl,m,s⟩
  rw[hi] at m ⊢
  have N:=zc m
  have Q:Hid (IS D S w S w1):=s.from
  have ac:Hid (w1.heap[w.heap.size]? =some (.cells #[.int .i64 x.kind,.int .i64 x.num,.string x.name,.string x.field,.int .i64 x.l,.int .i64 x.r] 81 (0,0))):=IS.kept H.out s rfl
  obtain⟨b0,b1,b2,b3,b4,b5,bf⟩:=zC ac.out
  clear m s
  go_wp2_with fail
  refine (zeW C K z j D S q x _ N.out hp).mono ?_
  cases E:zJ C x q with
  |error p=>
   rintro e L ⟨rfl,X⟩
   have HB:Hid (Below j w L):=(H.out.back Q.out).trans X
   have J:Hid (zb1 C x o q= .error p):=Y.out.trans E
   unfold Pan
   go_wp2
   refine⟨rfl,?_⟩
   rw[J.out]
   exact⟨rfl,HB.out⟩
  |ok a2=>
   rintro e L ⟨rfl,O,m,s⟩
   have M:=zc m
   have af:Hid (IS D S w O L):=Q.out.trans s
   clear m s
   have J:=zc (Y.out.trans E)
   go_wp2
   go_ret
   rw[J.out]
   exact⟨rfl,O,M.out,af.out⟩
 |true=>
  have Y:Hid (zb1 C x o q=bd (zd C 4 zU (adv q)) (zJ C ⟨o,x.num,x.name,x.field,x.l,x.r⟩)):=by show _=_;rw[zb1,hi];rfl
  unfold exV
  go_enter Tryz.func149,Tryz.ntmps149
  go_wp2_with fail
  refine (zP C K z j D S q 4 cOpen _ (H.out.alloc _) (by decide)).mono ?_
  rintro e w1 ⟨rfl,m,s⟩
  rw[hi] at m ⊢
  have N:=zc m
  have V:=zc s
  clear m s
  go_wp2_with fail
  refine (zcw C K z j D S (adv q) 41 _ N.out).mono ?_
  cases E:zd C 4 zU (adv q) with
  |error p=>
   rintro e L ⟨rfl,X⟩
   have HB:Hid (Below j w L):=(H.out.back V.out.from).trans X
   have J:Hid (zb1 C x o q= .error p):=bdE Y.out E
   unfold Pan
   go_wp2
   refine⟨rfl,?_⟩
   rw[J.out]
   exact⟨rfl,HB.out⟩
  |ok a2=>
   rintro e L ⟨rfl,O,m,s⟩
   have M:=zc m
   have I:Hid (IS D S (w.alloc (.cells #[.int .i64 x.kind,.int .i64 x.num,.string x.name,.string x.field,.int .i64 x.l,.int .i64 x.r] 81)) O L):=V.out.trans s
   have ad:Hid (L.heap[w.heap.size]? =some (.cells #[.int .i64 x.kind,.int .i64 x.num,.string x.name,.string x.field,.int .i64 x.l,.int .i64 x.r] 81 (0,0))):=IS.kept H.out I.out rfl
   have ae:Hid (a2=adv (adv q)):=(zbh E).1
   have ab:Hid (¬O.has w.heap.size):=IS.free H.out I.out
   have ai:D<w.heap.size:=H.out.lt
   have ah:K<w.heap.size:=(zan H.out.mem.tok).1
   clear m s
   have Z:=zc (bdO Y.out E)
   obtain⟨b0,b1,b2,b3,b4,b5,bf⟩:=zC ad.out
   go_wp2_with fail
   refine (zeW C K z j D O a2 ⟨o,x.num,x.name,x.field,x.l,x.r⟩ _ (M.out.set (by omega) (by omega) ab.out _ _) (by rw[ae.out];show 0<q.pos+1+1;omega)).mono ?_
   cases U:zJ C ⟨o,x.num,x.name,x.field,x.l,x.r⟩ a2 with
   |error p=>
    rintro e w3 ⟨rfl,X⟩
    have HB:Hid (Below j w w3):=(H.out.back (I.out.from.new (Nat.le_refl _) _ _)).trans X
    have J:Hid (zb1 C x o q= .error p):=Z.out.trans U
    unfold Pan
    go_wp2
    refine⟨rfl,?_⟩
    rw[J.out]
    exact⟨rfl,HB.out⟩
   |ok a3=>
    rintro e w3 ⟨rfl,S3,m,s⟩
    have aa:=zc m
    have ag:Hid (IS D S w S3 w3):=(I.out.from.new (Nat.le_refl _) _ _).trans s
    clear m s
    have J:=zc (Z.out.trans U)
    go_wp2
    go_ret
    rw[J.out]
    exact⟨rfl,S3,aa.out,ag.out⟩
def exI (q:PS):Value:=.int .i64 ((q.ex.length:Int)-1)
def zfH (C:Cx) (gt cap base gp m:Nat):Prop:=∀(d:Nat) (S:Sv) (q:PS) (w:World),C.ts.length-q.pos<m→d≤20→IM C gt cap base gp S q w→
 Calls Tryz.prog 124 #[.pointer (some ⟨gp,0,none⟩),.int .i64 d] w (zT C gt cap base gp (pE C .sum d q) id exI S w)
theorem zjU (C:Cx) (n:ByteArray) (q:PS):zau C n q=zb1 C ⟨2,0,n,sNone,0,0⟩ 3 q:=by
 unfold zau zb1
 cases j:isT C q.pos 4 cOpen with
 |true=>rw[zcd j];rfl
 |false=>rfl
theorem zo8 (C:Cx) (n f:ByteArray) (q:PS):za5 C n f q=zb1 C ⟨4,0,n,f,0,0⟩ 5 q:=by
 unfold za5 zb1
 cases j:isT C q.pos 4 cOpen with
 |true=>rw[zcd j];rfl
 |false=>rfl
theorem zo9 {x y:ByteArray} (h:(x.toList==y.toList)=true):x=y:=by
 rw[beq_iff_eq,Lib.toList_data,Lib.toList_data] at h
 cases x
 cases y
 simp only at h
 rw[Array.toList_inj.1 h]
theorem zhT {C:Cx} {i:Nat} {k:Int} {x:ByteArray} (h:isT C i k x=true):(zf C i).text=x:=by
 simp only[isT,Bool.and_eq_true] at h
 exact zo9 h.2
theorem zgB {C:Cx} {i:Nat} {k:Int} {x:ByteArray} (h:isT C i k x=true):((zf C i).kind==k)=true:=by
 simp only[isT,Bool.and_eq_true] at h
 exact h.1
theorem zoA {C:Cx} {d:Nat} {q:PS} (h:((zf C q.pos).kind==2)=true):pE C .part d q=zJ C ⟨1,(zf C q.pos).num,sNone,sNone,0,0⟩ (adv q):=by rw[zby,h];rfl
theorem zoB {C:Cx} {d:Nat} {q:PS} (h:((zf C q.pos).kind==2)=false) (j:isT C q.pos 4 cOpen=true) (hd:20≤d):pE C .part d q= .error (zu C q.pos):=by rw[zby,h,j,if_neg (by decide),if_pos rfl,if_pos hd]
theorem zoC {C:Cx} {d:Nat} {q:PS} (h:((zf C q.pos).kind==2)=false) (j:isT C q.pos 4 cOpen=true) (hd: ¬20≤d):pE C .part d q=bd (pE C .sum (d+1) (adv q)) (zd C 4 zU):=by rw[zby,h,j,if_neg (by decide),if_pos rfl,if_neg hd]
theorem zoD {C:Cx} {d:Nat} {q:PS} (h:((zf C q.pos).kind==2)=false) (z:isT C q.pos 4 cOpen=false) (o:C.scr=true) (j:isT C q.pos 1 sUndef=true):pE C .part d q=zb1 C ⟨2,0,sUndef,sNone,0,0⟩ 3 (adv q):=by
 rw[zby,h,z,o,j,if_neg (by decide),if_neg (by decide),if_pos (by decide),zjU]
theorem zjV {C:Cx} {d:Nat} {q:PS} (h:((zf C q.pos).kind==2)=false) (o:isT C q.pos 4 cOpen=false) (j:(C.scr&&isT C q.pos 1 sUndef)=false):
  pE C .part d q=bd (zk C false q) fun x=>if isT C x.1.pos 4 cPoint then bd (zk C true (adv x.1)) fun y=>zb1 C ⟨4,0,x.2,y.2,0,0⟩ 5 y.1 else zb1 C ⟨2,0,x.2,sNone,0,0⟩ 3 x.1:=by
 rw[zby,h,o,j,if_neg (by decide),if_neg (by decide),if_neg (by decide)]
 simp only[zjU,zo8]
theorem zoE (C:Cx) (D o j z d:Nat) (S:Sv) (q:PS) (w:World) (h:IM C D o j z S q w) (V:((zf C q.pos).kind==2)=true):
  Calls Tryz.prog 148 #[.pointer (some ⟨z,0,none⟩),.int .i64 d] w (zT C D o j z (pE C .part d q) id exI S w):=by
 have M:=zc h
 have aa:=zcV
 have ab:=zcF
 have ac:=zeS
 clear h
 have X:=zc (zoA (d:=d) V)
 go_enter Tryz.func148,Tryz.ntmps148
 go_wp2_with fail
 refine (zbD C D o j z S q _ M.out).mono ?_
 rintro e Z ⟨rfl,H⟩
 unfold tkV
 have Q:Hid (IM C D o j z S q Z):=M.out.later H
 have K:Hid (IS z S w S Z):=IS.below H
 clear H
 go_wp2_with fail
 refine (zel C D o j z S q 2 _ Q.out V (by decide)).mono ?_
 rintro e w2 ⟨rfl,m,s⟩
 have N:=zc m
 have I:Hid (IS z S w S w2):=K.out.trans s
 clear m s
 unfold tkV
 go_wp2_with fail
 refine (zeW C D o j z S (adv q) ⟨1,(zf C q.pos).num,sNone,sNone,0,0⟩ _ N.out (by rw[zz];omega)).mono ?_
 cases E:zJ C ⟨1,(zf C q.pos).num,sNone,sNone,0,0⟩ (adv q) with
 |error p=>
  rintro e J ⟨rfl,H⟩
  have HB:Hid (Below j w J):=(M.out.back I.out).trans H
  have HX:Hid (pE C .part d q= .error p):=X.out.trans E
  unfold Pan
  go_wp2
  refine⟨rfl,?_⟩
  rw[HX.out]
  exact⟨rfl,HB.out⟩
 |ok a3=>
  rintro e J ⟨rfl,Y,m,s⟩
  have L:=zc m
  have U:Hid (IS z S w Y J):=I.out.trans s
  clear m s
  have O:=zc (X.out.trans E)
  go_wp2
  go_ret
  rw[O.out]
  exact⟨rfl,Y,L.out,U.out⟩
theorem zoF (C:Cx) (D o j z d:Nat) (S:Sv) (q:PS) (w:World) (h:IM C D o j z S q w) (X:((zf C q.pos).kind==2)=false) (M:isT C q.pos 4 cOpen=true) (hd:20≤d):
  Calls Tryz.prog 148 #[.pointer (some ⟨z,0,none⟩),.int .i64 d] w (zT C D o j z (pE C .part d q) id exI S w):=by
 have J:=zc h
 have O:=zcV
 have Q:=zcF
 have V:=zeS
 clear h
 have HY:=zc (zoB (d:=d) X M hd)
 have Y:(20:Int)≤(d:Int):=by omega
 go_enter Tryz.func148,Tryz.ntmps148
 go_wp2_with fail
 refine (zbD C D o j z S q _ J.out).mono ?_
 rintro e N ⟨rfl,E⟩
 unfold tkV
 have K:Hid (IM C D o j z S q N):=J.out.later E
 have I:Hid (IS z S w S N):=IS.below E
 clear E
 go_wp2_with fail
 refine (zP C D o j z S q 4 cOpen _ K.out (by decide)).mono ?_
 rintro e w2 ⟨rfl,m,s⟩
 rw[M] at m ⊢
 have H:=zc m
 have L:Hid (IS z S w S w2):=I.out.trans s
 clear m s
 go_wp2_with fail
 refine (zeV C D o j z S (adv q) d 20 _ H.out (by omega) (by rw[zz];omega)).mono ?_
 rintro e U ⟨rfl,E⟩
 have HB:Hid (Below j w U):=(J.out.back L.out).trans (E.mono H.out.mem.base)
 have Z:Hid (pE C .part d q= .error (zu C q.pos)):=HY.out
 unfold Pan
 go_wp2
 refine⟨rfl,?_⟩
 rw[Z.out]
 exact⟨rfl,HB.out⟩
theorem zoG (C:Cx) (D o j z m d:Nat) (S:Sv) (q:PS) (w:World) (h:IM C D o j z S q w) (hk:((zf C q.pos).kind==2)=false) (X:isT C q.pos 4 cOpen=true) (hd:d<20) (hS:zfH C D o j z m) (hm:C.ts.length-q.pos≤m):
  Calls Tryz.prog 148 #[.pointer (some ⟨z,0,none⟩),.int .i64 d] w (zT C D o j z (pE C .part d q) id exI S w):=by
 have O:=zc h
 have af:=zcV
 have ag:=zcF
 have ai:=zeS
 clear h
 have HY:=zc (zoC (d:=d) hk X (by omega))
 have aj: ¬(20:Int)≤(d:Int):=by omega
 have ah:=za1 X (by decide)
 obtain⟨I,L⟩: ∃I:Nat,I=d+1:=⟨_,rfl⟩
 have ed:(d:Int)+1=(I:Int):=by omega
 rw[←L] at HY
 have ab:I≤20:=by omega
 clear L
 go_enter Tryz.func148,Tryz.ntmps148
 go_wp2_with fail
 refine (zbD C D o j z S q _ O.out).mono ?_
 rintro e w1 ⟨rfl,E⟩
 unfold tkV
 have ae:Hid (IM C D o j z S q w1):=O.out.later E
 have Y:Hid (IS z S w S w1):=IS.below E
 clear E
 go_wp2_with fail
 refine (zP C D o j z S q 4 cOpen _ ae.out (by decide)).mono ?_
 rintro e w2 ⟨rfl,m,s⟩
 rw[X] at m ⊢
 have aa:=zc m
 have M:Hid (IS z S w S w2):=Y.out.trans s
 clear m s
 go_wp2_with fail
 refine (zem z d 20 _ (by omega)).mono ?_
 rintro e w' ⟨rfl,hw⟩
 rw[hw]
 clear hw w'
 go_wp2_with fail
 refine (hS I S (adv q) _ (by rw[zz];omega) ab aa.out).mono ?_
 cases J:pE C .sum I (adv q) with
 |error p=>
  rintro e V ⟨rfl,E⟩
  have HB:Hid (Below j w V):=(O.out.back M.out).trans E
  have HX:Hid (pE C .part d q= .error p):=bdE HY.out J
  unfold Pan
  go_wp2
  refine⟨rfl,?_⟩
  rw[HX.out]
  exact⟨rfl,HB.out⟩
 |ok U=>
  rintro e V ⟨rfl,S3,m,s⟩
  have Z:=zc m
  have N:Hid (IS z S w S3 V):=M.out.trans s
  clear m s
  have K:=zc (bdO HY.out J)
  unfold exI
  go_wp2_with fail
  refine (zcw C D o j z S3 U 41 _ Z.out).mono ?_
  cases H:zd C 4 zU U with
  |error p=>
   rintro e w4 ⟨rfl,E⟩
   have HB:Hid (Below j w w4):=(O.out.back N.out).trans E
   have HX:Hid (pE C .part d q= .error p):=K.out.trans H
   unfold Pan
   go_wp2
   refine⟨rfl,?_⟩
   rw[HX.out]
   exact⟨rfl,HB.out⟩
  |ok a4=>
   rintro e w4 ⟨rfl,S4,m,s⟩
   have Q:=zc m
   have ad:Hid (IS z S w S4 w4):=N.out.trans s
   clear m s
   have ac:=zc (K.out.trans H)
   have HP:Hid (a4=adv U):=(zbh H).1
   go_wp2
   go_ret
   rw[ac.out]
   exact⟨by rw[HP.out];rfl,S4,Q.out,ad.out⟩
theorem zoH (C:Cx) (D o j z d:Nat) (S:Sv) (q:PS) (w:World) (h:IM C D o j z S q w) (hk:((zf C q.pos).kind==2)=false) (h1:isT C q.pos 4 cOpen=false) (h2:C.scr=true) (K:isT C q.pos 1 sUndef=true):
  Calls Tryz.prog 148 #[.pointer (some ⟨z,0,none⟩),.int .i64 d] w (zT C D o j z (pE C .part d q) id exI S w):=by
 have V:=zc h
 have ab:=zcV
 have ac:=zcF
 have ad:=zeS
 clear h
 have HY:=zc (zoD (d:=d) hk h1 h2 K)
 go_enter Tryz.func148,Tryz.ntmps148
 go_wp2_with fail
 refine (zbD C D o j z S q _ V.out).mono ?_
 rintro e w1 ⟨rfl,E⟩
 unfold tkV
 have Y:Hid (IM C D o j z S q w1):=V.out.later E
 have M:Hid (IS z S w S w1):=IS.below E
 clear E
 go_wp2_with fail
 refine (zP C D o j z S q 4 cOpen _ Y.out (by decide)).mono ?_
 rintro e w2 ⟨rfl,m,s⟩
 rw[h1] at m ⊢
 have H:=zc m
 have Z:Hid (IS z S w S w2):=M.out.trans s
 clear m s
 obtain⟨_,_,_,c3,_,_,_,_,_,_,cf⟩:=zag H.out.cells
 rw[h2] at c3
 go_wp2_with fail
 refine (zco C D o j z S q 1 sUndef _ H.out).mono ?_
 rintro e w3 ⟨rfl,E⟩
 rw[K]
 have O:Hid (IM C D o j z S q w3):=H.out.later E
 have aa:Hid (IS z S w S w3):=(Z.out.trans (IS.below E))
 clear E
 go_wp2_with fail
 refine (zel C D o j z S q 1 _ O.out (zgB K) (by decide)).mono ?_
 rintro e w4 ⟨rfl,m,s⟩
 have L:=zc m
 have J:Hid (IS z S w S w4):=aa.out.trans s
 clear m s
 unfold tkV
 rw[zhT K]
 go_wp2_with fail
 refine (zfG C D o j z S (adv q) ⟨2,0,sUndef,sNone,0,0⟩ 3 _ L.out (by rw[zz];omega)).mono ?_
 cases I:zb1 C ⟨2,0,sUndef,sNone,0,0⟩ 3 (adv q) with
 |error p=>
  rintro e X ⟨rfl,E⟩
  have HB:Hid (Below j w X):=(V.out.back J.out).trans E
  have HX:Hid (pE C .part d q= .error p):=HY.out.trans I
  unfold Pan
  go_wp2
  refine⟨rfl,?_⟩
  rw[HX.out]
  exact⟨rfl,HB.out⟩
 |ok a5=>
  rintro e X ⟨rfl,S5,m,s⟩
  have Q:=zc m
  have N:Hid (IS z S w S5 X):=J.out.trans s
  clear m s
  have U:=zc (HY.out.trans I)
  go_wp2
  go_ret
  rw[U.out]
  exact⟨rfl,S5,Q.out,N.out⟩
theorem zoI (C:Cx) (E o j z d:Nat) (S:Sv) (q:PS) (w:World) (h:IM C E o j z S q w) (hk:((zf C q.pos).kind==2)=false) (h1:isT C q.pos 4 cOpen=false) (h2:C.scr=true) (h3:isT C q.pos 1 sUndef=false):
  Calls Tryz.prog 148 #[.pointer (some ⟨z,0,none⟩),.int .i64 d] w (zT C E o j z (pE C .part d q) id exI S w):=by
 have Z:=zc h
 have an:=zcV
 have ao:=zcF
 have ap:=zeS
 clear h
 have HY:=zc (zjV (d:=d) hk h1 (by rw[h2,h3];rfl))
 go_enter Tryz.func148,Tryz.ntmps148
 go_wp2_with fail
 refine (zbD C E o j z S q _ Z.out).mono ?_
 rintro e w1 ⟨rfl,D⟩
 unfold tkV
 have ak:Hid (IM C E o j z S q w1):=Z.out.later D
 have ag:Hid (IS z S w S w1):=IS.below D
 clear D
 go_wp2_with fail
 refine (zP C E o j z S q 4 cOpen _ ak.out (by decide)).mono ?_
 rintro e w2 ⟨rfl,m,s⟩
 rw[h1] at m ⊢
 have O:=zc m
 have am:Hid (IS z S w S w2):=ag.out.trans s
 clear m s
 obtain⟨_,_,_,c3,_,_,_,_,_,_,cf⟩:=zag O.out.cells
 rw[h2] at c3
 go_wp2_with fail
 refine (zco C E o j z S q 1 sUndef _ O.out).mono ?_
 rintro e w3 ⟨rfl,D⟩
 rw[h3]
 have ai:Hid (IM C E o j z S q w3):=O.out.later D
 have af:Hid (IS z S w S w3):=(am.out.trans (IS.below D))
 clear D
 go_wp2_with fail
 refine (zd1 C E o j z S q _ ai.out).mono ?_
 cases Q:zk C false q with
 |error p=>
  rintro e w4 ⟨rfl,D⟩
  have X:Hid (Below j w w4):=(Z.out.back af.out).trans D
  have U:Hid (pE C .part d q= .error p):=bdE HY.out Q
  unfold Pan
  go_wp2
  refine⟨rfl,?_⟩
  rw[U.out]
  exact⟨rfl,X.out⟩
 |ok I=>
  rintro e w4 ⟨rfl,N,m,s⟩
  have aa:=zc m
  have ac:Hid (IS z S w N w4):=af.out.trans s
  clear m s
  have ab:=zc (bdO HY.out Q)
  have ae:0<I.1.pos:=by rw[(zaX Q).1];exact Nat.succ_pos _
  cases hd:isT C I.1.pos 4 cPoint with
  |true=>
   have HZ:=zc (ab.out.trans (if_pos hd))
   go_wp2_with fail
   refine (zP C E o j z N (I.1) 4 cPoint _ aa.out (by decide)).mono ?_
   rintro e w5 ⟨rfl,m,s⟩
   rw[hd] at m ⊢
   have M:=zc m
   have J:Hid (IS z S w N w5):=ac.out.trans s
   clear m s
   go_wp2_with fail
   refine (zfB C E o j z N (adv (I.1)) _ M.out).mono ?_
   cases H:zk C true (adv (I.1)) with
   |error p=>
    rintro e V ⟨rfl,D⟩
    have X:Hid (Below j w V):=(Z.out.back J.out).trans D
    have U:Hid (pE C .part d q= .error p):=bdE HZ.out H
    unfold Pan
    go_wp2
    refine⟨rfl,?_⟩
    rw[U.out]
    exact⟨rfl,X.out⟩
   |ok a6=>
    rintro e V ⟨rfl,S6,m,s⟩
    have Y:=zc m
    have L:Hid (IS z S w S6 V):=J.out.trans s
    clear m s
    have K:=zc (bdO HZ.out H)
    go_wp2_with fail
    refine (zfG C E o j z S6 (a6.1) ⟨4,0,I.2,a6.2,0,0⟩ 5 _ Y.out (by rw[(zaX H).1];exact Nat.succ_pos _)).mono ?_
    cases ad:zb1 C ⟨4,0,I.2,a6.2,0,0⟩ 5 (a6.1) with
    |error p=>
     rintro e w7 ⟨rfl,D⟩
     have X:Hid (Below j w w7):=(Z.out.back L.out).trans D
     have U:Hid (pE C .part d q= .error p):=K.out.trans ad
     unfold Pan
     go_wp2
     refine⟨rfl,?_⟩
     rw[U.out]
     exact⟨rfl,X.out⟩
    |ok a7=>
     rintro e w7 ⟨rfl,S7,m,s⟩
     have ah:=zc m
     have aj:Hid (IS z S w S7 w7):=L.out.trans s
     clear m s
     have al:=zc (K.out.trans ad)
     go_wp2
     go_ret
     rw[al.out]
     exact⟨rfl,S7,ah.out,aj.out⟩
  |false=>
   have HZ:=zc (ab.out.trans (if_neg (by rw[hd];decide)))
   go_wp2_with fail
   refine (zP C E o j z N (I.1) 4 cPoint _ aa.out (by decide)).mono ?_
   rintro e w5 ⟨rfl,m,s⟩
   rw[hd] at m ⊢
   have M:=zc m
   have J:Hid (IS z S w N w5):=ac.out.trans s
   clear m s
   go_wp2_with fail
   refine (zfG C E o j z N (I.1) ⟨2,0,I.2,sNone,0,0⟩ 3 _ M.out ae).mono ?_
   cases H:zb1 C ⟨2,0,I.2,sNone,0,0⟩ 3 (I.1) with
   |error p=>
    rintro e V ⟨rfl,D⟩
    have X:Hid (Below j w V):=(Z.out.back J.out).trans D
    have U:Hid (pE C .part d q= .error p):=HZ.out.trans H
    unfold Pan
    go_wp2
    refine⟨rfl,?_⟩
    rw[U.out]
    exact⟨rfl,X.out⟩
   |ok a6=>
    rintro e V ⟨rfl,S6,m,s⟩
    have Y:=zc m
    have L:Hid (IS z S w S6 V):=J.out.trans s
    clear m s
    have K:=zc (HZ.out.trans H)
    go_wp2
    go_ret
    rw[K.out]
    exact⟨rfl,S6,Y.out,L.out⟩
theorem zoJ (C:Cx) (H o j z d:Nat) (S:Sv) (q:PS) (w:World) (h:IM C H o j z S q w) (hk:((zf C q.pos).kind==2)=false) (h1:isT C q.pos 4 cOpen=false) (h2:C.scr=false):
  Calls Tryz.prog 148 #[.pointer (some ⟨z,0,none⟩),.int .i64 d] w (zT C H o j z (pE C .part d q) id exI S w):=by
 have Y:=zc h
 have am:=zcV
 have an:=zcF
 have ao:=zeS
 clear h
 have HY:=zc (zjV (d:=d) hk h1 (by rw[h2];rfl))
 go_enter Tryz.func148,Tryz.ntmps148
 go_wp2_with fail
 refine (zbD C H o j z S q _ Y.out).mono ?_
 rintro e w1 ⟨rfl,I⟩
 unfold tkV
 have ak:Hid (IM C H o j z S q w1):=Y.out.later I
 have ai:Hid (IS z S w S w1):=IS.below I
 clear I
 go_wp2_with fail
 refine (zP C H o j z S q 4 cOpen _ ak.out (by decide)).mono ?_
 rintro e w2 ⟨rfl,m,s⟩
 rw[h1] at m ⊢
 have ab:=zc m
 have af:Hid (IS z S w S w2):=ai.out.trans s
 clear m s
 obtain⟨_,_,_,c3,_,_,_,_,_,_,cf⟩:=zag ab.out.cells
 rw[h2] at c3
 go_wp2_with fail
 refine (zd1 C H o j z S q _ ab.out).mono ?_
 cases N:zk C false q with
 |error p=>
  rintro e w3 ⟨rfl,I⟩
  have V:Hid (Below j w w3):=(Y.out.back af.out).trans I
  have Q:Hid (pE C .part d q= .error p):=bdE HY.out N
  unfold Pan
  go_wp2
  refine⟨rfl,?_⟩
  rw[Q.out]
  exact⟨rfl,V.out⟩
 |ok E=>
  rintro e w3 ⟨rfl,X,m,s⟩
  have aa:=zc m
  have ag:Hid (IS z S w X w3):=af.out.trans s
  clear m s
  have ac:=zc (bdO HY.out N)
  have ae:0<E.1.pos:=by rw[(zaX N).1];exact Nat.succ_pos _
  cases hd:isT C E.1.pos 4 cPoint with
  |true=>
   have HZ:=zc (ac.out.trans (if_pos hd))
   go_wp2_with fail
   refine (zP C H o j z X (E.1) 4 cPoint _ aa.out (by decide)).mono ?_
   rintro e w4 ⟨rfl,m,s⟩
   rw[hd] at m ⊢
   have M:=zc m
   have J:Hid (IS z S w X w4):=ag.out.trans s
   clear m s
   go_wp2_with fail
   refine (zfB C H o j z X (adv (E.1)) _ M.out).mono ?_
   cases D:zk C true (adv (E.1)) with
   |error p=>
    rintro e U ⟨rfl,I⟩
    have V:Hid (Below j w U):=(Y.out.back J.out).trans I
    have Q:Hid (pE C .part d q= .error p):=bdE HZ.out D
    unfold Pan
    go_wp2
    refine⟨rfl,?_⟩
    rw[Q.out]
    exact⟨rfl,V.out⟩
   |ok Z=>
    rintro e U ⟨rfl,S5,m,s⟩
    have O:=zc m
    have K:Hid (IS z S w S5 U):=J.out.trans s
    clear m s
    have L:=zc (bdO HZ.out D)
    go_wp2_with fail
    refine (zfG C H o j z S5 (Z.1) ⟨4,0,E.2,Z.2,0,0⟩ 5 _ O.out (by rw[(zaX D).1];exact Nat.succ_pos _)).mono ?_
    cases ad:zb1 C ⟨4,0,E.2,Z.2,0,0⟩ 5 (Z.1) with
    |error p=>
     rintro e w6 ⟨rfl,I⟩
     have V:Hid (Below j w w6):=(Y.out.back K.out).trans I
     have Q:Hid (pE C .part d q= .error p):=L.out.trans ad
     unfold Pan
     go_wp2
     refine⟨rfl,?_⟩
     rw[Q.out]
     exact⟨rfl,V.out⟩
    |ok a6=>
     rintro e w6 ⟨rfl,S6,m,s⟩
     have al:=zc m
     have aj:Hid (IS z S w S6 w6):=K.out.trans s
     clear m s
     have ah:=zc (L.out.trans ad)
     go_wp2
     go_ret
     rw[ah.out]
     exact⟨rfl,S6,al.out,aj.out⟩
  |false=>
   have HZ:=zc (ac.out.trans (if_neg (by rw[hd];decide)))
   go_wp2_with fail
   refine (zP C H o j z X (E.1) 4 cPoint _ aa.out (by decide)).mono ?_
   rintro e w4 ⟨rfl,m,s⟩
   rw[hd] at m ⊢
   have M:=zc m
   have J:Hid (IS z S w X w4):=ag.out.trans s
   clear m s
   go_wp2_with fail
   refine (zfG C H o j z X (E.1) ⟨2,0,E.2,sNone,0,0⟩ 3 _ M.out ae).mono ?_
   cases D:zb1 C ⟨2,0,E.2,sNone,0,0⟩ 3 (E.1) with
   |error p=>
    rintro e U ⟨rfl,I⟩
    have V:Hid (Below j w U):=(Y.out.back J.out).trans I
    have Q:Hid (pE C .part d q= .error p):=HZ.out.trans D
    unfold Pan
    go_wp2
    refine⟨rfl,?_⟩
    rw[Q.out]
    exact⟨rfl,V.out⟩
   |ok Z=>
    rintro e U ⟨rfl,S5,m,s⟩
    have O:=zc m
    have K:Hid (IS z S w S5 U):=J.out.trans s
    clear m s
    have L:=zc (HZ.out.trans D)
    go_wp2
    go_ret
    rw[L.out]
    exact⟨rfl,S5,O.out,K.out⟩
theorem zjW (C:Cx) (D o j z m d:Nat) (S:Sv) (q:PS) (w:World) (h:IM C D o j z S q w) (hd:d≤20) (M:zfH C D o j z m) (L:C.ts.length-q.pos≤m):
  Calls Tryz.prog 148 #[.pointer (some ⟨z,0,none⟩),.int .i64 d] w (zT C D o j z (pE C .part d q) id exI S w):=by
 cases E:((zf C q.pos).kind==2) with
 |true=>exact zoE C D o j z d S q w h E
 |false=>
  cases H:isT C q.pos 4 cOpen with
  |true=>
   by_cases J:20≤d
   ·exact zoF C D o j z d S q w h E H J
   ·exact zoG C D o j z m d S q w h E H (by omega) M L
  |false=>
   cases I:C.scr with
   |true=>
    cases K:isT C q.pos 1 sUndef with
    |true=>exact zoH C D o j z d S q w h E H I K
    |false=>exact zoI C D o j z d S q w h E H I K
   |false=>exact zoJ C D o j z d S q w h E H I
theorem zoK {C:Cx} {d:Nat} {q:PS} (h:isT C q.pos 4 zp=false):pE C .prodT d q= .ok q:=by rw[zeK,if_neg (by rw[h];decide)]
theorem zoL {C:Cx} {d:Nat} {q:PS} (h:isT C q.pos 4 zp=true):pE C .prodT d q=bd (pE C .part d (adv q)) fun a=>bd (zJ C ⟨8,0,sNone,sNone,(q.ex.length:Int)-1,(a.ex.length:Int)-1⟩ a) (pE C .prodT d):=by rw[zeK,if_pos h,zR]
theorem zoM {C:Cx} {d:Nat} {q:PS} (h:isT C q.pos 4 zaI=false) (j:isT C q.pos 4 zbq=false):pE C .sumT d q= .ok q:=by rw[zee,if_neg (by rw[h,j];decide)]
theorem zoN {C:Cx} {d:Nat} {q:PS} (h:isT C q.pos 4 zaI=true):pE C .sumT d q=bd (pE C .prod d (adv q)) fun a=>bd (zJ C ⟨7,0,sNone,sNone,(q.ex.length:Int)-1,(a.ex.length:Int)-1⟩ a) (pE C .sumT d):=by
 rw[zee,if_pos (by rw[h];exact Bool.or_true _),zR,zbw,if_pos h]
theorem zoO {C:Cx} {d:Nat} {q:PS} (h:isT C q.pos 4 zaI=false) (j:isT C q.pos 4 zbq=true):pE C .sumT d q=bd (pE C .prod d (adv q)) fun a=>bd (zJ C ⟨6,0,sNone,sNone,(q.ex.length:Int)-1,(a.ex.length:Int)-1⟩ a) (pE C .sumT d):=by
 rw[zee,if_pos (by rw[j];rfl),zR,zbw,if_neg (by rw[h];decide)]
theorem zhU (C:Cx) (H o j z m d:Nat) (S:Sv) (q:PS) (w:World) (h:IM C H o j z S q w) (hd:d≤20) (hS:zfH C H o j z m) (hm:C.ts.length-q.pos≤m):
  Calls Tryz.prog 142 #[.pointer (some ⟨z,0,none⟩),.int .i64 d] w (zT C H o j z (pE C .prod d q) id exI S w):=by
 have HH:=zc h
 have HY:=zc (zf4 C d q)
 clear h
 go_enter Tryz.func142,Tryz.ntmps142
 go_wp2_with fail
 refine (zjW C H o j z m d S q _ HH.out hd hS hm).mono ?_
 cases J:pE C .part d q with
 |error p=>
  rintro e w1 ⟨rfl,O⟩
  have HB:Hid (Below j w w1):=(HH.out.back (IS.refl _ _ _)).trans O
  have V:Hid (pE C .prod d q= .error p):=bdE HY.out J
  unfold Pan
  go_wp2
  refine⟨rfl,?_⟩
  rw[V.out]
  exact⟨rfl,HB.out⟩
 |ok a1=>
  rintro e w1 ⟨rfl,S1,m,s⟩
  have aj:=zc m
  have ad:=zc s
  clear m s
  have af:=zc (bdO HY.out J)
  unfold exI
  have am:=zbr J
  go_wp2
  go_loopg [5] (C.ts.length+1) (fun k l wr=>∃(E:Sv) (D:PS),l=exI D∧pE C .prod d q=pE C .prodT d D∧C.ts.length-D.pos<k∧C.ts.length-D.pos≤m∧IM C H o j z E D wr∧IS z S w E wr)
  case atStart=>exact⟨S1,a1,rfl,af.out,by omega,by omega,aj.out,ad.out⟩
  case round=>
   obtain⟨E,D,rfl,hy,hk,al,m',s'⟩:=hrel
   have Y:=zc hy
   have Z:Hid (IM C H o j z E D wr):=m'
   have ab:Hid (IS z S w E wr):=s'
   clear hy m' s'
   unfold exI
   cases U:isT C D.pos 4 zp with
   |false=>
    have HZ:=zc (Y.out.trans (zoK U))
    go_wp2_with fail
    refine (zP C H o j z E D 4 zp _ Z.out (by decide)).mono ?_
    rintro e w2 ⟨rfl,m,s⟩
    rw[U] at m ⊢
    have L:=zc m
    have I:Hid (IS z S w E w2):=ab.out.trans s
    clear m s
    go_wp2
    go_ret
    rw[HZ.out]
    exact⟨rfl,E,L.out,I.out⟩
   |true=>
    have ak:=za1 U (by decide)
    have HZ:=zc (Y.out.trans (zoL U))
    go_wp2_with fail
    refine (zP C H o j z E D 4 zp _ Z.out (by decide)).mono ?_
    rintro e w2 ⟨rfl,m,s⟩
    rw[U] at m ⊢
    have L:=zc m
    have I:Hid (IS z S w E w2):=ab.out.trans s
    clear m s
    go_wp2_with fail
    refine (zjW C H o j z m d E (adv D) _ L.out hd hS (by rw[zz];omega)).mono ?_
    cases K:pE C .part d (adv D) with
    |error p=>
     rintro e w3 ⟨rfl,O⟩
     have HB:Hid (Below j w w3):=(HH.out.back I.out).trans O
     have V:Hid (pE C .prod d q= .error p):=bdE HZ.out K
     unfold Pan
     go_wp2
     refine⟨rfl,?_⟩
     rw[V.out]
     exact⟨rfl,HB.out⟩
    |ok N=>
     rintro e w3 ⟨rfl,S3,m,s⟩
     have ae:=zc m
     have aa:Hid (IS z S w S3 w3):=I.out.trans s
     clear m s
     have Q:=zc (bdO HZ.out K)
     unfold exI
     have X:=zbr K
     rw[zz] at X
     have ai:0<N.pos:=by omega
     go_wp2_with fail
     refine (zeW C H o j z S3 N ⟨8,0,sNone,sNone,(D.ex.length:Int)-1,(N.ex.length:Int)-1⟩ _ ae.out ai).mono ?_
     cases M:zJ C ⟨8,0,sNone,sNone,(D.ex.length:Int)-1,(N.ex.length:Int)-1⟩ N with
     |error p=>
      rintro e w4 ⟨rfl,O⟩
      have HB:Hid (Below j w w4):=(HH.out.back aa.out).trans O
      have V:Hid (pE C .prod d q= .error p):=bdE Q.out M
      unfold Pan
      go_wp2
      refine⟨rfl,?_⟩
      rw[V.out]
      exact⟨rfl,HB.out⟩
     |ok a4=>
      rintro e w4 ⟨rfl,S4,m,s⟩
      have ac:=zc m
      have ah:Hid (IS z S w S4 w4):=aa.out.trans s
      clear m s
      have ag:=zc (bdO Q.out M)
      have HP:Hid (a4.pos=N.pos):=by show _=_;rw[(zbx M).1]
      go_wp2
      go_roundg (gk-1)
      case rel=>exact⟨S4,a4,rfl,ag.out,by have:=HP.out;omega,by have:=HP.out;omega,ac.out,ah.out⟩
      case measure=>omega
theorem zoP (C:Cx) (I o j z m d:Nat) (S:Sv) (q:PS) (w:World) (h:IM C I o j z S q w) (hd:d≤20) (hS:zfH C I o j z m) (hm:C.ts.length-q.pos≤m):
  Calls Tryz.prog 124 #[.pointer (some ⟨z,0,none⟩),.int .i64 d] w (zT C I o j z (pE C .sum d q) id exI S w):=by
 have HH:=zc h
 have HY:=zc (zh9 C d q)
 clear h
 go_enter Tryz.func124,Tryz.ntmps124
 go_wp2_with fail
 refine (zhU C I o j z m d S q _ HH.out hd hS hm).mono ?_
 cases ab:pE C .prod d q with
 |error p=>
  rintro e w1 ⟨rfl,E⟩
  have HB:Hid (Below j w w1):=(HH.out.back (IS.refl _ _ _)).trans E
  have HX:Hid (pE C .sum d q= .error p):=bdE HY.out ab
  unfold Pan
  go_wp2
  refine⟨rfl,?_⟩
  rw[HX.out]
  exact⟨rfl,HB.out⟩
 |ok a1=>
  rintro e w1 ⟨rfl,S1,m,s⟩
  have ao:=zc m
  have al:=zc s
  clear m s
  have am:=zc (bdO HY.out ab)
  unfold exI
  have au:=zbr ab
  go_wp2
  go_loopg [5] (C.ts.length+1) (fun k l wr=>∃(H:Sv) (D:PS),l=exI D∧pE C .sum d q=pE C .sumT d D∧C.ts.length-D.pos<k∧C.ts.length-D.pos≤m∧IM C I o j z H D wr∧IS z S w H wr)
  case atStart=>exact⟨S1,a1,rfl,am.out,by omega,by omega,ao.out,al.out⟩
  case round=>
   obtain⟨H,D,rfl,hy,hk,ar,m',s'⟩:=hrel
   have ah:=zc hy
   have L:Hid (IM C I o j z H D wr):=m'
   have ai:Hid (IS z S w H wr):=s'
   clear hy m' s'
   unfold exI
   have aq:=L.out.mem.few
   cases hi:isT C D.pos 4 zaI with
   |true=>
    have ac:=za1 hi (by decide)
    have HZ:=zc (ah.out.trans (zoN hi))
    go_wp2_with fail
    refine (zco C I o j z H D 4 zaI _ L.out).mono ?_
    rintro e V ⟨rfl,E⟩
    rw[hi]
    have J:Hid (IM C I o j z H D V):=L.out.later E
    have U:Hid (IS z S w H V):=(ai.out.trans (IS.below E))
    clear E
    obtain⟨c0,c1,c2,c3,c4,c5,c6,c7,c8,c9,cf⟩:=zag J.out.cells
    go_wp2_with fail
    have M:Hid (IM C I o j z H (adv D) (V.setCell ⟨z,1,none⟩ (.int .i64 ((D.pos:Int)+1)))):=J.out.adv ac
    have N:Hid (IS z S w H (V.setCell ⟨z,1,none⟩ (.int .i64 ((D.pos:Int)+1)))):=U.out.set _ _
    refine (zhU C I o j z m d H (adv D) _ M.out hd hS (by rw[zz];omega)).mono ?_
    cases ae:pE C .prod d (adv D) with
    |error p=>
     rintro e w4 ⟨rfl,E⟩
     have HB:Hid (Below j w w4):=(HH.out.back N.out).trans E
     have HX:Hid (pE C .sum d q= .error p):=bdE HZ.out ae
     unfold Pan
     go_wp2
     refine⟨rfl,?_⟩
     rw[HX.out]
     exact⟨rfl,HB.out⟩
    |ok a4=>
     rintro e w4 ⟨rfl,S4,m,s⟩
     have aa:=zc m
     have Q:Hid (IS z S w S4 w4):=N.out.trans s
     clear m s
     have aj:=zc (bdO HZ.out ae)
     unfold exI
     have O:=zbr ae
     rw[zz] at O
     have af:0<a4.pos:=by omega
     go_wp2_with fail
     refine (zeW C I o j z S4 a4 ⟨7,0,sNone,sNone,(D.ex.length:Int)-1,(a4.ex.length:Int)-1⟩ _ aa.out af).mono ?_
     cases K:zJ C ⟨7,0,sNone,sNone,(D.ex.length:Int)-1,(a4.ex.length:Int)-1⟩ a4 with
     |error p=>
      rintro e w5 ⟨rfl,E⟩
      have HB:Hid (Below j w w5):=(HH.out.back Q.out).trans E
      have HX:Hid (pE C .sum d q= .error p):=bdE aj.out K
      unfold Pan
      go_wp2
      refine⟨rfl,?_⟩
      rw[HX.out]
      exact⟨rfl,HB.out⟩
     |ok X=>
      rintro e w5 ⟨rfl,S5,m,s⟩
      have ad:=zc m
      have Y:Hid (IS z S w S5 w5):=Q.out.trans s
      clear m s
      have Z:=zc (bdO aj.out K)
      have HP:Hid (X.pos=a4.pos):=by show _=_;rw[(zbx K).1]
      go_wp2
      go_roundg (gk-1)
      case rel=>exact⟨S5,X,rfl,Z.out,by have:=HP.out;omega,by have:=HP.out;omega,ad.out,Y.out⟩
      case measure=>omega
   |false=>
    cases hj:isT C D.pos 4 zbq with
    |true=>
     have ac:=za1 hj (by decide)
     have HZ:=zc (ah.out.trans (zoO hi hj))
     go_wp2_with fail
     refine (zco C I o j z H D 4 zaI _ L.out).mono ?_
     rintro e V ⟨rfl,E⟩
     rw[hi]
     have J:Hid (IM C I o j z H D V):=L.out.later E
     have U:Hid (IS z S w H V):=(ai.out.trans (IS.below E))
     clear E
     go_wp2_with fail
     refine (zco C I o j z H D 4 zbq _ J.out).mono ?_
     rintro e w3 ⟨rfl,E⟩
     rw[hj]
     have M:Hid (IM C I o j z H D w3):=J.out.later E
     have N:Hid (IS z S w H w3):=(U.out.trans (IS.below E))
     clear E
     obtain⟨c0,c1,c2,c3,c4,c5,c6,c7,c8,c9,cf⟩:=zag M.out.cells
     go_wp2_with fail
     have aa:Hid (IM C I o j z H (adv D) (w3.setCell ⟨z,1,none⟩ (.int .i64 ((D.pos:Int)+1)))):=M.out.adv ac
     have Q:Hid (IS z S w H (w3.setCell ⟨z,1,none⟩ (.int .i64 ((D.pos:Int)+1)))):=N.out.set _ _
     refine (zhU C I o j z m d H (adv D) _ aa.out hd hS (by rw[zz];omega)).mono ?_
     cases K:pE C .prod d (adv D) with
     |error p=>
      rintro e w5 ⟨rfl,E⟩
      have HB:Hid (Below j w w5):=(HH.out.back Q.out).trans E
      have HX:Hid (pE C .sum d q= .error p):=bdE HZ.out K
      unfold Pan
      go_wp2
      refine⟨rfl,?_⟩
      rw[HX.out]
      exact⟨rfl,HB.out⟩
     |ok X=>
      rintro e w5 ⟨rfl,S5,m,s⟩
      have ad:=zc m
      have Y:Hid (IS z S w S5 w5):=Q.out.trans s
      clear m s
      have Z:=zc (bdO HZ.out K)
      unfold exI
      have O:=zbr K
      rw[zz] at O
      have af:0<X.pos:=by omega
      go_wp2_with fail
      refine (zeW C I o j z S5 X ⟨6,0,sNone,sNone,(D.ex.length:Int)-1,(X.ex.length:Int)-1⟩ _ ad.out af).mono ?_
      cases ag:zJ C ⟨6,0,sNone,sNone,(D.ex.length:Int)-1,(X.ex.length:Int)-1⟩ X with
      |error p=>
       rintro e w6 ⟨rfl,E⟩
       have HB:Hid (Below j w w6):=(HH.out.back Y.out).trans E
       have HX:Hid (pE C .sum d q= .error p):=bdE Z.out ag
       unfold Pan
       go_wp2
       refine⟨rfl,?_⟩
       rw[HX.out]
       exact⟨rfl,HB.out⟩
      |ok a6=>
       rintro e w6 ⟨rfl,S6,m,s⟩
       have ap:=zc m
       have an:Hid (IS z S w S6 w6):=Y.out.trans s
       clear m s
       have ak:=zc (bdO Z.out ag)
       have HP:Hid (a6.pos=X.pos):=by show _=_;rw[(zbx ag).1]
       go_wp2
       go_roundg (gk-1)
       case rel=>exact⟨S6,a6,rfl,ak.out,by have:=HP.out;omega,by have:=HP.out;omega,ap.out,an.out⟩
       case measure=>omega
    |false=>
     have HZ:=zc (ah.out.trans (zoM hi hj))
     go_wp2_with fail
     refine (zco C I o j z H D 4 zaI _ L.out).mono ?_
     rintro e V ⟨rfl,E⟩
     rw[hi]
     have J:Hid (IM C I o j z H D V):=L.out.later E
     have U:Hid (IS z S w H V):=(ai.out.trans (IS.below E))
     clear E
     go_wp2_with fail
     refine (zco C I o j z H D 4 zbq _ J.out).mono ?_
     rintro e w3 ⟨rfl,E⟩
     rw[hj]
     have M:Hid (IM C I o j z H D w3):=J.out.later E
     have N:Hid (IS z S w H w3):=(U.out.trans (IS.below E))
     clear E
     go_wp2
     go_ret
     rw[HZ.out]
     exact⟨rfl,H,M.out,N.out⟩
theorem zoQ (C:Cx) (D o j E m:Nat):zfH C D o j E m:=by
 induction m with
 |zero=>intro d S q w z;omega
 |succ m H=>intro d S q w z hd h;exact zoP C D o j E m d S q w h hd H (by omega)
theorem zoR (C:Cx) (D o j z d:Nat) (S:Sv) (q:PS) (w:World) (h:IM C D o j z S q w) (hd:d≤20):
  Calls Tryz.prog 124 #[.pointer (some ⟨z,0,none⟩),.int .i64 d] w (zT C D o j z (pE C .sum d q) id exI S w):=zoQ C D o j z _ d S q w (Nat.lt_succ_self _) hd h
theorem zjX {C:Cx} {s:ByteArray} (n:Nat): ∀{k:Nat} {q b:PS},zaE C s n k q= .ok b→b={q with pos:=q.pos+n}:=by
 induction n with
 |zero=>intro k q b h;cases h;rfl
 |succ n j=>
  intro k q b h
  rw[zaE] at h
  obtain⟨a,z,o⟩:=ze h
  rw[j o,(zbh z).1]
  show ({q with pos:=q.pos+1+n}:PS)=_
  congr 1
  omega
theorem zoS (x:Sm): ∀u∈smL x,u.oneCell'=true:=by
 intro u j
 simp[smL] at j
 rcases j with rfl|rfl|rfl<;>rfl
def stmtI (C:Cx) (k:Int) (n s:ByteArray) (q:PS):PR:=bd (pE C .sum 0 q) fun a=>bd (zaE C s s.size 0 a) fun b=>zE C k n b
theorem zer (C:Cx) (X D j E:Nat) (S:Sv) (q:PS) (H:Int) (n s:ByteArray) (w:World) (h:IM C X D j E S q w) (hs:s.size≤100) (h0:0<s.size):
  Calls Tryz.prog 95 #[.pointer (some ⟨E,0,none⟩),.int .i64 H,.string n,.string s] w (zT C X D j E (stmtI C H n s q) id (fun _=>.tuple #[]) S w):=by
 obtain⟨i0,hi,ak,ah,ai⟩:=info_parts Tryz.infoStmt
 have HH:=zc h
 have HY:=zc (stmtI.eq_1 C H n s q)
 clear h
 go_enter Tryz.func95,Tryz.ntmps95
 go_wp2_with fail
 refine (zoR C X D j E 0 S q _ HH.out (by omega)).mono ?_
 cases O:pE C .sum 0 q with
 |error p=>
  rintro e w1 ⟨rfl,Q⟩
  have V:Hid (Below j w w1):=(HH.out.back (IS.refl _ _ _)).trans Q
  have HX:Hid (stmtI C H n s q= .error p):=bdE HY.out O
  unfold Pan
  go_wp2
  refine⟨rfl,?_⟩
  rw[HX.out]
  exact⟨rfl,V.out⟩
 |ok a1=>
  rintro e w1 ⟨rfl,S1,m,s⟩
  have af:=zc m
  have ac:=zc s
  clear m s
  have ae:=zc (bdO HY.out O)
  unfold exI
  go_wp2_with fail
  refine (zhO C X D j E S1 a1 s _ af.out hs).mono ?_
  cases L:zaE C s s.size 0 a1 with
  |error p=>
   rintro e w2 ⟨rfl,Q⟩
   have V:Hid (Below j w w2):=(HH.out.back ac.out).trans Q
   have HX:Hid (stmtI C H n s q= .error p):=bdE ae.out L
   unfold Pan
   go_wp2
   refine⟨rfl,?_⟩
   rw[HX.out]
   exact⟨rfl,V.out⟩
  |ok z=>
   rintro e w2 ⟨rfl,S2,m,s⟩
   have o:=zc m
   have ab:Hid (IS E S w S2 w2):=ac.out.trans s
   clear m s
   have Z:=zc (bdO ae.out L)
   have K:=zjX _ L
   have aa:0<z.pos:=by rw[K];show 0<a1.pos+s.size;omega
   have HE:Hid (z.ex=a1.ex):=by show _=_;rw[K]
   clear K
   have am:=o.out.mem.inv.st
   obtain⟨c0,c1,c2,c3,c4,c5,c6,c7,c8,c9,cf⟩:=zag o.out.cells
   go_wp2_with fail
   by_cases hn:z.st.length<80
   ·have HZ:=zc (Z.out.trans (show zE C H n z=_ from if_neg (by omega)))
    refine (zem E z.st.length 80 _ (by omega)).mono ?_
    rintro e w' ⟨rfl,hw⟩
    rw[hw]
    clear hw w'
    have HN:Hid (some E≠S2.st.blk):=fun e=>o.out.free (.inr (.inr (.inr (.inl e.symm))))
    have al:=o.out.lt
    have I:=fun J=>(o.out.mem.own.st.alloc J)
    have Y:=fun J=>(o.out.alloc J).mem.base
    have N:=fun J=>(o.out.alloc J).lt
    have U:=fun J=>(o.out.alloc J).cells
    go_wp2_with (at_builtin;refine zcC _ rfl _ _ 29 rfl j 79 i0 _ 3 32 Tryz.underlying29 hi ak ah ai rfl (by decide) (by decide) S2.st z.st.length _ (by rfl) (I _) w2.heap.size (smL ⟨H,n,(a1.ex.length:Int)-1⟩) (by rfl) (by exact heap_alloc_new w2 _) rfl (zoS _) (by omega) (Y _) ?_;intro r' wz hr M ad;have g2:=(M.block E (N _) HN.out).trans (U _);obtain⟨d0,d1,d2,d3,d4,d5,d6,d7,d8,d9,df⟩:=zag g2;have HR:Hid (OwnR wz j 79 3 r' (z.st.length+1) _):=hr;have ag:Hid (World.grownBy _ wz _):=M;have aj:Hid (_∨_):=ad;clear hr M ad g2 c0 c1 c2 c3 c4 c5 c6 c7 c8 c9 cf I Y N U)
    go_wp2
    go_end0
    obtain⟨m',s'⟩:=o.out.grow_st ((Below.refl _ _).alloc (Nat.le_refl _) _) ag.out HR.out aj.out hn
    rw[HZ.out]
    rw[←HE.out] at m'
    exact⟨rfl,_,m',ab.out.trans s'⟩
   ·have HZ:Hid (stmtI C H n s q= .error (zu C (z.pos-1))):=Z.out.trans (if_pos (by omega))
    refine (zeV C X D j E S2 z z.st.length 80 _ o.out (by omega) aa).mono ?_
    rintro e wz ⟨rfl,Q⟩
    have V:Hid (Below j w wz):=(HH.out.back ab.out).trans (Q.mono o.out.mem.base)
    have HX:Hid (stmtI C H n s q= .error (zu C (z.pos-1))):=HZ.out
    unfold Pan
    go_wp2
    refine⟨rfl,?_⟩
    rw[HX.out]
    exact⟨rfl,V.out⟩
def letJ (C:Cx) (k:Int) (q:PS):PR:=bd (zk C false q) fun a=>bd (zd C 4 cEq a.1) fun b=>stmtI C k a.2 cSemi b
def fnI (C:Cx) (q:PS):PR:=bd (zk C false q) fun a=>bd (zaE C cCall cCall.size 0 a.1) fun b=>bd (zd C 1 zdw b) fun c=>stmtI C 2 a.2 cSemiRight c
def printI (C:Cx) (q:PS):PR:=bd (zd C 4 cOpen q) fun a=>stmtI C 4 sNone cShutSemi a
theorem zhV (C:Cx) (D o j z:Nat) (S:Sv) (q:PS) (w:World) (h:IM C D o j z S q w):
  Calls Tryz.prog 85 #[.pointer (some ⟨z,0,none⟩)] w (zT C D o j z (letJ C 1 q) id (fun _=>.tuple #[]) S w):=by
 have U:=zc h
 have HY:=zc (letJ.eq_1 C 1 q)
 clear h
 go_enter Tryz.func85,Tryz.ntmps85
 go_wp2_with fail
 refine (zd1 C D o j z S q _ U.out).mono ?_
 cases E:zk C false q with
 |error p=>
  rintro e w1 ⟨rfl,K⟩
  have O:Hid (Below j w w1):=(U.out.back (IS.refl _ _ _)).trans K
  have L:Hid (letJ C 1 q= .error p):=bdE HY.out E
  unfold Pan
  go_wp2
  refine⟨rfl,?_⟩
  rw[L.out]
  exact⟨rfl,O.out⟩
 |ok V=>
  rintro e w1 ⟨rfl,S1,m,s⟩
  have ab:=zc m
  have H:=zc s
  clear m s
  have J:=zc (bdO HY.out E)
  go_wp2_with fail
  refine (zcw C D o j z S1 (V.1) 61 _ ab.out).mono ?_
  cases M:zd C 4 cEq (V.1) with
  |error p=>
   rintro e w2 ⟨rfl,K⟩
   have O:Hid (Below j w w2):=(U.out.back H.out).trans K
   have L:Hid (letJ C 1 q= .error p):=bdE J.out M
   unfold Pan
   go_wp2
   refine⟨rfl,?_⟩
   rw[L.out]
   exact⟨rfl,O.out⟩
  |ok a2=>
   rintro e w2 ⟨rfl,S2,m,s⟩
   have Z:=zc m
   have Q:Hid (IS z S w S2 w2):=H.out.trans s
   clear m s
   have N:=zc (bdO J.out M)
   go_wp2_with fail
   refine (zer C D o j z S2 a2 1 V.2 cSemi _ Z.out (by decide) (by decide)).mono ?_
   cases I:stmtI C 1 V.2 cSemi a2 with
   |error p=>
    rintro e X ⟨rfl,K⟩
    have O:Hid (Below j w X):=(U.out.back Q.out).trans K
    have L:Hid (letJ C 1 q= .error p):=N.out.trans I
    unfold Pan
    go_wp2
    refine⟨rfl,?_⟩
    rw[L.out]
    exact⟨rfl,O.out⟩
   |ok a3=>
    rintro e X ⟨rfl,S3,m,s⟩
    have Y:=zc m
    have ac:Hid (IS z S w S3 X):=Q.out.trans s
    clear m s
    have aa:=zc (N.out.trans I)
    go_wp2
    go_end0
    rw[aa.out]
    exact⟨rfl,S3,Y.out,ac.out⟩
theorem zjY (C:Cx) (D o j z:Nat) (S:Sv) (q:PS) (w:World) (h:IM C D o j z S q w):
  Calls Tryz.prog 46 #[.pointer (some ⟨z,0,none⟩)] w (zT C D o j z (letJ C 3 q) id (fun _=>.tuple #[]) S w):=by
 have U:=zc h
 have HY:=zc (letJ.eq_1 C 3 q)
 clear h
 go_enter Tryz.func46,Tryz.ntmps46
 go_wp2_with fail
 refine (zd1 C D o j z S q _ U.out).mono ?_
 cases E:zk C false q with
 |error p=>
  rintro e w1 ⟨rfl,K⟩
  have O:Hid (Below j w w1):=(U.out.back (IS.refl _ _ _)).trans K
  have L:Hid (letJ C 3 q= .error p):=bdE HY.out E
  unfold Pan
  go_wp2
  refine⟨rfl,?_⟩
  rw[L.out]
  exact⟨rfl,O.out⟩
 |ok V=>
  rintro e w1 ⟨rfl,S1,m,s⟩
  have ab:=zc m
  have H:=zc s
  clear m s
  have J:=zc (bdO HY.out E)
  go_wp2_with fail
  refine (zcw C D o j z S1 (V.1) 61 _ ab.out).mono ?_
  cases M:zd C 4 cEq (V.1) with
  |error p=>
   rintro e w2 ⟨rfl,K⟩
   have O:Hid (Below j w w2):=(U.out.back H.out).trans K
   have L:Hid (letJ C 3 q= .error p):=bdE J.out M
   unfold Pan
   go_wp2
   refine⟨rfl,?_⟩
   rw[L.out]
   exact⟨rfl,O.out⟩
  |ok a2=>
   rintro e w2 ⟨rfl,S2,m,s⟩
   have Z:=zc m
   have Q:Hid (IS z S w S2 w2):=H.out.trans s
   clear m s
   have N:=zc (bdO J.out M)
   go_wp2_with fail
   refine (zer C D o j z S2 a2 3 V.2 cSemi _ Z.out (by decide) (by decide)).mono ?_
   cases I:stmtI C 3 V.2 cSemi a2 with
   |error p=>
    rintro e X ⟨rfl,K⟩
    have O:Hid (Below j w X):=(U.out.back Q.out).trans K
    have L:Hid (letJ C 3 q= .error p):=N.out.trans I
    unfold Pan
    go_wp2
    refine⟨rfl,?_⟩
    rw[L.out]
    exact⟨rfl,O.out⟩
   |ok a3=>
    rintro e X ⟨rfl,S3,m,s⟩
    have Y:=zc m
    have ac:Hid (IS z S w S3 X):=Q.out.trans s
    clear m s
    have aa:=zc (N.out.trans I)
    go_wp2
    go_end0
    rw[aa.out]
    exact⟨rfl,S3,Y.out,ac.out⟩
theorem zhW (C:Cx) (I o j z:Nat) (S:Sv) (q:PS) (w:World) (h:IM C I o j z S q w):
  Calls Tryz.prog 86 #[.pointer (some ⟨z,0,none⟩)] w (zT C I o j z (fnI C q) id (fun _=>.tuple #[]) S w):=by
 have N:=zc h
 have HY:=zc (fnI.eq_1 C q)
 clear h
 go_enter Tryz.func86,Tryz.ntmps86
 go_wp2_with fail
 refine (zd1 C I o j z S q _ N.out).mono ?_
 cases J:zk C false q with
 |error p=>
  rintro e w1 ⟨rfl,D⟩
  have H:Hid (Below j w w1):=(N.out.back (IS.refl _ _ _)).trans D
  have E:Hid (fnI C q= .error p):=bdE HY.out J
  unfold Pan
  go_wp2
  refine⟨rfl,?_⟩
  rw[E.out]
  exact⟨rfl,H.out⟩
 |ok Z=>
  rintro e w1 ⟨rfl,S1,m,s⟩
  have af:=zc m
  have K:=zc s
  clear m s
  have M:=zc (bdO HY.out J)
  go_wp2_with fail
  refine (zhO C I o j z S1 (Z.1) cCall _ af.out (by decide)).mono ?_
  cases U:zaE C cCall cCall.size 0 (Z.1) with
  |error p=>
   rintro e w2 ⟨rfl,D⟩
   have H:Hid (Below j w w2):=(N.out.back K.out).trans D
   have E:Hid (fnI C q= .error p):=bdE M.out U
   unfold Pan
   go_wp2
   refine⟨rfl,?_⟩
   rw[E.out]
   exact⟨rfl,H.out⟩
  |ok a2=>
   rintro e w2 ⟨rfl,S2,m,s⟩
   have ac:=zc m
   have X:Hid (IS z S w S2 w2):=K.out.trans s
   clear m s
   have V:=zc (bdO M.out U)
   go_wp2_with fail
   refine (zeU C I o j z S2 a2 zdw _ ac.out).mono ?_
   cases L:zd C 1 zdw a2 with
   |error p=>
    rintro e w3 ⟨rfl,D⟩
    have H:Hid (Below j w w3):=(N.out.back X.out).trans D
    have E:Hid (fnI C q= .error p):=bdE V.out L
    unfold Pan
    go_wp2
    refine⟨rfl,?_⟩
    rw[E.out]
    exact⟨rfl,H.out⟩
   |ok a3=>
    rintro e w3 ⟨rfl,S3,m,s⟩
    have ab:=zc m
    have Y:Hid (IS z S w S3 w3):=X.out.trans s
    clear m s
    have O:=zc (bdO V.out L)
    go_wp2_with fail
    refine (zer C I o j z S3 a3 2 Z.2 cSemiRight _ ab.out (by decide) (by decide)).mono ?_
    cases Q:stmtI C 2 Z.2 cSemiRight a3 with
    |error p=>
     rintro e w4 ⟨rfl,D⟩
     have H:Hid (Below j w w4):=(N.out.back Y.out).trans D
     have E:Hid (fnI C q= .error p):=O.out.trans Q
     unfold Pan
     go_wp2
     refine⟨rfl,?_⟩
     rw[E.out]
     exact⟨rfl,H.out⟩
    |ok a4=>
     rintro e w4 ⟨rfl,S4,m,s⟩
     have aa:=zc m
     have ae:Hid (IS z S w S4 w4):=Y.out.trans s
     clear m s
     have ad:=zc (O.out.trans Q)
     go_wp2
     go_end0
     rw[ad.out]
     exact⟨rfl,S4,aa.out,ae.out⟩
theorem zjZ (C:Cx) (J o j z:Nat) (S:Sv) (q:PS) (w:World) (h:IM C J o j z S q w):
  Calls Tryz.prog 87 #[.pointer (some ⟨z,0,none⟩)] w (zT C J o j z (printI C q) id (fun _=>.tuple #[]) S w):=by
 have L:=zc h
 have Y:=zc (printI.eq_1 C q)
 clear h
 go_enter Tryz.func87,Tryz.ntmps87
 go_wp2_with fail
 refine (zcw C J o j z S q 40 _ L.out).mono ?_
 cases D:zd C 4 cOpen q with
 |error p=>
  rintro e w1 ⟨rfl,K⟩
  have U:Hid (Below j w w1):=(L.out.back (IS.refl _ _ _)).trans K
  have N:Hid (printI C q= .error p):=bdE Y.out D
  unfold Pan
  go_wp2
  refine⟨rfl,?_⟩
  rw[N.out]
  exact⟨rfl,U.out⟩
 |ok a1=>
  rintro e w1 ⟨rfl,S1,m,s⟩
  have Q:=zc m
  have E:=zc s
  clear m s
  have H:=zc (bdO Y.out D)
  go_wp2_with fail
  refine (zer C J o j z S1 a1 4 sNone cShutSemi _ Q.out (by decide) (by decide)).mono ?_
  cases I:stmtI C 4 sNone cShutSemi a1 with
  |error p=>
   rintro e V ⟨rfl,K⟩
   have U:Hid (Below j w V):=(L.out.back E.out).trans K
   have N:Hid (printI C q= .error p):=H.out.trans I
   unfold Pan
   go_wp2
   refine⟨rfl,?_⟩
   rw[N.out]
   exact⟨rfl,U.out⟩
  |ok a2=>
   rintro e V ⟨rfl,Z,m,s⟩
   have M:=zc m
   have X:Hid (IS z S w Z V):=E.out.trans s
   clear m s
   have O:=zc (H.out.trans I)
   go_wp2
   go_end0
   rw[O.out]
   exact⟨rfl,Z,M.out,X.out⟩
theorem zka (C:Cx) (D o j z:Nat) (S:Sv) (q:PS) (w:World) (h:IM C D o j z S q w):
  Calls Tryz.prog 88 #[.pointer (some ⟨z,0,none⟩)] w (zT C D o j z (stmtI C 5 sNone cSemi q) id (fun _=>.tuple #[]) S w):=by
 have K:=zc h
 clear h
 go_enter Tryz.func88,Tryz.ntmps88
 go_wp2_with fail
 refine (zer C D o j z S q 5 sNone cSemi _ K.out (by decide) (by decide)).mono ?_
 cases E:stmtI C 5 sNone cSemi q with
 |error p=>
  rintro e M ⟨rfl,J⟩
  unfold Pan
  go_wp2
  refine⟨rfl,?_⟩
  rw[E]
  exact⟨rfl,J⟩
 |ok a=>
  rintro e M ⟨rfl,I,m,s⟩
  have L:=zc m
  have H:=zc s
  clear m s
  go_wp2
  go_end0
  rw[E]
  exact⟨rfl,I,L.out,H.out⟩
theorem zoT (C:Cx) (D o j z:Nat) (S:Sv) (q:PS) (w:World) (h:IM C D o j z S q w):
  Calls Tryz.prog 89 #[.pointer (some ⟨z,0,none⟩)] w (zT C D o j z (stmtI C 6 sNone cSemi q) id (fun _=>.tuple #[]) S w):=by
 have K:=zc h
 clear h
 go_enter Tryz.func89,Tryz.ntmps89
 go_wp2_with fail
 refine (zer C D o j z S q 6 sNone cSemi _ K.out (by decide) (by decide)).mono ?_
 cases E:stmtI C 6 sNone cSemi q with
 |error p=>
  rintro e M ⟨rfl,J⟩
  unfold Pan
  go_wp2
  refine⟨rfl,?_⟩
  rw[E]
  exact⟨rfl,J⟩
 |ok a=>
  rintro e M ⟨rfl,I,m,s⟩
  have L:=zc m
  have H:=zc s
  clear m s
  go_wp2
  go_end0
  rw[E]
  exact⟨rfl,I,L.out,H.out⟩
def zc6 (C:Cx) (i:Nat):ByteArray:=if (zf C i).kind==1 then (zf C i).text else sNone
theorem zkb (C:Cx) (E o j D:Nat) (S:Sv) (q:PS) (w:World) (h:IM C E o j D S q w):
  Calls Tryz.prog 45 #[.pointer (some ⟨D,0,none⟩)] w fun e K=>e= .returned (.string (zc6 C q.pos))∧Below w.heap.size w K:=by
 have J:=zc h
 clear h
 cases I:((zf C q.pos).kind==1) with
 |true=>
  have H:Hid (zc6 C q.pos=(zf C q.pos).text):=by show _=_;rw[zc6,I];rfl
  go_enter Tryz.func45,Tryz.ntmps45
  go_wp2_with fail
  refine (zbD C E o j D S q _ J.out).mono ?_
  rintro e L ⟨rfl,z⟩
  unfold tkV
  go_wp2
  go_ret
  rw[H.out]
  exact⟨rfl,z.alloc z.size _⟩
 |false=>
  have H:Hid (zc6 C q.pos=sNone):=by show _=_;rw[zc6,I];rfl
  go_enter Tryz.func45,Tryz.ntmps45
  go_wp2_with fail
  refine (zbD C E o j D S q _ J.out).mono ?_
  rintro e L ⟨rfl,z⟩
  unfold tkV
  go_wp2
  go_ret
  rw[H.out]
  exact⟨rfl,z.alloc z.size _⟩
theorem OwnR.stmtName {w:World} {j:Nat} {r:Rw} {l:List Sm} {x:Sm} (h:OwnR w j 79 3 r (l++[x]).length ((l++[x]).flatMap smL)): ∃g,r.a=some ⟨g,0,none⟩∧w.cell? ⟨g,l.length*3+1,none⟩=some (.string x.name):=by
 rcases h.2 with ⟨_,H⟩|⟨g,J,I,o,_⟩
 ·simp at H
 ·simp only[Value.slice.injEq] at o
  have z:=h
  unfold OwnR at z
  rw[o.1,o.2.2] at z
  refine⟨g,o.1,?_⟩
  rw[World.ownsRow.cellAt z _ (by simp;omega)]
  have E: ∀l:List Sm,(l.flatMap smL).length=l.length*3:=by
   intro l
   induction l with
   |nil=>rfl
   |cons y l D=>simp[List.flatMap_cons,smL,D] at D ⊢;omega
  rw[List.flatMap_append,List.getElem?_append_right (by rw[E];omega),E]
  simp[smL]
theorem zoU (C:Cx) (K o j E:Nat) (S:Sv) (q:PS) (l:List Sm) (x:Sm) (w:World) (h:IM C K o j E S q w) (M:q.st=l++[x]) (Q:x.name.size≤281474976710656) (hp:0<q.pos):
  Calls Tryz.prog 120 #[.pointer (some ⟨E,0,none⟩)] w (zT C K o j E (zm C ⟨1,x.name,x.name,sNone⟩ q) id (fun _=>.tuple #[]) S w):=by
 have HH:=zc h
 obtain⟨_,_,_,_,_,_,_,I,_,_,_⟩:=zag h.cells
 have N:=h.mem.own.st
 rw[M] at N I
 obtain⟨g,Y,hc⟩:=N.stmtName
 have J:=h.mem.inv.st
 rw[M] at J
 have H:(l++[x]).length=l.length+1:=by simp
 rw[H] at I J
 rw[Y] at I
 have C7:=zc I
 have CN:=zc hc
 have e1:((l.length+1:Nat):Int)-1=(l.length:Int):=by omega
 have e2:(l.length:Int)+1-1=(l.length:Int):=by omega
 have ab:IntKind.i64.wrap (l.length:Int)=(l.length:Int):=IntWalk.i64_in _ ⟨by omega,by omega⟩
 have aa:(l.length:Int)<((l.length+1:Nat):Int):=by omega
 have Z:(l.length:Int)<(l.length:Int)+1:=by omega
 have X: ∀d os,Calls Tryz.prog 41 #[.string x.name] (grow (redrawn w d) os) fun e O=>e= .returned (.string x.name)∧∃p:Regrown,O=grow (redrawn w p.d) p.os:=fun d os=>Calls.regrown_of (zjR _ _ Q)
 clear h I hc N Y M
 go_enter Tryz.func120,Tryz.ntmps120
 go_wp2_with fail
 have k7:=cell_regrown C7.out
 have kN:=cell_regrown CN.out
 refine wp_region_quiet_below (by kernel_rfl) (by kernel_rfl) ?_
 repeat (go_big_quiet_step (exact X _ _))
 refine wpQuiet_nil ?_
 intro w1 L
 obtain⟨⟨dq,ac⟩,z⟩:=L
 have D:Hid (Below w.heap.size w w1):=by show Below _ _ _;rw[z];exact below_regrown _ _ _
 clear z k7 kN X C7 CN
 have U:Hid (IM C K o j E S q w1):=HH.out.later D.out
 go_wp2_with fail
 refine (zfF C K o j E S q ⟨1,x.name,x.name,sNone⟩ _ U.out hp).mono ?_
 cases hn:zm C ⟨1,x.name,x.name,sNone⟩ q with
 |error p=>
  rintro e V ⟨rfl,hb⟩
  have HB:Hid (Below j w V):=(D.out.mono HH.out.mem.base).trans hb
  unfold Pan
  go_wp2
  refine⟨rfl,?_⟩
  rw[hn]
  exact⟨rfl,HB.out⟩
 |ok a=>
  rintro e V ⟨rfl,S1,m,s⟩
  have HM:=zc m
  have HS:Hid (IS E S w S1 V):=(IS.below D.out).trans s
  clear m s
  go_wp2
  go_end0
  rw[hn]
  exact⟨rfl,S1,HM.out,HS.out⟩
def Fr (e:TypeId) (size:Nat) (w:World) (b:Nat) (r:Rw) (n:Nat) (xs:List Value) (S:Sv):Prop:=OwnR w b e size r n xs∧∀k,r.blk=some k→¬S.has k
theorem Fr.ngp {C:Cx} {H o j z size b n:Nat} {S:Sv} {q:PS} {w:World} {e:TypeId} {r:Rw} {xs:List Value} (f:Fr e size w b r n xs S) (h:IM C H o j z S q w) (E:e≠53) {k:Nat} (D:r.blk=some k):k≠z:=by
 rintro rfl
 obtain⟨_,_,c,g⟩:=f.1.typed D
 rw[h.cells] at g
 simp only[Option.some.injEq,Obj.cells.injEq] at g
 exact E g.2.1.symm
theorem Fr.ngt {C:Cx} {z o j I size b n:Nat} {S:Sv} {q:PS} {w:World} {e:TypeId} {r:Rw} {xs:List Value} (f:Fr e size w b r n xs S) (h:IM C z o j I S q w) (H:e≠40) {k:Nat} (E:r.blk=some k):k≠z:=by
 rintro rfl
 obtain⟨_,_,c,g⟩:=f.1.typed E
 obtain⟨J,D⟩:=zgy h.mem.tok
 rw[D] at g
 simp only[Option.some.injEq,Obj.cells.injEq] at g
 exact H g.2.1.symm
theorem Fr.step {C:Cx} {K o j H size b n:Nat} {S D:Sv} {q:PS} {w E:World} {e:TypeId} {r:Rw} {xs:List Value} (f:Fr e size w b r n xs S) (h:IM C K o j H S q w) (J:e≠53) (s:IS H S w D E):Fr e size E b r n xs D:=by
 refine⟨f.1.keep fun k g=>s.block k (f.1.typed g).2.1 (f.2 k g) (f.ngp h J g),fun k g I=>?_⟩
 rcases s.sub k I with z|z
 ·exact f.2 k g z
 ·have:=(f.1.typed g).2.1
  omega
theorem Fr.low {size b j n:Nat} {S:Sv} {w:World} {e:TypeId} {r:Rw} {xs:List Value} (f:Fr e size w b r n xs S) (o:j≤b):Fr e size w j r n xs S:=⟨f.1.low o,f.2⟩
theorem Fr.later {size b n:Nat} {S:Sv} {w j:World} {e:TypeId} {r:Rw} {xs:List Value} (f:Fr e size w b r n xs S) (o:Below w.heap.size w j):Fr e size j b r n xs S:=⟨f.1.keep fun k g=>o.block k (f.1.typed g).2.1,f.2⟩
theorem IM.aside {C:Cx} {z o j D:Nat} {S:Sv} {q:PS} {W I:World} {b:Option Nat} (h:IM C z o j D S q W) (E:W.grownBy I b) (H: ∀k,b=some k→¬S.has k∧k≠D∧k≠z):IM C z o j D S q I:=by
 refine⟨⟨h.mem.own.keep fun k g=>E.block k (h.mem.own.has g).2 fun e=>(H k e.symm).1 g,h.mem.inv,zbJ h.mem.tok (E.block z (zan h.mem.tok).1 fun e=>(H z e.symm).2.2 rfl),h.mem.few,Nat.le_trans h.mem.base E.size⟩,(E.block D h.lt fun e=>(H D e.symm).2.1 rfl).trans h.cells,h.ge⟩
theorem IS.aside {H:Nat} {S z:Sv} {w W E:World} {b:Option Nat} (s:IS H S w z W) (j:W.grownBy E b) (J: ∀k,b=some k→w.heap.size≤k):IS H S w z E:=
 ⟨j.os.trans s.os,j.tape.trans s.tape,j.output.trans s.output,Nat.le_trans s.size j.size,fun k D I o=>(j.block k (Nat.lt_of_lt_of_le D s.size) fun e=>by have:=J k e.symm;omega).trans (s.block k D I o),s.sub⟩
theorem Fr.grown {size b n:Nat} {S:Sv} {W H:World} {e:TypeId} {r o:Rw} {xs I:List Value} {C:Cx} {L D j M:Nat} {q:PS} (f:Fr e size W b r n xs S) (h:IM C L D j M S q W) (K:OwnR H b e size o (n+1) I) (z:o.blk=r.blk∨o.blk=some W.heap.size):Fr e size H b o (n+1) I S:=by
 refine⟨K,fun k g J=>?_⟩
 rcases z with E|E
 ·exact f.2 k (E.symm.trans g) J
 ·have N:W.heap.size=k:=Option.some.inj (E.symm.trans g)
  have:=(h.mem.own.has J).2
  omega
theorem flat_len {α:Type} (f:α→List Value) (m:Nat) (o: ∀x,(f x).length=m) (l:List α):(l.flatMap f).length=l.length*m:=by
 induction l with
 |nil=>simp
 |cons y l j=>rw[List.flatMap_cons,List.length_append,o,j,List.length_cons,Nat.succ_mul];omega
theorem zoV {α:Type} (f:α→List Value) (m:Nat) (o: ∀x,(f x).length=m): ∀(l:List α) (j i:Nat) (x:α),l[j]? =some x→i<m→(l.flatMap f)[j*m+i]? =(f x)[i]?:=by
 intro l
 induction l with
 |nil=>intro j i x h;simp at h
 |cons y l D=>
  intro j i x h z
  rw[List.flatMap_cons]
  match j with
  |0=>
   simp only[List.getElem?_cons_zero,Option.some.injEq] at h
   subst h
   rw[Nat.zero_mul,Nat.zero_add,List.getElem?_append_left (by rw[o];exact z)]
  |j+1=>
   simp only[List.getElem?_cons_succ] at h
   rw[List.getElem?_append_right (by rw[o,Nat.succ_mul];omega),o,←D j i x h z]
   congr 1
   rw[Nat.succ_mul]
   omega
theorem OwnR.elem {α:Type} {f:α→List Value} {m:Nat} (J: ∀x,(f x).length=m) {w:World} {o:Nat} {e:TypeId} {r:Rw} {l:List α} (h:OwnR w o e m r l.length (l.flatMap f)) {j:Nat} {x:α} (H:l[j]? =some x): ∃g,r.a=some ⟨g,0,none⟩∧∀i,i<m→w.cell? ⟨g,j*m+i,none⟩=(f x)[i]?:=by
 have E:j<l.length:=(List.getElem?_eq_some_iff.1 H).1
 rcases h.2 with ⟨_,N⟩|⟨g,L,K,z,_⟩
 ·omega
 ·simp only[Value.slice.injEq] at z
  have D:=h
  unfold OwnR at D
  rw[z.1,z.2.2] at D
  refine⟨g,z.1,fun i M=>?_⟩
  have I:j*m+i<l.length*m:=by
   have:=Nat.mul_le_mul_right m E
   rw[Nat.succ_mul] at this
   omega
  rw[World.ownsRow.cellAt D _ I]
  exact zoV f m J l j i x H M
structure OwnMd (w:World) (base:Nat) (S:Sv) (m:Md):Prop where
 rq:OwnR w base 9 1 S.rq m.rq.length (m.rq.map .string)
 im:OwnR w base 75 3 S.im m.im.length (m.im.flatMap imL)
 ep:OwnR w base 77 4 S.ep m.ep.length (m.ep.flatMap epL)
 st:OwnR w base 79 3 S.st m.st.length (m.st.flatMap smL)
 ex:OwnR w base 81 6 S.ex m.ex.length (m.ex.flatMap exL)
theorem OwnMod.md {w:World} {j:Nat} {S:Sv} {q:PS} (h:OwnMod w j S q):OwnMd w j S (zaS q):=⟨h.rq,h.im,h.ep,h.st,h.ex⟩
theorem OwnMd.later {w z:World} {j:Nat} {S:Sv} {m:Md} (h:OwnMd w j S m) (o:Below w.heap.size w z):OwnMd z j S m:=
 ⟨h.rq.keep fun k g=>o.block k (h.rq.typed g).2.1,h.im.keep fun k g=>o.block k (h.im.typed g).2.1,h.ep.keep fun k g=>o.block k (h.ep.typed g).2.1,h.st.keep fun k g=>o.block k (h.st.typed g).2.1,h.ex.keep fun k g=>o.block k (h.ex.typed g).2.1⟩
theorem OwnMd.alloc {w:World} {j:Nat} {S:Sv} {m:Md} (h:OwnMd w j S m) (o:Obj):OwnMd (w.alloc o) j S m:=h.later ((Below.refl _ _).alloc (Nat.le_refl _) _)
def zbM (S:Sv) (m:Md):Value:=.agg #[.slice S.rq.a m.rq.length S.rq.cap,.slice S.im.a m.im.length S.im.cap,.slice S.ep.a m.ep.length S.ep.cap,.slice S.st.a m.st.length S.st.cap,.slice S.ex.a m.ex.length S.ex.cap]
theorem OwnMd.expr {w:World} {o:Nat} {S:Sv} {m:Md} (h:OwnMd w o S m) {i:Nat} (D:i<m.ex.length): ∃g,S.ex.a=some ⟨g,0,none⟩∧g<w.heap.size∧w.cell? ⟨g,i*6,none⟩=some (.int .i64 (m.ex.getD i zn).kind)∧w.cell? ⟨g,i*6+1,none⟩=some (.int .i64 (m.ex.getD i zn).num)∧w.cell? ⟨g,i*6+2,none⟩=some (.string (m.ex.getD i zn).name)∧w.cell? ⟨g,i*6+3,none⟩=some (.string (m.ex.getD i zn).field)∧w.cell? ⟨g,i*6+4,none⟩=some (.int .i64 (m.ex.getD i zn).l)∧w.cell? ⟨g,i*6+5,none⟩=some (.int .i64 (m.ex.getD i zn).r):=by
 obtain⟨g,z,j⟩:=OwnR.elem (f:=exL) (m:=6) (fun _=>rfl) h.ex (List.getElem?_eq_getElem D)
 rw[zf5 D]
 exact⟨g,z,(h.ex.typed (by rw[Rw.blk,z];rfl)).2.1,j 0 (by omega),j 1 (by omega),j 2 (by omega),j 3 (by omega),j 4 (by omega),j 5 (by omega)⟩
end Go.Proofs.YthfeoomfiafldaaGreat
