/-
  What slices.Index and slices.Contains answer over a row of texts,and strings.Clone: the walks.
  What request of impl's parser answers: the walks.
  What nameOrCall of impl's parser answers: the walk.
  What part of impl's parser answers: the walk.
  What product and sum of impl's parser answer: the walks.
  What statement of impl's parser answers: the walk.
  What the small items of impl's parser,itemWord and exportLast answer: the walks.
  Rows beside impl's parser: lists of names under way. No program is spoken of but for the numbers of its types.
  A program in memory,of any size. No program is spoken of but for the numbers of its types.
-/
import Derived.Test.YthfeoomfiafldaaGreatCdImplParseHToImplParseI
import Derived.Test.YthfeoomfiafldaaGreatCdShelf
namespace Go.Proofs.YthfeoomfiafldaaGreat
set_option maxRecDepth 100000
set_option maxHeartbeats 3200000
open Go.RowKit Go.PlainAid Go.Sort
theorem zjR (s:ByteArray) (w:World) (h:s.size≤281474976710656):
  Calls Tryz.prog 41 #[.string s] w fun e o=>e= .returned (.string s)∧Below w.heap.size w o:=by
 go_enter Tryz.func41,Tryz.ntmps41
 go_wp2_with fail
 refine (Tryz.stringslite_Clone _ _ h).mono ?_
 rintro e z ⟨rfl,j⟩
 go_wp2
 go_ret
 exact⟨rfl,j⟩
theorem OwnR.text {w:World} {o n:Nat} {r:Rw} {l:List ByteArray} (h:OwnR w o 9 1 r n (l.map .string)) {j:Nat} (K:j<n): ∃g,r.a=some ⟨g,0,none⟩∧w.cell? ⟨g,j,none⟩=some (.string (l.getD j sNone)):=by
 rcases h.2 with ⟨_,I⟩|⟨g,H,E,z,_⟩
 ·omega
 ·simp only[Value.slice.injEq] at z
  have D:=h
  unfold OwnR at D
  rw[z.1,z.2.2] at D
  have J:l.length=n:=by have:=h.1;simpa using this
  refine⟨g,z.1,?_⟩
  rw[World.ownsRow.cellAt D j (by omega)]
  simp only[List.getElem?_map,List.getD]
  rw[List.getElem?_eq_getElem (by omega)]
  rfl
theorem zo0 {l:List ByteArray} {x:ByteArray} {j:Nat} (o:j<l.length):zbe (l.drop j) x=((l.getD j sNone).toList==x.toList||zbe (l.drop (j+1)) x):=by
 rw[List.drop_eq_getElem_cons o]
 simp only[zbe,List.any_cons,List.getD,List.getElem?_eq_getElem o,Option.getD_some]
theorem zo1 (E g:Nat) (r:Rw) (l:List ByteArray) (x:ByteArray) (w:World) (h:OwnR w E 9 1 r l.length (l.map .string)) (hl:l.length≤1000000) (Q:r.a=some ⟨g,0,none⟩):
  Calls Tryz.prog 146 #[.slice (some ⟨g,0,none⟩) l.length r.cap,.string x] w fun e Y=>(∃v:Int,e= .returned (.int .i64 v)∧decide (0≤v)=zbe l x)∧Y=w:=by
 have V:=zc h
 have M:=zc Q
 clear h Q
 go_enter Tryz.func146,Tryz.ntmps146
 go_wp2
 go_loopg [8] (l.length+1) (fun k i wr=>∃j:Nat,i= .int .i64 j∧j+k=l.length+1∧zbe (l.drop j) x=zbe l x∧wr=w)
 case atStart=>exact⟨0,rfl,by omega,by simp,rfl⟩
 case round=>
  obtain⟨j,rfl,hj,U,rfl⟩:=hrel
  have K:=zc U
  clear U
  by_cases o:j<l.length
  ·have z:(j:Int)<(l.length:Int):=by omega
   obtain⟨g',H,Z⟩:=V.out.text o
   have X:g'=g:=by have:=H.symm.trans M.out;simpa using this
   subst X
   clear H
   obtain⟨J,D⟩: ∃J,J=j+1:=⟨_,rfl⟩
   have ej:(j:Int)+1=(J:Int):=by omega
   have O:=zc D
   clear D
   have L:Hid (zbe (l.drop j) x=((l.getD j sNone).toList==x.toList||zbe (l.drop (j+1)) x)):=zo0 o
   generalize l.getD j sNone=y at Z L
   cases I:(x.toList==y.toList) with
   |true=>
    go_wp2
    go_ret
    refine⟨⟨_,rfl,?_⟩,rfl⟩
    have N:(y.toList==x.toList)=true:=by rw[beq_iff_eq] at I ⊢;exact I.symm
    rw[←K.out,L.out,N]
    simp
   |false=>
    go_wp2
    go_roundg (gk-1)
    case rel=>
     have N:(y.toList==x.toList)=false:=by
      rw[beq_eq_false_iff_ne] at I ⊢;exact fun e=>I e.symm
     refine⟨J,rfl,by have:=O.out;omega,?_,rfl⟩
     rw[←K.out,L.out,N,O.out]
     simp
    case measure=>omega
  ·have z: ¬(j:Int)<(l.length:Int):=by omega
   go_wp2
   go_ret
   refine⟨⟨_,rfl,?_⟩,rfl⟩
   rw[←K.out,List.drop_eq_nil_of_le (by omega)]
   rfl
theorem zo2 (x:ByteArray) (w:World):
  Calls Tryz.prog 146 #[.slice none 0 0,.string x] w fun e j=>e= .returned (.int .i64 (-1))∧j=w:=by
 go_enter Tryz.func146,Tryz.ntmps146
 go_wp2
 go_loopg [8] 1 (fun k i wr=>k=1∧i= .int .i64 0∧wr=w)
 case atStart=>exact⟨rfl,rfl,rfl⟩
 case round=>
  obtain⟨rfl,rfl,rfl⟩:=hrel
  go_wp2
  go_ret
  exact⟨rfl,rfl⟩
theorem zo3 (j:Nat) (r:Rw) (l:List ByteArray) (x:ByteArray) (w:World) (h:OwnR w j 9 1 r l.length (l.map .string)) (D:l.length≤1000000):
  Calls Tryz.prog 146 #[.slice r.a l.length r.cap,.string x] w fun e I=>(∃v:Int,e= .returned (.int .i64 v)∧decide (0≤v)=zbe l x)∧I=w:=by
 rcases h.nil_or with ⟨E,H,o⟩|⟨g,z⟩
 ·rw[E,H,o]
  refine (zo2 x w).mono ?_
  rintro e J ⟨rfl,rfl⟩
  have:l=[]:=List.length_eq_zero_iff.1 o
  subst this
  exact⟨⟨_,rfl,rfl⟩,rfl⟩
 ·rw[z]
  exact zo1 j g r l x w h D z
theorem zhS (j:Nat) (r:Rw) (l:List ByteArray) (x:ByteArray) (w:World) (h:OwnR w j 9 1 r l.length (l.map .string)) (z:l.length≤1000000):
  Calls Tryz.prog 135 #[.slice r.a l.length r.cap,.string x] w fun e H=>e= .returned (.bool (zbe l x))∧H=w:=by
 have E:=zc h
 clear h
 go_enter Tryz.func135,Tryz.ntmps135
 go_wp2_with fail
 refine (zo3 j r l x _ E.out z).mono ?_
 rintro e I ⟨⟨v,rfl,o⟩,rfl⟩
 have D:=zc o
 clear o
 go_wp2
 go_ret
 exact⟨zq D.out,rfl⟩
theorem Tryz.infoText:(Tryz.prog.info? 9).map (fun i=>(i.zero,i.size,i.bytes))=some (some (.string {data:=#[]}),1,16):=by kernel_rfl
def zb0 (C:Cx):Prop:=∀i,(zf C i).text.size≤281474976710656
theorem zo4 (x:ByteArray): ∀u∈[Value.string x],u.oneCell'=true:=by
 intro u j
 simp at j
 rw[j]
 rfl
theorem zo5 (C:Cx) (N z j o:Nat) (S:Sv) (q:PS) (w:World) (h:IM C N z j o S q w) (hC:zb0 C) (hk:((zf C q.pos).kind==3)=true) (hs:zbe q.rq (zf C q.pos).text=false) (hn:q.rq.length<40):
  Calls Tryz.prog 113 #[.pointer (some ⟨o,0,none⟩)] w fun e w'=>e= .returned (.string (zf C q.pos).text)∧∃S',IM C N z j o S' {adv q with rq:=q.rq++[(zf C q.pos).text]} w'∧IS o S w S' w':=by
 obtain⟨i0,hi,X,ac,ab⟩:=info_parts Tryz.infoText
 have HH:=zc h
 have af:=zcF
 have K:=hC q.pos
 clear h
 go_enter Tryz.func113,Tryz.ntmps113
 go_wp2_with fail
 refine (zel C N z j o S q 3 _ HH.out hk (by decide)).mono ?_
 rintro e Q ⟨rfl,m1,s1⟩
 have U:=zc m1
 have aa:=zc s1
 clear m1 s1
 unfold tkV
 obtain⟨c0,c1,c2,c3,c4,c5,c6,c7,c8,c9,cf⟩:=zag U.out.cells
 rw[show (adv q).rq=q.rq from rfl] at c4
 generalize M:(zf C q.pos).text=tx at hs K ⊢
 have ad:=zc M
 clear M
 go_wp2_with fail
 refine (zhS j S.rq q.rq tx _ U.out.mem.own.rq (by omega)).mono ?_
 rintro e H ⟨rfl,J⟩
 rw[hs,J]
 clear J H
 go_wp2_with fail
 refine (zem o q.rq.length 40 _ (by omega)).mono ?_
 rintro e H ⟨rfl,J⟩
 rw[J]
 clear J H
 have HN:Hid (some o≠S.rq.blk):=fun e=>U.out.free (.inl e.symm)
 go_wp2_with fail
 go_region_law (first|(refine zfC rfl (.tmp 28) (.tmp 31) 26 rfl j 9 i0 _ 1 16 Tryz.underlying26 hi X ac ab rfl (by decide) (by decide) S.rq q.rq.length (q.rq.map .string) (by rfl) (by exact E.out.mem.own.rq.alloc _) O.heap.size [.string tx] (by rfl) (by exact heap_alloc_new O _) rfl (zo4 tx) (by omega) (by exact (E.out.alloc _).mem.base) ?_;intro r' w2 hr D L;have g2:=(D.block o (by exact (E.out.alloc _).lt) HN.out).trans (by exact (E.out.alloc _).cells);obtain⟨d0,d1,d2,d3,d4,d5,d6,d7,d8,d9,df⟩:=zag g2)|(go_simp;go_wp2_with (go_at_call 41;refine (zjR _ _ K).mono ?_;rintro e O ⟨rfl,I⟩;have E:Hid (IM C N z j o S (adv q) O):=U.out.drew.later I;have Y:Hid (Below Q.heap.size Q O):=(Below.refl Q.heap.size Q).drew.trans I;obtain⟨e0,e1,e2,e3,e4,e5,e6,e7,e8,e9,ef⟩:=zag E.out.cells;rw[show (adv q).rq=q.rq from rfl] at e4;have ae:=E.out.lt;clear I)))
 all_goals
  have HR:=zc hr
  have Z:=zc D
  have V:=zc L
  clear hr D L g2 c0 c1 c2 c3 c4 c5 c6 c7 c8 c9 cf e0 e1 e2 e3 e4 e5 e6 e7 e8 e9 ef
  go_wp2
  go_ret
  obtain⟨m',s'⟩:=E.out.grow_rq (x:=tx) ((Below.refl _ _).alloc (Nat.le_refl _) _) Z.out HR.out V.out hn
  rw[ad.out]
  exact⟨rfl,_,m',aa.out.trans (s'.grownI Y.out)⟩
theorem zgA (C:Cx) (D o j z:Nat) (S:Sv) (q:PS) (w:World) (h:IM C D o j z S q w) (hC:zb0 C):
  Calls Tryz.prog 113 #[.pointer (some ⟨z,0,none⟩)] w (zT C D o j z (zy C q) (·.1) (fun a=>.string a.2) S w):=by
 cases H:((zf C q.pos).kind==3) with
 |false=>
  have J:=zc h
  have O:Hid (zy C q= .error (zu C q.pos)):=by show _=_;rw[zy,H];rfl
  clear h
  go_enter Tryz.func113,Tryz.ntmps113
  go_wp2_with fail
  refine (zjP C D o j z S q 3 _ J.out H).mono ?_
  rintro e V ⟨rfl,Q⟩
  have Y:Hid (Below j w V):=Q.mono J.out.mem.base
  clear Q
  unfold Pan
  go_wp2
  refine⟨rfl,?_⟩
  rw[O.out]
  exact⟨rfl,Y.out⟩
 |true=>
  cases N:zbe q.rq (zf C q.pos).text with
  |true=>
   have J:=zc h
   have O:Hid (zy C q= .ok (adv q,(zf C q.pos).text)):=by show _=_;rw[zy,H,N];rfl
   have aa:=zcF
   have X:=h.mem.inv.rq
   clear h
   go_enter Tryz.func113,Tryz.ntmps113
   go_wp2_with fail
   refine (zel C D o j z S q 3 _ J.out H (by decide)).mono ?_
   rintro e V ⟨rfl,M,L⟩
   have E:=zc M
   have I:=zc L
   clear M L
   unfold tkV
   obtain⟨c0,c1,c2,c3,Z,c5,c6,c7,c8,c9,cf⟩:=zag E.out.cells
   rw[show (adv q).rq=q.rq from rfl] at Z
   go_wp2_with fail
   refine (zhS j S.rq q.rq (zf C q.pos).text _ E.out.mem.own.rq (by omega)).mono ?_
   rintro e K ⟨rfl,U⟩
   rw[N,U]
   clear U K
   go_wp2
   go_ret
   rw[O.out]
   exact⟨rfl,S,E.out,I.out⟩
  |false=>
   by_cases hn:q.rq.length<40
   ·refine (zo5 C D o j z S q w h hC H N hn).mono ?_
    rintro e V ⟨rfl,S1,M,L⟩
    rw[zy,H,N,if_pos rfl,if_neg (by decide),if_neg (by omega)]
    exact⟨rfl,S1,M,L⟩
   ·have J:Hid (IM C D o j z S q w):=h
    have O:Hid (zy C q= .error (zu C q.pos)):=by show _=_;rw[zy,H,N,if_pos rfl,if_neg (by decide),if_pos (by omega)]
    have aa:=zcF
    have X:=h.mem.inv.rq
    clear h
    go_enter Tryz.func113,Tryz.ntmps113
    go_wp2_with fail
    refine (zel C D o j z S q 3 _ J.out H (by decide)).mono ?_
    rintro e V ⟨rfl,M,L⟩
    have E:=zc M
    have I:=zc L
    clear M L
    unfold tkV
    obtain⟨c0,c1,c2,c3,Z,c5,c6,c7,c8,c9,cf⟩:=zag E.out.cells
    rw[show (adv q).rq=q.rq from rfl] at Z
    go_wp2_with fail
    refine (zhS j S.rq q.rq (zf C q.pos).text _ E.out.mem.own.rq (by omega)).mono ?_
    rintro e K ⟨rfl,U⟩
    rw[N,U]
    clear U K
    go_wp2_with fail
    refine (zeV C D o j z S (adv q) q.rq.length 40 _ E.out (by omega) (by rw[zz];omega)).mono ?_
    rintro e w2 ⟨rfl,Q⟩
    have Y:Hid (Below j w w2):=(J.out.back I.out).trans (Q.mono E.out.mem.base)
    clear Q
    unfold Pan
    go_wp2
    refine⟨rfl,?_⟩
    rw[O.out]
    exact⟨rfl,Y.out⟩
theorem bdO {α β:Type} {Y:Except Nat β} {x:Except Nat α} {f:α→Except Nat β} {a:α} (h:Y=bd x f) (j:x= .ok a):Y=f a:=by rw[h,j];rfl
theorem bdE {α β:Type} {Y:Except Nat β} {x:Except Nat α} {f:α→Except Nat β} {p:Nat} (h:Y=bd x f) (j:x= .error p):Y= .error p:=by rw[h,j];rfl
theorem zeX {α:Type} (x:Except Nat α):bd x .ok=x:=by cases x<;>rfl
abbrev cCall:ByteArray:={data:=#[40,41,123]}
abbrev cShutSemi:ByteArray:={data:=#[41,59]}
abbrev cSemiRight:ByteArray:={data:=#[59,125]}
theorem zjS (C:Cx) (b:UInt8) (q:PS):zaE C {data:=#[b]} 1 0 q=zd C 4 {data:=#[b]} q:=by
 have e:({data:=#[b]}:ByteArray).extract 0 (0+1)={data:=#[b]}:=by simp[ByteArray.extract,ByteArray.copySlice]
 rw[zaE,e]
 exact zeX _
theorem zjT (C:Cx) (b c:UInt8) (q:PS):zaE C {data:=#[b,c]} 2 0 q=bd (zd C 4 {data:=#[b]} q) (zd C 4 {data:=#[c]}):=by
 have e:({data:=#[b,c]}:ByteArray).extract 0 (0+1)={data:=#[b]}:=by simp[ByteArray.extract,ByteArray.copySlice]
 have j:({data:=#[b,c]}:ByteArray).extract (0+1) (0+1+1)={data:=#[c]}:=by simp[ByteArray.extract,ByteArray.copySlice]
 rw[zaE,e]
 refine zaf fun a _=>?_
 rw[zaE,j]
 exact zeX _
theorem zo6 (C:Cx) (b c d:UInt8) (q:PS):zaE C {data:=#[b,c,d]} 3 0 q=bd (zd C 4 {data:=#[b]} q) fun a=>bd (zd C 4 {data:=#[c]} a) (zd C 4 {data:=#[d]}):=by
 have e:({data:=#[b,c,d]}:ByteArray).extract 0 (0+1)={data:=#[b]}:=by simp[ByteArray.extract,ByteArray.copySlice]
 have j:({data:=#[b,c,d]}:ByteArray).extract (0+1) (0+1+1)={data:=#[c]}:=by simp[ByteArray.extract,ByteArray.copySlice]
 have o:({data:=#[b,c,d]}:ByteArray).extract (0+1+1) (0+1+1+1)={data:=#[d]}:=by simp[ByteArray.extract,ByteArray.copySlice]
 rw[zaE,e]
 refine zaf fun a _=>?_
 rw[zaE,j]
 refine zaf fun a _=>?_
 rw[zaE,o]
 exact zeX _
theorem zo7 (C:Cx) (D o j z:Nat) (S:Sv) (q:PS) (s:ByteArray) (f:PS→PR) (w:World) (h:IM C D o j z S q w) (E:zaE C s s.size 0 q=f q) (H:s.size≤100):
  Calls Tryz.prog 94 #[.pointer (some ⟨z,0,none⟩),.string s] w (zT C D o j z (f q) id (fun _=>.tuple #[]) S w):=by
 rw[←E]
 exact zhO C D o j z S q s w h H
theorem zcw (C:Cx) (D o j z:Nat) (S:Sv) (q:PS) (b:UInt8) (w:World) (h:IM C D o j z S q w):
  Calls Tryz.prog 94 #[.pointer (some ⟨z,0,none⟩),.string {data:=#[b]}] w (zT C D o j z (zd C 4 {data:=#[b]} q) id (fun _=>.tuple #[]) S w):=
 zo7 C D o j z S q {data:=#[b]} (zd C 4 {data:=#[b]}) w h (zjS C b q) (by show 1≤100;omega)
structure Six (w:World) (b:Nat) (v0 v1 v2 v3 v4 v5:Value):Prop where
 c0:w.cell? ⟨b,0,none⟩=some v0
 c1:w.cell? ⟨b,1,none⟩=some v1
 c2:w.cell? ⟨b,2,none⟩=some v2
 c3:w.cell? ⟨b,3,none⟩=some v3
 c4:w.cell? ⟨b,4,none⟩=some v4
 c5:w.cell? ⟨b,5,none⟩=some v5
 fz: ∀i,w.frozen? ⟨b,i,none⟩=false
theorem zC {w:World} {b:Nat} {t:TypeId} {H o z j D E:Value} (h:w.heap[b]? =some (.cells #[H,o,z,j,D,E] t (0,0))):Six w b H o z j D E:=by
 constructor<;>simp[World.cell?,World.frozen?,h]
theorem IS.kept {C:Cx} {J z j D b:Nat} {S I:Sv} {q:PS} {w E:World} {o:Obj} (h:IM C J z j D S q w) (s:IS D S (w.alloc o) I E) (H:b=w.heap.size):E.heap[b]? =some o:=by
 subst H
 refine (s.block _ (by rw[zW];omega) (fun g=>?_) (by have:=h.lt;omega)).trans (heap_alloc_new w _)
 have:=(h.mem.own.has g).2
 omega
theorem IS.from {D:Nat} {S z:Sv} {w j:World} {o:Obj} (s:IS D S (w.alloc o) z j):IS D S w z j:=(IS.below ((Below.refl _ _).alloc (Nat.le_refl _) _)).trans s
theorem IS.free {C:Cx} {I z j D:Nat} {S E:Sv} {q:PS} {w H:World} {o:Obj} (h:IM C I z j D S q w) (s:IS D S (w.alloc o) E H): ¬E.has w.heap.size:=by
 intro g
 rcases s.sub _ g with k|k
 ·have:=(h.mem.own.has k).2
  omega
 ·rw[zW] at k
  omega
def zb1 (C:Cx) (x:Ex) (call:Int) (q:PS):PR:=if isT C q.pos 4 cOpen then bd (zd C 4 zU (adv q)) (zJ C ⟨call,x.num,x.name,x.field,x.l,x.r⟩) else zJ C x q
theorem zfG (C:Cx) (K z o D:Nat) (S:Sv) (q:PS) (x:Ex) (j:Int) (w:World) (h:IM C K z o D S q w) (hp:0<q.pos):
  Calls Tryz.prog 149 #[.pointer (some ⟨D,0,none⟩),exV x,.int .i64 j] w (zT C K z o D (zb1 C x j q) id (fun q'=>.int .i64 ((q'.ex.length:Int)-1)) S w):=by
 have H:=zc h
 clear h
 cases hi:isT C q.pos 4 cOpen with
 |false=>
  have V:Hid (zb1 C x j q=zJ C x q):=by show _=_;rw[zb1,hi];rfl
  unfold exV
  go_enter Tryz.func149,Tryz.ntmps149
  go_wp2_with fail
  refine (zP C K z o D S q 4 cOpen _ (H.out.alloc _) (by decide)).mono ?_
  rintro e w1 ⟨rfl,m,s⟩
  rw[hi] at m ⊢
  have M:=zc m
  have Q:Hid (IS D S w S w1):=s.from
  have ae:Hid (w1.heap[w.heap.size]? =some (.cells #[.int .i64 x.kind,.int .i64 x.num,.string x.name,.string x.field,.int .i64 x.l,.int .i64 x.r] 81 (0,0))):=IS.kept H.out s rfl
  obtain⟨b0,b1,b2,b3,b4,b5,bf⟩:=zC ae.out
  clear m s
  go_wp2_with fail
  refine (zeW C K z o D S q x _ M.out hp).mono ?_
  cases E:zJ C x q with
  |error p=>
   rintro e L ⟨rfl,hb⟩
   have Z:Hid (Below o w L):=(H.out.back Q.out).trans hb
   have J:Hid (zb1 C x j q= .error p):=V.out.trans E
   unfold Pan
   go_wp2
   refine⟨rfl,?_⟩
   rw[J.out]
   exact⟨rfl,Z.out⟩
  |ok a2=>
   rintro e L ⟨rfl,O,m,s⟩
   have N:=zc m
   have ag:Hid (IS D S w O L):=Q.out.trans s
   clear m s
   have J:=zc (V.out.trans E)
   go_wp2
   go_ret
   rw[J.out]
   exact⟨rfl,O,N.out,ag.out⟩
 |true=>
  have V:Hid (zb1 C x j q=bd (zd C 4 zU (adv q)) (zJ C ⟨j,x.num,x.name,x.field,x.l,x.r⟩)):=by show _=_;rw[zb1,hi];rfl
  unfold exV
  go_enter Tryz.func149,Tryz.ntmps149
  go_wp2_with fail
  refine (zP C K z o D S q 4 cOpen _ (H.out.alloc _) (by decide)).mono ?_
  rintro e w1 ⟨rfl,m,s⟩
  rw[hi] at m ⊢
  have M:=zc m
  have Y:=zc s
  clear m s
  go_wp2_with fail
  refine (zcw C K z o D S (adv q) 41 _ M.out).mono ?_
  cases E:zd C 4 zU (adv q) with
  |error p=>
   rintro e L ⟨rfl,hb⟩
   have Z:Hid (Below o w L):=(H.out.back Y.out.from).trans hb
   have J:Hid (zb1 C x j q= .error p):=bdE V.out E
   unfold Pan
   go_wp2
   refine⟨rfl,?_⟩
   rw[J.out]
   exact⟨rfl,Z.out⟩
  |ok a2=>
   rintro e L ⟨rfl,O,m,s⟩
   have N:=zc m
   have I:Hid (IS D S (w.alloc (.cells #[.int .i64 x.kind,.int .i64 x.num,.string x.name,.string x.field,.int .i64 x.l,.int .i64 x.r] 81)) O L):=Y.out.trans s
   have ab:Hid (L.heap[w.heap.size]? =some (.cells #[.int .i64 x.kind,.int .i64 x.num,.string x.name,.string x.field,.int .i64 x.l,.int .i64 x.r] 81 (0,0))):=IS.kept H.out I.out rfl
   have ad:Hid (a2=adv (adv q)):=(zbh E).1
   have ac:Hid (¬O.has w.heap.size):=IS.free H.out I.out
   have ah:D<w.heap.size:=H.out.lt
   have ai:K<w.heap.size:=(zan H.out.mem.tok).1
   clear m s
   have U:=zc (bdO V.out E)
   obtain⟨b0,b1,b2,b3,b4,b5,bf⟩:=zC ab.out
   go_wp2_with fail
   refine (zeW C K z o D O a2 ⟨j,x.num,x.name,x.field,x.l,x.r⟩ _ (N.out.set (by omega) (by omega) ac.out _ _) (by rw[ad.out];show 0<q.pos+1+1;omega)).mono ?_
   cases X:zJ C ⟨j,x.num,x.name,x.field,x.l,x.r⟩ a2 with
   |error p=>
    rintro e w3 ⟨rfl,hb⟩
    have Z:Hid (Below o w w3):=(H.out.back (I.out.from.new (Nat.le_refl _) _ _)).trans hb
    have J:Hid (zb1 C x j q= .error p):=U.out.trans X
    unfold Pan
    go_wp2
    refine⟨rfl,?_⟩
    rw[J.out]
    exact⟨rfl,Z.out⟩
   |ok a3=>
    rintro e w3 ⟨rfl,S3,m,s⟩
    have af:=zc m
    have aa:Hid (IS D S w S3 w3):=(I.out.from.new (Nat.le_refl _) _ _).trans s
    clear m s
    have J:=zc (U.out.trans X)
    go_wp2
    go_ret
    rw[J.out]
    exact⟨rfl,S3,af.out,aa.out⟩
def exI (q:PS):Value:=.int .i64 ((q.ex.length:Int)-1)
def zfH (C:Cx) (gt cap base gp m:Nat):Prop:=∀(d:Nat) (S:Sv) (q:PS) (w:World),C.ts.length-q.pos<m→d≤20→IM C gt cap base gp S q w→
 Calls Tryz.prog 124 #[.pointer (some ⟨gp,0,none⟩),.int .i64 d] w (zT C gt cap base gp (pE C .sum d q) id exI S w)
theorem zjU (C:Cx) (n:ByteArray) (q:PS):zau C n q=zb1 C ⟨2,0,n,sNone,0,0⟩ 3 q:=by
 unfold zau zb1
 cases j:isT C q.pos 4 cOpen with
 |true=>rw[zcd j];rfl
 |false=>rfl
theorem zo8 (C:Cx) (n f:ByteArray) (q:PS):za5 C n f q=zb1 C ⟨4,0,n,f,0,0⟩ 5 q:=by
 unfold za5 zb1
 cases j:isT C q.pos 4 cOpen with
 |true=>rw[zcd j];rfl
 |false=>rfl
theorem zo9 {x y:ByteArray} (h:(x.toList==y.toList)=true):x=y:=by
 rw[beq_iff_eq,Lib.toList_data,Lib.toList_data] at h
 cases x
 cases y
 simp only at h
 rw[Array.toList_inj.1 h]
theorem zhT {C:Cx} {i:Nat} {k:Int} {x:ByteArray} (h:isT C i k x=true):(zf C i).text=x:=by
 simp only[isT,Bool.and_eq_true] at h
 exact zo9 h.2
theorem zgB {C:Cx} {i:Nat} {k:Int} {x:ByteArray} (h:isT C i k x=true):((zf C i).kind==k)=true:=by
 simp only[isT,Bool.and_eq_true] at h
 exact h.1
theorem zoA {C:Cx} {d:Nat} {q:PS} (h:((zf C q.pos).kind==2)=true):pE C .part d q=zJ C ⟨1,(zf C q.pos).num,sNone,sNone,0,0⟩ (adv q):=by rw[zby,h];rfl
theorem zoB {C:Cx} {d:Nat} {q:PS} (h:((zf C q.pos).kind==2)=false) (j:isT C q.pos 4 cOpen=true) (hd:20≤d):pE C .part d q= .error (zu C q.pos):=by rw[zby,h,j,if_neg (by decide),if_pos rfl,if_pos hd]
theorem zoC {C:Cx} {d:Nat} {q:PS} (h:((zf C q.pos).kind==2)=false) (j:isT C q.pos 4 cOpen=true) (hd: ¬20≤d):pE C .part d q=bd (pE C .sum (d+1) (adv q)) (zd C 4 zU):=by rw[zby,h,j,if_neg (by decide),if_pos rfl,if_neg hd]
theorem zoD {C:Cx} {d:Nat} {q:PS} (h:((zf C q.pos).kind==2)=false) (o:isT C q.pos 4 cOpen=false) (z:C.scr=true) (j:isT C q.pos 1 sUndef=true):pE C .part d q=zb1 C ⟨2,0,sUndef,sNone,0,0⟩ 3 (adv q):=by
 rw[zby,h,o,z,j,if_neg (by decide),if_neg (by decide),if_pos (by decide),zjU]
theorem zjV {C:Cx} {d:Nat} {q:PS} (h:((zf C q.pos).kind==2)=false) (j:isT C q.pos 4 cOpen=false) (o:(C.scr&&isT C q.pos 1 sUndef)=false):
  pE C .part d q=bd (zk C false q) fun x=>if isT C x.1.pos 4 cPoint then bd (zk C true (adv x.1)) fun y=>zb1 C ⟨4,0,x.2,y.2,0,0⟩ 5 y.1 else zb1 C ⟨2,0,x.2,sNone,0,0⟩ 3 x.1:=by
 rw[zby,h,j,o,if_neg (by decide),if_neg (by decide),if_neg (by decide)]
 simp only[zjU,zo8]
theorem zoE (C:Cx) (D o j z d:Nat) (S:Sv) (q:PS) (w:World) (h:IM C D o j z S q w) (Y:((zf C q.pos).kind==2)=true):
  Calls Tryz.prog 148 #[.pointer (some ⟨z,0,none⟩),.int .i64 d] w (zT C D o j z (pE C .part d q) id exI S w):=by
 have K:=zc h
 have ab:=zcV
 have ac:=zcF
 have aa:=zeS
 clear h
 have X:=zc (zoA (d:=d) Y)
 go_enter Tryz.func148,Tryz.ntmps148
 go_wp2_with fail
 refine (zbD C D o j z S q _ K.out).mono ?_
 rintro e Z ⟨rfl,H⟩
 unfold tkV
 have N:Hid (IM C D o j z S q Z):=K.out.later H
 have J:Hid (IS z S w S Z):=IS.below H
 clear H
 go_wp2_with fail
 refine (zel C D o j z S q 2 _ N.out Y (by decide)).mono ?_
 rintro e w2 ⟨rfl,m,s⟩
 have O:=zc m
 have I:Hid (IS z S w S w2):=J.out.trans s
 clear m s
 unfold tkV
 go_wp2_with fail
 refine (zeW C D o j z S (adv q) ⟨1,(zf C q.pos).num,sNone,sNone,0,0⟩ _ O.out (by rw[zz];omega)).mono ?_
 cases E:zJ C ⟨1,(zf C q.pos).num,sNone,sNone,0,0⟩ (adv q) with
 |error p=>
  rintro e U ⟨rfl,H⟩
  have HB:Hid (Below j w U):=(K.out.back I.out).trans H
  have HX:Hid (pE C .part d q= .error p):=X.out.trans E
  unfold Pan
  go_wp2
  refine⟨rfl,?_⟩
  rw[HX.out]
  exact⟨rfl,HB.out⟩
 |ok a3=>
  rintro e U ⟨rfl,V,m,s⟩
  have Q:=zc m
  have L:Hid (IS z S w V U):=I.out.trans s
  clear m s
  have M:=zc (X.out.trans E)
  go_wp2
  go_ret
  rw[M.out]
  exact⟨rfl,V,Q.out,L.out⟩
theorem zoF (C:Cx) (D o j z d:Nat) (S:Sv) (q:PS) (w:World) (h:IM C D o j z S q w) (hk:((zf C q.pos).kind==2)=false) (N:isT C q.pos 4 cOpen=true) (hd:20≤d):
  Calls Tryz.prog 148 #[.pointer (some ⟨z,0,none⟩),.int .i64 d] w (zT C D o j z (pE C .part d q) id exI S w):=by
 have J:=zc h
 have X:=zcV
 have aa:=zcF
 have V:=zeS
 clear h
 have O:=zc (zoB (d:=d) hk N hd)
 have Q:(20:Int)≤(d:Int):=by omega
 go_enter Tryz.func148,Tryz.ntmps148
 go_wp2_with fail
 refine (zbD C D o j z S q _ J.out).mono ?_
 rintro e M ⟨rfl,H⟩
 unfold tkV
 have K:Hid (IM C D o j z S q M):=J.out.later H
 have I:Hid (IS z S w S M):=IS.below H
 clear H
 go_wp2_with fail
 refine (zP C D o j z S q 4 cOpen _ K.out (by decide)).mono ?_
 rintro e U ⟨rfl,m,s⟩
 rw[N] at m ⊢
 have E:=zc m
 have L:Hid (IS z S w S U):=I.out.trans s
 clear m s
 go_wp2_with fail
 refine (zeV C D o j z S (adv q) d 20 _ E.out (by omega) (by rw[zz];omega)).mono ?_
 rintro e w3 ⟨rfl,H⟩
 have Z:Hid (Below j w w3):=(J.out.back L.out).trans (H.mono E.out.mem.base)
 have Y:Hid (pE C .part d q= .error (zu C q.pos)):=O.out
 unfold Pan
 go_wp2
 refine⟨rfl,?_⟩
 rw[Y.out]
 exact⟨rfl,Z.out⟩
theorem zoG (C:Cx) (D o j z m d:Nat) (S:Sv) (q:PS) (w:World) (h:IM C D o j z S q w) (hk:((zf C q.pos).kind==2)=false) (h1:isT C q.pos 4 cOpen=true) (hd:d<20) (hS:zfH C D o j z m) (hm:C.ts.length-q.pos≤m):
  Calls Tryz.prog 148 #[.pointer (some ⟨z,0,none⟩),.int .i64 d] w (zT C D o j z (pE C .part d q) id exI S w):=by
 have O:=zc h
 have ah:=zcV
 have ai:=zcF
 have ag:=zeS
 clear h
 have U:=zc (zoC (d:=d) hk h1 (by omega))
 have af: ¬(20:Int)≤(d:Int):=by omega
 have ae:=za1 h1 (by decide)
 obtain⟨I,L⟩: ∃I:Nat,I=d+1:=⟨_,rfl⟩
 have ed:(d:Int)+1=(I:Int):=by omega
 rw[←L] at U
 have X:I≤20:=by omega
 clear L
 go_enter Tryz.func148,Tryz.ntmps148
 go_wp2_with fail
 refine (zbD C D o j z S q _ O.out).mono ?_
 rintro e w1 ⟨rfl,E⟩
 unfold tkV
 have Z:Hid (IM C D o j z S q w1):=O.out.later E
 have Q:Hid (IS z S w S w1):=IS.below E
 clear E
 go_wp2_with fail
 refine (zP C D o j z S q 4 cOpen _ Z.out (by decide)).mono ?_
 rintro e w2 ⟨rfl,m,s⟩
 rw[h1] at m ⊢
 have aa:=zc m
 have N:Hid (IS z S w S w2):=Q.out.trans s
 clear m s
 go_wp2_with fail
 refine (zem z d 20 _ (by omega)).mono ?_
 rintro e w' ⟨rfl,hw⟩
 rw[hw]
 clear hw w'
 go_wp2_with fail
 refine (hS I S (adv q) _ (by rw[zz];omega) X aa.out).mono ?_
 cases M:pE C .sum I (adv q) with
 |error p=>
  rintro e w3 ⟨rfl,E⟩
  have HB:Hid (Below j w w3):=(O.out.back N.out).trans E
  have HX:Hid (pE C .part d q= .error p):=bdE U.out M
  unfold Pan
  go_wp2
  refine⟨rfl,?_⟩
  rw[HX.out]
  exact⟨rfl,HB.out⟩
 |ok a3=>
  rintro e w3 ⟨rfl,S3,m,s⟩
  have ac:=zc m
  have J:Hid (IS z S w S3 w3):=N.out.trans s
  clear m s
  have K:=zc (bdO U.out M)
  unfold exI
  go_wp2_with fail
  refine (zcw C D o j z S3 a3 41 _ ac.out).mono ?_
  cases H:zd C 4 zU a3 with
  |error p=>
   rintro e V ⟨rfl,E⟩
   have HB:Hid (Below j w V):=(O.out.back J.out).trans E
   have HX:Hid (pE C .part d q= .error p):=K.out.trans H
   unfold Pan
   go_wp2
   refine⟨rfl,?_⟩
   rw[HX.out]
   exact⟨rfl,HB.out⟩
  |ok a4=>
   rintro e V ⟨rfl,S4,m,s⟩
   have Y:=zc m
   have ad:Hid (IS z S w S4 V):=J.out.trans s
   clear m s
   have ab:=zc (K.out.trans H)
   have HP:Hid (a4=adv a3):=(zbh H).1
   go_wp2
   go_ret
   rw[ab.out]
   exact⟨by rw[HP.out];rfl,S4,Y.out,ad.out⟩
theorem zoH (C:Cx) (D o j z d:Nat) (S:Sv) (q:PS) (w:World) (h:IM C D o j z S q w) (hk:((zf C q.pos).kind==2)=false) (h1:isT C q.pos 4 cOpen=false) (h2:C.scr=true) (K:isT C q.pos 1 sUndef=true):
  Calls Tryz.prog 148 #[.pointer (some ⟨z,0,none⟩),.int .i64 d] w (zT C D o j z (pE C .part d q) id exI S w):=by
 have M:=zc h
 have ad:=zcV
 have ab:=zcF
 have ac:=zeS
 clear h
 have HY:=zc (zoD (d:=d) hk h1 h2 K)
 go_enter Tryz.func148,Tryz.ntmps148
 go_wp2_with fail
 refine (zbD C D o j z S q _ M.out).mono ?_
 rintro e w1 ⟨rfl,E⟩
 unfold tkV
 have V:Hid (IM C D o j z S q w1):=M.out.later E
 have L:Hid (IS z S w S w1):=IS.below E
 clear E
 go_wp2_with fail
 refine (zP C D o j z S q 4 cOpen _ V.out (by decide)).mono ?_
 rintro e w2 ⟨rfl,m,s⟩
 rw[h1] at m ⊢
 have H:=zc m
 have aa:Hid (IS z S w S w2):=L.out.trans s
 clear m s
 obtain⟨_,_,_,c3,_,_,_,_,_,_,cf⟩:=zag H.out.cells
 rw[h2] at c3
 go_wp2_with fail
 refine (zco C D o j z S q 1 sUndef _ H.out).mono ?_
 rintro e w3 ⟨rfl,E⟩
 rw[K]
 have Z:Hid (IM C D o j z S q w3):=H.out.later E
 have N:Hid (IS z S w S w3):=(aa.out.trans (IS.below E))
 clear E
 go_wp2_with fail
 refine (zel C D o j z S q 1 _ Z.out (zgB K) (by decide)).mono ?_
 rintro e w4 ⟨rfl,m,s⟩
 have U:=zc m
 have J:Hid (IS z S w S w4):=N.out.trans s
 clear m s
 unfold tkV
 rw[zhT K]
 go_wp2_with fail
 refine (zfG C D o j z S (adv q) ⟨2,0,sUndef,sNone,0,0⟩ 3 _ U.out (by rw[zz];omega)).mono ?_
 cases I:zb1 C ⟨2,0,sUndef,sNone,0,0⟩ 3 (adv q) with
 |error p=>
  rintro e Y ⟨rfl,E⟩
  have HB:Hid (Below j w Y):=(M.out.back J.out).trans E
  have HX:Hid (pE C .part d q= .error p):=HY.out.trans I
  unfold Pan
  go_wp2
  refine⟨rfl,?_⟩
  rw[HX.out]
  exact⟨rfl,HB.out⟩
 |ok a5=>
  rintro e Y ⟨rfl,S5,m,s⟩
  have Q:=zc m
  have X:Hid (IS z S w S5 Y):=J.out.trans s
  clear m s
  have O:=zc (HY.out.trans I)
  go_wp2
  go_ret
  rw[O.out]
  exact⟨rfl,S5,Q.out,X.out⟩
theorem zoI (C:Cx) (E o j z d:Nat) (S:Sv) (q:PS) (w:World) (h:IM C E o j z S q w) (hk:((zf C q.pos).kind==2)=false) (h1:isT C q.pos 4 cOpen=false) (h2:C.scr=true) (h3:isT C q.pos 1 sUndef=false):
  Calls Tryz.prog 148 #[.pointer (some ⟨z,0,none⟩),.int .i64 d] w (zT C E o j z (pE C .part d q) id exI S w):=by
 have Z:=zc h
 have ap:=zcV
 have an:=zcF
 have ao:=zeS
 clear h
 have HY:=zc (zjV (d:=d) hk h1 (by rw[h2,h3];rfl))
 go_enter Tryz.func148,Tryz.ntmps148
 go_wp2_with fail
 refine (zbD C E o j z S q _ Z.out).mono ?_
 rintro e w1 ⟨rfl,D⟩
 unfold tkV
 have ai:Hid (IM C E o j z S q w1):=Z.out.later D
 have ag:Hid (IS z S w S w1):=IS.below D
 clear D
 go_wp2_with fail
 refine (zP C E o j z S q 4 cOpen _ ai.out (by decide)).mono ?_
 rintro e w2 ⟨rfl,m,s⟩
 rw[h1] at m ⊢
 have Q:=zc m
 have am:Hid (IS z S w S w2):=ag.out.trans s
 clear m s
 obtain⟨_,_,_,c3,_,_,_,_,_,_,cf⟩:=zag Q.out.cells
 rw[h2] at c3
 go_wp2_with fail
 refine (zco C E o j z S q 1 sUndef _ Q.out).mono ?_
 rintro e w3 ⟨rfl,D⟩
 rw[h3]
 have al:Hid (IM C E o j z S q w3):=Q.out.later D
 have aa:Hid (IS z S w S w3):=(am.out.trans (IS.below D))
 clear D
 go_wp2_with fail
 refine (zd1 C E o j z S q _ al.out).mono ?_
 cases Y:zk C false q with
 |error p=>
  rintro e w4 ⟨rfl,D⟩
  have X:Hid (Below j w w4):=(Z.out.back aa.out).trans D
  have V:Hid (pE C .part d q= .error p):=bdE HY.out Y
  unfold Pan
  go_wp2
  refine⟨rfl,?_⟩
  rw[V.out]
  exact⟨rfl,X.out⟩
 |ok I=>
  rintro e w4 ⟨rfl,O,m,s⟩
  have ac:=zc m
  have af:Hid (IS z S w O w4):=aa.out.trans s
  clear m s
  have ad:=zc (bdO HY.out Y)
  have ae:0<I.1.pos:=by rw[(zaX Y).1];exact Nat.succ_pos _
  cases hd:isT C I.1.pos 4 cPoint with
  |true=>
   have HZ:=zc (ad.out.trans (if_pos hd))
   go_wp2_with fail
   refine (zP C E o j z O (I.1) 4 cPoint _ ac.out (by decide)).mono ?_
   rintro e w5 ⟨rfl,m,s⟩
   rw[hd] at m ⊢
   have N:=zc m
   have J:Hid (IS z S w O w5):=af.out.trans s
   clear m s
   go_wp2_with fail
   refine (zfB C E o j z O (adv (I.1)) _ N.out).mono ?_
   cases H:zk C true (adv (I.1)) with
   |error p=>
    rintro e M ⟨rfl,D⟩
    have X:Hid (Below j w M):=(Z.out.back J.out).trans D
    have V:Hid (pE C .part d q= .error p):=bdE HZ.out H
    unfold Pan
    go_wp2
    refine⟨rfl,?_⟩
    rw[V.out]
    exact⟨rfl,X.out⟩
   |ok a6=>
    rintro e M ⟨rfl,S6,m,s⟩
    have U:=zc m
    have K:Hid (IS z S w S6 M):=J.out.trans s
    clear m s
    have L:=zc (bdO HZ.out H)
    go_wp2_with fail
    refine (zfG C E o j z S6 (a6.1) ⟨4,0,I.2,a6.2,0,0⟩ 5 _ U.out (by rw[(zaX H).1];exact Nat.succ_pos _)).mono ?_
    cases ab:zb1 C ⟨4,0,I.2,a6.2,0,0⟩ 5 (a6.1) with
    |error p=>
     rintro e w7 ⟨rfl,D⟩
     have X:Hid (Below j w w7):=(Z.out.back K.out).trans D
     have V:Hid (pE C .part d q= .error p):=L.out.trans ab
     unfold Pan
     go_wp2
     refine⟨rfl,?_⟩
     rw[V.out]
     exact⟨rfl,X.out⟩
    |ok a7=>
     rintro e w7 ⟨rfl,S7,m,s⟩
     have aj:=zc m
     have ak:Hid (IS z S w S7 w7):=K.out.trans s
     clear m s
     have ah:=zc (L.out.trans ab)
     go_wp2
     go_ret
     rw[ah.out]
     exact⟨rfl,S7,aj.out,ak.out⟩
  |false=>
   have HZ:=zc (ad.out.trans (if_neg (by rw[hd];decide)))
   go_wp2_with fail
   refine (zP C E o j z O (I.1) 4 cPoint _ ac.out (by decide)).mono ?_
   rintro e w5 ⟨rfl,m,s⟩
   rw[hd] at m ⊢
   have N:=zc m
   have J:Hid (IS z S w O w5):=af.out.trans s
   clear m s
   go_wp2_with fail
   refine (zfG C E o j z O (I.1) ⟨2,0,I.2,sNone,0,0⟩ 3 _ N.out ae).mono ?_
   cases H:zb1 C ⟨2,0,I.2,sNone,0,0⟩ 3 (I.1) with
   |error p=>
    rintro e M ⟨rfl,D⟩
    have X:Hid (Below j w M):=(Z.out.back J.out).trans D
    have V:Hid (pE C .part d q= .error p):=HZ.out.trans H
    unfold Pan
    go_wp2
    refine⟨rfl,?_⟩
    rw[V.out]
    exact⟨rfl,X.out⟩
   |ok a6=>
    rintro e M ⟨rfl,S6,m,s⟩
    have U:=zc m
    have K:Hid (IS z S w S6 M):=J.out.trans s
    clear m s
    have L:=zc (HZ.out.trans H)
    go_wp2
    go_ret
    rw[L.out]
    exact⟨rfl,S6,U.out,K.out⟩
theorem zoJ (C:Cx) (H o j z d:Nat) (S:Sv) (q:PS) (w:World) (h:IM C H o j z S q w) (hk:((zf C q.pos).kind==2)=false) (h1:isT C q.pos 4 cOpen=false) (h2:C.scr=false):
  Calls Tryz.prog 148 #[.pointer (some ⟨z,0,none⟩),.int .i64 d] w (zT C H o j z (pE C .part d q) id exI S w):=by
 have Y:=zc h
 have ao:=zcV
 have am:=zcF
 have an:=zeS
 clear h
 have HY:=zc (zjV (d:=d) hk h1 (by rw[h2];rfl))
 go_enter Tryz.func148,Tryz.ntmps148
 go_wp2_with fail
 refine (zbD C H o j z S q _ Y.out).mono ?_
 rintro e w1 ⟨rfl,I⟩
 unfold tkV
 have aj:Hid (IM C H o j z S q w1):=Y.out.later I
 have ah:Hid (IS z S w S w1):=IS.below I
 clear I
 go_wp2_with fail
 refine (zP C H o j z S q 4 cOpen _ aj.out (by decide)).mono ?_
 rintro e w2 ⟨rfl,m,s⟩
 rw[h1] at m ⊢
 have ac:=zc m
 have ag:Hid (IS z S w S w2):=ah.out.trans s
 clear m s
 obtain⟨_,_,_,c3,_,_,_,_,_,_,cf⟩:=zag ac.out.cells
 rw[h2] at c3
 go_wp2_with fail
 refine (zd1 C H o j z S q _ ac.out).mono ?_
 cases O:zk C false q with
 |error p=>
  rintro e w3 ⟨rfl,I⟩
  have X:Hid (Below j w w3):=(Y.out.back ag.out).trans I
  have U:Hid (pE C .part d q= .error p):=bdE HY.out O
  unfold Pan
  go_wp2
  refine⟨rfl,?_⟩
  rw[U.out]
  exact⟨rfl,X.out⟩
 |ok E=>
  rintro e w3 ⟨rfl,M,m,s⟩
  have af:=zc m
  have aa:Hid (IS z S w M w3):=ag.out.trans s
  clear m s
  have ab:=zc (bdO HY.out O)
  have ad:0<E.1.pos:=by rw[(zaX O).1];exact Nat.succ_pos _
  cases hd:isT C E.1.pos 4 cPoint with
  |true=>
   have Z:=zc (ab.out.trans (if_pos hd))
   go_wp2_with fail
   refine (zP C H o j z M (E.1) 4 cPoint _ af.out (by decide)).mono ?_
   rintro e w4 ⟨rfl,m,s⟩
   rw[hd] at m ⊢
   have Q:=zc m
   have J:Hid (IS z S w M w4):=aa.out.trans s
   clear m s
   go_wp2_with fail
   refine (zfB C H o j z M (adv (E.1)) _ Q.out).mono ?_
   cases D:zk C true (adv (E.1)) with
   |error p=>
    rintro e V ⟨rfl,I⟩
    have X:Hid (Below j w V):=(Y.out.back J.out).trans I
    have U:Hid (pE C .part d q= .error p):=bdE Z.out D
    unfold Pan
    go_wp2
    refine⟨rfl,?_⟩
    rw[U.out]
    exact⟨rfl,X.out⟩
   |ok a5=>
    rintro e V ⟨rfl,S5,m,s⟩
    have N:=zc m
    have L:Hid (IS z S w S5 V):=J.out.trans s
    clear m s
    have K:=zc (bdO Z.out D)
    go_wp2_with fail
    refine (zfG C H o j z S5 (a5.1) ⟨4,0,E.2,a5.2,0,0⟩ 5 _ N.out (by rw[(zaX D).1];exact Nat.succ_pos _)).mono ?_
    cases ae:zb1 C ⟨4,0,E.2,a5.2,0,0⟩ 5 (a5.1) with
    |error p=>
     rintro e w6 ⟨rfl,I⟩
     have X:Hid (Below j w w6):=(Y.out.back L.out).trans I
     have U:Hid (pE C .part d q= .error p):=K.out.trans ae
     unfold Pan
     go_wp2
     refine⟨rfl,?_⟩
     rw[U.out]
     exact⟨rfl,X.out⟩
    |ok a6=>
     rintro e w6 ⟨rfl,S6,m,s⟩
     have ak:=zc m
     have ai:Hid (IS z S w S6 w6):=L.out.trans s
     clear m s
     have al:=zc (K.out.trans ae)
     go_wp2
     go_ret
     rw[al.out]
     exact⟨rfl,S6,ak.out,ai.out⟩
  |false=>
   have Z:=zc (ab.out.trans (if_neg (by rw[hd];decide)))
   go_wp2_with fail
   refine (zP C H o j z M (E.1) 4 cPoint _ af.out (by decide)).mono ?_
   rintro e w4 ⟨rfl,m,s⟩
   rw[hd] at m ⊢
   have Q:=zc m
   have J:Hid (IS z S w M w4):=aa.out.trans s
   clear m s
   go_wp2_with fail
   refine (zfG C H o j z M (E.1) ⟨2,0,E.2,sNone,0,0⟩ 3 _ Q.out ad).mono ?_
   cases D:zb1 C ⟨2,0,E.2,sNone,0,0⟩ 3 (E.1) with
   |error p=>
    rintro e V ⟨rfl,I⟩
    have X:Hid (Below j w V):=(Y.out.back J.out).trans I
    have U:Hid (pE C .part d q= .error p):=Z.out.trans D
    unfold Pan
    go_wp2
    refine⟨rfl,?_⟩
    rw[U.out]
    exact⟨rfl,X.out⟩
   |ok a5=>
    rintro e V ⟨rfl,S5,m,s⟩
    have N:=zc m
    have L:Hid (IS z S w S5 V):=J.out.trans s
    clear m s
    have K:=zc (Z.out.trans D)
    go_wp2
    go_ret
    rw[K.out]
    exact⟨rfl,S5,N.out,L.out⟩
theorem zjW (C:Cx) (D o j z m d:Nat) (S:Sv) (q:PS) (w:World) (h:IM C D o j z S q w) (hd:d≤20) (L:zfH C D o j z m) (M:C.ts.length-q.pos≤m):
  Calls Tryz.prog 148 #[.pointer (some ⟨z,0,none⟩),.int .i64 d] w (zT C D o j z (pE C .part d q) id exI S w):=by
 cases E:((zf C q.pos).kind==2) with
 |true=>exact zoE C D o j z d S q w h E
 |false=>
  cases H:isT C q.pos 4 cOpen with
  |true=>
   by_cases I:20≤d
   ·exact zoF C D o j z d S q w h E H I
   ·exact zoG C D o j z m d S q w h E H (by omega) L M
  |false=>
   cases J:C.scr with
   |true=>
    cases K:isT C q.pos 1 sUndef with
    |true=>exact zoH C D o j z d S q w h E H J K
    |false=>exact zoI C D o j z d S q w h E H J K
   |false=>exact zoJ C D o j z d S q w h E H J
theorem zoK {C:Cx} {d:Nat} {q:PS} (h:isT C q.pos 4 zp=false):pE C .prodT d q= .ok q:=by rw[zeK,if_neg (by rw[h];decide)]
theorem zoL {C:Cx} {d:Nat} {q:PS} (h:isT C q.pos 4 zp=true):pE C .prodT d q=bd (pE C .part d (adv q)) fun a=>bd (zJ C ⟨8,0,sNone,sNone,(q.ex.length:Int)-1,(a.ex.length:Int)-1⟩ a) (pE C .prodT d):=by rw[zeK,if_pos h,zR]
theorem zoM {C:Cx} {d:Nat} {q:PS} (h:isT C q.pos 4 zaI=false) (j:isT C q.pos 4 zbq=false):pE C .sumT d q= .ok q:=by rw[zee,if_neg (by rw[h,j];decide)]
theorem zoN {C:Cx} {d:Nat} {q:PS} (h:isT C q.pos 4 zaI=true):pE C .sumT d q=bd (pE C .prod d (adv q)) fun a=>bd (zJ C ⟨7,0,sNone,sNone,(q.ex.length:Int)-1,(a.ex.length:Int)-1⟩ a) (pE C .sumT d):=by
 rw[zee,if_pos (by rw[h];exact Bool.or_true _),zR,zbw,if_pos h]
theorem zoO {C:Cx} {d:Nat} {q:PS} (h:isT C q.pos 4 zaI=false) (j:isT C q.pos 4 zbq=true):pE C .sumT d q=bd (pE C .prod d (adv q)) fun a=>bd (zJ C ⟨6,0,sNone,sNone,(q.ex.length:Int)-1,(a.ex.length:Int)-1⟩ a) (pE C .sumT d):=by
 rw[zee,if_pos (by rw[j];rfl),zR,zbw,if_neg (by rw[h];decide)]
theorem zhU (C:Cx) (H o j z m d:Nat) (S:Sv) (q:PS) (w:World) (h:IM C H o j z S q w) (hd:d≤20) (hS:zfH C H o j z m) (hm:C.ts.length-q.pos≤m):
  Calls Tryz.prog 142 #[.pointer (some ⟨z,0,none⟩),.int .i64 d] w (zT C H o j z (pE C .prod d q) id exI S w):=by
 have HH:=zc h
 have HY:=zc (zf4 C d q)
 clear h
 go_enter Tryz.func142,Tryz.ntmps142
 go_wp2_with fail
 refine (zjW C H o j z m d S q _ HH.out hd hS hm).mono ?_
 cases J:pE C .part d q with
 |error p=>
  rintro e w1 ⟨rfl,hb⟩
  have HB:Hid (Below j w w1):=(HH.out.back (IS.refl _ _ _)).trans hb
  have HX:Hid (pE C .prod d q= .error p):=bdE HY.out J
  unfold Pan
  go_wp2
  refine⟨rfl,?_⟩
  rw[HX.out]
  exact⟨rfl,HB.out⟩
 |ok a1=>
  rintro e w1 ⟨rfl,S1,m,s⟩
  have ad:=zc m
  have aa:=zc s
  clear m s
  have ab:=zc (bdO HY.out J)
  unfold exI
  have aj:=zbr J
  go_wp2
  go_loopg [5] (C.ts.length+1) (fun k l wr=>∃(E:Sv) (D:PS),l=exI D∧pE C .prod d q=pE C .prodT d D∧C.ts.length-D.pos<k∧C.ts.length-D.pos≤m∧IM C H o j z E D wr∧IS z S w E wr)
  case atStart=>exact⟨S1,a1,rfl,ab.out,by omega,by omega,ad.out,aa.out⟩
  case round=>
   obtain⟨E,D,rfl,hy,hk,ak,m',s'⟩:=hrel
   have Y:=zc hy
   have Z:Hid (IM C H o j z E D wr):=m'
   have V:Hid (IS z S w E wr):=s'
   clear hy m' s'
   unfold exI
   cases X:isT C D.pos 4 zp with
   |false=>
    have HZ:=zc (Y.out.trans (zoK X))
    go_wp2_with fail
    refine (zP C H o j z E D 4 zp _ Z.out (by decide)).mono ?_
    rintro e w2 ⟨rfl,m,s⟩
    rw[X] at m ⊢
    have L:=zc m
    have I:Hid (IS z S w E w2):=V.out.trans s
    clear m s
    go_wp2
    go_ret
    rw[HZ.out]
    exact⟨rfl,E,L.out,I.out⟩
   |true=>
    have ai:=za1 X (by decide)
    have HZ:=zc (Y.out.trans (zoL X))
    go_wp2_with fail
    refine (zP C H o j z E D 4 zp _ Z.out (by decide)).mono ?_
    rintro e w2 ⟨rfl,m,s⟩
    rw[X] at m ⊢
    have L:=zc m
    have I:Hid (IS z S w E w2):=V.out.trans s
    clear m s
    go_wp2_with fail
    refine (zjW C H o j z m d E (adv D) _ L.out hd hS (by rw[zz];omega)).mono ?_
    cases K:pE C .part d (adv D) with
    |error p=>
     rintro e w3 ⟨rfl,hb⟩
     have HB:Hid (Below j w w3):=(HH.out.back I.out).trans hb
     have HX:Hid (pE C .prod d q= .error p):=bdE HZ.out K
     unfold Pan
     go_wp2
     refine⟨rfl,?_⟩
     rw[HX.out]
     exact⟨rfl,HB.out⟩
    |ok N=>
     rintro e w3 ⟨rfl,S3,m,s⟩
     have af:=zc m
     have O:Hid (IS z S w S3 w3):=I.out.trans s
     clear m s
     have Q:=zc (bdO HZ.out K)
     unfold exI
     have U:=zbr K
     rw[zz] at U
     have ah:0<N.pos:=by omega
     go_wp2_with fail
     refine (zeW C H o j z S3 N ⟨8,0,sNone,sNone,(D.ex.length:Int)-1,(N.ex.length:Int)-1⟩ _ af.out ah).mono ?_
     cases M:zJ C ⟨8,0,sNone,sNone,(D.ex.length:Int)-1,(N.ex.length:Int)-1⟩ N with
     |error p=>
      rintro e w4 ⟨rfl,hb⟩
      have HB:Hid (Below j w w4):=(HH.out.back O.out).trans hb
      have HX:Hid (pE C .prod d q= .error p):=bdE Q.out M
      unfold Pan
      go_wp2
      refine⟨rfl,?_⟩
      rw[HX.out]
      exact⟨rfl,HB.out⟩
     |ok a4=>
      rintro e w4 ⟨rfl,S4,m,s⟩
      have ac:=zc m
      have ag:Hid (IS z S w S4 w4):=O.out.trans s
      clear m s
      have ae:=zc (bdO Q.out M)
      have HP:Hid (a4.pos=N.pos):=by show _=_;rw[(zbx M).1]
      go_wp2
      go_roundg (gk-1)
      case rel=>exact⟨S4,a4,rfl,ae.out,by have:=HP.out;omega,by have:=HP.out;omega,ac.out,ag.out⟩
      case measure=>omega
theorem zoP (C:Cx) (I o j z m d:Nat) (S:Sv) (q:PS) (w:World) (h:IM C I o j z S q w) (hd:d≤20) (hS:zfH C I o j z m) (hm:C.ts.length-q.pos≤m):
  Calls Tryz.prog 124 #[.pointer (some ⟨z,0,none⟩),.int .i64 d] w (zT C I o j z (pE C .sum d q) id exI S w):=by
 have HH:=zc h
 have HY:=zc (zh9 C d q)
 clear h
 go_enter Tryz.func124,Tryz.ntmps124
 go_wp2_with fail
 refine (zhU C I o j z m d S q _ HH.out hd hS hm).mono ?_
 cases aa:pE C .prod d q with
 |error p=>
  rintro e w1 ⟨rfl,E⟩
  have HB:Hid (Below j w w1):=(HH.out.back (IS.refl _ _ _)).trans E
  have Z:Hid (pE C .sum d q= .error p):=bdE HY.out aa
  unfold Pan
  go_wp2
  refine⟨rfl,?_⟩
  rw[Z.out]
  exact⟨rfl,HB.out⟩
 |ok a1=>
  rintro e w1 ⟨rfl,S1,m,s⟩
  have an:=zc m
  have ak:=zc s
  clear m s
  have al:=zc (bdO HY.out aa)
  unfold exI
  have ar:=zbr aa
  go_wp2
  go_loopg [5] (C.ts.length+1) (fun k l wr=>∃(H:Sv) (D:PS),l=exI D∧pE C .sum d q=pE C .sumT d D∧C.ts.length-D.pos<k∧C.ts.length-D.pos≤m∧IM C I o j z H D wr∧IS z S w H wr)
  case atStart=>exact⟨S1,a1,rfl,al.out,by omega,by omega,an.out,ak.out⟩
  case round=>
   obtain⟨H,D,rfl,hy,hk,au,m',s'⟩:=hrel
   have ae:=zc hy
   have L:Hid (IM C I o j z H D wr):=m'
   have ac:Hid (IS z S w H wr):=s'
   clear hy m' s'
   unfold exI
   have aq:=L.out.mem.few
   cases hi:isT C D.pos 4 zaI with
   |true=>
    have ab:=za1 hi (by decide)
    have HZ:=zc (ae.out.trans (zoN hi))
    go_wp2_with fail
    refine (zco C I o j z H D 4 zaI _ L.out).mono ?_
    rintro e V ⟨rfl,E⟩
    rw[hi]
    have J:Hid (IM C I o j z H D V):=L.out.later E
    have U:Hid (IS z S w H V):=(ac.out.trans (IS.below E))
    clear E
    obtain⟨c0,c1,c2,c3,c4,c5,c6,c7,c8,c9,cf⟩:=zag J.out.cells
    go_wp2_with fail
    have N:Hid (IM C I o j z H (adv D) (V.setCell ⟨z,1,none⟩ (.int .i64 ((D.pos:Int)+1)))):=J.out.adv ab
    have M:Hid (IS z S w H (V.setCell ⟨z,1,none⟩ (.int .i64 ((D.pos:Int)+1)))):=U.out.set _ _
    refine (zhU C I o j z m d H (adv D) _ N.out hd hS (by rw[zz];omega)).mono ?_
    cases ag:pE C .prod d (adv D) with
    |error p=>
     rintro e w4 ⟨rfl,E⟩
     have HB:Hid (Below j w w4):=(HH.out.back M.out).trans E
     have Z:Hid (pE C .sum d q= .error p):=bdE HZ.out ag
     unfold Pan
     go_wp2
     refine⟨rfl,?_⟩
     rw[Z.out]
     exact⟨rfl,HB.out⟩
    |ok a4=>
     rintro e w4 ⟨rfl,S4,m,s⟩
     have af:=zc m
     have Q:Hid (IS z S w S4 w4):=M.out.trans s
     clear m s
     have aj:=zc (bdO HZ.out ag)
     unfold exI
     have O:=zbr ag
     rw[zz] at O
     have ai:0<a4.pos:=by omega
     go_wp2_with fail
     refine (zeW C I o j z S4 a4 ⟨7,0,sNone,sNone,(D.ex.length:Int)-1,(a4.ex.length:Int)-1⟩ _ af.out ai).mono ?_
     cases K:zJ C ⟨7,0,sNone,sNone,(D.ex.length:Int)-1,(a4.ex.length:Int)-1⟩ a4 with
     |error p=>
      rintro e w5 ⟨rfl,E⟩
      have HB:Hid (Below j w w5):=(HH.out.back Q.out).trans E
      have Z:Hid (pE C .sum d q= .error p):=bdE aj.out K
      unfold Pan
      go_wp2
      refine⟨rfl,?_⟩
      rw[Z.out]
      exact⟨rfl,HB.out⟩
     |ok a5=>
      rintro e w5 ⟨rfl,S5,m,s⟩
      have ad:=zc m
      have Y:Hid (IS z S w S5 w5):=Q.out.trans s
      clear m s
      have X:=zc (bdO aj.out K)
      have HP:Hid (a5.pos=a4.pos):=by show _=_;rw[(zbx K).1]
      go_wp2
      go_roundg (gk-1)
      case rel=>exact⟨S5,a5,rfl,X.out,by have:=HP.out;omega,by have:=HP.out;omega,ad.out,Y.out⟩
      case measure=>omega
   |false=>
    cases hj:isT C D.pos 4 zbq with
    |true=>
     have ab:=za1 hj (by decide)
     have HZ:=zc (ae.out.trans (zoO hi hj))
     go_wp2_with fail
     refine (zco C I o j z H D 4 zaI _ L.out).mono ?_
     rintro e V ⟨rfl,E⟩
     rw[hi]
     have J:Hid (IM C I o j z H D V):=L.out.later E
     have U:Hid (IS z S w H V):=(ac.out.trans (IS.below E))
     clear E
     go_wp2_with fail
     refine (zco C I o j z H D 4 zbq _ J.out).mono ?_
     rintro e w3 ⟨rfl,E⟩
     rw[hj]
     have N:Hid (IM C I o j z H D w3):=J.out.later E
     have M:Hid (IS z S w H w3):=(U.out.trans (IS.below E))
     clear E
     obtain⟨c0,c1,c2,c3,c4,c5,c6,c7,c8,c9,cf⟩:=zag N.out.cells
     go_wp2_with fail
     have af:Hid (IM C I o j z H (adv D) (w3.setCell ⟨z,1,none⟩ (.int .i64 ((D.pos:Int)+1)))):=N.out.adv ab
     have Q:Hid (IS z S w H (w3.setCell ⟨z,1,none⟩ (.int .i64 ((D.pos:Int)+1)))):=M.out.set _ _
     refine (zhU C I o j z m d H (adv D) _ af.out hd hS (by rw[zz];omega)).mono ?_
     cases K:pE C .prod d (adv D) with
     |error p=>
      rintro e w5 ⟨rfl,E⟩
      have HB:Hid (Below j w w5):=(HH.out.back Q.out).trans E
      have Z:Hid (pE C .sum d q= .error p):=bdE HZ.out K
      unfold Pan
      go_wp2
      refine⟨rfl,?_⟩
      rw[Z.out]
      exact⟨rfl,HB.out⟩
     |ok a5=>
      rintro e w5 ⟨rfl,S5,m,s⟩
      have ad:=zc m
      have Y:Hid (IS z S w S5 w5):=Q.out.trans s
      clear m s
      have X:=zc (bdO HZ.out K)
      unfold exI
      have O:=zbr K
      rw[zz] at O
      have ai:0<a5.pos:=by omega
      go_wp2_with fail
      refine (zeW C I o j z S5 a5 ⟨6,0,sNone,sNone,(D.ex.length:Int)-1,(a5.ex.length:Int)-1⟩ _ ad.out ai).mono ?_
      cases ah:zJ C ⟨6,0,sNone,sNone,(D.ex.length:Int)-1,(a5.ex.length:Int)-1⟩ a5 with
      |error p=>
       rintro e w6 ⟨rfl,E⟩
       have HB:Hid (Below j w w6):=(HH.out.back Y.out).trans E
       have Z:Hid (pE C .sum d q= .error p):=bdE X.out ah
       unfold Pan
       go_wp2
       refine⟨rfl,?_⟩
       rw[Z.out]
       exact⟨rfl,HB.out⟩
      |ok a6=>
       rintro e w6 ⟨rfl,S6,m,s⟩
       have ao:=zc m
       have am:Hid (IS z S w S6 w6):=Y.out.trans s
       clear m s
       have ap:=zc (bdO X.out ah)
       have HP:Hid (a6.pos=a5.pos):=by show _=_;rw[(zbx ah).1]
       go_wp2
       go_roundg (gk-1)
       case rel=>exact⟨S6,a6,rfl,ap.out,by have:=HP.out;omega,by have:=HP.out;omega,ao.out,am.out⟩
       case measure=>omega
    |false=>
     have HZ:=zc (ae.out.trans (zoM hi hj))
     go_wp2_with fail
     refine (zco C I o j z H D 4 zaI _ L.out).mono ?_
     rintro e V ⟨rfl,E⟩
     rw[hi]
     have J:Hid (IM C I o j z H D V):=L.out.later E
     have U:Hid (IS z S w H V):=(ac.out.trans (IS.below E))
     clear E
     go_wp2_with fail
     refine (zco C I o j z H D 4 zbq _ J.out).mono ?_
     rintro e w3 ⟨rfl,E⟩
     rw[hj]
     have N:Hid (IM C I o j z H D w3):=J.out.later E
     have M:Hid (IS z S w H w3):=(U.out.trans (IS.below E))
     clear E
     go_wp2
     go_ret
     rw[HZ.out]
     exact⟨rfl,H,N.out,M.out⟩
theorem zoQ (C:Cx) (E o j D m:Nat):zfH C E o j D m:=by
 induction m with
 |zero=>intro d S q w z;omega
 |succ m H=>intro d S q w z hd h;exact zoP C E o j D m d S q w h hd H (by omega)
theorem zoR (C:Cx) (D o j z d:Nat) (S:Sv) (q:PS) (w:World) (h:IM C D o j z S q w) (hd:d≤20):
  Calls Tryz.prog 124 #[.pointer (some ⟨z,0,none⟩),.int .i64 d] w (zT C D o j z (pE C .sum d q) id exI S w):=zoQ C D o j z _ d S q w (Nat.lt_succ_self _) hd h
theorem zjX {C:Cx} {s:ByteArray} (n:Nat): ∀{k:Nat} {q b:PS},zaE C s n k q= .ok b→b={q with pos:=q.pos+n}:=by
 induction n with
 |zero=>intro k q b h;cases h;rfl
 |succ n o=>
  intro k q b h
  rw[zaE] at h
  obtain⟨a,z,j⟩:=ze h
  rw[o j,(zbh z).1]
  show ({q with pos:=q.pos+1+n}:PS)=_
  congr 1
  omega
theorem zoS (x:Sm): ∀u∈smL x,u.oneCell'=true:=by
 intro u j
 simp[smL] at j
 rcases j with rfl|rfl|rfl<;>rfl
def stmtI (C:Cx) (k:Int) (n s:ByteArray) (q:PS):PR:=bd (pE C .sum 0 q) fun a=>bd (zaE C s s.size 0 a) fun b=>zE C k n b
theorem zer (C:Cx) (O D j E:Nat) (S:Sv) (q:PS) (H:Int) (n s:ByteArray) (w:World) (h:IM C O D j E S q w) (hs:s.size≤100) (h0:0<s.size):
  Calls Tryz.prog 95 #[.pointer (some ⟨E,0,none⟩),.int .i64 H,.string n,.string s] w (zT C O D j E (stmtI C H n s q) id (fun _=>.tuple #[]) S w):=by
 obtain⟨i0,hi,ag,ak,aj⟩:=info_parts Tryz.infoStmt
 have HH:=zc h
 have HY:=zc (stmtI.eq_1 C H n s q)
 clear h
 go_enter Tryz.func95,Tryz.ntmps95
 go_wp2_with fail
 refine (zoR C O D j E 0 S q _ HH.out (by omega)).mono ?_
 cases ab:pE C .sum 0 q with
 |error p=>
  rintro e w1 ⟨rfl,X⟩
  have HB:Hid (Below j w w1):=(HH.out.back (IS.refl _ _ _)).trans X
  have HX:Hid (stmtI C H n s q= .error p):=bdE HY.out ab
  unfold Pan
  go_wp2
  refine⟨rfl,?_⟩
  rw[HX.out]
  exact⟨rfl,HB.out⟩
 |ok a1=>
  rintro e w1 ⟨rfl,S1,m,s⟩
  have ah:=zc m
  have Y:=zc s
  clear m s
  have ac:=zc (bdO HY.out ab)
  unfold exI
  go_wp2_with fail
  refine (zhO C O D j E S1 a1 s _ ah.out hs).mono ?_
  cases K:zaE C s s.size 0 a1 with
  |error p=>
   rintro e U ⟨rfl,X⟩
   have HB:Hid (Below j w U):=(HH.out.back Y.out).trans X
   have HX:Hid (stmtI C H n s q= .error p):=bdE ac.out K
   unfold Pan
   go_wp2
   refine⟨rfl,?_⟩
   rw[HX.out]
   exact⟨rfl,HB.out⟩
  |ok z=>
   rintro e U ⟨rfl,S2,m,s⟩
   have o:=zc m
   have ae:Hid (IS E S w S2 U):=Y.out.trans s
   clear m s
   have N:=zc (bdO ac.out K)
   have L:=zjX _ K
   have ad:0<z.pos:=by rw[L];show 0<a1.pos+s.size;omega
   have HE:Hid (z.ex=a1.ex):=by show _=_;rw[L]
   clear L
   have al:=o.out.mem.inv.st
   obtain⟨c0,c1,c2,c3,c4,c5,c6,c7,c8,c9,cf⟩:=zag o.out.cells
   go_wp2_with fail
   by_cases hn:z.st.length<80
   ·have HZ:=zc (N.out.trans (show zE C H n z=_ from if_neg (by omega)))
    refine (zem E z.st.length 80 _ (by omega)).mono ?_
    rintro e w' ⟨rfl,hw⟩
    rw[hw]
    clear hw w'
    have HN:Hid (some E≠S2.st.blk):=fun e=>o.out.free (.inr (.inr (.inr (.inl e.symm))))
    have am:=o.out.lt
    have I:=fun M=>(o.out.mem.own.st.alloc M)
    have Z:=fun M=>(o.out.alloc M).mem.base
    have V:=fun M=>(o.out.alloc M).lt
    have Q:=fun M=>(o.out.alloc M).cells
    go_wp2_with (at_builtin;refine zcC _ rfl _ _ 29 rfl j 79 i0 _ 3 32 Tryz.underlying29 hi ag ak aj rfl (by decide) (by decide) S2.st z.st.length _ (by rfl) (I _) U.heap.size (smL ⟨H,n,(a1.ex.length:Int)-1⟩) (by rfl) (by exact heap_alloc_new U _) rfl (zoS _) (by omega) (Z _) ?_;intro r' wz hr J aa;have g2:=(J.block E (V _) HN.out).trans (Q _);obtain⟨d0,d1,d2,d3,d4,d5,d6,d7,d8,d9,df⟩:=zag g2;have HR:Hid (OwnR wz j 79 3 r' (z.st.length+1) _):=hr;have ai:Hid (World.grownBy _ wz _):=J;have af:Hid (_∨_):=aa;clear hr J aa g2 c0 c1 c2 c3 c4 c5 c6 c7 c8 c9 cf I Z V Q)
    go_wp2
    go_end0
    obtain⟨m',s'⟩:=o.out.grow_st ((Below.refl _ _).alloc (Nat.le_refl _) _) ai.out HR.out af.out hn
    rw[HZ.out]
    rw[←HE.out] at m'
    exact⟨rfl,_,m',ae.out.trans s'⟩
   ·have HZ:Hid (stmtI C H n s q= .error (zu C (z.pos-1))):=N.out.trans (if_pos (by omega))
    refine (zeV C O D j E S2 z z.st.length 80 _ o.out (by omega) ad).mono ?_
    rintro e wz ⟨rfl,X⟩
    have HB:Hid (Below j w wz):=(HH.out.back ae.out).trans (X.mono o.out.mem.base)
    have HX:Hid (stmtI C H n s q= .error (zu C (z.pos-1))):=HZ.out
    unfold Pan
    go_wp2
    refine⟨rfl,?_⟩
    rw[HX.out]
    exact⟨rfl,HB.out⟩
def letJ (C:Cx) (k:Int) (q:PS):PR:=bd (zk C false q) fun a=>bd (zd C 4 cEq a.1) fun b=>stmtI C k a.2 cSemi b
def fnI (C:Cx) (q:PS):PR:=bd (zk C false q) fun a=>bd (zaE C cCall cCall.size 0 a.1) fun b=>bd (zd C 1 zdw b) fun c=>stmtI C 2 a.2 cSemiRight c
def printI (C:Cx) (q:PS):PR:=bd (zd C 4 cOpen q) fun a=>stmtI C 4 sNone cShutSemi a
theorem zhV (C:Cx) (J o j z:Nat) (S:Sv) (q:PS) (w:World) (h:IM C J o j z S q w):
  Calls Tryz.prog 85 #[.pointer (some ⟨z,0,none⟩)] w (zT C J o j z (letJ C 1 q) id (fun _=>.tuple #[]) S w):=by
 have U:=zc h
 have HY:=zc (letJ.eq_1 C 1 q)
 clear h
 go_enter Tryz.func85,Tryz.ntmps85
 go_wp2_with fail
 refine (zd1 C J o j z S q _ U.out).mono ?_
 cases E:zk C false q with
 |error p=>
  rintro e w1 ⟨rfl,O⟩
  have N:Hid (Below j w w1):=(U.out.back (IS.refl _ _ _)).trans O
  have L:Hid (letJ C 1 q= .error p):=bdE HY.out E
  unfold Pan
  go_wp2
  refine⟨rfl,?_⟩
  rw[L.out]
  exact⟨rfl,N.out⟩
 |ok V=>
  rintro e w1 ⟨rfl,S1,m,s⟩
  have aa:=zc m
  have D:=zc s
  clear m s
  have H:=zc (bdO HY.out E)
  go_wp2_with fail
  refine (zcw C J o j z S1 (V.1) 61 _ aa.out).mono ?_
  cases M:zd C 4 cEq (V.1) with
  |error p=>
   rintro e Z ⟨rfl,O⟩
   have N:Hid (Below j w Z):=(U.out.back D.out).trans O
   have L:Hid (letJ C 1 q= .error p):=bdE H.out M
   unfold Pan
   go_wp2
   refine⟨rfl,?_⟩
   rw[L.out]
   exact⟨rfl,N.out⟩
  |ok a2=>
   rintro e Z ⟨rfl,S2,m,s⟩
   have ab:=zc m
   have Q:Hid (IS z S w S2 Z):=D.out.trans s
   clear m s
   have I:=zc (bdO H.out M)
   go_wp2_with fail
   refine (zer C J o j z S2 a2 1 V.2 cSemi _ ab.out (by decide) (by decide)).mono ?_
   cases K:stmtI C 1 V.2 cSemi a2 with
   |error p=>
    rintro e w3 ⟨rfl,O⟩
    have N:Hid (Below j w w3):=(U.out.back Q.out).trans O
    have L:Hid (letJ C 1 q= .error p):=I.out.trans K
    unfold Pan
    go_wp2
    refine⟨rfl,?_⟩
    rw[L.out]
    exact⟨rfl,N.out⟩
   |ok a3=>
    rintro e w3 ⟨rfl,S3,m,s⟩
    have ac:=zc m
    have X:Hid (IS z S w S3 w3):=Q.out.trans s
    clear m s
    have Y:=zc (I.out.trans K)
    go_wp2
    go_end0
    rw[Y.out]
    exact⟨rfl,S3,ac.out,X.out⟩
theorem zjY (C:Cx) (J o j z:Nat) (S:Sv) (q:PS) (w:World) (h:IM C J o j z S q w):
  Calls Tryz.prog 46 #[.pointer (some ⟨z,0,none⟩)] w (zT C J o j z (letJ C 3 q) id (fun _=>.tuple #[]) S w):=by
 have U:=zc h
 have HY:=zc (letJ.eq_1 C 3 q)
 clear h
 go_enter Tryz.func46,Tryz.ntmps46
 go_wp2_with fail
 refine (zd1 C J o j z S q _ U.out).mono ?_
 cases E:zk C false q with
 |error p=>
  rintro e w1 ⟨rfl,O⟩
  have N:Hid (Below j w w1):=(U.out.back (IS.refl _ _ _)).trans O
  have L:Hid (letJ C 3 q= .error p):=bdE HY.out E
  unfold Pan
  go_wp2
  refine⟨rfl,?_⟩
  rw[L.out]
  exact⟨rfl,N.out⟩
 |ok V=>
  rintro e w1 ⟨rfl,S1,m,s⟩
  have aa:=zc m
  have D:=zc s
  clear m s
  have H:=zc (bdO HY.out E)
  go_wp2_with fail
  refine (zcw C J o j z S1 (V.1) 61 _ aa.out).mono ?_
  cases M:zd C 4 cEq (V.1) with
  |error p=>
   rintro e Z ⟨rfl,O⟩
   have N:Hid (Below j w Z):=(U.out.back D.out).trans O
   have L:Hid (letJ C 3 q= .error p):=bdE H.out M
   unfold Pan
   go_wp2
   refine⟨rfl,?_⟩
   rw[L.out]
   exact⟨rfl,N.out⟩
  |ok a2=>
   rintro e Z ⟨rfl,S2,m,s⟩
   have ab:=zc m
   have Q:Hid (IS z S w S2 Z):=D.out.trans s
   clear m s
   have I:=zc (bdO H.out M)
   go_wp2_with fail
   refine (zer C J o j z S2 a2 3 V.2 cSemi _ ab.out (by decide) (by decide)).mono ?_
   cases K:stmtI C 3 V.2 cSemi a2 with
   |error p=>
    rintro e w3 ⟨rfl,O⟩
    have N:Hid (Below j w w3):=(U.out.back Q.out).trans O
    have L:Hid (letJ C 3 q= .error p):=I.out.trans K
    unfold Pan
    go_wp2
    refine⟨rfl,?_⟩
    rw[L.out]
    exact⟨rfl,N.out⟩
   |ok a3=>
    rintro e w3 ⟨rfl,S3,m,s⟩
    have ac:=zc m
    have X:Hid (IS z S w S3 w3):=Q.out.trans s
    clear m s
    have Y:=zc (I.out.trans K)
    go_wp2
    go_end0
    rw[Y.out]
    exact⟨rfl,S3,ac.out,X.out⟩
theorem zhW (C:Cx) (I o j z:Nat) (S:Sv) (q:PS) (w:World) (h:IM C I o j z S q w):
  Calls Tryz.prog 86 #[.pointer (some ⟨z,0,none⟩)] w (zT C I o j z (fnI C q) id (fun _=>.tuple #[]) S w):=by
 have K:=zc h
 have HY:=zc (fnI.eq_1 C q)
 clear h
 go_enter Tryz.func86,Tryz.ntmps86
 go_wp2_with fail
 refine (zd1 C I o j z S q _ K.out).mono ?_
 cases L:zk C false q with
 |error p=>
  rintro e w1 ⟨rfl,H⟩
  have E:Hid (Below j w w1):=(K.out.back (IS.refl _ _ _)).trans H
  have D:Hid (fnI C q= .error p):=bdE HY.out L
  unfold Pan
  go_wp2
  refine⟨rfl,?_⟩
  rw[D.out]
  exact⟨rfl,E.out⟩
 |ok Z=>
  rintro e w1 ⟨rfl,S1,m,s⟩
  have ab:=zc m
  have J:=zc s
  clear m s
  have O:=zc (bdO HY.out L)
  go_wp2_with fail
  refine (zhO C I o j z S1 (Z.1) cCall _ ab.out (by decide)).mono ?_
  cases V:zaE C cCall cCall.size 0 (Z.1) with
  |error p=>
   rintro e w2 ⟨rfl,H⟩
   have E:Hid (Below j w w2):=(K.out.back J.out).trans H
   have D:Hid (fnI C q= .error p):=bdE O.out V
   unfold Pan
   go_wp2
   refine⟨rfl,?_⟩
   rw[D.out]
   exact⟨rfl,E.out⟩
  |ok a2=>
   rintro e w2 ⟨rfl,S2,m,s⟩
   have ac:=zc m
   have Y:Hid (IS z S w S2 w2):=J.out.trans s
   clear m s
   have Q:=zc (bdO O.out V)
   go_wp2_with fail
   refine (zeU C I o j z S2 a2 zdw _ ac.out).mono ?_
   cases U:zd C 1 zdw a2 with
   |error p=>
    rintro e w3 ⟨rfl,H⟩
    have E:Hid (Below j w w3):=(K.out.back Y.out).trans H
    have D:Hid (fnI C q= .error p):=bdE Q.out U
    unfold Pan
    go_wp2
    refine⟨rfl,?_⟩
    rw[D.out]
    exact⟨rfl,E.out⟩
   |ok a3=>
    rintro e w3 ⟨rfl,S3,m,s⟩
    have ae:=zc m
    have M:Hid (IS z S w S3 w3):=Y.out.trans s
    clear m s
    have N:=zc (bdO Q.out U)
    go_wp2_with fail
    refine (zer C I o j z S3 a3 2 Z.2 cSemiRight _ ae.out (by decide) (by decide)).mono ?_
    cases X:stmtI C 2 Z.2 cSemiRight a3 with
    |error p=>
     rintro e w4 ⟨rfl,H⟩
     have E:Hid (Below j w w4):=(K.out.back M.out).trans H
     have D:Hid (fnI C q= .error p):=N.out.trans X
     unfold Pan
     go_wp2
     refine⟨rfl,?_⟩
     rw[D.out]
     exact⟨rfl,E.out⟩
    |ok a4=>
     rintro e w4 ⟨rfl,S4,m,s⟩
     have aa:=zc m
     have af:Hid (IS z S w S4 w4):=M.out.trans s
     clear m s
     have ad:=zc (N.out.trans X)
     go_wp2
     go_end0
     rw[ad.out]
     exact⟨rfl,S4,aa.out,af.out⟩
theorem zjZ (C:Cx) (J o j z:Nat) (S:Sv) (q:PS) (w:World) (h:IM C J o j z S q w):
  Calls Tryz.prog 87 #[.pointer (some ⟨z,0,none⟩)] w (zT C J o j z (printI C q) id (fun _=>.tuple #[]) S w):=by
 have K:=zc h
 have Y:=zc (printI.eq_1 C q)
 clear h
 go_enter Tryz.func87,Tryz.ntmps87
 go_wp2_with fail
 refine (zcw C J o j z S q 40 _ K.out).mono ?_
 cases E:zd C 4 cOpen q with
 |error p=>
  rintro e w1 ⟨rfl,V⟩
  have U:Hid (Below j w w1):=(K.out.back (IS.refl _ _ _)).trans V
  have Q:Hid (printI C q= .error p):=bdE Y.out E
  unfold Pan
  go_wp2
  refine⟨rfl,?_⟩
  rw[Q.out]
  exact⟨rfl,U.out⟩
 |ok Z=>
  rintro e w1 ⟨rfl,S1,m,s⟩
  have N:=zc m
  have D:=zc s
  clear m s
  have H:=zc (bdO Y.out E)
  go_wp2_with fail
  refine (zer C J o j z S1 Z 4 sNone cShutSemi _ N.out (by decide) (by decide)).mono ?_
  cases I:stmtI C 4 sNone cShutSemi Z with
  |error p=>
   rintro e M ⟨rfl,V⟩
   have U:Hid (Below j w M):=(K.out.back D.out).trans V
   have Q:Hid (printI C q= .error p):=H.out.trans I
   unfold Pan
   go_wp2
   refine⟨rfl,?_⟩
   rw[Q.out]
   exact⟨rfl,U.out⟩
  |ok a2=>
   rintro e M ⟨rfl,S2,m,s⟩
   have O:=zc m
   have X:Hid (IS z S w S2 M):=D.out.trans s
   clear m s
   have L:=zc (H.out.trans I)
   go_wp2
   go_end0
   rw[L.out]
   exact⟨rfl,S2,O.out,X.out⟩
theorem zka (C:Cx) (D o j z:Nat) (S:Sv) (q:PS) (w:World) (h:IM C D o j z S q w):
  Calls Tryz.prog 88 #[.pointer (some ⟨z,0,none⟩)] w (zT C D o j z (stmtI C 5 sNone cSemi q) id (fun _=>.tuple #[]) S w):=by
 have J:=zc h
 clear h
 go_enter Tryz.func88,Tryz.ntmps88
 go_wp2_with fail
 refine (zer C D o j z S q 5 sNone cSemi _ J.out (by decide) (by decide)).mono ?_
 cases E:stmtI C 5 sNone cSemi q with
 |error p=>
  rintro e M ⟨rfl,H⟩
  unfold Pan
  go_wp2
  refine⟨rfl,?_⟩
  rw[E]
  exact⟨rfl,H⟩
 |ok a=>
  rintro e M ⟨rfl,L,m,s⟩
  have K:=zc m
  have I:=zc s
  clear m s
  go_wp2
  go_end0
  rw[E]
  exact⟨rfl,L,K.out,I.out⟩
theorem zoT (C:Cx) (D o j z:Nat) (S:Sv) (q:PS) (w:World) (h:IM C D o j z S q w):
  Calls Tryz.prog 89 #[.pointer (some ⟨z,0,none⟩)] w (zT C D o j z (stmtI C 6 sNone cSemi q) id (fun _=>.tuple #[]) S w):=by
 have J:=zc h
 clear h
 go_enter Tryz.func89,Tryz.ntmps89
 go_wp2_with fail
 refine (zer C D o j z S q 6 sNone cSemi _ J.out (by decide) (by decide)).mono ?_
 cases E:stmtI C 6 sNone cSemi q with
 |error p=>
  rintro e M ⟨rfl,H⟩
  unfold Pan
  go_wp2
  refine⟨rfl,?_⟩
  rw[E]
  exact⟨rfl,H⟩
 |ok a=>
  rintro e M ⟨rfl,L,m,s⟩
  have K:=zc m
  have I:=zc s
  clear m s
  go_wp2
  go_end0
  rw[E]
  exact⟨rfl,L,K.out,I.out⟩
def zc6 (C:Cx) (i:Nat):ByteArray:=if (zf C i).kind==1 then (zf C i).text else sNone
theorem zkb (C:Cx) (H o j D:Nat) (S:Sv) (q:PS) (w:World) (h:IM C H o j D S q w):
  Calls Tryz.prog 45 #[.pointer (some ⟨D,0,none⟩)] w fun e K=>e= .returned (.string (zc6 C q.pos))∧Below w.heap.size w K:=by
 have I:=zc h
 clear h
 cases J:((zf C q.pos).kind==1) with
 |true=>
  have E:Hid (zc6 C q.pos=(zf C q.pos).text):=by show _=_;rw[zc6,J];rfl
  go_enter Tryz.func45,Tryz.ntmps45
  go_wp2_with fail
  refine (zbD C H o j D S q _ I.out).mono ?_
  rintro e L ⟨rfl,z⟩
  unfold tkV
  go_wp2
  go_ret
  rw[E.out]
  exact⟨rfl,z.alloc z.size _⟩
 |false=>
  have E:Hid (zc6 C q.pos=sNone):=by show _=_;rw[zc6,J];rfl
  go_enter Tryz.func45,Tryz.ntmps45
  go_wp2_with fail
  refine (zbD C H o j D S q _ I.out).mono ?_
  rintro e L ⟨rfl,z⟩
  unfold tkV
  go_wp2
  go_ret
  rw[E.out]
  exact⟨rfl,z.alloc z.size _⟩
theorem OwnR.stmtName {w:World} {j:Nat} {r:Rw} {l:List Sm} {x:Sm} (h:OwnR w j 79 3 r (l++[x]).length ((l++[x]).flatMap smL)): ∃g,r.a=some ⟨g,0,none⟩∧w.cell? ⟨g,l.length*3+1,none⟩=some (.string x.name):=by
 rcases h.2 with ⟨_,I⟩|⟨g,J,H,o,_⟩
 ·simp at I
 ·simp only[Value.slice.injEq] at o
  have z:=h
  unfold OwnR at z
  rw[o.1,o.2.2] at z
  refine⟨g,o.1,?_⟩
  rw[World.ownsRow.cellAt z _ (by simp;omega)]
  have E: ∀l:List Sm,(l.flatMap smL).length=l.length*3:=by
   intro l
   induction l with
   |nil=>rfl
   |cons y l D=>simp[List.flatMap_cons,smL,D] at D ⊢;omega
  rw[List.flatMap_append,List.getElem?_append_right (by rw[E];omega),E]
  simp[smL]
theorem zoU (C:Cx) (K o j E:Nat) (S:Sv) (q:PS) (l:List Sm) (x:Sm) (w:World) (h:IM C K o j E S q w) (N:q.st=l++[x]) (L:x.name.size≤281474976710656) (hp:0<q.pos):
  Calls Tryz.prog 120 #[.pointer (some ⟨E,0,none⟩)] w (zT C K o j E (zm C ⟨1,x.name,x.name,sNone⟩ q) id (fun _=>.tuple #[]) S w):=by
 have X:=zc h
 obtain⟨_,_,_,_,_,_,_,H,_,_,_⟩:=zag h.cells
 have U:=h.mem.own.st
 rw[N] at U H
 obtain⟨g,hg,hc⟩:=U.stmtName
 have I:=h.mem.inv.st
 rw[N] at I
 have J:(l++[x]).length=l.length+1:=by simp
 rw[J] at H I
 rw[hg] at H
 have C7:=zc H
 have CN:=zc hc
 have e1:((l.length+1:Nat):Int)-1=(l.length:Int):=by omega
 have e2:(l.length:Int)+1-1=(l.length:Int):=by omega
 have ab:IntKind.i64.wrap (l.length:Int)=(l.length:Int):=IntWalk.i64_in _ ⟨by omega,by omega⟩
 have Z:(l.length:Int)<((l.length+1:Nat):Int):=by omega
 have aa:(l.length:Int)<(l.length:Int)+1:=by omega
 have cC: ∀d os,Calls Tryz.prog 41 #[.string x.name] (grow (redrawn w d) os) fun e M=>e= .returned (.string x.name)∧∃p:Regrown,M=grow (redrawn w p.d) p.os:=fun d os=>Calls.regrown_of (zjR _ _ L)
 clear h H hc U hg N
 go_enter Tryz.func120,Tryz.ntmps120
 go_wp2_with fail
 have k7:=cell_regrown C7.out
 have kN:=cell_regrown CN.out
 refine wp_region_quiet_below (by kernel_rfl) (by kernel_rfl) ?_
 repeat (go_big_quiet_step (exact cC _ _))
 refine wpQuiet_nil ?_
 intro w1 V
 obtain⟨⟨dq,ac⟩,z⟩:=V
 have D:Hid (Below w.heap.size w w1):=by show Below _ _ _;rw[z];exact below_regrown _ _ _
 clear z k7 kN cC C7 CN
 have O:Hid (IM C K o j E S q w1):=X.out.later D.out
 go_wp2_with fail
 refine (zfF C K o j E S q ⟨1,x.name,x.name,sNone⟩ _ O.out hp).mono ?_
 cases Y:zm C ⟨1,x.name,x.name,sNone⟩ q with
 |error p=>
  rintro e Q ⟨rfl,hb⟩
  have HB:Hid (Below j w Q):=(D.out.mono X.out.mem.base).trans hb
  unfold Pan
  go_wp2
  refine⟨rfl,?_⟩
  rw[Y]
  exact⟨rfl,HB.out⟩
 |ok a=>
  rintro e Q ⟨rfl,S1,m,s⟩
  have HM:=zc m
  have HS:Hid (IS E S w S1 Q):=(IS.below D.out).trans s
  clear m s
  go_wp2
  go_end0
  rw[Y]
  exact⟨rfl,S1,HM.out,HS.out⟩
def Fr (e:TypeId) (size:Nat) (w:World) (b:Nat) (r:Rw) (n:Nat) (xs:List Value) (S:Sv):Prop:=OwnR w b e size r n xs∧∀k,r.blk=some k→¬S.has k
theorem Fr.ngp {C:Cx} {H o j z size b n:Nat} {S:Sv} {q:PS} {w:World} {e:TypeId} {r:Rw} {xs:List Value} (f:Fr e size w b r n xs S) (h:IM C H o j z S q w) (E:e≠53) {k:Nat} (D:r.blk=some k):k≠z:=by
 rintro rfl
 obtain⟨_,_,c,g⟩:=f.1.typed D
 rw[h.cells] at g
 simp only[Option.some.injEq,Obj.cells.injEq] at g
 exact E g.2.1.symm
theorem Fr.ngt {C:Cx} {z o j E size b n:Nat} {S:Sv} {q:PS} {w:World} {e:TypeId} {r:Rw} {xs:List Value} (f:Fr e size w b r n xs S) (h:IM C z o j E S q w) (I:e≠40) {k:Nat} (H:r.blk=some k):k≠z:=by
 rintro rfl
 obtain⟨_,_,c,g⟩:=f.1.typed H
 obtain⟨J,D⟩:=zgy h.mem.tok
 rw[D] at g
 simp only[Option.some.injEq,Obj.cells.injEq] at g
 exact I g.2.1.symm
theorem Fr.step {C:Cx} {K o j D size b n:Nat} {S H:Sv} {q:PS} {w E:World} {e:TypeId} {r:Rw} {xs:List Value} (f:Fr e size w b r n xs S) (h:IM C K o j D S q w) (J:e≠53) (s:IS D S w H E):Fr e size E b r n xs H:=by
 refine⟨f.1.keep fun k g=>s.block k (f.1.typed g).2.1 (f.2 k g) (f.ngp h J g),fun k g I=>?_⟩
 rcases s.sub k I with z|z
 ·exact f.2 k g z
 ·have:=(f.1.typed g).2.1
  omega
theorem Fr.low {size b j n:Nat} {S:Sv} {w:World} {e:TypeId} {r:Rw} {xs:List Value} (f:Fr e size w b r n xs S) (o:j≤b):Fr e size w j r n xs S:=⟨f.1.low o,f.2⟩
theorem Fr.later {size b n:Nat} {S:Sv} {w j:World} {e:TypeId} {r:Rw} {xs:List Value} (f:Fr e size w b r n xs S) (o:Below w.heap.size w j):Fr e size j b r n xs S:=⟨f.1.keep fun k g=>o.block k (f.1.typed g).2.1,f.2⟩
theorem IM.aside {C:Cx} {D z j o:Nat} {S:Sv} {q:PS} {W I:World} {b:Option Nat} (h:IM C D z j o S q W) (E:W.grownBy I b) (H: ∀k,b=some k→¬S.has k∧k≠o∧k≠D):IM C D z j o S q I:=by
 refine⟨⟨h.mem.own.keep fun k g=>E.block k (h.mem.own.has g).2 fun e=>(H k e.symm).1 g,h.mem.inv,zbJ h.mem.tok (E.block D (zan h.mem.tok).1 fun e=>(H D e.symm).2.2 rfl),h.mem.few,Nat.le_trans h.mem.base E.size⟩,(E.block o h.lt fun e=>(H o e.symm).2.1 rfl).trans h.cells,h.ge⟩
theorem IS.aside {z:Nat} {S E:Sv} {w W H:World} {b:Option Nat} (s:IS z S w E W) (j:W.grownBy H b) (I: ∀k,b=some k→w.heap.size≤k):IS z S w E H:=
 ⟨j.os.trans s.os,j.tape.trans s.tape,j.output.trans s.output,Nat.le_trans s.size j.size,fun k D J o=>(j.block k (Nat.lt_of_lt_of_le D s.size) fun e=>by have:=I k e.symm;omega).trans (s.block k D J o),s.sub⟩
theorem Fr.grown {size b n:Nat} {S:Sv} {W I:World} {e:TypeId} {r o:Rw} {xs H:List Value} {C:Cx} {M D j K:Nat} {q:PS} (f:Fr e size W b r n xs S) (h:IM C M D j K S q W) (L:OwnR I b e size o (n+1) H) (E:o.blk=r.blk∨o.blk=some W.heap.size):Fr e size I b o (n+1) H S:=by
 refine⟨L,fun k g J=>?_⟩
 rcases E with z|z
 ·exact f.2 k (z.symm.trans g) J
 ·have N:W.heap.size=k:=Option.some.inj (z.symm.trans g)
  have:=(h.mem.own.has J).2
  omega
theorem flat_len {α:Type} (f:α→List Value) (m:Nat) (o: ∀x,(f x).length=m) (l:List α):(l.flatMap f).length=l.length*m:=by
 induction l with
 |nil=>simp
 |cons y l j=>rw[List.flatMap_cons,List.length_append,o,j,List.length_cons,Nat.succ_mul];omega
theorem zoV {α:Type} (f:α→List Value) (m:Nat) (o: ∀x,(f x).length=m): ∀(l:List α) (j i:Nat) (x:α),l[j]? =some x→i<m→(l.flatMap f)[j*m+i]? =(f x)[i]?:=by
 intro l
 induction l with
 |nil=>intro j i x h;simp at h
 |cons y l D=>
  intro j i x h z
  rw[List.flatMap_cons]
  match j with
  |0=>
   simp only[List.getElem?_cons_zero,Option.some.injEq] at h
   subst h
   rw[Nat.zero_mul,Nat.zero_add,List.getElem?_append_left (by rw[o];exact z)]
  |j+1=>
   simp only[List.getElem?_cons_succ] at h
   rw[List.getElem?_append_right (by rw[o,Nat.succ_mul];omega),o,←D j i x h z]
   congr 1
   rw[Nat.succ_mul]
   omega
theorem OwnR.elem {α:Type} {f:α→List Value} {m:Nat} (L: ∀x,(f x).length=m) {w:World} {o:Nat} {e:TypeId} {r:Rw} {l:List α} (h:OwnR w o e m r l.length (l.flatMap f)) {j:Nat} {x:α} (H:l[j]? =some x): ∃g,r.a=some ⟨g,0,none⟩∧∀i,i<m→w.cell? ⟨g,j*m+i,none⟩=(f x)[i]?:=by
 have E:j<l.length:=(List.getElem?_eq_some_iff.1 H).1
 rcases h.2 with ⟨_,N⟩|⟨g,M,J,z,_⟩
 ·omega
 ·simp only[Value.slice.injEq] at z
  have D:=h
  unfold OwnR at D
  rw[z.1,z.2.2] at D
  refine⟨g,z.1,fun i K=>?_⟩
  have I:j*m+i<l.length*m:=by
   have:=Nat.mul_le_mul_right m E
   rw[Nat.succ_mul] at this
   omega
  rw[World.ownsRow.cellAt D _ I]
  exact zoV f m L l j i x H K
structure OwnMd (w:World) (base:Nat) (S:Sv) (m:Md):Prop where
 rq:OwnR w base 9 1 S.rq m.rq.length (m.rq.map .string)
 im:OwnR w base 75 3 S.im m.im.length (m.im.flatMap imL)
 ep:OwnR w base 77 4 S.ep m.ep.length (m.ep.flatMap epL)
 st:OwnR w base 79 3 S.st m.st.length (m.st.flatMap smL)
 ex:OwnR w base 81 6 S.ex m.ex.length (m.ex.flatMap exL)
theorem OwnMod.md {w:World} {j:Nat} {S:Sv} {q:PS} (h:OwnMod w j S q):OwnMd w j S (zaS q):=⟨h.rq,h.im,h.ep,h.st,h.ex⟩
theorem OwnMd.later {w z:World} {j:Nat} {S:Sv} {m:Md} (h:OwnMd w j S m) (o:Below w.heap.size w z):OwnMd z j S m:=
 ⟨h.rq.keep fun k g=>o.block k (h.rq.typed g).2.1,h.im.keep fun k g=>o.block k (h.im.typed g).2.1,h.ep.keep fun k g=>o.block k (h.ep.typed g).2.1,h.st.keep fun k g=>o.block k (h.st.typed g).2.1,h.ex.keep fun k g=>o.block k (h.ex.typed g).2.1⟩
theorem OwnMd.alloc {w:World} {j:Nat} {S:Sv} {m:Md} (h:OwnMd w j S m) (o:Obj):OwnMd (w.alloc o) j S m:=h.later ((Below.refl _ _).alloc (Nat.le_refl _) _)
def zbM (S:Sv) (m:Md):Value:=.agg #[.slice S.rq.a m.rq.length S.rq.cap,.slice S.im.a m.im.length S.im.cap,.slice S.ep.a m.ep.length S.ep.cap,.slice S.st.a m.st.length S.st.cap,.slice S.ex.a m.ex.length S.ex.cap]
theorem OwnMd.expr {w:World} {o:Nat} {S:Sv} {m:Md} (h:OwnMd w o S m) {i:Nat} (D:i<m.ex.length): ∃g,S.ex.a=some ⟨g,0,none⟩∧g<w.heap.size∧w.cell? ⟨g,i*6,none⟩=some (.int .i64 (m.ex.getD i zn).kind)∧w.cell? ⟨g,i*6+1,none⟩=some (.int .i64 (m.ex.getD i zn).num)∧w.cell? ⟨g,i*6+2,none⟩=some (.string (m.ex.getD i zn).name)∧w.cell? ⟨g,i*6+3,none⟩=some (.string (m.ex.getD i zn).field)∧w.cell? ⟨g,i*6+4,none⟩=some (.int .i64 (m.ex.getD i zn).l)∧w.cell? ⟨g,i*6+5,none⟩=some (.int .i64 (m.ex.getD i zn).r):=by
 obtain⟨g,z,j⟩:=OwnR.elem (f:=exL) (m:=6) (fun _=>rfl) h.ex (List.getElem?_eq_getElem D)
 rw[zf5 D]
 exact⟨g,z,(h.ex.typed (by rw[Rw.blk,z];rfl)).2.1,j 0 (by omega),j 1 (by omega),j 2 (by omega),j 3 (by omega),j 4 (by omega),j 5 (by omega)⟩
end Go.Proofs.YthfeoomfiafldaaGreat
