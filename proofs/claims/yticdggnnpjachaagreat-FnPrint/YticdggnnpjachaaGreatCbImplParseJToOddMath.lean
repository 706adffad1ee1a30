/-
  What slices.Index and slices.Contains answer over a row of texts,and strings.Clone: the walks.
  What request of impl's parser answers: the walks.
  What nameOrCall of impl's parser answers: the walk.
  What part of impl's parser answers: the walk.
  What product and sum of impl's parser answer: the walks.
  What statement of impl's parser answers: the walk.
  What the small items of impl's parser,itemWord and exportLast answer: the walks.
  Rows beside impl's parser: lists of names under way. No program is spoken of but for the numbers of its types.
  A program in memory,of any size. No program is spoken of but for the numbers of its types.
  A program that was read has no name longer than its text,and no number that is great. No program is spoken of.
  What each step of reading keeps,the whole reading keeps; so a program that was read has no request twice. No program is spoken of.
  A program that was read has no statement of DefaultName that is no let. No program is spoken of.
-/
import Derived.Test.YticdggnnpjachaaGreatCbImplParseHToImplParseI
import Derived.Test.YticdggnnpjachaaGreatCbShelf
namespace Go.Proofs.YticdggnnpjachaaGreat
set_option maxRecDepth 100000
set_option maxHeartbeats 3200000
open Go.RowKit Go.PlainAid Go.Sort
theorem zib (s:ByteArray) (w:World) (h:s.size≤281474976710656):
  Calls Tryz.prog 85 #[.string s] w fun e j=>e= .returned (.string s)∧Below w.heap.size w j:=by
 go_enter Tryz.func85,Tryz.ntmps85
 go_wp2_with fail
 refine (Tryz.stringslite_Clone _ _ h).mono ?_
 rintro e o ⟨rfl,n⟩
 go_wp2
 go_ret
 exact⟨rfl,n⟩
theorem OwnR.text {w:World} {o n:Nat} {r:Rw} {l:List ByteArray} (h:OwnR w o 9 1 r n (l.map .string)) {j:Nat} (I:j<n): ∃g,r.a=some ⟨g,0,none⟩∧w.cell? ⟨g,j,none⟩=some (.string (l.getD j sNone)):=by
 rcases h.2 with ⟨_,E⟩|⟨g,D,A,q,_⟩
 ·omega
 ·simp only[Value.slice.injEq] at q
  have z:=h
  unfold OwnR at z
  rw[q.1,q.2.2] at z
  have H:l.length=n:=by have:=h.1;simpa using this
  refine⟨g,q.1,?_⟩
  rw[World.ownsRow.cellAt z j (by omega)]
  simp only[List.getElem?_map,List.getD]
  rw[List.getElem?_eq_getElem (by omega)]
  rfl
theorem zlR {l:List ByteArray} {x:ByteArray} {j:Nat} (n:j<l.length):zaX (l.drop j) x=((l.getD j sNone).toList==x.toList||zaX (l.drop (j+1)) x):=by
 rw[List.drop_eq_getElem_cons n]
 simp only[zaX,List.any_cons,List.getD,List.getElem?_eq_getElem n,Option.getD_some]
theorem zlS (q g:Nat) (r:Rw) (l:List ByteArray) (x:ByteArray) (w:World) (h:OwnR w q 9 1 r l.length (l.map .string)) (Y:l.length≤1000000) (M:r.a=some ⟨g,0,none⟩):
  Calls Tryz.prog 204 #[.slice (some ⟨g,0,none⟩) l.length r.cap,.string x] w fun e X=>(∃v:Int,e= .returned (.int .i64 v)∧decide (0≤v)=zaX l x)∧X=w:=by
 have V:=zc h
 have J:=zc M
 clear h M
 go_enter Tryz.func204,Tryz.ntmps204
 go_wp2
 go_loopg [8] (l.length+1) (fun k i wr=>∃j:Nat,i= .int .i64 j∧j+k=l.length+1∧zaX (l.drop j) x=zaX l x∧wr=w)
 case atStart=>exact⟨0,rfl,by omega,by simp,rfl⟩
 case round=>
  obtain⟨j,rfl,Z,N,rfl⟩:=hrel
  have K:=zc N
  clear N
  by_cases A:j<l.length
  ·have o:(j:Int)<(l.length:Int):=by omega
   obtain⟨Q,n,O⟩:=V.out.text A
   have U:Q=g:=by have:=n.symm.trans J.out;simpa using this
   subst U
   clear n
   obtain⟨D,z⟩: ∃D,D=j+1:=⟨_,rfl⟩
   have ej:(j:Int)+1=(D:Int):=by omega
   have L:=zc z
   clear z
   have I:Hid (zaX (l.drop j) x=((l.getD j sNone).toList==x.toList||zaX (l.drop (j+1)) x)):=zlR A
   generalize l.getD j sNone=y at O I
   cases E:(x.toList==y.toList) with
   |true=>
    go_wp2
    go_ret
    refine⟨⟨_,rfl,?_⟩,rfl⟩
    have H:(y.toList==x.toList)=true:=by rw[beq_iff_eq] at E ⊢;exact E.symm
    rw[←K.out,I.out,H]
    simp
   |false=>
    go_wp2
    go_roundg (gk-1)
    case rel=>
     have H:(y.toList==x.toList)=false:=by
      rw[beq_eq_false_iff_ne] at E ⊢;exact fun e=>E e.symm
     refine⟨D,rfl,by have:=L.out;omega,?_,rfl⟩
     rw[←K.out,I.out,H,L.out]
     simp
    case measure=>omega
  ·have o: ¬(j:Int)<(l.length:Int):=by omega
   go_wp2
   go_ret
   refine⟨⟨_,rfl,?_⟩,rfl⟩
   rw[←K.out,List.drop_eq_nil_of_le (by omega)]
   rfl
theorem zlT (x:ByteArray) (w:World):
  Calls Tryz.prog 204 #[.slice none 0 0,.string x] w fun e j=>e= .returned (.int .i64 (-1))∧j=w:=by
 go_enter Tryz.func204,Tryz.ntmps204
 go_wp2
 go_loopg [8] 1 (fun k i wr=>k=1∧i= .int .i64 0∧wr=w)
 case atStart=>exact⟨rfl,rfl,rfl⟩
 case round=>
  obtain⟨rfl,rfl,rfl⟩:=hrel
  go_wp2
  go_ret
  exact⟨rfl,rfl⟩
theorem zlU (j:Nat) (r:Rw) (l:List ByteArray) (x:ByteArray) (w:World) (h:OwnR w j 9 1 r l.length (l.map .string)) (z:l.length≤1000000):
  Calls Tryz.prog 204 #[.slice r.a l.length r.cap,.string x] w fun e D=>(∃v:Int,e= .returned (.int .i64 v)∧decide (0≤v)=zaX l x)∧D=w:=by
 rcases h.nil_or with ⟨q,A,n⟩|⟨g,o⟩
 ·rw[q,A,n]
  refine (zlT x w).mono ?_
  rintro e E ⟨rfl,rfl⟩
  have:l=[]:=List.length_eq_zero_iff.1 n
  subst this
  exact⟨⟨_,rfl,rfl⟩,rfl⟩
 ·rw[o]
  exact zlS j g r l x w h z o
theorem zg4 (j:Nat) (r:Rw) (l:List ByteArray) (x:ByteArray) (w:World) (h:OwnR w j 9 1 r l.length (l.map .string)) (q:l.length≤1000000):
  Calls Tryz.prog 194 #[.slice r.a l.length r.cap,.string x] w fun e A=>e= .returned (.bool (zaX l x))∧A=w:=by
 have z:=zc h
 clear h
 go_enter Tryz.func194,Tryz.ntmps194
 go_wp2_with fail
 refine (zlU j r l x _ z.out q).mono ?_
 rintro e D ⟨⟨v,rfl,n⟩,rfl⟩
 have o:=zc n
 clear n
 go_wp2
 go_ret
 exact⟨zm o.out,rfl⟩
theorem Tryz.infoText:(Tryz.prog.info? 9).map (fun i=>(i.zero,i.size,i.bytes))=some (some (.string {data:=#[]}),1,16):=by kernel_rfl
def zbf (C:Cx):Prop:=∀i,(ze C i).text.size≤281474976710656
theorem zlV (x:ByteArray): ∀u∈[Value.string x],u.oneCell'=true:=by
 intro u j
 simp at j
 rw[j]
 rfl
theorem zlW (C:Cx) (L n j o:Nat) (S:Sv) (q:PS) (w:World) (h:IM C L n j o S q w) (hC:zbf C) (hk:((ze C q.pos).kind==3)=true) (hs:zaX q.rq (ze C q.pos).text=false) (hn:q.rq.length<40):
  Calls Tryz.prog 172 #[.pointer (some ⟨o,0,none⟩)] w fun e w'=>e= .returned (.string (ze C q.pos).text)∧∃S',IM C L n j o S' {adv q with rq:=q.rq++[(ze C q.pos).text]} w'∧IS o S w S' w':=by
 obtain⟨i0,hi,Z,V,ab⟩:=info_parts Tryz.infoText
 have HH:=zc h
 have ad:=zc0
 have I:=hC q.pos
 clear h
 go_enter Tryz.func172,Tryz.ntmps172
 go_wp2_with fail
 refine (zd2 C L n j o S q 3 _ HH.out hk (by decide)).mono ?_
 rintro e N ⟨rfl,m1,s1⟩
 have O:=zc m1
 have Q:=zc s1
 clear m1 s1
 unfold tkV
 obtain⟨c0,c1,c2,c3,c4,c5,c6,c7,c8,c9,cf⟩:=zac O.out.cells
 rw[show (adv q).rq=q.rq from rfl] at c4
 generalize H:(ze C q.pos).text=tx at hs I ⊢
 have X:=zc H
 clear H
 go_wp2_with fail
 refine (zg4 j S.rq q.rq tx _ O.out.mem.own.rq (by omega)).mono ?_
 rintro e z ⟨rfl,J⟩
 rw[hs,J]
 clear J z
 go_wp2_with fail
 refine (zd3 o q.rq.length 40 _ (by omega)).mono ?_
 rintro e z ⟨rfl,J⟩
 rw[J]
 clear J z
 have HN:Hid (some o≠S.rq.blk):=fun e=>O.out.free (.inl e.symm)
 go_wp2_with fail
 go_region_law (first|(refine zcI rfl (.tmp 28) (.tmp 31) 22 rfl j 9 i0 _ 1 16 Tryz.underlying22 hi Z V ab rfl (by decide) (by decide) S.rq q.rq.length (q.rq.map .string) (by rfl) (by exact A.out.mem.own.rq.alloc _) M.heap.size [.string tx] (by rfl) (by exact heap_alloc_new M _) rfl (zlV tx) (by omega) (by exact (A.out.alloc _).mem.base) ?_;intro r' w2 hr D K;have g2:=(D.block o (by exact (A.out.alloc _).lt) HN.out).trans (by exact (A.out.alloc _).cells);obtain⟨d0,d1,d2,d3,d4,d5,d6,d7,d8,d9,df⟩:=zac g2)|(go_simp;go_wp2_with (go_at_call 85;refine (zib _ _ I).mono ?_;rintro e M ⟨rfl,E⟩;have A:Hid (IM C L n j o S (adv q) M):=O.out.drew.later E;have U:Hid (Below N.heap.size N M):=(Below.refl N.heap.size N).drew.trans E;obtain⟨e0,e1,e2,e3,e4,e5,e6,e7,e8,e9,ef⟩:=zac A.out.cells;rw[show (adv q).rq=q.rq from rfl] at e4;have ac:=A.out.lt;clear E)))
 all_goals
  have HR:=zc hr
  have aa:=zc D
  have Y:=zc K
  clear hr D K g2 c0 c1 c2 c3 c4 c5 c6 c7 c8 c9 cf e0 e1 e2 e3 e4 e5 e6 e7 e8 e9 ef
  go_wp2
  go_ret
  obtain⟨m',s'⟩:=A.out.grow_rq (x:=tx) ((Below.refl _ _).alloc (Nat.le_refl _) _) aa.out HR.out Y.out hn
  rw[X.out]
  exact⟨rfl,_,m',Q.out.trans (s'.grownI U.out)⟩
theorem zf3 (C:Cx) (z n j o:Nat) (S:Sv) (q:PS) (w:World) (h:IM C z n j o S q w) (hC:zbf C):
  Calls Tryz.prog 172 #[.pointer (some ⟨o,0,none⟩)] w (zQ C z n j o (zH C q) (·.1) (fun a=>.string a.2) S w):=by
 cases A:((ze C q.pos).kind==3) with
 |false=>
  have J:=zc h
  have O:Hid (zH C q= .error (zr C q.pos)):=by show _=_;rw[zH,A];rfl
  clear h
  go_enter Tryz.func172,Tryz.ntmps172
  go_wp2_with fail
  refine (zhZ C z n j o S q 3 _ J.out A).mono ?_
  rintro e Q ⟨rfl,N⟩
  have U:Hid (Below j w Q):=N.mono J.out.mem.base
  clear N
  unfold Pan
  go_wp2
  refine⟨rfl,?_⟩
  rw[O.out]
  exact⟨rfl,U.out⟩
 |true=>
  cases L:zaX q.rq (ze C q.pos).text with
  |true=>
   have J:=zc h
   have O:Hid (zH C q= .ok (adv q,(ze C q.pos).text)):=by show _=_;rw[zH,A,L];rfl
   have Y:=zc0
   have X:=h.mem.inv.rq
   clear h
   go_enter Tryz.func172,Tryz.ntmps172
   go_wp2_with fail
   refine (zd2 C z n j o S q 3 _ J.out A (by decide)).mono ?_
   rintro e Q ⟨rfl,K,I⟩
   have D:=zc K
   have E:=zc I
   clear K I
   unfold tkV
   obtain⟨c0,c1,Z,c3,V,c5,c6,c7,c8,c9,cf⟩:=zac D.out.cells
   rw[show (adv q).rq=q.rq from rfl] at V
   go_wp2_with fail
   refine (zg4 j S.rq q.rq (ze C q.pos).text _ D.out.mem.own.rq (by omega)).mono ?_
   rintro e H ⟨rfl,M⟩
   rw[L,M]
   clear M H
   go_wp2
   go_ret
   rw[O.out]
   exact⟨rfl,S,D.out,E.out⟩
  |false=>
   by_cases hn:q.rq.length<40
   ·refine (zlW C z n j o S q w h hC A L hn).mono ?_
    rintro e Q ⟨rfl,S1,K,I⟩
    rw[zH,A,L,if_pos rfl,if_neg (by decide),if_neg (by omega)]
    exact⟨rfl,S1,K,I⟩
   ·have J:Hid (IM C z n j o S q w):=h
    have O:Hid (zH C q= .error (zr C q.pos)):=by show _=_;rw[zH,A,L,if_pos rfl,if_neg (by decide),if_pos (by omega)]
    have Y:=zc0
    have X:=h.mem.inv.rq
    clear h
    go_enter Tryz.func172,Tryz.ntmps172
    go_wp2_with fail
    refine (zd2 C z n j o S q 3 _ J.out A (by decide)).mono ?_
    rintro e Q ⟨rfl,K,I⟩
    have D:=zc K
    have E:=zc I
    clear K I
    unfold tkV
    obtain⟨c0,c1,Z,c3,V,c5,c6,c7,c8,c9,cf⟩:=zac D.out.cells
    rw[show (adv q).rq=q.rq from rfl] at V
    go_wp2_with fail
    refine (zg4 j S.rq q.rq (ze C q.pos).text _ D.out.mem.own.rq (by omega)).mono ?_
    rintro e H ⟨rfl,M⟩
    rw[L,M]
    clear M H
    go_wp2_with fail
    refine (zeb C z n j o S (adv q) q.rq.length 40 _ D.out (by omega) (by rw[zx];omega)).mono ?_
    rintro e w2 ⟨rfl,N⟩
    have U:Hid (Below j w w2):=(J.out.back E.out).trans (N.mono D.out.mem.base)
    clear N
    unfold Pan
    go_wp2
    refine⟨rfl,?_⟩
    rw[O.out]
    exact⟨rfl,U.out⟩
theorem bdO {α β:Type} {Y:Except Nat β} {x:Except Nat α} {f:α→Except Nat β} {a:α} (h:Y=bd x f) (j:x= .ok a):Y=f a:=by rw[h,j];rfl
theorem bdE {α β:Type} {Y:Except Nat β} {x:Except Nat α} {f:α→Except Nat β} {p:Nat} (h:Y=bd x f) (j:x= .error p):Y= .error p:=by rw[h,j];rfl
theorem zed {α:Type} (x:Except Nat α):bd x .ok=x:=by cases x<;>rfl
abbrev cCall:ByteArray:={data:=#[40,41,123]}
abbrev cShutSemi:ByteArray:={data:=#[41,59]}
abbrev cSemiRight:ByteArray:={data:=#[59,125]}
theorem zic (C:Cx) (b:UInt8) (q:PS):zaB C {data:=#[b]} 1 0 q=zd C 4 {data:=#[b]} q:=by
 have e:({data:=#[b]}:ByteArray).extract 0 (0+1)={data:=#[b]}:=by simp[ByteArray.extract,ByteArray.copySlice]
 rw[zaB,e]
 exact zed _
theorem zid (C:Cx) (b c:UInt8) (q:PS):zaB C {data:=#[b,c]} 2 0 q=bd (zd C 4 {data:=#[b]} q) (zd C 4 {data:=#[c]}):=by
 have e:({data:=#[b,c]}:ByteArray).extract 0 (0+1)={data:=#[b]}:=by simp[ByteArray.extract,ByteArray.copySlice]
 have j:({data:=#[b,c]}:ByteArray).extract (0+1) (0+1+1)={data:=#[c]}:=by simp[ByteArray.extract,ByteArray.copySlice]
 rw[zaB,e]
 refine zab fun a _=>?_
 rw[zaB,j]
 exact zed _
theorem zlX (C:Cx) (b c d:UInt8) (q:PS):zaB C {data:=#[b,c,d]} 3 0 q=bd (zd C 4 {data:=#[b]} q) fun a=>bd (zd C 4 {data:=#[c]} a) (zd C 4 {data:=#[d]}):=by
 have e:({data:=#[b,c,d]}:ByteArray).extract 0 (0+1)={data:=#[b]}:=by simp[ByteArray.extract,ByteArray.copySlice]
 have n:({data:=#[b,c,d]}:ByteArray).extract (0+1) (0+1+1)={data:=#[c]}:=by simp[ByteArray.extract,ByteArray.copySlice]
 have j:({data:=#[b,c,d]}:ByteArray).extract (0+1+1) (0+1+1+1)={data:=#[d]}:=by simp[ByteArray.extract,ByteArray.copySlice]
 rw[zaB,e]
 refine zab fun a _=>?_
 rw[zaB,n]
 refine zab fun a _=>?_
 rw[zaB,j]
 exact zed _
theorem zlY (C:Cx) (z n j o:Nat) (S:Sv) (q:PS) (s:ByteArray) (f:PS→PR) (w:World) (h:IM C z n j o S q w) (D:zaB C s s.size 0 q=f q) (A:s.size≤100):
  Calls Tryz.prog 153 #[.pointer (some ⟨o,0,none⟩),.string s] w (zQ C z n j o (f q) id (fun _=>.tuple #[]) S w):=by
 rw[←D]
 exact zgz C z n j o S q s w h A
theorem zbX (C:Cx) (z n j o:Nat) (S:Sv) (q:PS) (b:UInt8) (w:World) (h:IM C z n j o S q w):
  Calls Tryz.prog 153 #[.pointer (some ⟨o,0,none⟩),.string {data:=#[b]}] w (zQ C z n j o (zd C 4 {data:=#[b]} q) id (fun _=>.tuple #[]) S w):=
 zlY C z n j o S q {data:=#[b]} (zd C 4 {data:=#[b]}) w h (zic C b q) (by show 1≤100;omega)
structure Six (w:World) (b:Nat) (v0 v1 v2 v3 v4 v5:Value):Prop where
 c0:w.cell? ⟨b,0,none⟩=some v0
 c1:w.cell? ⟨b,1,none⟩=some v1
 c2:w.cell? ⟨b,2,none⟩=some v2
 c3:w.cell? ⟨b,3,none⟩=some v3
 c4:w.cell? ⟨b,4,none⟩=some v4
 c5:w.cell? ⟨b,5,none⟩=some v5
 fz: ∀i,w.frozen? ⟨b,i,none⟩=false
theorem zv {w:World} {b:Nat} {t:TypeId} {q o j A z n:Value} (h:w.heap[b]? =some (.cells #[q,o,j,A,z,n] t (0,0))):Six w b q o j A z n:=by
 constructor<;>simp[World.cell?,World.frozen?,h]
theorem IS.kept {C:Cx} {D n j z b:Nat} {S E:Sv} {q:PS} {w A:World} {o:Obj} (h:IM C D n j z S q w) (s:IS z S (w.alloc o) E A) (H:b=w.heap.size):A.heap[b]? =some o:=by
 subst H
 refine (s.block _ (by rw[zk];omega) (fun g=>?_) (by have:=h.lt;omega)).trans (heap_alloc_new w _)
 have:=(h.mem.own.has g).2
 omega
theorem IS.from {n:Nat} {S q:Sv} {w j:World} {o:Obj} (s:IS n S (w.alloc o) q j):IS n S w q j:=(IS.below ((Below.refl _ _).alloc (Nat.le_refl _) _)).trans s
theorem IS.free {C:Cx} {D n j A:Nat} {S z:Sv} {q:PS} {w E:World} {o:Obj} (h:IM C D n j A S q w) (s:IS A S (w.alloc o) z E): ¬z.has w.heap.size:=by
 intro g
 rcases s.sub _ g with k|k
 ·have:=(h.mem.own.has k).2
  omega
 ·rw[zk] at k
  omega
def zbg (C:Cx) (x:Ex) (call:Int) (q:PS):PR:=if isT C q.pos 4 zn then bd (zd C 4 za0 (adv q)) (zN C ⟨call,x.num,x.name,x.field,x.l,x.r⟩) else zN C x q
theorem zeK (C:Cx) (I o j z:Nat) (S:Sv) (q:PS) (x:Ex) (n:Int) (w:World) (h:IM C I o j z S q w) (hp:0<q.pos):
  Calls Tryz.prog 207 #[.pointer (some ⟨z,0,none⟩),exV x,.int .i64 n] w (zQ C I o j z (zbg C x n q) id (fun q'=>.int .i64 ((q'.ex.length:Int)-1)) S w):=by
 have D:=zc h
 clear h
 cases Z:isT C q.pos 4 zn with
 |false=>
  have O:Hid (zbg C x n q=zN C x q):=by show _=_;rw[zbg,Z];rfl
  unfold exV
  go_enter Tryz.func207,Tryz.ntmps207
  go_wp2_with fail
  refine (zK C I o j z S q 4 zn _ (D.out.alloc _) (by decide)).mono ?_
  rintro e w1 ⟨rfl,m,s⟩
  rw[Z] at m ⊢
  have L:=zc m
  have N:Hid (IS z S w S w1):=s.from
  have ag:Hid (w1.heap[w.heap.size]? =some (.cells #[.int .i64 x.kind,.int .i64 x.num,.string x.name,.string x.field,.int .i64 x.l,.int .i64 x.r] 108 (0,0))):=IS.kept D.out s rfl
  obtain⟨b0,b1,b2,b3,b4,b5,bf⟩:=zv ag.out
  clear m s
  go_wp2_with fail
  refine (zec C I o j z S q x _ L.out hp).mono ?_
  cases A:zN C x q with
  |error p=>
   rintro e J ⟨rfl,V⟩
   have Q:Hid (Below j w J):=(D.out.back N.out).trans V
   have H:Hid (zbg C x n q= .error p):=O.out.trans A
   unfold Pan
   go_wp2
   refine⟨rfl,?_⟩
   rw[H.out]
   exact⟨rfl,Q.out⟩
  |ok a2=>
   rintro e J ⟨rfl,M,m,s⟩
   have K:=zc m
   have ab:Hid (IS z S w M J):=N.out.trans s
   clear m s
   have H:=zc (O.out.trans A)
   go_wp2
   go_ret
   rw[H.out]
   exact⟨rfl,M,K.out,ab.out⟩
 |true=>
  have O:Hid (zbg C x n q=bd (zd C 4 za0 (adv q)) (zN C ⟨n,x.num,x.name,x.field,x.l,x.r⟩)):=by show _=_;rw[zbg,Z];rfl
  unfold exV
  go_enter Tryz.func207,Tryz.ntmps207
  go_wp2_with fail
  refine (zK C I o j z S q 4 zn _ (D.out.alloc _) (by decide)).mono ?_
  rintro e w1 ⟨rfl,m,s⟩
  rw[Z] at m ⊢
  have L:=zc m
  have Y:=zc s
  clear m s
  go_wp2_with fail
  refine (zbX C I o j z S (adv q) 41 _ L.out).mono ?_
  cases A:zd C 4 za0 (adv q) with
  |error p=>
   rintro e J ⟨rfl,V⟩
   have Q:Hid (Below j w J):=(D.out.back Y.out.from).trans V
   have H:Hid (zbg C x n q= .error p):=bdE O.out A
   unfold Pan
   go_wp2
   refine⟨rfl,?_⟩
   rw[H.out]
   exact⟨rfl,Q.out⟩
  |ok a2=>
   rintro e J ⟨rfl,M,m,s⟩
   have K:=zc m
   have E:Hid (IS z S (w.alloc (.cells #[.int .i64 x.kind,.int .i64 x.num,.string x.name,.string x.field,.int .i64 x.l,.int .i64 x.r] 108)) M J):=Y.out.trans s
   have ad:Hid (J.heap[w.heap.size]? =some (.cells #[.int .i64 x.kind,.int .i64 x.num,.string x.name,.string x.field,.int .i64 x.l,.int .i64 x.r] 108 (0,0))):=IS.kept D.out E.out rfl
   have ae:Hid (a2=adv (adv q)):=(zb4 A).1
   have aa:Hid (¬M.has w.heap.size):=IS.free D.out E.out
   have ai:z<w.heap.size:=D.out.lt
   have ah:I<w.heap.size:=(zan D.out.mem.tok).1
   clear m s
   have U:=zc (bdO O.out A)
   obtain⟨b0,b1,b2,b3,b4,b5,bf⟩:=zv ad.out
   go_wp2_with fail
   refine (zec C I o j z M a2 ⟨n,x.num,x.name,x.field,x.l,x.r⟩ _ (K.out.set (by omega) (by omega) aa.out _ _) (by rw[ae.out];show 0<q.pos+1+1;omega)).mono ?_
   cases X:zN C ⟨n,x.num,x.name,x.field,x.l,x.r⟩ a2 with
   |error p=>
    rintro e w3 ⟨rfl,V⟩
    have Q:Hid (Below j w w3):=(D.out.back (E.out.from.new (Nat.le_refl _) _ _)).trans V
    have H:Hid (zbg C x n q= .error p):=U.out.trans X
    unfold Pan
    go_wp2
    refine⟨rfl,?_⟩
    rw[H.out]
    exact⟨rfl,Q.out⟩
   |ok a3=>
    rintro e w3 ⟨rfl,S3,m,s⟩
    have af:=zc m
    have ac:Hid (IS z S w S3 w3):=(E.out.from.new (Nat.le_refl _) _ _).trans s
    clear m s
    have H:=zc (U.out.trans X)
    go_wp2
    go_ret
    rw[H.out]
    exact⟨rfl,S3,af.out,ac.out⟩
def exI (q:PS):Value:=.int .i64 ((q.ex.length:Int)-1)
def zeL (C:Cx) (gt cap base gp m:Nat):Prop:=∀(d:Nat) (S:Sv) (q:PS) (w:World),C.ts.length-q.pos<m→d≤20→IM C gt cap base gp S q w→
 Calls Tryz.prog 183 #[.pointer (some ⟨gp,0,none⟩),.int .i64 d] w (zQ C gt cap base gp (pE C .sum d q) id exI S w)
theorem zie (C:Cx) (n:ByteArray) (q:PS):zbc C n q=zbg C ⟨2,0,n,sNone,0,0⟩ 3 q:=by
 unfold zbc zbg
 cases j:isT C q.pos 4 zn with
 |true=>rw[zbG j];rfl
 |false=>rfl
theorem zlZ (C:Cx) (n f:ByteArray) (q:PS):zbx C n f q=zbg C ⟨4,0,n,f,0,0⟩ 5 q:=by
 unfold zbx zbg
 cases j:isT C q.pos 4 zn with
 |true=>rw[zbG j];rfl
 |false=>rfl
theorem zma {x y:ByteArray} (h:(x.toList==y.toList)=true):x=y:=by
 rw[beq_iff_eq,Lib.toList_data,Lib.toList_data] at h
 cases x
 cases y
 simp only at h
 rw[Array.toList_inj.1 h]
theorem zg5 {C:Cx} {i:Nat} {k:Int} {x:ByteArray} (h:isT C i k x=true):(ze C i).text=x:=by
 simp only[isT,Bool.and_eq_true] at h
 exact zma h.2
theorem zf4 {C:Cx} {i:Nat} {k:Int} {x:ByteArray} (h:isT C i k x=true):((ze C i).kind==k)=true:=by
 simp only[isT,Bool.and_eq_true] at h
 exact h.1
theorem zmb {C:Cx} {d:Nat} {q:PS} (h:((ze C q.pos).kind==2)=true):pE C .part d q=zN C ⟨1,(ze C q.pos).num,sNone,sNone,0,0⟩ (adv q):=by rw[zb6,h];rfl
theorem zmc {C:Cx} {d:Nat} {q:PS} (h:((ze C q.pos).kind==2)=false) (n:isT C q.pos 4 zn=true) (j:20≤d):pE C .part d q= .error (zr C q.pos):=by rw[zb6,h,n,if_neg (by decide),if_pos rfl,if_pos j]
theorem zmd {C:Cx} {d:Nat} {q:PS} (h:((ze C q.pos).kind==2)=false) (n:isT C q.pos 4 zn=true) (j: ¬20≤d):pE C .part d q=bd (pE C .sum (d+1) (adv q)) (zd C 4 za0):=by rw[zb6,h,n,if_neg (by decide),if_pos rfl,if_neg j]
theorem zme {C:Cx} {d:Nat} {q:PS} (h:((ze C q.pos).kind==2)=false) (n:isT C q.pos 4 zn=false) (j:C.scr=true) (o:isT C q.pos 1 za7=true):pE C .part d q=zbg C ⟨2,0,za7,sNone,0,0⟩ 3 (adv q):=by
 rw[zb6,h,n,j,o,if_neg (by decide),if_neg (by decide),if_pos (by decide),zie]
theorem zif {C:Cx} {d:Nat} {q:PS} (h:((ze C q.pos).kind==2)=false) (n:isT C q.pos 4 zn=false) (j:(C.scr&&isT C q.pos 1 za7)=false):
  pE C .part d q=bd (zj C false q) fun x=>if isT C x.1.pos 4 cPoint then bd (zj C true (adv x.1)) fun y=>zbg C ⟨4,0,x.2,y.2,0,0⟩ 5 y.1 else zbg C ⟨2,0,x.2,sNone,0,0⟩ 3 x.1:=by
 rw[zb6,h,n,j,if_neg (by decide),if_neg (by decide),if_neg (by decide)]
 simp only[zie,zlZ]
theorem zmf (C:Cx) (z n j o d:Nat) (S:Sv) (q:PS) (w:World) (h:IM C z n j o S q w) (V:((ze C q.pos).kind==2)=true):
  Calls Tryz.prog 206 #[.pointer (some ⟨o,0,none⟩),.int .i64 d] w (zQ C z n j o (pE C .part d q) id exI S w):=by
 have I:=zc h
 have Z:=zcH
 have aa:=zc0
 have ab:=zdY
 clear h
 have Q:=zc (zmb (d:=d) V)
 go_enter Tryz.func206,Tryz.ntmps206
 go_wp2_with fail
 refine (zbr C z n j o S q _ I.out).mono ?_
 rintro e U ⟨rfl,D⟩
 unfold tkV
 have O:Hid (IM C z n j o S q U):=I.out.later D
 have H:Hid (IS o S w S U):=IS.below D
 clear D
 go_wp2_with fail
 refine (zd2 C z n j o S q 2 _ O.out V (by decide)).mono ?_
 rintro e w2 ⟨rfl,m,s⟩
 have J:=zc m
 have A:Hid (IS o S w S w2):=H.out.trans s
 clear m s
 unfold tkV
 go_wp2_with fail
 refine (zec C z n j o S (adv q) ⟨1,(ze C q.pos).num,sNone,sNone,0,0⟩ _ J.out (by rw[zx];omega)).mono ?_
 cases E:zN C ⟨1,(ze C q.pos).num,sNone,sNone,0,0⟩ (adv q) with
 |error p=>
  rintro e L ⟨rfl,D⟩
  have Y:Hid (Below j w L):=(I.out.back A.out).trans D
  have HX:Hid (pE C .part d q= .error p):=Q.out.trans E
  unfold Pan
  go_wp2
  refine⟨rfl,?_⟩
  rw[HX.out]
  exact⟨rfl,Y.out⟩
 |ok a3=>
  rintro e L ⟨rfl,X,m,s⟩
  have M:=zc m
  have K:Hid (IS o S w X L):=A.out.trans s
  clear m s
  have N:=zc (Q.out.trans E)
  go_wp2
  go_ret
  rw[N.out]
  exact⟨rfl,X,M.out,K.out⟩
theorem zmg (C:Cx) (z n j o d:Nat) (S:Sv) (q:PS) (w:World) (h:IM C z n j o S q w) (O:((ze C q.pos).kind==2)=false) (L:isT C q.pos 4 zn=true) (Q:20≤d):
  Calls Tryz.prog 206 #[.pointer (some ⟨o,0,none⟩),.int .i64 d] w (zQ C z n j o (pE C .part d q) id exI S w):=by
 have H:=zc h
 have U:=zcH
 have Y:=zc0
 have aa:=zdY
 clear h
 have M:=zc (zmc (d:=d) O L Q)
 have Z:(20:Int)≤(d:Int):=by omega
 go_enter Tryz.func206,Tryz.ntmps206
 go_wp2_with fail
 refine (zbr C z n j o S q _ H.out).mono ?_
 rintro e K ⟨rfl,D⟩
 unfold tkV
 have J:Hid (IM C z n j o S q K):=H.out.later D
 have E:Hid (IS o S w S K):=IS.below D
 clear D
 go_wp2_with fail
 refine (zK C z n j o S q 4 zn _ J.out (by decide)).mono ?_
 rintro e X ⟨rfl,m,s⟩
 rw[L] at m ⊢
 have A:=zc m
 have I:Hid (IS o S w S X):=E.out.trans s
 clear m s
 go_wp2_with fail
 refine (zeb C z n j o S (adv q) d 20 _ A.out (by omega) (by rw[zx];omega)).mono ?_
 rintro e V ⟨rfl,D⟩
 have N:Hid (Below j w V):=(H.out.back I.out).trans (D.mono A.out.mem.base)
 have HX:Hid (pE C .part d q= .error (zr C q.pos)):=M.out
 unfold Pan
 go_wp2
 refine⟨rfl,?_⟩
 rw[HX.out]
 exact⟨rfl,N.out⟩
theorem zmh (C:Cx) (z n j o m d:Nat) (S:Sv) (q:PS) (w:World) (h:IM C z n j o S q w) (hk:((ze C q.pos).kind==2)=false) (h1:isT C q.pos 4 zn=true) (hd:d<20) (hS:zeL C z n j o m) (hm:C.ts.length-q.pos≤m):
  Calls Tryz.prog 206 #[.pointer (some ⟨o,0,none⟩),.int .i64 d] w (zQ C z n j o (pE C .part d q) id exI S w):=by
 have M:=zc h
 have ae:=zcH
 have ag:=zc0
 have ai:=zdY
 clear h
 have O:=zc (zmd (d:=d) hk h1 (by omega))
 have ah: ¬(20:Int)≤(d:Int):=by omega
 have af:=za1 h1 (by decide)
 obtain⟨E,H⟩: ∃E:Nat,E=d+1:=⟨_,rfl⟩
 have ed:(d:Int)+1=(E:Int):=by omega
 rw[←H] at O
 have aa:E≤20:=by omega
 clear H
 go_enter Tryz.func206,Tryz.ntmps206
 go_wp2_with fail
 refine (zbr C z n j o S q _ M.out).mono ?_
 rintro e w1 ⟨rfl,A⟩
 unfold tkV
 have ad:Hid (IM C z n j o S q w1):=M.out.later A
 have N:Hid (IS o S w S w1):=IS.below A
 clear A
 go_wp2_with fail
 refine (zK C z n j o S q 4 zn _ ad.out (by decide)).mono ?_
 rintro e w2 ⟨rfl,m,s⟩
 rw[h1] at m ⊢
 have Y:=zc m
 have I:Hid (IS o S w S w2):=N.out.trans s
 clear m s
 go_wp2_with fail
 refine (zd3 o d 20 _ (by omega)).mono ?_
 rintro e w' ⟨rfl,hw⟩
 rw[hw]
 clear hw w'
 go_wp2_with fail
 refine (hS E S (adv q) _ (by rw[zx];omega) aa Y.out).mono ?_
 cases K:pE C .sum E (adv q) with
 |error p=>
  rintro e w3 ⟨rfl,A⟩
  have X:Hid (Below j w w3):=(M.out.back I.out).trans A
  have HX:Hid (pE C .part d q= .error p):=bdE O.out K
  unfold Pan
  go_wp2
  refine⟨rfl,?_⟩
  rw[HX.out]
  exact⟨rfl,X.out⟩
 |ok V=>
  rintro e w3 ⟨rfl,S3,m,s⟩
  have ab:=zc m
  have J:Hid (IS o S w S3 w3):=I.out.trans s
  clear m s
  have L:=zc (bdO O.out K)
  unfold exI
  go_wp2_with fail
  refine (zbX C z n j o S3 V 41 _ ab.out).mono ?_
  cases D:zd C 4 za0 V with
  |error p=>
   rintro e Z ⟨rfl,A⟩
   have X:Hid (Below j w Z):=(M.out.back J.out).trans A
   have HX:Hid (pE C .part d q= .error p):=L.out.trans D
   unfold Pan
   go_wp2
   refine⟨rfl,?_⟩
   rw[HX.out]
   exact⟨rfl,X.out⟩
  |ok a4=>
   rintro e Z ⟨rfl,S4,m,s⟩
   have U:=zc m
   have ac:Hid (IS o S w S4 Z):=J.out.trans s
   clear m s
   have Q:=zc (L.out.trans D)
   have HP:Hid (a4=adv V):=(zb4 D).1
   go_wp2
   go_ret
   rw[Q.out]
   exact⟨by rw[HP.out];rfl,S4,U.out,ac.out⟩
theorem zmi (C:Cx) (z n j o d:Nat) (S:Sv) (q:PS) (w:World) (h:IM C z n j o S q w) (hk:((ze C q.pos).kind==2)=false) (h1:isT C q.pos 4 zn=false) (h2:C.scr=true) (I:isT C q.pos 1 za7=true):
  Calls Tryz.prog 206 #[.pointer (some ⟨o,0,none⟩),.int .i64 d] w (zQ C z n j o (pE C .part d q) id exI S w):=by
 have L:=zc h
 have aa:=zcH
 have ab:=zc0
 have ac:=zdY
 clear h
 have Z:=zc (zme (d:=d) hk h1 h2 I)
 go_enter Tryz.func206,Tryz.ntmps206
 go_wp2_with fail
 refine (zbr C z n j o S q _ L.out).mono ?_
 rintro e w1 ⟨rfl,A⟩
 unfold tkV
 have Y:Hid (IM C z n j o S q w1):=L.out.later A
 have J:Hid (IS o S w S w1):=IS.below A
 clear A
 go_wp2_with fail
 refine (zK C z n j o S q 4 zn _ Y.out (by decide)).mono ?_
 rintro e w2 ⟨rfl,m,s⟩
 rw[h1] at m ⊢
 have D:=zc m
 have N:Hid (IS o S w S w2):=J.out.trans s
 clear m s
 obtain⟨_,_,_,c3,_,_,_,_,_,_,cf⟩:=zac D.out.cells
 rw[h2] at c3
 go_wp2_with fail
 refine (zbO C z n j o S q 1 za7 _ D.out).mono ?_
 rintro e w3 ⟨rfl,A⟩
 rw[I]
 have V:Hid (IM C z n j o S q w3):=D.out.later A
 have Q:Hid (IS o S w S w3):=(N.out.trans (IS.below A))
 clear A
 go_wp2_with fail
 refine (zd2 C z n j o S q 1 _ V.out (zf4 I) (by decide)).mono ?_
 rintro e w4 ⟨rfl,m,s⟩
 have K:=zc m
 have H:Hid (IS o S w S w4):=Q.out.trans s
 clear m s
 unfold tkV
 rw[zg5 I]
 go_wp2_with fail
 refine (zeK C z n j o S (adv q) ⟨2,0,za7,sNone,0,0⟩ 3 _ K.out (by rw[zx];omega)).mono ?_
 cases E:zbg C ⟨2,0,za7,sNone,0,0⟩ 3 (adv q) with
 |error p=>
  rintro e U ⟨rfl,A⟩
  have HB:Hid (Below j w U):=(L.out.back H.out).trans A
  have HX:Hid (pE C .part d q= .error p):=Z.out.trans E
  unfold Pan
  go_wp2
  refine⟨rfl,?_⟩
  rw[HX.out]
  exact⟨rfl,HB.out⟩
 |ok a5=>
  rintro e U ⟨rfl,S5,m,s⟩
  have O:=zc m
  have M:Hid (IS o S w S5 U):=H.out.trans s
  clear m s
  have X:=zc (Z.out.trans E)
  go_wp2
  go_ret
  rw[X.out]
  exact⟨rfl,S5,O.out,M.out⟩
theorem zmj (C:Cx) (D n j o d:Nat) (S:Sv) (q:PS) (w:World) (h:IM C D n j o S q w) (hk:((ze C q.pos).kind==2)=false) (h1:isT C q.pos 4 zn=false) (h2:C.scr=true) (h3:isT C q.pos 1 za7=false):
  Calls Tryz.prog 206 #[.pointer (some ⟨o,0,none⟩),.int .i64 d] w (zQ C D n j o (pE C .part d q) id exI S w):=by
 have X:=zc h
 have al:=zcH
 have am:=zc0
 have an:=zdY
 clear h
 have HY:=zc (zif (d:=d) hk h1 (by rw[h2,h3];rfl))
 go_enter Tryz.func206,Tryz.ntmps206
 go_wp2_with fail
 refine (zbr C D n j o S q _ X.out).mono ?_
 rintro e w1 ⟨rfl,z⟩
 unfold tkV
 have ak:Hid (IM C D n j o S q w1):=X.out.later z
 have ae:Hid (IS o S w S w1):=IS.below z
 clear z
 go_wp2_with fail
 refine (zK C D n j o S q 4 zn _ ak.out (by decide)).mono ?_
 rintro e w2 ⟨rfl,m,s⟩
 rw[h1] at m ⊢
 have M:=zc m
 have ah:Hid (IS o S w S w2):=ae.out.trans s
 clear m s
 obtain⟨_,_,_,c3,_,_,_,_,_,_,cf⟩:=zac M.out.cells
 rw[h2] at c3
 go_wp2_with fail
 refine (zbO C D n j o S q 1 za7 _ M.out).mono ?_
 rintro e w3 ⟨rfl,z⟩
 rw[h3]
 have ai:Hid (IM C D n j o S q w3):=M.out.later z
 have ac:Hid (IS o S w S w3):=(ah.out.trans (IS.below z))
 clear z
 go_wp2_with fail
 refine (zdb C D n j o S q _ ai.out).mono ?_
 cases O:zj C false q with
 |error p=>
  rintro e w4 ⟨rfl,z⟩
  have K:Hid (Below j w w4):=(X.out.back ac.out).trans z
  have U:Hid (pE C .part d q= .error p):=bdE HY.out O
  unfold Pan
  go_wp2
  refine⟨rfl,?_⟩
  rw[U.out]
  exact⟨rfl,K.out⟩
 |ok E=>
  rintro e w4 ⟨rfl,N,m,s⟩
  have aa:=zc m
  have ad:Hid (IS o S w N w4):=ac.out.trans s
  clear m s
  have Z:=zc (bdO HY.out O)
  have ab:0<E.1.pos:=by rw[(zbd O).1];exact Nat.succ_pos _
  cases hd:isT C E.1.pos 4 cPoint with
  |true=>
   have HZ:=zc (Z.out.trans (if_pos hd))
   go_wp2_with fail
   refine (zK C D n j o N (E.1) 4 cPoint _ aa.out (by decide)).mono ?_
   rintro e w5 ⟨rfl,m,s⟩
   rw[hd] at m ⊢
   have L:=zc m
   have H:Hid (IS o S w N w5):=ad.out.trans s
   clear m s
   go_wp2_with fail
   refine (zeF C D n j o N (adv (E.1)) _ L.out).mono ?_
   cases A:zj C true (adv (E.1)) with
   |error p=>
    rintro e V ⟨rfl,z⟩
    have K:Hid (Below j w V):=(X.out.back H.out).trans z
    have U:Hid (pE C .part d q= .error p):=bdE HZ.out A
    unfold Pan
    go_wp2
    refine⟨rfl,?_⟩
    rw[U.out]
    exact⟨rfl,K.out⟩
   |ok a6=>
    rintro e V ⟨rfl,S6,m,s⟩
    have Q:=zc m
    have I:Hid (IS o S w S6 V):=H.out.trans s
    clear m s
    have J:=zc (bdO HZ.out A)
    go_wp2_with fail
    refine (zeK C D n j o S6 (a6.1) ⟨4,0,E.2,a6.2,0,0⟩ 5 _ Q.out (by rw[(zbd A).1];exact Nat.succ_pos _)).mono ?_
    cases Y:zbg C ⟨4,0,E.2,a6.2,0,0⟩ 5 (a6.1) with
    |error p=>
     rintro e w7 ⟨rfl,z⟩
     have K:Hid (Below j w w7):=(X.out.back I.out).trans z
     have U:Hid (pE C .part d q= .error p):=J.out.trans Y
     unfold Pan
     go_wp2
     refine⟨rfl,?_⟩
     rw[U.out]
     exact⟨rfl,K.out⟩
    |ok a7=>
     rintro e w7 ⟨rfl,S7,m,s⟩
     have af:=zc m
     have ag:Hid (IS o S w S7 w7):=I.out.trans s
     clear m s
     have aj:=zc (J.out.trans Y)
     go_wp2
     go_ret
     rw[aj.out]
     exact⟨rfl,S7,af.out,ag.out⟩
  |false=>
   have HZ:=zc (Z.out.trans (if_neg (by rw[hd];decide)))
   go_wp2_with fail
   refine (zK C D n j o N (E.1) 4 cPoint _ aa.out (by decide)).mono ?_
   rintro e w5 ⟨rfl,m,s⟩
   rw[hd] at m ⊢
   have L:=zc m
   have H:Hid (IS o S w N w5):=ad.out.trans s
   clear m s
   go_wp2_with fail
   refine (zeK C D n j o N (E.1) ⟨2,0,E.2,sNone,0,0⟩ 3 _ L.out ab).mono ?_
   cases A:zbg C ⟨2,0,E.2,sNone,0,0⟩ 3 (E.1) with
   |error p=>
    rintro e V ⟨rfl,z⟩
    have K:Hid (Below j w V):=(X.out.back H.out).trans z
    have U:Hid (pE C .part d q= .error p):=HZ.out.trans A
    unfold Pan
    go_wp2
    refine⟨rfl,?_⟩
    rw[U.out]
    exact⟨rfl,K.out⟩
   |ok a6=>
    rintro e V ⟨rfl,S6,m,s⟩
    have Q:=zc m
    have I:Hid (IS o S w S6 V):=H.out.trans s
    clear m s
    have J:=zc (HZ.out.trans A)
    go_wp2
    go_ret
    rw[J.out]
    exact⟨rfl,S6,Q.out,I.out⟩
theorem zmk (C:Cx) (D n j o d:Nat) (S:Sv) (q:PS) (w:World) (h:IM C D n j o S q w) (hk:((ze C q.pos).kind==2)=false) (h1:isT C q.pos 4 zn=false) (h2:C.scr=false):
  Calls Tryz.prog 206 #[.pointer (some ⟨o,0,none⟩),.int .i64 d] w (zQ C D n j o (pE C .part d q) id exI S w):=by
 have V:=zc h
 have aj:=zcH
 have ak:=zc0
 have al:=zdY
 clear h
 have HY:=zc (zif (d:=d) hk h1 (by rw[h2];rfl))
 go_enter Tryz.func206,Tryz.ntmps206
 go_wp2_with fail
 refine (zbr C D n j o S q _ V.out).mono ?_
 rintro e w1 ⟨rfl,E⟩
 unfold tkV
 have ai:Hid (IM C D n j o S q w1):=V.out.later E
 have ae:Hid (IS o S w S w1):=IS.below E
 clear E
 go_wp2_with fail
 refine (zK C D n j o S q 4 zn _ ai.out (by decide)).mono ?_
 rintro e w2 ⟨rfl,m,s⟩
 rw[h1] at m ⊢
 have aa:=zc m
 have Y:Hid (IS o S w S w2):=ae.out.trans s
 clear m s
 obtain⟨_,_,_,c3,_,_,_,_,_,_,cf⟩:=zac aa.out.cells
 rw[h2] at c3
 go_wp2_with fail
 refine (zdb C D n j o S q _ aa.out).mono ?_
 cases Q:zj C false q with
 |error p=>
  rintro e w3 ⟨rfl,E⟩
  have L:Hid (Below j w w3):=(V.out.back Y.out).trans E
  have U:Hid (pE C .part d q= .error p):=bdE HY.out Q
  unfold Pan
  go_wp2
  refine⟨rfl,?_⟩
  rw[U.out]
  exact⟨rfl,L.out⟩
 |ok A=>
  rintro e w3 ⟨rfl,M,m,s⟩
  have ac:=zc m
  have ab:Hid (IS o S w M w3):=Y.out.trans s
  clear m s
  have ad:=zc (bdO HY.out Q)
  have Z:0<A.1.pos:=by rw[(zbd Q).1];exact Nat.succ_pos _
  cases hd:isT C A.1.pos 4 cPoint with
  |true=>
   have HZ:=zc (ad.out.trans (if_pos hd))
   go_wp2_with fail
   refine (zK C D n j o M (A.1) 4 cPoint _ ac.out (by decide)).mono ?_
   rintro e w4 ⟨rfl,m,s⟩
   rw[hd] at m ⊢
   have K:=zc m
   have H:Hid (IS o S w M w4):=ab.out.trans s
   clear m s
   go_wp2_with fail
   refine (zeF C D n j o M (adv (A.1)) _ K.out).mono ?_
   cases z:zj C true (adv (A.1)) with
   |error p=>
    rintro e O ⟨rfl,E⟩
    have L:Hid (Below j w O):=(V.out.back H.out).trans E
    have U:Hid (pE C .part d q= .error p):=bdE HZ.out z
    unfold Pan
    go_wp2
    refine⟨rfl,?_⟩
    rw[U.out]
    exact⟨rfl,L.out⟩
   |ok a5=>
    rintro e O ⟨rfl,S5,m,s⟩
    have N:=zc m
    have I:Hid (IS o S w S5 O):=H.out.trans s
    clear m s
    have J:=zc (bdO HZ.out z)
    go_wp2_with fail
    refine (zeK C D n j o S5 (a5.1) ⟨4,0,A.2,a5.2,0,0⟩ 5 _ N.out (by rw[(zbd z).1];exact Nat.succ_pos _)).mono ?_
    cases X:zbg C ⟨4,0,A.2,a5.2,0,0⟩ 5 (a5.1) with
    |error p=>
     rintro e w6 ⟨rfl,E⟩
     have L:Hid (Below j w w6):=(V.out.back I.out).trans E
     have U:Hid (pE C .part d q= .error p):=J.out.trans X
     unfold Pan
     go_wp2
     refine⟨rfl,?_⟩
     rw[U.out]
     exact⟨rfl,L.out⟩
    |ok a6=>
     rintro e w6 ⟨rfl,S6,m,s⟩
     have ah:=zc m
     have af:Hid (IS o S w S6 w6):=I.out.trans s
     clear m s
     have ag:=zc (J.out.trans X)
     go_wp2
     go_ret
     rw[ag.out]
     exact⟨rfl,S6,ah.out,af.out⟩
  |false=>
   have HZ:=zc (ad.out.trans (if_neg (by rw[hd];decide)))
   go_wp2_with fail
   refine (zK C D n j o M (A.1) 4 cPoint _ ac.out (by decide)).mono ?_
   rintro e w4 ⟨rfl,m,s⟩
   rw[hd] at m ⊢
   have K:=zc m
   have H:Hid (IS o S w M w4):=ab.out.trans s
   clear m s
   go_wp2_with fail
   refine (zeK C D n j o M (A.1) ⟨2,0,A.2,sNone,0,0⟩ 3 _ K.out Z).mono ?_
   cases z:zbg C ⟨2,0,A.2,sNone,0,0⟩ 3 (A.1) with
   |error p=>
    rintro e O ⟨rfl,E⟩
    have L:Hid (Below j w O):=(V.out.back H.out).trans E
    have U:Hid (pE C .part d q= .error p):=HZ.out.trans z
    unfold Pan
    go_wp2
    refine⟨rfl,?_⟩
    rw[U.out]
    exact⟨rfl,L.out⟩
   |ok a5=>
    rintro e O ⟨rfl,S5,m,s⟩
    have N:=zc m
    have I:Hid (IS o S w S5 O):=H.out.trans s
    clear m s
    have J:=zc (HZ.out.trans z)
    go_wp2
    go_ret
    rw[J.out]
    exact⟨rfl,S5,N.out,I.out⟩
theorem zig (C:Cx) (z n j o m d:Nat) (S:Sv) (q:PS) (w:World) (h:IM C z n j o S q w) (L:d≤20) (K:zeL C z n j o m) (J:C.ts.length-q.pos≤m):
  Calls Tryz.prog 206 #[.pointer (some ⟨o,0,none⟩),.int .i64 d] w (zQ C z n j o (pE C .part d q) id exI S w):=by
 cases A:((ze C q.pos).kind==2) with
 |true=>exact zmf C z n j o d S q w h A
 |false=>
  cases D:isT C q.pos 4 zn with
  |true=>
   by_cases E:20≤d
   ·exact zmg C z n j o d S q w h A D E
   ·exact zmh C z n j o m d S q w h A D (by omega) K J
  |false=>
   cases H:C.scr with
   |true=>
    cases I:isT C q.pos 1 za7 with
    |true=>exact zmi C z n j o d S q w h A D H I
    |false=>exact zmj C z n j o d S q w h A D H I
   |false=>exact zmk C z n j o d S q w h A D H
theorem zml {C:Cx} {d:Nat} {q:PS} (h:isT C q.pos 4 zw=false):pE C .prodT d q= .ok q:=by rw[zfo,if_neg (by rw[h];decide)]
theorem zmm {C:Cx} {d:Nat} {q:PS} (h:isT C q.pos 4 zw=true):pE C .prodT d q=bd (pE C .part d (adv q)) fun a=>bd (zN C ⟨8,0,sNone,sNone,(q.ex.length:Int)-1,(a.ex.length:Int)-1⟩ a) (pE C .prodT d):=by rw[zfo,if_pos h,zM]
theorem zmn {C:Cx} {d:Nat} {q:PS} (h:isT C q.pos 4 zbb=false) (j:isT C q.pos 4 zbU=false):pE C .sumT d q= .ok q:=by rw[ze7,if_neg (by rw[h,j];decide)]
theorem zmo {C:Cx} {d:Nat} {q:PS} (h:isT C q.pos 4 zbb=true):pE C .sumT d q=bd (pE C .prod d (adv q)) fun a=>bd (zN C ⟨7,0,sNone,sNone,(q.ex.length:Int)-1,(a.ex.length:Int)-1⟩ a) (pE C .sumT d):=by
 rw[ze7,if_pos (by rw[h];exact Bool.or_true _),zM,zcY,if_pos h]
theorem zmp {C:Cx} {d:Nat} {q:PS} (h:isT C q.pos 4 zbb=false) (j:isT C q.pos 4 zbU=true):pE C .sumT d q=bd (pE C .prod d (adv q)) fun a=>bd (zN C ⟨6,0,sNone,sNone,(q.ex.length:Int)-1,(a.ex.length:Int)-1⟩ a) (pE C .sumT d):=by
 rw[ze7,if_pos (by rw[j];rfl),zM,zcY,if_neg (by rw[h];decide)]
theorem zg6 (C:Cx) (D n j o m d:Nat) (S:Sv) (q:PS) (w:World) (h:IM C D n j o S q w) (hd:d≤20) (hS:zeL C D n j o m) (hm:C.ts.length-q.pos≤m):
  Calls Tryz.prog 201 #[.pointer (some ⟨o,0,none⟩),.int .i64 d] w (zQ C D n j o (pE C .prod d q) id exI S w):=by
 have HH:=zc h
 have HY:=zc (zhD C d q)
 clear h
 go_enter Tryz.func201,Tryz.ntmps201
 go_wp2_with fail
 refine (zig C D n j o m d S q _ HH.out hd hS hm).mono ?_
 cases I:pE C .part d q with
 |error p=>
  rintro e w1 ⟨rfl,U⟩
  have O:Hid (Below j w w1):=(HH.out.back (IS.refl _ _ _)).trans U
  have HX:Hid (pE C .prod d q= .error p):=bdE HY.out I
  unfold Pan
  go_wp2
  refine⟨rfl,?_⟩
  rw[HX.out]
  exact⟨rfl,O.out⟩
 |ok a1=>
  rintro e w1 ⟨rfl,S1,m,s⟩
  have ah:=zc m
  have aa:=zc s
  clear m s
  have af:=zc (bdO HY.out I)
  unfold exI
  have ai:=zaY I
  go_wp2
  go_loopg [5] (C.ts.length+1) (fun k l wr=>∃(A:Sv) (z:PS),l=exI z∧pE C .prod d q=pE C .prodT d z∧C.ts.length-z.pos<k∧C.ts.length-z.pos≤m∧IM C D n j o A z wr∧IS o S w A wr)
  case atStart=>exact⟨S1,a1,rfl,af.out,by omega,by omega,ah.out,aa.out⟩
  case round=>
   obtain⟨A,z,rfl,hy,hk,aj,m',s'⟩:=hrel
   have Y:=zc hy
   have M:Hid (IM C D n j o A z wr):=m'
   have V:Hid (IS o S w A wr):=s'
   clear hy m' s'
   unfold exI
   cases N:isT C z.pos 4 zw with
   |false=>
    have HZ:=zc (Y.out.trans (zml N))
    go_wp2_with fail
    refine (zK C D n j o A z 4 zw _ M.out (by decide)).mono ?_
    rintro e w2 ⟨rfl,m,s⟩
    rw[N] at m ⊢
    have H:=zc m
    have E:Hid (IS o S w A w2):=V.out.trans s
    clear m s
    go_wp2
    go_ret
    rw[HZ.out]
    exact⟨rfl,A,H.out,E.out⟩
   |true=>
    have ak:=za1 N (by decide)
    have HZ:=zc (Y.out.trans (zmm N))
    go_wp2_with fail
    refine (zK C D n j o A z 4 zw _ M.out (by decide)).mono ?_
    rintro e w2 ⟨rfl,m,s⟩
    rw[N] at m ⊢
    have H:=zc m
    have E:Hid (IS o S w A w2):=V.out.trans s
    clear m s
    go_wp2_with fail
    refine (zig C D n j o m d A (adv z) _ H.out hd hS (by rw[zx];omega)).mono ?_
    cases J:pE C .part d (adv z) with
    |error p=>
     rintro e w3 ⟨rfl,U⟩
     have O:Hid (Below j w w3):=(HH.out.back E.out).trans U
     have HX:Hid (pE C .prod d q= .error p):=bdE HZ.out J
     unfold Pan
     go_wp2
     refine⟨rfl,?_⟩
     rw[HX.out]
     exact⟨rfl,O.out⟩
    |ok L=>
     rintro e w3 ⟨rfl,S3,m,s⟩
     have ae:=zc m
     have Q:Hid (IS o S w S3 w3):=E.out.trans s
     clear m s
     have X:=zc (bdO HZ.out J)
     unfold exI
     have Z:=zaY J
     rw[zx] at Z
     have ad:0<L.pos:=by omega
     go_wp2_with fail
     refine (zec C D n j o S3 L ⟨8,0,sNone,sNone,(z.ex.length:Int)-1,(L.ex.length:Int)-1⟩ _ ae.out ad).mono ?_
     cases K:zN C ⟨8,0,sNone,sNone,(z.ex.length:Int)-1,(L.ex.length:Int)-1⟩ L with
     |error p=>
      rintro e w4 ⟨rfl,U⟩
      have O:Hid (Below j w w4):=(HH.out.back Q.out).trans U
      have HX:Hid (pE C .prod d q= .error p):=bdE X.out K
      unfold Pan
      go_wp2
      refine⟨rfl,?_⟩
      rw[HX.out]
      exact⟨rfl,O.out⟩
     |ok a4=>
      rintro e w4 ⟨rfl,S4,m,s⟩
      have ac:=zc m
      have ag:Hid (IS o S w S4 w4):=Q.out.trans s
      clear m s
      have ab:=zc (bdO X.out K)
      have HP:Hid (a4.pos=L.pos):=by show _=_;rw[(zb5 K).1]
      go_wp2
      go_roundg (gk-1)
      case rel=>exact⟨S4,a4,rfl,ab.out,by have:=HP.out;omega,by have:=HP.out;omega,ac.out,ag.out⟩
      case measure=>omega
theorem zmq (C:Cx) (E n j o m d:Nat) (S:Sv) (q:PS) (w:World) (h:IM C E n j o S q w) (hd:d≤20) (hS:zeL C E n j o m) (hm:C.ts.length-q.pos≤m):
  Calls Tryz.prog 183 #[.pointer (some ⟨o,0,none⟩),.int .i64 d] w (zQ C E n j o (pE C .sum d q) id exI S w):=by
 have HH:=zc h
 have HY:=zc (zhC C d q)
 clear h
 go_enter Tryz.func183,Tryz.ntmps183
 go_wp2_with fail
 refine (zg6 C E n j o m d S q _ HH.out hd hS hm).mono ?_
 cases ab:pE C .prod d q with
 |error p=>
  rintro e w1 ⟨rfl,A⟩
  have Y:Hid (Below j w w1):=(HH.out.back (IS.refl _ _ _)).trans A
  have Z:Hid (pE C .sum d q= .error p):=bdE HY.out ab
  unfold Pan
  go_wp2
  refine⟨rfl,?_⟩
  rw[Z.out]
  exact⟨rfl,Y.out⟩
 |ok a1=>
  rintro e w1 ⟨rfl,S1,m,s⟩
  have al:=zc m
  have ak:=zc s
  clear m s
  have an:=zc (bdO HY.out ab)
  unfold exI
  have au:=zaY ab
  go_wp2
  go_loopg [5] (C.ts.length+1) (fun k l wr=>∃(D:Sv) (z:PS),l=exI z∧pE C .sum d q=pE C .sumT d z∧C.ts.length-z.pos<k∧C.ts.length-z.pos≤m∧IM C E n j o D z wr∧IS o S w D wr)
  case atStart=>exact⟨S1,a1,rfl,an.out,by omega,by omega,al.out,ak.out⟩
  case round=>
   obtain⟨D,z,rfl,hy,hk,ar,m',s'⟩:=hrel
   have ah:=zc hy
   have I:Hid (IM C E n j o D z wr):=m'
   have ac:Hid (IS o S w D wr):=s'
   clear hy m' s'
   unfold exI
   have aq:=I.out.mem.few
   cases hi:isT C z.pos 4 zbb with
   |true=>
    have af:=za1 hi (by decide)
    have HZ:=zc (ah.out.trans (zmo hi))
    go_wp2_with fail
    refine (zbO C E n j o D z 4 zbb _ I.out).mono ?_
    rintro e Q ⟨rfl,A⟩
    rw[hi]
    have H:Hid (IM C E n j o D z Q):=I.out.later A
    have O:Hid (IS o S w D Q):=(ac.out.trans (IS.below A))
    clear A
    obtain⟨c0,c1,c2,c3,c4,c5,c6,c7,c8,c9,cf⟩:=zac H.out.cells
    go_wp2_with fail
    have K:Hid (IM C E n j o D (adv z) (Q.setCell ⟨o,1,none⟩ (.int .i64 ((z.pos:Int)+1)))):=H.out.adv af
    have L:Hid (IS o S w D (Q.setCell ⟨o,1,none⟩ (.int .i64 ((z.pos:Int)+1)))):=O.out.set _ _
    refine (zg6 C E n j o m d D (adv z) _ K.out hd hS (by rw[zx];omega)).mono ?_
    cases ai:pE C .prod d (adv z) with
    |error p=>
     rintro e w4 ⟨rfl,A⟩
     have Y:Hid (Below j w w4):=(HH.out.back L.out).trans A
     have Z:Hid (pE C .sum d q= .error p):=bdE HZ.out ai
     unfold Pan
     go_wp2
     refine⟨rfl,?_⟩
     rw[Z.out]
     exact⟨rfl,Y.out⟩
    |ok a4=>
     rintro e w4 ⟨rfl,S4,m,s⟩
     have ad:=zc m
     have M:Hid (IS o S w S4 w4):=L.out.trans s
     clear m s
     have aj:=zc (bdO HZ.out ai)
     unfold exI
     have N:=zaY ai
     rw[zx] at N
     have ag:0<a4.pos:=by omega
     go_wp2_with fail
     refine (zec C E n j o S4 a4 ⟨7,0,sNone,sNone,(z.ex.length:Int)-1,(a4.ex.length:Int)-1⟩ _ ad.out ag).mono ?_
     cases J:zN C ⟨7,0,sNone,sNone,(z.ex.length:Int)-1,(a4.ex.length:Int)-1⟩ a4 with
     |error p=>
      rintro e w5 ⟨rfl,A⟩
      have Y:Hid (Below j w w5):=(HH.out.back M.out).trans A
      have Z:Hid (pE C .sum d q= .error p):=bdE aj.out J
      unfold Pan
      go_wp2
      refine⟨rfl,?_⟩
      rw[Z.out]
      exact⟨rfl,Y.out⟩
     |ok V=>
      rintro e w5 ⟨rfl,S5,m,s⟩
      have ae:=zc m
      have U:Hid (IS o S w S5 w5):=M.out.trans s
      clear m s
      have X:=zc (bdO aj.out J)
      have HP:Hid (V.pos=a4.pos):=by show _=_;rw[(zb5 J).1]
      go_wp2
      go_roundg (gk-1)
      case rel=>exact⟨S5,V,rfl,X.out,by have:=HP.out;omega,by have:=HP.out;omega,ae.out,U.out⟩
      case measure=>omega
   |false=>
    cases hj:isT C z.pos 4 zbU with
    |true=>
     have af:=za1 hj (by decide)
     have HZ:=zc (ah.out.trans (zmp hi hj))
     go_wp2_with fail
     refine (zbO C E n j o D z 4 zbb _ I.out).mono ?_
     rintro e Q ⟨rfl,A⟩
     rw[hi]
     have H:Hid (IM C E n j o D z Q):=I.out.later A
     have O:Hid (IS o S w D Q):=(ac.out.trans (IS.below A))
     clear A
     go_wp2_with fail
     refine (zbO C E n j o D z 4 zbU _ H.out).mono ?_
     rintro e w3 ⟨rfl,A⟩
     rw[hj]
     have K:Hid (IM C E n j o D z w3):=H.out.later A
     have L:Hid (IS o S w D w3):=(O.out.trans (IS.below A))
     clear A
     obtain⟨c0,c1,c2,c3,c4,c5,c6,c7,c8,c9,cf⟩:=zac K.out.cells
     go_wp2_with fail
     have ad:Hid (IM C E n j o D (adv z) (w3.setCell ⟨o,1,none⟩ (.int .i64 ((z.pos:Int)+1)))):=K.out.adv af
     have M:Hid (IS o S w D (w3.setCell ⟨o,1,none⟩ (.int .i64 ((z.pos:Int)+1)))):=L.out.set _ _
     refine (zg6 C E n j o m d D (adv z) _ ad.out hd hS (by rw[zx];omega)).mono ?_
     cases J:pE C .prod d (adv z) with
     |error p=>
      rintro e w5 ⟨rfl,A⟩
      have Y:Hid (Below j w w5):=(HH.out.back M.out).trans A
      have Z:Hid (pE C .sum d q= .error p):=bdE HZ.out J
      unfold Pan
      go_wp2
      refine⟨rfl,?_⟩
      rw[Z.out]
      exact⟨rfl,Y.out⟩
     |ok V=>
      rintro e w5 ⟨rfl,S5,m,s⟩
      have ae:=zc m
      have U:Hid (IS o S w S5 w5):=M.out.trans s
      clear m s
      have X:=zc (bdO HZ.out J)
      unfold exI
      have N:=zaY J
      rw[zx] at N
      have ag:0<V.pos:=by omega
      go_wp2_with fail
      refine (zec C E n j o S5 V ⟨6,0,sNone,sNone,(z.ex.length:Int)-1,(V.ex.length:Int)-1⟩ _ ae.out ag).mono ?_
      cases aa:zN C ⟨6,0,sNone,sNone,(z.ex.length:Int)-1,(V.ex.length:Int)-1⟩ V with
      |error p=>
       rintro e w6 ⟨rfl,A⟩
       have Y:Hid (Below j w w6):=(HH.out.back U.out).trans A
       have Z:Hid (pE C .sum d q= .error p):=bdE X.out aa
       unfold Pan
       go_wp2
       refine⟨rfl,?_⟩
       rw[Z.out]
       exact⟨rfl,Y.out⟩
      |ok a6=>
       rintro e w6 ⟨rfl,S6,m,s⟩
       have ap:=zc m
       have am:Hid (IS o S w S6 w6):=U.out.trans s
       clear m s
       have ao:=zc (bdO X.out aa)
       have HP:Hid (a6.pos=V.pos):=by show _=_;rw[(zb5 aa).1]
       go_wp2
       go_roundg (gk-1)
       case rel=>exact⟨S6,a6,rfl,ao.out,by have:=HP.out;omega,by have:=HP.out;omega,ap.out,am.out⟩
       case measure=>omega
    |false=>
     have HZ:=zc (ah.out.trans (zmn hi hj))
     go_wp2_with fail
     refine (zbO C E n j o D z 4 zbb _ I.out).mono ?_
     rintro e Q ⟨rfl,A⟩
     rw[hi]
     have H:Hid (IM C E n j o D z Q):=I.out.later A
     have O:Hid (IS o S w D Q):=(ac.out.trans (IS.below A))
     clear A
     go_wp2_with fail
     refine (zbO C E n j o D z 4 zbU _ H.out).mono ?_
     rintro e w3 ⟨rfl,A⟩
     rw[hj]
     have K:Hid (IM C E n j o D z w3):=H.out.later A
     have L:Hid (IS o S w D w3):=(O.out.trans (IS.below A))
     clear A
     go_wp2
     go_ret
     rw[HZ.out]
     exact⟨rfl,D,K.out,L.out⟩
theorem zmr (C:Cx) (z n j A m:Nat):zeL C z n j A m:=by
 induction m with
 |zero=>intro d S q w o;omega
 |succ m D=>intro d S q w o E h;exact zmq C z n j A m d S q w h E D (by omega)
theorem zms (C:Cx) (z n j o d:Nat) (S:Sv) (q:PS) (w:World) (h:IM C z n j o S q w) (A:d≤20):
  Calls Tryz.prog 183 #[.pointer (some ⟨o,0,none⟩),.int .i64 d] w (zQ C z n j o (pE C .sum d q) id exI S w):=zmr C z n j o _ d S q w (Nat.lt_succ_self _) A h
theorem zih {C:Cx} {s:ByteArray} (n:Nat): ∀{k:Nat} {q b:PS},zaB C s n k q= .ok b→b={q with pos:=q.pos+n}:=by
 induction n with
 |zero=>intro k q b h;cases h;rfl
 |succ n z=>
  intro k q b h
  rw[zaB] at h
  obtain⟨a,o,j⟩:=zf h
  rw[z j,(zb4 o).1]
  show ({q with pos:=q.pos+1+n}:PS)=_
  congr 1
  omega
theorem zii (x:Sm): ∀u∈smL x,u.oneCell'=true:=by
 intro u j
 simp[smL] at j
 rcases j with rfl|rfl|rfl<;>rfl
def stmtI (C:Cx) (k:Int) (n s:ByteArray) (q:PS):PR:=bd (pE C .sum 0 q) fun a=>bd (zaB C s s.size 0 a) fun b=>zV C k n b
theorem zd8 (C:Cx) (N A j D:Nat) (S:Sv) (q:PS) (E:Int) (n s:ByteArray) (w:World) (h:IM C N A j D S q w) (hs:s.size≤100) (h0:0<s.size):
  Calls Tryz.prog 154 #[.pointer (some ⟨D,0,none⟩),.int .i64 E,.string n,.string s] w (zQ C N A j D (stmtI C E n s q) id (fun _=>.tuple #[]) S w):=by
 obtain⟨i0,hi,ah,af,aj⟩:=info_parts Tryz.infoStmt
 have HH:=zc h
 have HY:=zc (stmtI.eq_1 C E n s q)
 clear h
 go_enter Tryz.func154,Tryz.ntmps154
 go_wp2_with fail
 refine (zms C N A j D 0 S q _ HH.out (by omega)).mono ?_
 cases O:pE C .sum 0 q with
 |error p=>
  rintro e w1 ⟨rfl,hb⟩
  have Y:Hid (Below j w w1):=(HH.out.back (IS.refl _ _ _)).trans hb
  have HX:Hid (stmtI C E n s q= .error p):=bdE HY.out O
  unfold Pan
  go_wp2
  refine⟨rfl,?_⟩
  rw[HX.out]
  exact⟨rfl,Y.out⟩
 |ok a1=>
  rintro e w1 ⟨rfl,S1,m,s⟩
  have ae:=zc m
  have M:=zc s
  clear m s
  have U:=zc (bdO HY.out O)
  unfold exI
  go_wp2_with fail
  refine (zgz C N A j D S1 a1 s _ ae.out hs).mono ?_
  cases J:zaB C s s.size 0 a1 with
  |error p=>
   rintro e Q ⟨rfl,hb⟩
   have Y:Hid (Below j w Q):=(HH.out.back M.out).trans hb
   have HX:Hid (stmtI C E n s q= .error p):=bdE U.out J
   unfold Pan
   go_wp2
   refine⟨rfl,?_⟩
   rw[HX.out]
   exact⟨rfl,Y.out⟩
  |ok z=>
   rintro e Q ⟨rfl,S2,m,s⟩
   have o:=zc m
   have ac:Hid (IS D S w S2 Q):=M.out.trans s
   clear m s
   have aa:=zc (bdO U.out J)
   have I:=zih _ J
   have Z:0<z.pos:=by rw[I];show 0<a1.pos+s.size;omega
   have HE:Hid (z.ex=a1.ex):=by show _=_;rw[I]
   clear I
   have ak:=o.out.mem.inv.st
   obtain⟨c0,c1,c2,c3,c4,c5,c6,c7,c8,c9,cf⟩:=zac o.out.cells
   go_wp2_with fail
   by_cases hn:z.st.length<80
   ·have HZ:=zc (aa.out.trans (show zV C E n z=_ from if_neg (by omega)))
    refine (zd3 D z.st.length 80 _ (by omega)).mono ?_
    rintro e w' ⟨rfl,hw⟩
    rw[hw]
    clear hw w'
    have HN:Hid (some D≠S2.st.blk):=fun e=>o.out.free (.inr (.inr (.inr (.inl e.symm))))
    have al:=o.out.lt
    have H:=fun K=>(o.out.mem.own.st.alloc K)
    have V:=fun K=>(o.out.alloc K).mem.base
    have X:=fun K=>(o.out.alloc K).lt
    have ad:=fun K=>(o.out.alloc K).cells
    go_wp2_with (at_builtin;refine zcu _ rfl _ _ 25 rfl j 106 i0 _ 3 32 Tryz.underlying25 hi ah af aj rfl (by decide) (by decide) S2.st z.st.length _ (by rfl) (H _) Q.heap.size (smL ⟨E,n,(a1.ex.length:Int)-1⟩) (by rfl) (by exact heap_alloc_new Q _) rfl (zii _) (by omega) (V _) ?_;intro r' wz hr L ab;have g2:=(L.block D (X _) HN.out).trans (ad _);obtain⟨d0,d1,d2,d3,d4,d5,d6,d7,d8,d9,df⟩:=zac g2;have HR:Hid (OwnR wz j 106 3 r' (z.st.length+1) _):=hr;have ai:Hid (World.grownBy _ wz _):=L;have ag:Hid (_∨_):=ab;clear hr L ab g2 c0 c1 c2 c3 c4 c5 c6 c7 c8 c9 cf H V X ad)
    go_wp2
    go_end0
    obtain⟨m',s'⟩:=o.out.grow_st ((Below.refl _ _).alloc (Nat.le_refl _) _) ai.out HR.out ag.out hn
    rw[HZ.out]
    rw[←HE.out] at m'
    exact⟨rfl,_,m',ac.out.trans s'⟩
   ·have HZ:Hid (stmtI C E n s q= .error (zr C (z.pos-1))):=aa.out.trans (if_pos (by omega))
    refine (zeb C N A j D S2 z z.st.length 80 _ o.out (by omega) Z).mono ?_
    rintro e wz ⟨rfl,hb⟩
    have Y:Hid (Below j w wz):=(HH.out.back ac.out).trans (hb.mono o.out.mem.base)
    have HX:Hid (stmtI C E n s q= .error (zr C (z.pos-1))):=HZ.out
    unfold Pan
    go_wp2
    refine⟨rfl,?_⟩
    rw[HX.out]
    exact⟨rfl,Y.out⟩
def letJ (C:Cx) (k:Int) (q:PS):PR:=bd (zj C false q) fun a=>bd (zd C 4 cEq a.1) fun b=>stmtI C k a.2 cSemi b
def fnI (C:Cx) (q:PS):PR:=bd (zj C false q) fun a=>bd (zaB C cCall cCall.size 0 a.1) fun b=>bd (zd C 1 zdT b) fun c=>stmtI C 2 a.2 cSemiRight c
def printI (C:Cx) (q:PS):PR:=bd (zd C 4 zn q) fun a=>stmtI C 4 sNone cShutSemi a
theorem zg7 (C:Cx) (A n j o:Nat) (S:Sv) (q:PS) (w:World) (h:IM C A n j o S q w):
  Calls Tryz.prog 144 #[.pointer (some ⟨o,0,none⟩)] w (zQ C A n j o (letJ C 1 q) id (fun _=>.tuple #[]) S w):=by
 have O:=zc h
 have HY:=zc (letJ.eq_1 C 1 q)
 clear h
 go_enter Tryz.func144,Tryz.ntmps144
 go_wp2_with fail
 refine (zdb C A n j o S q _ O.out).mono ?_
 cases K:zj C false q with
 |error p=>
  rintro e w1 ⟨rfl,J⟩
  have D:Hid (Below j w w1):=(O.out.back (IS.refl _ _ _)).trans J
  have N:Hid (letJ C 1 q= .error p):=bdE HY.out K
  unfold Pan
  go_wp2
  refine⟨rfl,?_⟩
  rw[N.out]
  exact⟨rfl,D.out⟩
 |ok Q=>
  rintro e w1 ⟨rfl,S1,m,s⟩
  have ab:=zc m
  have z:=zc s
  clear m s
  have M:=zc (bdO HY.out K)
  go_wp2_with fail
  refine (zbX C A n j o S1 (Q.1) 61 _ ab.out).mono ?_
  cases I:zd C 4 cEq (Q.1) with
  |error p=>
   rintro e Y ⟨rfl,J⟩
   have D:Hid (Below j w Y):=(O.out.back z.out).trans J
   have N:Hid (letJ C 1 q= .error p):=bdE M.out I
   unfold Pan
   go_wp2
   refine⟨rfl,?_⟩
   rw[N.out]
   exact⟨rfl,D.out⟩
  |ok a2=>
   rintro e Y ⟨rfl,S2,m,s⟩
   have U:=zc m
   have E:Hid (IS o S w S2 Y):=z.out.trans s
   clear m s
   have H:=zc (bdO M.out I)
   go_wp2_with fail
   refine (zd8 C A n j o S2 a2 1 Q.2 cSemi _ U.out (by decide) (by decide)).mono ?_
   cases L:stmtI C 1 Q.2 cSemi a2 with
   |error p=>
    rintro e X ⟨rfl,J⟩
    have D:Hid (Below j w X):=(O.out.back E.out).trans J
    have N:Hid (letJ C 1 q= .error p):=H.out.trans L
    unfold Pan
    go_wp2
    refine⟨rfl,?_⟩
    rw[N.out]
    exact⟨rfl,D.out⟩
   |ok a3=>
    rintro e X ⟨rfl,S3,m,s⟩
    have Z:=zc m
    have V:Hid (IS o S w S3 X):=E.out.trans s
    clear m s
    have aa:=zc (H.out.trans L)
    go_wp2
    go_end0
    rw[aa.out]
    exact⟨rfl,S3,Z.out,V.out⟩
theorem zij (C:Cx) (A n j o:Nat) (S:Sv) (q:PS) (w:World) (h:IM C A n j o S q w):
  Calls Tryz.prog 90 #[.pointer (some ⟨o,0,none⟩)] w (zQ C A n j o (letJ C 3 q) id (fun _=>.tuple #[]) S w):=by
 have O:=zc h
 have HY:=zc (letJ.eq_1 C 3 q)
 clear h
 go_enter Tryz.func90,Tryz.ntmps90
 go_wp2_with fail
 refine (zdb C A n j o S q _ O.out).mono ?_
 cases K:zj C false q with
 |error p=>
  rintro e w1 ⟨rfl,J⟩
  have D:Hid (Below j w w1):=(O.out.back (IS.refl _ _ _)).trans J
  have N:Hid (letJ C 3 q= .error p):=bdE HY.out K
  unfold Pan
  go_wp2
  refine⟨rfl,?_⟩
  rw[N.out]
  exact⟨rfl,D.out⟩
 |ok Q=>
  rintro e w1 ⟨rfl,S1,m,s⟩
  have ab:=zc m
  have z:=zc s
  clear m s
  have M:=zc (bdO HY.out K)
  go_wp2_with fail
  refine (zbX C A n j o S1 (Q.1) 61 _ ab.out).mono ?_
  cases I:zd C 4 cEq (Q.1) with
  |error p=>
   rintro e Y ⟨rfl,J⟩
   have D:Hid (Below j w Y):=(O.out.back z.out).trans J
   have N:Hid (letJ C 3 q= .error p):=bdE M.out I
   unfold Pan
   go_wp2
   refine⟨rfl,?_⟩
   rw[N.out]
   exact⟨rfl,D.out⟩
  |ok a2=>
   rintro e Y ⟨rfl,S2,m,s⟩
   have U:=zc m
   have E:Hid (IS o S w S2 Y):=z.out.trans s
   clear m s
   have H:=zc (bdO M.out I)
   go_wp2_with fail
   refine (zd8 C A n j o S2 a2 3 Q.2 cSemi _ U.out (by decide) (by decide)).mono ?_
   cases L:stmtI C 3 Q.2 cSemi a2 with
   |error p=>
    rintro e X ⟨rfl,J⟩
    have D:Hid (Below j w X):=(O.out.back E.out).trans J
    have N:Hid (letJ C 3 q= .error p):=H.out.trans L
    unfold Pan
    go_wp2
    refine⟨rfl,?_⟩
    rw[N.out]
    exact⟨rfl,D.out⟩
   |ok a3=>
    rintro e X ⟨rfl,S3,m,s⟩
    have Z:=zc m
    have V:Hid (IS o S w S3 X):=E.out.trans s
    clear m s
    have aa:=zc (H.out.trans L)
    go_wp2
    go_end0
    rw[aa.out]
    exact⟨rfl,S3,Z.out,V.out⟩
theorem zg8 (C:Cx) (E n j o:Nat) (S:Sv) (q:PS) (w:World) (h:IM C E n j o S q w):
  Calls Tryz.prog 145 #[.pointer (some ⟨o,0,none⟩)] w (zQ C E n j o (fnI C q) id (fun _=>.tuple #[]) S w):=by
 have I:=zc h
 have HY:=zc (fnI.eq_1 C q)
 clear h
 go_enter Tryz.func145,Tryz.ntmps145
 go_wp2_with fail
 refine (zdb C E n j o S q _ I.out).mono ?_
 cases N:zj C false q with
 |error p=>
  rintro e w1 ⟨rfl,A⟩
  have z:Hid (Below j w w1):=(I.out.back (IS.refl _ _ _)).trans A
  have D:Hid (fnI C q= .error p):=bdE HY.out N
  unfold Pan
  go_wp2
  refine⟨rfl,?_⟩
  rw[D.out]
  exact⟨rfl,z.out⟩
 |ok X=>
  rintro e w1 ⟨rfl,S1,m,s⟩
  have ad:=zc m
  have H:=zc s
  clear m s
  have Q:=zc (bdO HY.out N)
  go_wp2_with fail
  refine (zgz C E n j o S1 (X.1) cCall _ ad.out (by decide)).mono ?_
  cases K:zaB C cCall cCall.size 0 (X.1) with
  |error p=>
   rintro e w2 ⟨rfl,A⟩
   have z:Hid (Below j w w2):=(I.out.back H.out).trans A
   have D:Hid (fnI C q= .error p):=bdE Q.out K
   unfold Pan
   go_wp2
   refine⟨rfl,?_⟩
   rw[D.out]
   exact⟨rfl,z.out⟩
  |ok a2=>
   rintro e w2 ⟨rfl,S2,m,s⟩
   have aa:=zc m
   have J:Hid (IS o S w S2 w2):=H.out.trans s
   clear m s
   have L:=zc (bdO Q.out K)
   go_wp2_with fail
   refine (zea C E n j o S2 a2 zdT _ aa.out).mono ?_
   cases O:zd C 1 zdT a2 with
   |error p=>
    rintro e w3 ⟨rfl,A⟩
    have z:Hid (Below j w w3):=(I.out.back J.out).trans A
    have D:Hid (fnI C q= .error p):=bdE L.out O
    unfold Pan
    go_wp2
    refine⟨rfl,?_⟩
    rw[D.out]
    exact⟨rfl,z.out⟩
   |ok a3=>
    rintro e w3 ⟨rfl,S3,m,s⟩
    have ab:=zc m
    have M:Hid (IS o S w S3 w3):=J.out.trans s
    clear m s
    have U:=zc (bdO L.out O)
    go_wp2_with fail
    refine (zd8 C E n j o S3 a3 2 X.2 cSemiRight _ ab.out (by decide) (by decide)).mono ?_
    cases V:stmtI C 2 X.2 cSemiRight a3 with
    |error p=>
     rintro e w4 ⟨rfl,A⟩
     have z:Hid (Below j w w4):=(I.out.back M.out).trans A
     have D:Hid (fnI C q= .error p):=U.out.trans V
     unfold Pan
     go_wp2
     refine⟨rfl,?_⟩
     rw[D.out]
     exact⟨rfl,z.out⟩
    |ok a4=>
     rintro e w4 ⟨rfl,S4,m,s⟩
     have Z:=zc m
     have ac:Hid (IS o S w S4 w4):=M.out.trans s
     clear m s
     have Y:=zc (U.out.trans V)
     go_wp2
     go_end0
     rw[Y.out]
     exact⟨rfl,S4,Z.out,ac.out⟩
theorem zik (C:Cx) (H n j o:Nat) (S:Sv) (q:PS) (w:World) (h:IM C H n j o S q w):
  Calls Tryz.prog 146 #[.pointer (some ⟨o,0,none⟩)] w (zQ C H n j o (printI C q) id (fun _=>.tuple #[]) S w):=by
 have I:=zc h
 have V:=zc (printI.eq_1 C q)
 clear h
 go_enter Tryz.func146,Tryz.ntmps146
 go_wp2_with fail
 refine (zbX C H n j o S q 40 _ I.out).mono ?_
 cases D:zd C 4 zn q with
 |error p=>
  rintro e X ⟨rfl,N⟩
  have J:Hid (Below j w X):=(I.out.back (IS.refl _ _ _)).trans N
  have Q:Hid (printI C q= .error p):=bdE V.out D
  unfold Pan
  go_wp2
  refine⟨rfl,?_⟩
  rw[Q.out]
  exact⟨rfl,J.out⟩
 |ok Y=>
  rintro e X ⟨rfl,S1,m,s⟩
  have U:=zc m
  have z:=zc s
  clear m s
  have E:=zc (bdO V.out D)
  go_wp2_with fail
  refine (zd8 C H n j o S1 Y 4 sNone cShutSemi _ U.out (by decide) (by decide)).mono ?_
  cases A:stmtI C 4 sNone cShutSemi Y with
  |error p=>
   rintro e O ⟨rfl,N⟩
   have J:Hid (Below j w O):=(I.out.back z.out).trans N
   have Q:Hid (printI C q= .error p):=E.out.trans A
   unfold Pan
   go_wp2
   refine⟨rfl,?_⟩
   rw[Q.out]
   exact⟨rfl,J.out⟩
  |ok a2=>
   rintro e O ⟨rfl,Z,m,s⟩
   have M:=zc m
   have K:Hid (IS o S w Z O):=z.out.trans s
   clear m s
   have L:=zc (E.out.trans A)
   go_wp2
   go_end0
   rw[L.out]
   exact⟨rfl,Z,M.out,K.out⟩
theorem zil (C:Cx) (z n j o:Nat) (S:Sv) (q:PS) (w:World) (h:IM C z n j o S q w):
  Calls Tryz.prog 147 #[.pointer (some ⟨o,0,none⟩)] w (zQ C z n j o (stmtI C 5 sNone cSemi q) id (fun _=>.tuple #[]) S w):=by
 have D:=zc h
 clear h
 go_enter Tryz.func147,Tryz.ntmps147
 go_wp2_with fail
 refine (zd8 C z n j o S q 5 sNone cSemi _ D.out (by decide) (by decide)).mono ?_
 cases A:stmtI C 5 sNone cSemi q with
 |error p=>
  rintro e J ⟨rfl,K⟩
  unfold Pan
  go_wp2
  refine⟨rfl,?_⟩
  rw[A]
  exact⟨rfl,K⟩
 |ok a=>
  rintro e J ⟨rfl,I,m,s⟩
  have E:=zc m
  have H:=zc s
  clear m s
  go_wp2
  go_end0
  rw[A]
  exact⟨rfl,I,E.out,H.out⟩
theorem zmt (C:Cx) (z n j o:Nat) (S:Sv) (q:PS) (w:World) (h:IM C z n j o S q w):
  Calls Tryz.prog 148 #[.pointer (some ⟨o,0,none⟩)] w (zQ C z n j o (stmtI C 6 sNone cSemi q) id (fun _=>.tuple #[]) S w):=by
 have D:=zc h
 clear h
 go_enter Tryz.func148,Tryz.ntmps148
 go_wp2_with fail
 refine (zd8 C z n j o S q 6 sNone cSemi _ D.out (by decide) (by decide)).mono ?_
 cases A:stmtI C 6 sNone cSemi q with
 |error p=>
  rintro e J ⟨rfl,K⟩
  unfold Pan
  go_wp2
  refine⟨rfl,?_⟩
  rw[A]
  exact⟨rfl,K⟩
 |ok a=>
  rintro e J ⟨rfl,I,m,s⟩
  have E:=zc m
  have H:=zc s
  clear m s
  go_wp2
  go_end0
  rw[A]
  exact⟨rfl,I,E.out,H.out⟩
def zcm (C:Cx) (i:Nat):ByteArray:=if (ze C i).kind==1 then (ze C i).text else sNone
theorem zim (C:Cx) (A n j z:Nat) (S:Sv) (q:PS) (w:World) (h:IM C A n j z S q w):
  Calls Tryz.prog 89 #[.pointer (some ⟨z,0,none⟩)] w fun e J=>e= .returned (.string (zcm C q.pos))∧Below w.heap.size w J:=by
 have E:=zc h
 clear h
 cases H:((ze C q.pos).kind==1) with
 |true=>
  have D:Hid (zcm C q.pos=(ze C q.pos).text):=by show _=_;rw[zcm,H];rfl
  go_enter Tryz.func89,Tryz.ntmps89
  go_wp2_with fail
  refine (zbr C A n j z S q _ E.out).mono ?_
  rintro e I ⟨rfl,o⟩
  unfold tkV
  go_wp2
  go_ret
  rw[D.out]
  exact⟨rfl,o.alloc o.size _⟩
 |false=>
  have D:Hid (zcm C q.pos=sNone):=by show _=_;rw[zcm,H];rfl
  go_enter Tryz.func89,Tryz.ntmps89
  go_wp2_with fail
  refine (zbr C A n j z S q _ E.out).mono ?_
  rintro e I ⟨rfl,o⟩
  unfold tkV
  go_wp2
  go_ret
  rw[D.out]
  exact⟨rfl,o.alloc o.size _⟩
theorem OwnR.stmtName {w:World} {j:Nat} {r:Rw} {l:List Sm} {x:Sm} (h:OwnR w j 106 3 r (l++[x]).length ((l++[x]).flatMap smL)): ∃g,r.a=some ⟨g,0,none⟩∧w.cell? ⟨g,l.length*3+1,none⟩=some (.string x.name):=by
 rcases h.2 with ⟨_,A⟩|⟨g,E,D,n,_⟩
 ·simp at A
 ·simp only[Value.slice.injEq] at n
  have o:=h
  unfold OwnR at o
  rw[n.1,n.2.2] at o
  refine⟨g,n.1,?_⟩
  rw[World.ownsRow.cellAt o _ (by simp;omega)]
  have z: ∀l:List Sm,(l.flatMap smL).length=l.length*3:=by
   intro l
   induction l with
   |nil=>rfl
   |cons y l q=>simp[List.flatMap_cons,smL,q] at q ⊢;omega
  rw[List.flatMap_append,List.getElem?_append_right (by rw[z];omega),z]
  simp[smL]
theorem zmu (C:Cx) (I n j A:Nat) (S:Sv) (q:PS) (l:List Sm) (x:Sm) (w:World) (h:IM C I n j A S q w) (N:q.st=l++[x]) (M:x.name.size≤281474976710656) (hp:0<q.pos):
  Calls Tryz.prog 179 #[.pointer (some ⟨A,0,none⟩)] w (zQ C I n j A (zo C ⟨1,x.name,x.name,sNone⟩ q) id (fun _=>.tuple #[]) S w):=by
 have HH:=zc h
 obtain⟨_,_,_,_,_,_,_,H,_,_,_⟩:=zac h.cells
 have J:=h.mem.own.st
 rw[N] at J H
 obtain⟨g,Y,hc⟩:=J.stmtName
 have E:=h.mem.inv.st
 rw[N] at E
 have D:(l++[x]).length=l.length+1:=by simp
 rw[D] at H E
 rw[Y] at H
 have X:=zc H
 have U:=zc hc
 have e1:((l.length+1:Nat):Int)-1=(l.length:Int):=by omega
 have e2:(l.length:Int)+1-1=(l.length:Int):=by omega
 have ac:IntKind.i64.wrap (l.length:Int)=(l.length:Int):=IntWalk.i64_in _ ⟨by omega,by omega⟩
 have ab:(l.length:Int)<((l.length+1:Nat):Int):=by omega
 have aa:(l.length:Int)<(l.length:Int)+1:=by omega
 have cC: ∀d V,Calls Tryz.prog 85 #[.string x.name] (grow (redrawn w d) V) fun e O=>e= .returned (.string x.name)∧∃p:Regrown,O=grow (redrawn w p.d) p.os:=fun d V=>Calls.regrown_of (zib _ _ M)
 clear h H hc J Y N
 go_enter Tryz.func179,Tryz.ntmps179
 go_wp2_with fail
 have k7:=cell_regrown X.out
 have kN:=cell_regrown U.out
 refine wp_region_quiet_below (by kernel_rfl) (by kernel_rfl) ?_
 repeat (go_big_quiet_step (exact cC _ _))
 refine wpQuiet_nil ?_
 intro Z K
 obtain⟨⟨dq,ad⟩,o⟩:=K
 have z:Hid (Below w.heap.size w Z):=by show Below _ _ _;rw[o];exact below_regrown _ _ _
 clear o k7 kN cC X U
 have Q:Hid (IM C I n j A S q Z):=HH.out.later z.out
 go_wp2_with fail
 refine (zeJ C I n j A S q ⟨1,x.name,x.name,sNone⟩ _ Q.out hp).mono ?_
 cases hn:zo C ⟨1,x.name,x.name,sNone⟩ q with
 |error p=>
  rintro e L ⟨rfl,hb⟩
  have HB:Hid (Below j w L):=(z.out.mono HH.out.mem.base).trans hb
  unfold Pan
  go_wp2
  refine⟨rfl,?_⟩
  rw[hn]
  exact⟨rfl,HB.out⟩
 |ok a=>
  rintro e L ⟨rfl,S1,m,s⟩
  have HM:=zc m
  have HS:Hid (IS A S w S1 L):=(IS.below z.out).trans s
  clear m s
  go_wp2
  go_end0
  rw[hn]
  exact⟨rfl,S1,HM.out,HS.out⟩
def Fr (e:TypeId) (size:Nat) (w:World) (b:Nat) (r:Rw) (n:Nat) (xs:List Value) (S:Sv):Prop:=OwnR w b e size r n xs∧∀k,r.blk=some k→¬S.has k
theorem Fr.ngp {C:Cx} {A o j z size b n:Nat} {S:Sv} {q:PS} {w:World} {e:TypeId} {r:Rw} {xs:List Value} (f:Fr e size w b r n xs S) (h:IM C A o j z S q w) (E:e≠59) {k:Nat} (D:r.blk=some k):k≠z:=by
 rintro rfl
 obtain⟨_,_,c,g⟩:=f.1.typed D
 rw[h.cells] at g
 simp only[Option.some.injEq,Obj.cells.injEq] at g
 exact E g.2.1.symm
theorem Fr.ngt {C:Cx} {z o j H size b n:Nat} {S:Sv} {q:PS} {w:World} {e:TypeId} {r:Rw} {xs:List Value} (f:Fr e size w b r n xs S) (h:IM C z o j H S q w) (D:e≠111) {k:Nat} (A:r.blk=some k):k≠z:=by
 rintro rfl
 obtain⟨_,_,c,g⟩:=f.1.typed A
 obtain⟨I,E⟩:=zfr h.mem.tok
 rw[E] at g
 simp only[Option.some.injEq,Obj.cells.injEq] at g
 exact D g.2.1.symm
theorem Fr.step {C:Cx} {H o j D size b n:Nat} {S A:Sv} {q:PS} {w E:World} {e:TypeId} {r:Rw} {xs:List Value} (f:Fr e size w b r n xs S) (h:IM C H o j D S q w) (J:e≠59) (s:IS D S w A E):Fr e size E b r n xs A:=by
 refine⟨f.1.keep fun k g=>s.block k (f.1.typed g).2.1 (f.2 k g) (f.ngp h J g),fun k g I=>?_⟩
 rcases s.sub k I with z|z
 ·exact f.2 k g z
 ·have:=(f.1.typed g).2.1
  omega
theorem Fr.low {size b j n:Nat} {S:Sv} {w:World} {e:TypeId} {r:Rw} {xs:List Value} (f:Fr e size w b r n xs S) (o:j≤b):Fr e size w j r n xs S:=⟨f.1.low o,f.2⟩
theorem Fr.later {size b n:Nat} {S:Sv} {w j:World} {e:TypeId} {r:Rw} {xs:List Value} (f:Fr e size w b r n xs S) (o:Below w.heap.size w j):Fr e size j b r n xs S:=⟨f.1.keep fun k g=>o.block k (f.1.typed g).2.1,f.2⟩
theorem IM.aside {C:Cx} {n o j z:Nat} {S:Sv} {q:PS} {W E:World} {b:Option Nat} (h:IM C n o j z S q W) (A:W.grownBy E b) (D: ∀k,b=some k→¬S.has k∧k≠z∧k≠n):IM C n o j z S q E:=by
 refine⟨⟨h.mem.own.keep fun k g=>A.block k (h.mem.own.has g).2 fun e=>(D k e.symm).1 g,h.mem.inv,zb0 h.mem.tok (A.block n (zan h.mem.tok).1 fun e=>(D n e.symm).2.2 rfl),h.mem.few,Nat.le_trans h.mem.base A.size⟩,(A.block z h.lt fun e=>(D z e.symm).2.1 rfl).trans h.cells,h.ge⟩
theorem IS.aside {A:Nat} {S z:Sv} {w W o:World} {b:Option Nat} (s:IS A S w z W) (j:W.grownBy o b) (E: ∀k,b=some k→w.heap.size≤k):IS A S w z o:=
 ⟨j.os.trans s.os,j.tape.trans s.tape,j.output.trans s.output,Nat.le_trans s.size j.size,fun k q D n=>(j.block k (Nat.lt_of_lt_of_le q s.size) fun e=>by have:=E k e.symm;omega).trans (s.block k q D n),s.sub⟩
theorem Fr.grown {size b n:Nat} {S:Sv} {W H:World} {e:TypeId} {r o:Rw} {xs I:List Value} {C:Cx} {J A j K:Nat} {q:PS} (f:Fr e size W b r n xs S) (h:IM C J A j K S q W) (L:OwnR H b e size o (n+1) I) (z:o.blk=r.blk∨o.blk=some W.heap.size):Fr e size H b o (n+1) I S:=by
 refine⟨L,fun k g E=>?_⟩
 rcases z with D|D
 ·exact f.2 k (D.symm.trans g) E
 ·have M:W.heap.size=k:=Option.some.inj (D.symm.trans g)
  have:=(h.mem.own.has E).2
  omega
theorem zmv {α:Type} (f:α→List Value) (m:Nat) (n: ∀x,(f x).length=m): ∀(l:List α) (j i:Nat) (x:α),l[j]? =some x→i<m→(l.flatMap f)[j*m+i]? =(f x)[i]?:=by
 intro l
 induction l with
 |nil=>intro j i x h;simp at h
 |cons y l q=>
  intro j i x h o
  rw[List.flatMap_cons]
  match j with
  |0=>
   simp only[List.getElem?_cons_zero,Option.some.injEq] at h
   subst h
   rw[Nat.zero_mul,Nat.zero_add,List.getElem?_append_left (by rw[n];exact o)]
  |j+1=>
   simp only[List.getElem?_cons_succ] at h
   rw[List.getElem?_append_right (by rw[n,Nat.succ_mul];omega),n,←q j i x h o]
   congr 1
   rw[Nat.succ_mul]
   omega
theorem OwnR.elem {α:Type} {f:α→List Value} {m:Nat} (J: ∀x,(f x).length=m) {w:World} {n:Nat} {e:TypeId} {r:Rw} {l:List α} (h:OwnR w n e m r l.length (l.flatMap f)) {j:Nat} {x:α} (A:l[j]? =some x): ∃g,r.a=some ⟨g,0,none⟩∧∀i,i<m→w.cell? ⟨g,j*m+i,none⟩=(f x)[i]?:=by
 have q:j<l.length:=(List.getElem?_eq_some_iff.1 A).1
 rcases h.2 with ⟨_,K⟩|⟨g,H,E,o,_⟩
 ·omega
 ·simp only[Value.slice.injEq] at o
  have z:=h
  unfold OwnR at z
  rw[o.1,o.2.2] at z
  refine⟨g,o.1,fun i D=>?_⟩
  have I:j*m+i<l.length*m:=by
   have:=Nat.mul_le_mul_right m q
   rw[Nat.succ_mul] at this
   omega
  rw[World.ownsRow.cellAt z _ I]
  exact zmv f m J l j i x A D
structure OwnMd (w:World) (base:Nat) (S:Sv) (m:Md):Prop where
 rq:OwnR w base 9 1 S.rq m.rq.length (m.rq.map .string)
 im:OwnR w base 100 3 S.im m.im.length (m.im.flatMap imL)
 ep:OwnR w base 102 4 S.ep m.ep.length (m.ep.flatMap epL)
 st:OwnR w base 106 3 S.st m.st.length (m.st.flatMap smL)
 ex:OwnR w base 108 6 S.ex m.ex.length (m.ex.flatMap exL)
theorem OwnMod.md {w:World} {j:Nat} {S:Sv} {q:PS} (h:OwnMod w j S q):OwnMd w j S (zdx q):=⟨h.rq,h.im,h.ep,h.st,h.ex⟩
theorem OwnMd.later {w o:World} {j:Nat} {S:Sv} {m:Md} (h:OwnMd w j S m) (n:Below w.heap.size w o):OwnMd o j S m:=
 ⟨h.rq.keep fun k g=>n.block k (h.rq.typed g).2.1,h.im.keep fun k g=>n.block k (h.im.typed g).2.1,h.ep.keep fun k g=>n.block k (h.ep.typed g).2.1,h.st.keep fun k g=>n.block k (h.st.typed g).2.1,h.ex.keep fun k g=>n.block k (h.ex.typed g).2.1⟩
theorem OwnMd.alloc {w:World} {j:Nat} {S:Sv} {m:Md} (h:OwnMd w j S m) (o:Obj):OwnMd (w.alloc o) j S m:=h.later ((Below.refl _ _).alloc (Nat.le_refl _) _)
def zp (S:Sv) (m:Md):Value:=.agg #[.slice S.rq.a m.rq.length S.rq.cap,.slice S.im.a m.im.length S.im.cap,.slice S.ep.a m.ep.length S.ep.cap,.slice S.st.a m.st.length S.st.cap,.slice S.ex.a m.ex.length S.ex.cap]
theorem OwnMd.expr {w:World} {n:Nat} {S:Sv} {m:Md} (h:OwnMd w n S m) {i:Nat} (o:i<m.ex.length): ∃g,S.ex.a=some ⟨g,0,none⟩∧g<w.heap.size∧w.cell? ⟨g,i*6,none⟩=some (.int .i64 (m.ex.getD i zg).kind)∧w.cell? ⟨g,i*6+1,none⟩=some (.int .i64 (m.ex.getD i zg).num)∧w.cell? ⟨g,i*6+2,none⟩=some (.string (m.ex.getD i zg).name)∧w.cell? ⟨g,i*6+3,none⟩=some (.string (m.ex.getD i zg).field)∧w.cell? ⟨g,i*6+4,none⟩=some (.int .i64 (m.ex.getD i zg).l)∧w.cell? ⟨g,i*6+5,none⟩=some (.int .i64 (m.ex.getD i zg).r):=by
 obtain⟨g,q,j⟩:=OwnR.elem (f:=exL) (m:=6) (fun _=>rfl) h.ex (List.getElem?_eq_getElem o)
 rw[zdz o]
 exact⟨g,q,(h.ex.typed (by rw[Rw.blk,q];rfl)).2.1,j 0 (by omega),j 1 (by omega),j 2 (by omega),j 3 (by omega),j 4 (by omega),j 5 (by omega)⟩
def zcM (N:Nat) (x:Ep):Prop:=x.name.size≤N∧x.loc.size≤N∧x.spec.size≤N
def zeM (N:Nat) (x:Ex):Prop:=x.name.size≤N∧x.field.size≤N∧0≤x.num∧x.num≤1000000
structure BS (N:Nat) (q:PS):Prop where
 rq: ∀x∈q.rq,x.size≤N
 im: ∀x∈q.im,x.spec.size≤N∧x.first.size≤N∧x.loc.size≤N
 ep: ∀x∈q.ep,zcM N x
 la: ∀x∈q.la,zcM N x
 st: ∀x∈q.st,x.name.size≤N
 ex: ∀x∈q.ex,zeM N x
def BT (N:Nat) (ts:List Tk):Prop:=∀t∈ts,t.text.size≤N∧0≤t.num∧t.num≤1000000
theorem zmw {s:ByteArray} {n:Bool} {a e:Nat} {t:Tk} (h:Tok s n a t e):t.text.size≤s.size∧0≤t.num∧t.num≤1000000:=by
 cases h using Tok.elim with
 |name _ _=>exact⟨by simp only[ByteArray.size_extract];omega,by simp,by simp⟩
 |num h o=>
  refine⟨Nat.zero_le _,?_,o.2.2.2.2.1⟩
  have:=zgf (s:=s) (a:=a) 0 (e-a) (fun j q=>by
   have:=o.1.2.2.1 (a+j) (by omega) (by omega)
   rw[zch] at this
   exact this.1) (Nat.zero_le _)
  rw[o.2.2.2.1]
  exact this.2
 |str _ _=>exact⟨by simp only[ByteArray.size_extract];omega,by simp,by simp⟩
 |sign _=>exact⟨by simp only[ByteArray.size_extract];omega,by simp,by simp⟩
theorem zmx {s:ByteArray} {q:Bool} {a n:Nat} {r:Except Nat (List Tk)} (h:Lx s q a n r): ∀j,r= .ok j→BT s.size j:=by
 induction h using Lx.ind with
 |done=>intro j k;cases k;intro t z;cases z
 |bad _ _=>intro j k;cases k
 | @tok a n e b t r h E z D H A=>
  intro j k
  cases r with
  |error p=>cases k
  |ok l=>
   cases k
   intro u o
   rcases List.mem_cons.1 o with rfl|o
   ·exact zmw z
   ·exact A l rfl u o
theorem zeN {N:Nat} {C:Cx} (n:BT N C.ts) (i:Nat):(ze C i).text.size≤N∧0≤(ze C i).num∧(ze C i).num≤1000000:=by
 by_cases j:i<C.ts.length
 ·have e:ze C i=C.ts[i]:=by simp[ze,List.getD,List.getElem?_eq_getElem j]
  rw[e]
  exact n _ (List.getElem_mem j)
 ·rw[zdl (by omega)]
  exact⟨Nat.zero_le _,by simp,by simp⟩
theorem zc2 {N:Nat} {q:PS} (h:BS N q):BS N (adv q):=⟨h.rq,h.im,h.ep,h.la,h.st,h.ex⟩
theorem zao {N:Nat} {C:Cx} {k:Int} {x:ByteArray} {q q':PS} (h:zd C k x q= .ok q') (j:BS N q):BS N q':=by
 obtain⟨rfl,_⟩:=zb4 h
 exact zc2 j
theorem zdd {N:Nat} {C:Cx} (n:BT N C.ts) {o:Bool} {q:PS} {y:PS×ByteArray} (h:zj C o q= .ok y) (j:BS N q):BS N y.1∧y.2.size≤N:=by
 obtain⟨rfl,_⟩:=zbd h
 exact⟨zc2 j,(zeN n _).1⟩
theorem zd9 {N:Nat} {C:Cx} {x:Ex} {q q':PS} (h:zN C x q= .ok q') (j:BS N q) (o:zeM N x):BS N q':=by
 obtain⟨rfl,_⟩:=zb5 h
 refine⟨j.rq,j.im,j.ep,j.la,j.st,fun y n=>?_⟩
 rcases List.mem_append.1 n with n|n
 ·exact j.ex y n
 ·rw[List.mem_singleton] at n
  rw[n]
  exact o
theorem zee {N:Nat} {k l r:Int} {n f:ByteArray} (o:n.size≤N) (j:f.size≤N):zeM N ⟨k,0,n,f,l,r⟩:=⟨o,j,Int.le_refl _,by simp⟩
theorem zin {N:Nat} {C:Cx} {n:ByteArray} {q q':PS} (h:zbc C n q= .ok q') (o:BS N q) (j:n.size≤N):BS N q':=by
 unfold zbc at h
 split at h
 ·obtain⟨a,E,A⟩:=zf h
  obtain⟨b,z,D⟩:=zf E
  exact zd9 A (zao D (zao z o)) (zee j (Nat.zero_le _))
 ·exact zd9 h o (zee j (Nat.zero_le _))
theorem zmy {N:Nat} {C:Cx} {n f:ByteArray} {q q':PS} (h:zbx C n f q= .ok q') (o:BS N q) (j:n.size≤N) (z:f.size≤N):BS N q':=by
 unfold zbx at h
 split at h
 ·obtain⟨a,H,D⟩:=zf h
  obtain⟨b,A,E⟩:=zf H
  exact zd9 D (zao E (zao A o)) (zee j z)
 ·exact zd9 h o (zee j z)
theorem zmz {N:Nat} {C:Cx} (H:BT N C.ts) (K:8≤N) (f:Nat): ∀(E:NT) (d:Nat) (q q':PS),ev C f E d q= .ok q'→BS N q→BS N q':=by
 induction f with
 |zero=>intro E d q q' h;cases E using NT.elim<;>cases h
 |succ f z=>
  intro E d q q' h o
  cases E using NT.elim with
  |sum=>
   rw[ev] at h
   obtain⟨a,n,j⟩:=zf h
   exact z _ _ _ _ j (z _ _ _ _ n o)
  |prod=>
   rw[ev] at h
   obtain⟨a,n,j⟩:=zf h
   exact z _ _ _ _ j (z _ _ _ _ n o)
  |sumT=>
   rw[ev] at h
   split at h
   ·obtain⟨a,n,j⟩:=zf h
    obtain⟨b,A,D⟩:=zf n
    exact z _ _ _ _ j (zd9 D (z _ _ _ _ A (zc2 o)) (zee (Nat.zero_le _) (Nat.zero_le _)))
   ·cases h
    exact o
  |prodT=>
   rw[ev] at h
   split at h
   ·obtain⟨a,n,j⟩:=zf h
    obtain⟨b,A,D⟩:=zf n
    exact z _ _ _ _ j (zd9 D (z _ _ _ _ A (zc2 o)) (zee (Nat.zero_le _) (Nat.zero_le _)))
   ·cases h
    exact o
  |part=>
   rw[ev] at h
   split at h
   ·exact zd9 h (zc2 o) ⟨Nat.zero_le _,Nat.zero_le _,(zeN H _).2⟩
   ·split at h
    ·split at h
     ·cases h
     ·obtain⟨a,n,j⟩:=zf h
      exact zao j (z _ _ _ _ n (zc2 o))
    ·split at h
     ·exact zin h (zc2 o) (Nat.le_trans (show 5≤8 by omega) K)
     ·obtain⟨a,n,j⟩:=zf h
      obtain⟨J,I⟩:=zdd H n o
      split at j
      ·obtain⟨b,A,D⟩:=zf j
       obtain⟨L,M⟩:=zdd H A (zc2 J)
       exact zmy D L I M
      ·exact zin j J I
theorem zef {N:Nat} {C:Cx} (o:BT N C.ts) (n:8≤N) {z:NT} {d:Nat} {q q':PS} (h:pE C z d q= .ok q') (j:BS N q):BS N q':=zmz o n _ _ _ _ _ h j
theorem zio {N:Nat} {C:Cx} (o:BT N C.ts) {q:PS} {a:PS×ByteArray} (h:zH C q= .ok a) (j:BS N q):BS N a.1∧a.2.size≤N:=by
 unfold zH at h
 split at h
 ·split at h
  ·cases h
   exact⟨zc2 j,(zeN o _).1⟩
  ·split at h
   ·cases h
   ·cases h
    refine⟨⟨fun x n=>?_,j.im,j.ep,j.la,j.st,j.ex⟩,(zeN o _).1⟩
    rcases List.mem_append.1 n with n|n
    ·exact j.rq x n
    ·rw[List.mem_singleton] at n
     rw[n]
     exact (zeN o _).1
 ·cases h
theorem zeg {N:Nat} {C:Cx} {k:Int} {n:ByteArray} {q q':PS} (h:zV C k n q= .ok q') (j:BS N q) (z:n.size≤N):BS N q':=by
 unfold zV at h
 split at h
 ·cases h
 ·cases h
  refine⟨j.rq,j.im,j.ep,j.la,fun x o=>?_,j.ex⟩
  rcases List.mem_append.1 o with o|o
  ·exact j.st x o
  ·rw[List.mem_singleton] at o
   rw[o]
   exact z
theorem zg9 {N:Nat} {C:Cx} {y:Im} {q q':PS} (h:zak C y q= .ok q') (j:BS N q) (o:y.spec.size≤N∧y.first.size≤N∧y.loc.size≤N):BS N q':=by
 unfold zak at h
 split at h
 ·cases h
 ·cases h
  refine⟨j.rq,fun x n=>?_,j.ep,j.la,j.st,j.ex⟩
  rcases List.mem_append.1 n with n|n
  ·exact j.im x n
  ·rw[List.mem_singleton] at n
   rw[n]
   exact o
theorem zdp {α:Type} {P:α→Prop} {l:List α} {y:α} (h: ∀x∈l,P x) (n:P y): ∀x∈l++[y],P x:=fun x j=>by
 rcases List.mem_append.1 j with j|j
 ·exact h x j
 ·rw[List.mem_singleton] at j
  rw[j]
  exact n
theorem zeh {N:Nat} {C:Cx} {y:Ep} {q q':PS} (h:zo C y q= .ok q') (j:BS N q) (n:zcM N y):BS N q':=by
 unfold zo at h
 split at h
 ·cases h
 ·split at h
  ·cases h
   exact⟨j.rq,j.im,j.ep,zdp j.la n,j.st,j.ex⟩
  ·cases h
   exact⟨j.rq,j.im,zdp j.ep n,j.la,j.st,j.ex⟩
theorem zm0 {α:Type} {f:α→PS→PR} (l:List α): ∀(x:PR) (q':PS),zP f l x= .ok q'→∃q,x= .ok q∧True:=by
 induction l with
 |nil=>intro x q' h;exact⟨q',h,trivial⟩
 |cons a l j=>
  intro x q' h
  obtain⟨b,n,_⟩:=j _ _ h
  obtain⟨c,o,_⟩:=zf n
  exact⟨c,o,trivial⟩
theorem zgA {α:Type} {N:Nat} {f:α→PS→PR} (l:List α) (z: ∀a∈l,∀q q',f a q= .ok q'→BS N q→BS N q'): ∀(q q':PS),zP f l (.ok q)= .ok q'→BS N q→BS N q':=by
 induction l with
 |nil=>intro q q' h o;cases h;exact o
 |cons a l A=>
  intro q q' h o
  have n:zP f l (f a q)= .ok q':=h
  cases j:f a q with
  |error e=>
   rw[j] at n
   obtain⟨c,E,_⟩:=zm0 l _ _ n
   cases E
  |ok b=>
   rw[j] at n
   exact A (fun x D=>z x (List.mem_cons_of_mem _ D)) b q' n (z a (List.mem_cons_self ..) q b j o)
theorem zm1 {N:Nat} {C:Cx} (q:BT N C.ts) {j:Bool} {a b:PS×ByteArray} (h:asP C j a= .ok b) (n:BS N a.1) (o:a.2.size≤N):BS N b.1∧b.2.size≤N:=by
 unfold asP at h
 split at h
 ·exact zdd q h (zc2 n)
 ·split at h
  ·cases h
  ·cases h
   exact⟨n,o⟩
theorem zm2 {N:Nat} {C:Cx} (E:BT N C.ts) {n:Bool} (f:Nat): ∀(q:PS) (acc:List Ep) (a:PS×List Ep),zcv C n f q acc= .ok a→BS N q→(∀x∈acc,zcM N x)→BS N a.1∧∀x∈a.2,zcM N x:=by
 induction f with
 |zero=>intro q acc a h;cases h
 |succ f I=>
  intro q acc a h K j
  rw[zcv] at h
  obtain⟨b,O,J⟩:=zf h
  obtain⟨c,H,o⟩:=zf J
  obtain⟨Q,z⟩:=zdd E O K
  obtain⟨A,L⟩:=zm1 E H Q z
  have D: ∀x∈acc++[(⟨0,c.2,b.2,sNone⟩:Ep)],zcM N x:=zdp j ⟨L,z,Nat.zero_le _⟩
  split at o
  ·exact I _ _ _ o (zc2 A) D
  ·obtain⟨d,U,M⟩:=zf o
   cases M
   exact⟨zao U A,D⟩
theorem zip {N:Nat} {C:Cx} (D:BT N C.ts) {j:Bool} {q:PS} {a:PS×List Ep} (h:zcw C j q= .ok a) (o:BS N q):BS N a.1∧∀x∈a.2,zcM N x:=by
 obtain⟨b,A,n⟩:=zf h
 exact zm2 D _ _ _ _ n (zao A o) fun x z=>by cases z
theorem zeO {N:Nat} {C:Cx} (J:BT N C.ts) {x:PR} {b:PS×ByteArray} (h:zaR C (zaE C x)= .ok b): ∃q,x= .ok q∧(BS N q→BS N b.1∧b.2.size≤N):=by
 obtain⟨a,I,z⟩:=zf h
 obtain⟨c,o,D⟩:=zf z
 obtain⟨d,L,H⟩:=zf I
 obtain⟨e,j,E⟩:=zf L
 cases D
 refine⟨e,j,fun A=>?_⟩
 obtain⟨n,K⟩:=zio J H (zao E A)
 exact⟨zao o n,K⟩
theorem zm3 {N:Nat} {C:Cx} (E:BT N C.ts) (U:8≤N) {q q':PS} (h:zaQ C q= .ok q') (Y:BS N q):BS N q':=by
 obtain⟨q1,h1,o⟩:=zf h
 have L:=zao h1 Y
 split at o
 ·obtain⟨a,A,z⟩:=zf o
  obtain⟨b,I,J⟩:=zf z
  obtain⟨l1,V⟩:=zip E A L
  obtain⟨d,Q,j⟩:=zeO E I
  cases Q
  obtain⟨K,H⟩:=j l1
  exact zgA _ (fun x X p p' hp hb=>zg9 hp hb ⟨H,(V x X).2.1,(V x X).1⟩) _ _ J K
 ·split at o
  ·obtain⟨a,A,z⟩:=zf o
   obtain⟨b,I,J⟩:=zf z
   obtain⟨c,Z,h8⟩:=zf A
   obtain⟨d,Q,j⟩:=zf Z
   obtain⟨O,M⟩:=zdd E h8 (zao j (zao Q L))
   obtain⟨f,D,n⟩:=zeO E I
   cases D
   obtain⟨K,H⟩:=n O
   exact zg9 J K ⟨H,Nat.le_trans (show 1≤8 by omega) U,M⟩
  ·split at o
   ·obtain⟨a,A,z⟩:=zf o
    obtain⟨b,I,J⟩:=zf z
    obtain⟨O,M⟩:=zdd E A L
    obtain⟨f,D,n⟩:=zeO E I
    cases D
    obtain⟨K,H⟩:=n O
    exact zg9 J K ⟨H,Nat.le_trans (show 7≤8 by omega) U,M⟩
   ·obtain⟨a,A,z⟩:=zf o
    exact zao z (zio E A L).1
theorem ziq {N:Nat} {C:Cx} (D:BT N C.ts) (H:8≤N) {q:PS} {a:PS×ByteArray} (h:zcj C q= .ok a) (M:BS N q):BS N a.1∧a.2.size≤N:=by
 obtain⟨b,V,L⟩:=zf h
 obtain⟨z,n,o⟩:=zf L
 cases o
 obtain⟨c,K,O⟩:=zf V
 obtain⟨d,X,U⟩:=zf n
 obtain⟨f,J,Q⟩:=zf X
 obtain⟨g,I,j⟩:=zf J
 obtain⟨E,A⟩:=zdd D O (zao K M)
 exact⟨zeg U (zao Q (zef D H j (zao (show zd C 4 cEq b.1= .ok g from I) E))) A,A⟩
theorem zir {N:Nat} {C:Cx} (Q:BT N C.ts) (U:8≤N) {q:PS} {a:PS×ByteArray} (h:fnP C q= .ok a) (V:BS N q):BS N a.1∧a.2.size≤N:=by
 obtain⟨b,h1,h2⟩:=zf h
 obtain⟨z,M,D⟩:=zf h2
 cases D
 obtain⟨c,h3,h4⟩:=zf h1
 obtain⟨d,h5,h6⟩:=zf M
 obtain⟨f,Z,h8⟩:=zf h5
 obtain⟨g,Y,n⟩:=zf Z
 obtain⟨i,L,E⟩:=zf Y
 obtain⟨j,I,H⟩:=zf L
 obtain⟨k,A,o⟩:=zf I
 obtain⟨l,J,K⟩:=zf A
 obtain⟨X,O⟩:=zdd Q h4 (zao h3 V)
 exact⟨zeg h6 (zao h8 (zao n (zef Q U E (zao H (zao o (zao K (zao (show zd C 4 zn b.1= .ok l from J) X))))))) O,O⟩
theorem zm4 {N:Nat} {C:Cx} (J:BT N C.ts) (I:8≤N) {q q':PS} (h:zag C q= .ok q') (X:BS N q):BS N q':=by
 obtain⟨q1,h1,n⟩:=zf h
 have L:=zao h1 X
 split at n
 ·obtain⟨a,D,z⟩:=zf n
  obtain⟨V,O⟩:=zip J D L
  split at z
  ·obtain⟨b,A,E⟩:=zf z
   exact zgA (f:=fun e=>zo C (zA e)) _ (fun x M p Y U Q=>zeh (y:=zA x) U Q ⟨(O x M).1,(O x M).2.1,Nat.zero_le _⟩) _ _ E (zao A V)
  ·obtain⟨b,A,E⟩:=zf z
   obtain⟨d,K,j⟩:=zeO J A
   cases K
   obtain⟨H,o⟩:=j V
   exact zgA (f:=fun e=>zo C (zai b.2 e)) _ (fun x M p Y U Q=>zeh (y:=zai b.2 x) U Q ⟨(O x M).1,(O x M).2.1,o⟩) _ _ E H
 ·split at n
  ·obtain⟨b,A,E⟩:=zf n
   obtain⟨d,K,j⟩:=zeO J A
   obtain⟨H,o⟩:=j (zao K L)
   exact zeh E H ⟨Nat.zero_le _,Nat.zero_le _,o⟩
  ·split at n
   ·obtain⟨a,D,z⟩:=zf n
    obtain⟨b,A,E⟩:=zf D
    obtain⟨c,Z,h8⟩:=zf A
    obtain⟨d,K,j⟩:=zf Z
    exact zeh z (zeg E (zao h8 (zef J I j (zao K L))) I) ⟨Nat.le_trans (show 7≤8 by omega) I,I,Nat.zero_le _⟩
   ·split at n
    ·obtain⟨a,D,z⟩:=zf n
     obtain⟨H,o⟩:=ziq J I D L
     exact zeh z H ⟨o,o,Nat.zero_le _⟩
    ·split at n
     ·obtain⟨a,D,z⟩:=zf n
      obtain⟨H,o⟩:=zir J I D L
      exact zeh z H ⟨o,o,Nat.zero_le _⟩
     ·cases n
theorem zis {N:Nat} {C:Cx} (H:BT N C.ts) (j:8≤N) {s:ByteArray} {k:Int} {q q':PS} (h:bd (bd (bd (zd C 1 s q) (pE C .sum 0)) (zd C 4 cSemi)) (zV C k sNone)= .ok q') (z:BS N q):BS N q':=by
 obtain⟨a,E,o⟩:=zf h
 obtain⟨b,n,A⟩:=zf E
 obtain⟨c,I,D⟩:=zf n
 exact zeg o (zao A (zef H j D (zao I z))) (Nat.zero_le _)
theorem zm5 {N:Nat} {C:Cx} (j:BT N C.ts) (n:8≤N) {q q':PS} (h:zy C q= .ok q') (o:BS N q):BS N q':=by
 unfold zy at h
 split at h
 ·exact zm3 j n h o
 ·split at h
  ·exact zm4 j n h o
  ·split at h
   ·obtain⟨a,A,z⟩:=zf h
    cases z
    exact (ziq j n A o).1
   ·split at h
    ·obtain⟨a,A,z⟩:=zf h
     cases z
     exact (zir j n A o).1
    ·split at h
     ·obtain⟨a,A,z⟩:=zf h
      obtain⟨b,H,I⟩:=zf A
      obtain⟨c,L,K⟩:=zf H
      obtain⟨d,E,J⟩:=zf L
      obtain⟨e,Q,D⟩:=zf E
      exact zeg z (zao I (zao K (zef j n J (zao D (zao Q o))))) (Nat.zero_le _)
     ·split at h
      ·exact zis j n h o
      ·split at h
       ·exact zis j n h o
       ·obtain⟨a,A,z⟩:=zf h
        obtain⟨b,H,I⟩:=zf z
        obtain⟨c,L,K⟩:=zf H
        obtain⟨d,E,J⟩:=zf L
        obtain⟨M,O⟩:=zdd j A o
        exact zeg I (zao K (zef j n J (zao E M))) O
theorem zm6 {N:Nat} {C:Cx} (D:BT N C.ts) (n:8≤N) (f:Nat): ∀(q q':PS),zcx C f q= .ok q'→BS N q→BS N q':=by
 induction f with
 |zero=>intro q q' h;cases h
 |succ f o=>
  intro q q' h j
  rw[zcx] at h
  split at h
  ·obtain⟨a,A,z⟩:=zf h
   exact o _ _ z (zm5 D n A j)
  ·cases h
   exact j
theorem zm7 {s:ByteArray} {j:Bool} {q:PS} {N:Nat} (h:zb7 s j (.ok q)) (z:s.size≤N) (o:8≤N):BS N q:=by
 obtain⟨r,⟨a,_,D⟩,e⟩:=h
 cases r with
 |error p=>cases e
 |ok n=>
  refine zm6 (C:=⟨n,s.size,j⟩) (fun t E=>?_) o _ _ _ e.symm ⟨?_,?_,?_,?_,?_,?_⟩
  ·have:=zmx D n rfl t E
   exact⟨Nat.le_trans this.1 z,this.2⟩
  all_goals (intro x A;cases A)
def KG {α:Type} (R:PS→PS→Prop) (p:α→PS) (x:Except Nat α) (q:PS):Prop:=∀a,x= .ok a→R q (p a)
def zit (C:Cx) (k:Int) (n:ByteArray):Prop:=n=sNone∨k=1∨∃i o,zD C i o=true∧n=(ze C i).text
structure Kept (C:Cx) (R:PS→PS→Prop):Prop where
 rfl': ∀q,R q q
 tr: ∀{a b c},R a b→R b c→R a c
 adv: ∀q,R q (adv q)
 ex: ∀x q,KG R id (zN C x q) q
 im: ∀x q,KG R id (zak C x q) q
 ep: ∀x q,KG R id (zo C x q) q
 sp: ∀q,KG R Prod.fst (zH C q) q
 st: ∀k n q,zit C k n→KG R id (zV C k n q) q
theorem KG.bd {C:Cx} {R:PS→PS→Prop} {α β:Type} (H:Kept C R) {p:α→PS} {r:β→PS} {x:Except Nat α} {f:α→Except Nat β} {q:PS} (h:KG R p x q) (k: ∀a,x= .ok a→KG R r (f a) (p a)):KG R r (bd x f) q:=by
 intro b o
 obtain⟨a,j,n⟩:=zf o
 exact H.tr (h a j) (k a j b n)
theorem KG.after {C:Cx} {R:PS→PS→Prop} (H:Kept C R) {α:Type} {r:α→PS} {y:Except Nat α} {q q':PS} (h:R q q') (k:KG R r y q'):KG R r y q:=fun b j=>H.tr h (k b j)
theorem KG.ok {C:Cx} {R:PS→PS→Prop} (H:Kept C R) {α:Type} {p:α→PS} {a:α}:KG R p (.ok a) (p a):=fun b j=>by cases j;exact H.rfl' _
theorem KG.err {R:PS→PS→Prop} {α:Type} {p:α→PS} {e:Nat} {q:PS}:KG R p (.error e) q:=fun b j=>by cases j
theorem zap {C:Cx} {R:PS→PS→Prop} (H:Kept C R) (k:Int) (x:ByteArray) (q:PS):KG R id (zd C k x q) q:=fun a h=>by obtain⟨rfl,_⟩:=zb4 h;exact H.adv q
theorem zde {C:Cx} {R:PS→PS→Prop} (H:Kept C R) (o:Bool) (q:PS):KG R Prod.fst (zj C o q) q:=fun a h=>by obtain⟨rfl,_⟩:=zbd h;exact H.adv q
theorem ziu {C:Cx} {R:PS→PS→Prop} (H:Kept C R) (n:ByteArray) (q:PS):KG R id (zbc C n q) q:=by
 unfold zbc
 split
 ·exact .bd H (.bd H (zap H _ _ _) fun _ _=>zap H _ _ _) fun _ _=>H.ex _ _
 ·exact H.ex _ _
theorem zm8 {C:Cx} {R:PS→PS→Prop} (H:Kept C R) (n f:ByteArray) (q:PS):KG R id (zbx C n f q) q:=by
 unfold zbx
 split
 ·exact .bd H (.bd H (zap H _ _ _) fun _ _=>zap H _ _ _) fun _ _=>H.ex _ _
 ·exact H.ex _ _
theorem zm9 {C:Cx} {R:PS→PS→Prop} (H:Kept C R) (f:Nat): ∀(n:NT) (d:Nat) (q:PS),KG R id (ev C f n d q) q:=by
 induction f with
 |zero=>intro n d q;cases n using NT.elim<;>exact .err
 |succ f j=>
  intro n d q
  cases n using NT.elim<;>rw[ev]
  ·exact .bd H (j _ _ _) fun _ _=>j _ _ _
  ·split
   ·exact .bd H (.bd H (.after H (H.adv q) (j _ _ _)) fun _ _=>H.ex _ _) fun _ _=>j _ _ _
   ·exact .ok (p:=id) H
  ·exact .bd H (j _ _ _) fun _ _=>j _ _ _
  ·split
   ·exact .bd H (.bd H (.after H (H.adv q) (j _ _ _)) fun _ _=>H.ex _ _) fun _ _=>j _ _ _
   ·exact .ok (p:=id) H
  ·split
   ·exact .after H (H.adv q) (H.ex _ _)
   ·split
    ·split
     ·exact .err
     ·exact .bd H (.after H (H.adv q) (j _ _ _)) fun _ _=>zap H _ _ _
    ·split
     ·exact .after H (H.adv q) (ziu H _ _)
     ·refine .bd H (zde H _ _) fun a _=>?_
      split
      ·exact .bd H (.after H (H.adv _) (zde H _ _)) fun _ _=>zm8 H _ _ _
      ·exact ziu H _ _
theorem zei {C:Cx} {R:PS→PS→Prop} (H:Kept C R) (j:NT) (d:Nat) (q:PS):KG R id (pE C j d q) q:=zm9 H _ _ _ _
theorem ziv {C:Cx} {R:PS→PS→Prop} (H:Kept C R) {y:PRN} {F:PR→ByteArray→PR} {q:PS} (h:KG R Prod.fst y q) (k: ∀a,y= .ok a→KG R id (F (.ok a.1) a.2) a.1):KG R Prod.fst (withN y F) q:=
 .bd H h fun a j=>.bd (r:=Prod.fst) H (k a j) fun b _=>.ok (p:=Prod.fst) (a:=(b,a.2)) H
theorem ziw {C:Cx} {R:PS→PS→Prop} (H:Kept C R) (q:PS):KG R Prod.fst (zcj C q) q:=
 ziv H (.bd H (zap H _ _ _) fun _ _=>zde H _ _) fun _ _=>.bd H (.bd H (.bd H (.bd (p:=id) H (.ok (p:=id) H) fun _ _=>zap H _ _ _) fun _ _=>zei H _ _ _) fun _ _=>zap H _ _ _) fun _ _=>H.st _ _ _ (.inr (.inl rfl))
theorem zix {C:Cx} {k:Int} {o:Bool} {q:PS} {a:PS×ByteArray} (h:zj C o q= .ok a):zit C k a.2:=by
 obtain⟨rfl,j⟩:=zbd h
 exact .inr (.inr ⟨_,_,j,rfl⟩)
theorem ziy {C:Cx} {R:PS→PS→Prop} (H:Kept C R) (q:PS):KG R Prod.fst (fnP C q) q:=
 ziv H (.bd H (zap H _ _ _) fun _ _=>zde H _ _) fun a j=>.bd H (.bd H (.bd H (.bd H (.bd H (.bd H (.bd H (.bd (p:=id) H (.ok (p:=id) H) fun _ _=>zap H _ _ _) fun _ _=>zap H _ _ _) fun _ _=>zap H _ _ _) fun _ _=>zap H _ _ _) fun _ _=>zei H _ _ _) fun _ _=>zap H _ _ _) fun _ _=>zap H _ _ _) fun _ _=>H.st _ _ _ (by
  obtain⟨b,_,n⟩:=zf j
  exact zix n)
theorem zmA {C:Cx} {R:PS→PS→Prop} (H:Kept C R) (e:Bool) (a:PS×ByteArray):KG R Prod.fst (asP C e a) a.1:=by
 unfold asP
 split
 ·exact .after H (H.adv _) (zde H _ _)
 ·split
  ·exact .err
  ·exact .ok (p:=Prod.fst) H
theorem zmB {C:Cx} {R:PS→PS→Prop} (H:Kept C R) (e:Bool) (f:Nat): ∀(q:PS) (acc:List Ep),KG R Prod.fst (zcv C e f q acc) q:=by
 induction f with
 |zero=>intro q acc;exact .err
 |succ f j=>
  intro q acc
  rw[zcv]
  refine .bd H (zde H _ _) fun a _=>.bd H (zmA H _ _) fun b _=>?_
  split
  ·exact .after H (H.adv _) (j _ _)
  ·exact .bd (r:=Prod.fst) H (zap H _ _ _) fun c _=>.ok (p:=Prod.fst) (a:=(c,_)) H
theorem ziz {C:Cx} {R:PS→PS→Prop} (H:Kept C R) (e:Bool) (q:PS):KG R Prod.fst (zcw C e q) q:=.bd H (zap H _ _ _) fun _ _=>zmB H _ _ _ _
theorem zeP {C:Cx} {R:PS→PS→Prop} (H:Kept C R) {x:PR} {q:PS} (h:KG R id x q):KG R Prod.fst (zaR C (zaE C x)) q:=
 .bd H (.bd H (.bd H h fun _ _=>zap H _ _ _) fun _ _=>H.sp _) fun a _=>.bd (r:=Prod.fst) H (zap H _ _ _) fun c _=>.ok (p:=Prod.fst) (a:=(c,a.2)) H
theorem zgB {C:Cx} {R:PS→PS→Prop} (H:Kept C R) {α:Type} {f:α→PS→PR} (j: ∀a q,KG R id (f a q) q) (l:List α): ∀(x:PR) (q:PS),KG R id x q→KG R id (zP f l x) q:=by
 induction l with
 |nil=>intro x q h;exact h
 |cons a l n=>intro x q h;exact n _ _ (.bd H h fun _ _=>j _ _)
theorem zmC {C:Cx} {R:PS→PS→Prop} (H:Kept C R) (q:PS):KG R id (zaQ C q) q:=by
 refine .bd H (zap H _ _ _) fun j _=>?_
 split
 ·exact .bd H (ziz H _ _) fun a _=>.bd H (zeP H (.ok (p:=id) H)) fun b _=>zgB H (fun _ _=>H.im _ _) _ _ _ (.ok (p:=id) H)
 ·split
  ·exact .bd H (.bd H (.bd H (zap H _ _ _) fun _ _=>zap H _ _ _) fun _ _=>zde H _ _) fun a _=>.bd H (zeP H (.ok (p:=id) H)) fun _ _=>H.im _ _
  ·split
   ·exact .bd H (zde H _ _) fun a _=>.bd H (zeP H (.ok (p:=id) H)) fun _ _=>H.im _ _
   ·exact .bd H (H.sp _) fun _ _=>zap H _ _ _
theorem zmD {C:Cx} {R:PS→PS→Prop} (H:Kept C R) (q:PS):KG R id (zag C q) q:=by
 refine .bd H (zap H _ _ _) fun j _=>?_
 split
 ·refine .bd H (ziz H _ _) fun a _=>?_
  split
  ·exact .bd H (zap H _ _ _) fun _ _=>zgB H (fun _ _=>H.ep _ _) _ _ _ (.ok (p:=id) H)
  ·exact .bd H (zeP H (.ok (p:=id) H)) fun _ _=>zgB H (fun _ _=>H.ep _ _) _ _ _ (.ok (p:=id) H)
 ·split
  ·exact .bd H (zeP H (zap H _ _ _)) fun _ _=>H.ep _ _
  ·split
   ·exact .bd H (.bd H (.bd H (.bd H (zap H _ _ _) fun _ _=>zei H _ _ _) fun _ _=>zap H _ _ _) fun _ _=>H.st _ _ _ (.inr (.inl rfl))) fun _ _=>H.ep _ _
   ·split
    ·exact .bd H (ziw H _) fun _ _=>H.ep _ _
    ·split
     ·exact .bd H (ziy H _) fun _ _=>H.ep _ _
     ·exact .err
theorem zi0 {C:Cx} {R:PS→PS→Prop} (H:Kept C R) (s:ByteArray) (k:Int) (q:PS):KG R id (bd (bd (bd (zd C 1 s q) (pE C .sum 0)) (zd C 4 cSemi)) (zV C k sNone)) q:=
 .bd H (.bd H (.bd H (zap H _ _ _) fun _ _=>zei H _ _ _) fun _ _=>zap H _ _ _) fun _ _=>H.st _ _ _ (.inl rfl)
theorem zmE {C:Cx} {R:PS→PS→Prop} (H:Kept C R) (q:PS):KG R id (zy C q) q:=by
 unfold zy
 split
 ·exact zmC H q
 ·split
  ·exact zmD H q
  ·split
   ·exact .bd H (ziw H q) fun a _=>.ok (p:=id) H
   ·split
    ·exact .bd H (ziy H q) fun a _=>.ok (p:=id) H
    ·split
     ·exact .bd H (.bd H (.bd H (.bd H (.bd H (zap H _ _ _) fun _ _=>zap H _ _ _) fun _ _=>zei H _ _ _) fun _ _=>zap H _ _ _) fun _ _=>zap H _ _ _) fun _ _=>H.st _ _ _ (.inl rfl)
     ·split
      ·exact zi0 H _ _ _
      ·split
       ·exact zi0 H _ _ _
       ·exact .bd H (zde H _ _) fun a j=>.bd H (.bd H (.bd H (zap H _ _ _) fun _ _=>zei H _ _ _) fun _ _=>zap H _ _ _) fun _ _=>H.st _ _ _ (zix j)
theorem zmF {C:Cx} {R:PS→PS→Prop} (H:Kept C R) (f:Nat): ∀q,KG R id (zcx C f q) q:=by
 induction f with
 |zero=>intro q;exact .err
 |succ f j=>
  intro q
  rw[zcx]
  split
  ·exact .bd H (zmE H q) fun _ _=>j _
  ·exact .ok (p:=id) H
theorem zmG {R:PS→PS→Prop} {s:ByteArray} {j:Bool} {q:PS} (h:zb7 s j (.ok q)) (H: ∀n,zae s j (.ok n)→Kept ⟨n,s.size,j⟩ R):R zbC q:=by
 obtain⟨r,o,e⟩:=h
 cases r with
 |error p=>cases e
 |ok n=>exact zmF (H n o) _ zbC q e.symm
abbrev dN:List UInt8:=[42,100,101,102,97,117,108,116]
def zdq (st:List Sm):Prop:=∀s∈st,s.name.toList=dN→s.kind=1
def zi1 (ts:List Tk):Prop:=∀t∈ts,t.kind=1→t.text.toList≠dN
theorem zmH {s:ByteArray} {j:Bool} {a e:Nat} {t:Tk} (n:a<s.size) (h:Tok s j a t e):t.kind=1→t.text.toList≠dN:=by
 have D:=(zdQ n h).1
 have z:=(zdQ n h).2.1
 cases h using Tok.elim with
 |name o _=>
  intro _ k
  have A:bt (s.extract a e) 0=42:=by
   rw[zdk,←Lib.toList_data,k]
   rfl
  have q:bt (s.extract a e) 0=bt s a:=by
   rw[zdk,zdk,ByteArray.data_extract]
   simp only[List.getD,List.getElem?_map,Array.getElem?_toList,Array.getElem?_extract]
   rw[if_pos (by have:s.data.size=s.size:=rfl;omega),Nat.add_zero]
  rw[←q,A] at o
  cases j<;>revert o<;>decide
 |num _ _=>intro k;cases k
 |str _ _=>intro k;cases k
 |sign _=>intro k;cases k
theorem zmI {s:ByteArray} {q:Bool} {a n:Nat} {r:Except Nat (List Tk)} (h:Lx s q a n r): ∀j,r= .ok j→zi1 j:=by
 induction h using Lx.ind with
 |done=>intro j k;cases k;intro t z;cases z
 |bad _ _=>intro j k;cases k
 | @tok a n e b t r h E z D H A=>
  intro j k
  cases r with
  |error p=>cases k
  |ok l=>
   cases k
   intro u o
   rcases List.mem_cons.1 o with rfl|o
   ·exact zmH h z
   ·exact A l rfl u o
theorem zmJ {C:Cx} (n:zi1 C.ts) {i:Nat} {o:Bool} (h:zD C i o=true):(ze C i).text.toList≠dN:=by
 have j:=ze4 h
 have e:ze C i=C.ts[i]:=by simp[ze,List.getD,List.getElem?_eq_getElem j]
 simp only[zD,Bool.and_eq_true,beq_iff_eq] at h
 rw[e] at h ⊢
 exact n _ (List.getElem_mem j) h.1
theorem zmK {k:Int} (h:sNone.toList=dN):k=1:=by
 rw[Lib.toList_data] at h
 cases h
theorem zi2 {s:ByteArray} {E:Bool} {q:PS} (h:zb7 s E (.ok q)):zdq q.st:=by
 refine zmG (R:=fun a b=>zdq a.st→zdq b.st) h (fun I D=>?_) (fun s z=>by cases z)
 obtain⟨_,_,D⟩:=D
 have J:=zmI D I rfl
 refine⟨fun _ h=>h,fun h k x=>k (h x),fun _ h=>h,?_,?_,?_,?_,?_⟩
 ·intro x q a h j
  obtain⟨rfl,_⟩:=zb5 h
  exact j
 ·intro x q a h j
  unfold zak at h
  split at h<;>cases h
  exact j
 ·intro x q a h j
  unfold zo at h
  split at h
  ·cases h
  ·split at h<;>cases h<;>exact j
 ·intro q a h j
  unfold zH at h
  split at h
  ·split at h
   ·cases h;exact j
   ·split at h<;>cases h
    exact j
  ·cases h
 ·intro k n q A a h j
  unfold zV at h
  split at h<;>cases h
  intro s z
  rcases List.mem_append.1 z with z|z
  ·exact j s z
  ·rw[List.mem_singleton.1 z]
   intro H
   rcases A with rfl|A|⟨i,o,K,rfl⟩
   ·exact zmK H
   ·exact A
   ·exact absurd H (zmJ J K)
end Go.Proofs.YticdggnnpjachaaGreat
