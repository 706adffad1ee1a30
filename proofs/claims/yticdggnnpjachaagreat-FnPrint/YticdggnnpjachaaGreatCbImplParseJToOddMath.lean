/-
  What slices.Index and slices.Contains answer over a row of texts,and strings.Clone: the walks.
  What request of impl's parser answers: the walks.
  What nameOrCall of impl's parser answers: the walk.
  What part of impl's parser answers: the walk.
  What product and sum of impl's parser answer: the walks.
  What statement of impl's parser answers: the walk.
  What the small items of impl's parser,itemWord and exportLast answer: the walks.
  Rows beside impl's parser: lists of names under way. No program is spoken of but for the numbers of its types.
  A program in memory,of any size. No program is spoken of but for the numbers of its types.
  A program that was read has no name longer than its text,and no number that is great. No program is spoken of.
  What each step of reading keeps,the whole reading keeps; so a program that was read has no request twice. No program is spoken of.
  A program that was read has no statement of DefaultName that is no let. No program is spoken of.
-/
import Derived.Test.YticdggnnpjachaaGreatCbImplParseHToImplParseI
import Derived.Test.YticdggnnpjachaaGreatCbShelf
namespace Go.Proofs.YticdggnnpjachaaGreat
set_option maxRecDepth 100000
set_option maxHeartbeats 3200000
open Go.RowKit Go.PlainAid Go.Sort
theorem zib (s:ByteArray) (w:World) (h:s.size≤281474976710656):
  Calls Tryz.prog 85 #[.string s] w fun e n=>e= .returned (.string s)∧Below w.heap.size w n:=by
 go_enter Tryz.func85,Tryz.ntmps85
 go_wp2_with fail
 refine (Tryz.stringslite_Clone _ _ h).mono ?_
 rintro e o ⟨rfl,j⟩
 go_wp2
 go_ret
 exact⟨rfl,j⟩
theorem OwnR.text {w:World} {o n:Nat} {r:Rw} {l:List ByteArray} (h:OwnR w o 9 1 r n (l.map .string)) {j:Nat} (E:j<n): ∃g,r.a=some ⟨g,0,none⟩∧w.cell? ⟨g,j,none⟩=some (.string (l.getD j sNone)):=by
 rcases h.2 with ⟨_,I⟩|⟨g,A,D,q,_⟩
 ·omega
 ·simp only[Value.slice.injEq] at q
  have z:=h
  unfold OwnR at z
  rw[q.1,q.2.2] at z
  have H:l.length=n:=by have:=h.1;simpa using this
  refine⟨g,q.1,?_⟩
  rw[World.ownsRow.cellAt z j (by omega)]
  simp only[List.getElem?_map,List.getD]
  rw[List.getElem?_eq_getElem (by omega)]
  rfl
theorem zlR {l:List ByteArray} {x:ByteArray} {j:Nat} (n:j<l.length):zaX (l.drop j) x=((l.getD j sNone).toList==x.toList||zaX (l.drop (j+1)) x):=by
 rw[List.drop_eq_getElem_cons n]
 simp only[zaX,List.any_cons,List.getD,List.getElem?_eq_getElem n,Option.getD_some]
theorem zlS (n g:Nat) (r:Rw) (l:List ByteArray) (x:ByteArray) (w:World) (h:OwnR w n 9 1 r l.length (l.map .string)) (Y:l.length≤1000000) (N:r.a=some ⟨g,0,none⟩):
  Calls Tryz.prog 204 #[.slice (some ⟨g,0,none⟩) l.length r.cap,.string x] w fun e V=>(∃v:Int,e= .returned (.int .i64 v)∧decide (0≤v)=zaX l x)∧V=w:=by
 have O:=zc h
 have H:=zc N
 clear h N
 go_enter Tryz.func204,Tryz.ntmps204
 go_wp2
 go_loopg [8] (l.length+1) (fun k i wr=>∃j:Nat,i= .int .i64 j∧j+k=l.length+1∧zaX (l.drop j) x=zaX l x∧wr=w)
 case atStart=>exact⟨0,rfl,by omega,by simp,rfl⟩
 case round=>
  obtain⟨j,rfl,Z,M,rfl⟩:=hrel
  have I:=zc M
  clear M
  by_cases o:j<l.length
  ·have A:(j:Int)<(l.length:Int):=by omega
   obtain⟨X,z,Q⟩:=O.out.text o
   have U:X=g:=by have:=z.symm.trans H.out;simpa using this
   subst U
   clear z
   obtain⟨E,q⟩: ∃E,E=j+1:=⟨_,rfl⟩
   have ej:(j:Int)+1=(E:Int):=by omega
   have L:=zc q
   clear q
   have J:Hid (zaX (l.drop j) x=((l.getD j sNone).toList==x.toList||zaX (l.drop (j+1)) x)):=zlR o
   generalize l.getD j sNone=y at Q J
   cases D:(x.toList==y.toList) with
   |true=>
    go_wp2
    go_ret
    refine⟨⟨_,rfl,?_⟩,rfl⟩
    have K:(y.toList==x.toList)=true:=by rw[beq_iff_eq] at D ⊢;exact D.symm
    rw[←I.out,J.out,K]
    simp
   |false=>
    go_wp2
    go_roundg (gk-1)
    case rel=>
     have K:(y.toList==x.toList)=false:=by
      rw[beq_eq_false_iff_ne] at D ⊢;exact fun e=>D e.symm
     refine⟨E,rfl,by have:=L.out;omega,?_,rfl⟩
     rw[←I.out,J.out,K,L.out]
     simp
    case measure=>omega
  ·have A: ¬(j:Int)<(l.length:Int):=by omega
   go_wp2
   go_ret
   refine⟨⟨_,rfl,?_⟩,rfl⟩
   rw[←I.out,List.drop_eq_nil_of_le (by omega)]
   rfl
theorem zlT (x:ByteArray) (w:World):
  Calls Tryz.prog 204 #[.slice none 0 0,.string x] w fun e j=>e= .returned (.int .i64 (-1))∧j=w:=by
 go_enter Tryz.func204,Tryz.ntmps204
 go_wp2
 go_loopg [8] 1 (fun k i wr=>k=1∧i= .int .i64 0∧wr=w)
 case atStart=>exact⟨rfl,rfl,rfl⟩
 case round=>
  obtain⟨rfl,rfl,rfl⟩:=hrel
  go_wp2
  go_ret
  exact⟨rfl,rfl⟩
theorem zlU (j:Nat) (r:Rw) (l:List ByteArray) (x:ByteArray) (w:World) (h:OwnR w j 9 1 r l.length (l.map .string)) (z:l.length≤1000000):
  Calls Tryz.prog 204 #[.slice r.a l.length r.cap,.string x] w fun e q=>(∃v:Int,e= .returned (.int .i64 v)∧decide (0≤v)=zaX l x)∧q=w:=by
 rcases h.nil_or with ⟨D,A,n⟩|⟨g,o⟩
 ·rw[D,A,n]
  refine (zlT x w).mono ?_
  rintro e E ⟨rfl,rfl⟩
  have:l=[]:=List.length_eq_zero_iff.1 n
  subst this
  exact⟨⟨_,rfl,rfl⟩,rfl⟩
 ·rw[o]
  exact zlS j g r l x w h z o
theorem zg4 (j:Nat) (r:Rw) (l:List ByteArray) (x:ByteArray) (w:World) (h:OwnR w j 9 1 r l.length (l.map .string)) (A:l.length≤1000000):
  Calls Tryz.prog 194 #[.slice r.a l.length r.cap,.string x] w fun e q=>e= .returned (.bool (zaX l x))∧q=w:=by
 have z:=zc h
 clear h
 go_enter Tryz.func194,Tryz.ntmps194
 go_wp2_with fail
 refine (zlU j r l x _ z.out A).mono ?_
 rintro e D ⟨⟨v,rfl,n⟩,rfl⟩
 have o:=zc n
 clear n
 go_wp2
 go_ret
 exact⟨zm o.out,rfl⟩
theorem Tryz.infoText:(Tryz.prog.info? 9).map (fun i=>(i.zero,i.size,i.bytes))=some (some (.string {data:=#[]}),1,16):=by kernel_rfl
def zbf (C:Cx):Prop:=∀i,(ze C i).text.size≤281474976710656
theorem zlV (x:ByteArray): ∀u∈[Value.string x],u.oneCell'=true:=by
 intro u j
 simp at j
 rw[j]
 rfl
theorem zlW (C:Cx) (O o j n:Nat) (S:Sv) (q:PS) (w:World) (h:IM C O o j n S q w) (hC:zbf C) (hk:((ze C q.pos).kind==3)=true) (hs:zaX q.rq (ze C q.pos).text=false) (hn:q.rq.length<40):
  Calls Tryz.prog 172 #[.pointer (some ⟨n,0,none⟩)] w fun e w'=>e= .returned (.string (ze C q.pos).text)∧∃S',IM C O o j n S' {adv q with rq:=q.rq++[(ze C q.pos).text]} w'∧IS n S w S' w':=by
 obtain⟨i0,hi,Q,ab,aa⟩:=info_parts Tryz.infoText
 have HH:=zc h
 have ad:=zc0
 have H:=hC q.pos
 clear h
 go_enter Tryz.func172,Tryz.ntmps172
 go_wp2_with fail
 refine (zd2 C O o j n S q 3 _ HH.out hk (by decide)).mono ?_
 rintro e N ⟨rfl,m1,s1⟩
 have L:=zc m1
 have U:=zc s1
 clear m1 s1
 unfold tkV
 obtain⟨c0,c1,c2,c3,c4,c5,c6,c7,c8,c9,cf⟩:=zac L.out.cells
 rw[show (adv q).rq=q.rq from rfl] at c4
 generalize K:(ze C q.pos).text=tx at hs H ⊢
 have Z:=zc K
 clear K
 go_wp2_with fail
 refine (zg4 j S.rq q.rq tx _ L.out.mem.own.rq (by omega)).mono ?_
 rintro e z ⟨rfl,I⟩
 rw[hs,I]
 clear I z
 go_wp2_with fail
 refine (zd3 n q.rq.length 40 _ (by omega)).mono ?_
 rintro e z ⟨rfl,I⟩
 rw[I]
 clear I z
 have HN:Hid (some n≠S.rq.blk):=fun e=>L.out.free (.inl e.symm)
 go_wp2_with fail
 go_region_law (first|(refine zcI rfl (.tmp 28) (.tmp 31) 22 rfl j 9 i0 _ 1 16 Tryz.underlying22 hi Q ab aa rfl (by decide) (by decide) S.rq q.rq.length (q.rq.map .string) (by rfl) (by exact A.out.mem.own.rq.alloc _) M.heap.size [.string tx] (by rfl) (by exact heap_alloc_new M _) rfl (zlV tx) (by omega) (by exact (A.out.alloc _).mem.base) ?_;intro r' w2 hr E J;have g2:=(E.block n (by exact (A.out.alloc _).lt) HN.out).trans (by exact (A.out.alloc _).cells);obtain⟨d0,d1,d2,d3,d4,d5,d6,d7,d8,d9,df⟩:=zac g2)|(go_simp;go_wp2_with (go_at_call 85;refine (zib _ _ H).mono ?_;rintro e M ⟨rfl,D⟩;have A:Hid (IM C O o j n S (adv q) M):=L.out.drew.later D;have Y:Hid (Below N.heap.size N M):=(Below.refl N.heap.size N).drew.trans D;obtain⟨e0,e1,e2,e3,e4,e5,e6,e7,e8,e9,ef⟩:=zac A.out.cells;rw[show (adv q).rq=q.rq from rfl] at e4;have ac:=A.out.lt;clear D)))
 all_goals
  have HR:=zc hr
  have X:=zc E
  have V:=zc J
  clear hr E J g2 c0 c1 c2 c3 c4 c5 c6 c7 c8 c9 cf e0 e1 e2 e3 e4 e5 e6 e7 e8 e9 ef
  go_wp2
  go_ret
  obtain⟨m',s'⟩:=A.out.grow_rq (x:=tx) ((Below.refl _ _).alloc (Nat.le_refl _) _) X.out HR.out V.out hn
  rw[Z.out]
  exact⟨rfl,_,m',U.out.trans (s'.grownI Y.out)⟩
theorem zf3 (C:Cx) (D n j o:Nat) (S:Sv) (q:PS) (w:World) (h:IM C D n j o S q w) (hC:zbf C):
  Calls Tryz.prog 172 #[.pointer (some ⟨o,0,none⟩)] w (zQ C D n j o (zH C q) (·.1) (fun a=>.string a.2) S w):=by
 cases A:((ze C q.pos).kind==3) with
 |false=>
  have J:=zc h
  have N:Hid (zH C q= .error (zr C q.pos)):=by show _=_;rw[zH,A];rfl
  clear h
  go_enter Tryz.func172,Tryz.ntmps172
  go_wp2_with fail
  refine (zhZ C D n j o S q 3 _ J.out A).mono ?_
  rintro e Q ⟨rfl,O⟩
  have U:Hid (Below j w Q):=O.mono J.out.mem.base
  clear O
  unfold Pan
  go_wp2
  refine⟨rfl,?_⟩
  rw[N.out]
  exact⟨rfl,U.out⟩
 |true=>
  cases L:zaX q.rq (ze C q.pos).text with
  |true=>
   have J:=zc h
   have N:Hid (zH C q= .ok (adv q,(ze C q.pos).text)):=by show _=_;rw[zH,A,L];rfl
   have Y:=zc0
   have V:=h.mem.inv.rq
   clear h
   go_enter Tryz.func172,Tryz.ntmps172
   go_wp2_with fail
   refine (zd2 C D n j o S q 3 _ J.out A (by decide)).mono ?_
   rintro e Q ⟨rfl,E,K⟩
   have z:=zc E
   have H:=zc K
   clear E K
   unfold tkV
   obtain⟨c0,c1,c2,c3,X,c5,c6,c7,Z,c9,cf⟩:=zac z.out.cells
   rw[show (adv q).rq=q.rq from rfl] at X
   go_wp2_with fail
   refine (zg4 j S.rq q.rq (ze C q.pos).text _ z.out.mem.own.rq (by omega)).mono ?_
   rintro e I ⟨rfl,M⟩
   rw[L,M]
   clear M I
   go_wp2
   go_ret
   rw[N.out]
   exact⟨rfl,S,z.out,H.out⟩
  |false=>
   by_cases hn:q.rq.length<40
   ·refine (zlW C D n j o S q w h hC A L hn).mono ?_
    rintro e Q ⟨rfl,S1,E,K⟩
    rw[zH,A,L,if_pos rfl,if_neg (by decide),if_neg (by omega)]
    exact⟨rfl,S1,E,K⟩
   ·have J:Hid (IM C D n j o S q w):=h
    have N:Hid (zH C q= .error (zr C q.pos)):=by show _=_;rw[zH,A,L,if_pos rfl,if_neg (by decide),if_pos (by omega)]
    have Y:=zc0
    have V:=h.mem.inv.rq
    clear h
    go_enter Tryz.func172,Tryz.ntmps172
    go_wp2_with fail
    refine (zd2 C D n j o S q 3 _ J.out A (by decide)).mono ?_
    rintro e Q ⟨rfl,E,K⟩
    have z:=zc E
    have H:=zc K
    clear E K
    unfold tkV
    obtain⟨c0,c1,c2,c3,X,c5,c6,c7,Z,c9,cf⟩:=zac z.out.cells
    rw[show (adv q).rq=q.rq from rfl] at X
    go_wp2_with fail
    refine (zg4 j S.rq q.rq (ze C q.pos).text _ z.out.mem.own.rq (by omega)).mono ?_
    rintro e I ⟨rfl,M⟩
    rw[L,M]
    clear M I
    go_wp2_with fail
    refine (zeb C D n j o S (adv q) q.rq.length 40 _ z.out (by omega) (by rw[zx];omega)).mono ?_
    rintro e w2 ⟨rfl,O⟩
    have U:Hid (Below j w w2):=(J.out.back H.out).trans (O.mono z.out.mem.base)
    clear O
    unfold Pan
    go_wp2
    refine⟨rfl,?_⟩
    rw[N.out]
    exact⟨rfl,U.out⟩
theorem bdO {α β:Type} {Y:Except Nat β} {x:Except Nat α} {f:α→Except Nat β} {a:α} (h:Y=bd x f) (j:x= .ok a):Y=f a:=by rw[h,j];rfl
theorem bdE {α β:Type} {Y:Except Nat β} {x:Except Nat α} {f:α→Except Nat β} {p:Nat} (h:Y=bd x f) (j:x= .error p):Y= .error p:=by rw[h,j];rfl
theorem zed {α:Type} (x:Except Nat α):bd x .ok=x:=by cases x<;>rfl
abbrev cCall:ByteArray:={data:=#[40,41,123]}
abbrev cShutSemi:ByteArray:={data:=#[41,59]}
abbrev cSemiRight:ByteArray:={data:=#[59,125]}
theorem zic (C:Cx) (b:UInt8) (q:PS):zaB C {data:=#[b]} 1 0 q=zd C 4 {data:=#[b]} q:=by
 have e:({data:=#[b]}:ByteArray).extract 0 (0+1)={data:=#[b]}:=by simp[ByteArray.extract,ByteArray.copySlice]
 rw[zaB,e]
 exact zed _
theorem zid (C:Cx) (b c:UInt8) (q:PS):zaB C {data:=#[b,c]} 2 0 q=bd (zd C 4 {data:=#[b]} q) (zd C 4 {data:=#[c]}):=by
 have e:({data:=#[b,c]}:ByteArray).extract 0 (0+1)={data:=#[b]}:=by simp[ByteArray.extract,ByteArray.copySlice]
 have j:({data:=#[b,c]}:ByteArray).extract (0+1) (0+1+1)={data:=#[c]}:=by simp[ByteArray.extract,ByteArray.copySlice]
 rw[zaB,e]
 refine zab fun a _=>?_
 rw[zaB,j]
 exact zed _
theorem zlX (C:Cx) (b c d:UInt8) (q:PS):zaB C {data:=#[b,c,d]} 3 0 q=bd (zd C 4 {data:=#[b]} q) fun a=>bd (zd C 4 {data:=#[c]} a) (zd C 4 {data:=#[d]}):=by
 have e:({data:=#[b,c,d]}:ByteArray).extract 0 (0+1)={data:=#[b]}:=by simp[ByteArray.extract,ByteArray.copySlice]
 have n:({data:=#[b,c,d]}:ByteArray).extract (0+1) (0+1+1)={data:=#[c]}:=by simp[ByteArray.extract,ByteArray.copySlice]
 have j:({data:=#[b,c,d]}:ByteArray).extract (0+1+1) (0+1+1+1)={data:=#[d]}:=by simp[ByteArray.extract,ByteArray.copySlice]
 rw[zaB,e]
 refine zab fun a _=>?_
 rw[zaB,n]
 refine zab fun a _=>?_
 rw[zaB,j]
 exact zed _
theorem zlY (C:Cx) (z n j o:Nat) (S:Sv) (q:PS) (s:ByteArray) (f:PS→PR) (w:World) (h:IM C z n j o S q w) (A:zaB C s s.size 0 q=f q) (D:s.size≤100):
  Calls Tryz.prog 153 #[.pointer (some ⟨o,0,none⟩),.string s] w (zQ C z n j o (f q) id (fun _=>.tuple #[]) S w):=by
 rw[←A]
 exact zgz C z n j o S q s w h D
theorem zbX (C:Cx) (z n j o:Nat) (S:Sv) (q:PS) (b:UInt8) (w:World) (h:IM C z n j o S q w):
  Calls Tryz.prog 153 #[.pointer (some ⟨o,0,none⟩),.string {data:=#[b]}] w (zQ C z n j o (zd C 4 {data:=#[b]} q) id (fun _=>.tuple #[]) S w):=
 zlY C z n j o S q {data:=#[b]} (zd C 4 {data:=#[b]}) w h (zic C b q) (by show 1≤100;omega)
structure Six (w:World) (b:Nat) (v0 v1 v2 v3 v4 v5:Value):Prop where
 c0:w.cell? ⟨b,0,none⟩=some v0
 c1:w.cell? ⟨b,1,none⟩=some v1
 c2:w.cell? ⟨b,2,none⟩=some v2
 c3:w.cell? ⟨b,3,none⟩=some v3
 c4:w.cell? ⟨b,4,none⟩=some v4
 c5:w.cell? ⟨b,5,none⟩=some v5
 fz: ∀i,w.frozen? ⟨b,i,none⟩=false
theorem zv {w:World} {b:Nat} {t:TypeId} {n z q A j o:Value} (h:w.heap[b]? =some (.cells #[n,z,q,A,j,o] t (0,0))):Six w b n z q A j o:=by
 constructor<;>simp[World.cell?,World.frozen?,h]
theorem IS.kept {C:Cx} {D n j A b:Nat} {S H:Sv} {q:PS} {w z:World} {o:Obj} (h:IM C D n j A S q w) (s:IS A S (w.alloc o) H z) (E:b=w.heap.size):z.heap[b]? =some o:=by
 subst E
 refine (s.block _ (by rw[zk];omega) (fun g=>?_) (by have:=h.lt;omega)).trans (heap_alloc_new w _)
 have:=(h.mem.own.has g).2
 omega
theorem IS.from {j:Nat} {S q:Sv} {w n:World} {o:Obj} (s:IS j S (w.alloc o) q n):IS j S w q n:=(IS.below ((Below.refl _ _).alloc (Nat.le_refl _) _)).trans s
theorem IS.free {C:Cx} {E n j z:Nat} {S A:Sv} {q:PS} {w D:World} {o:Obj} (h:IM C E n j z S q w) (s:IS z S (w.alloc o) A D): ¬A.has w.heap.size:=by
 intro g
 rcases s.sub _ g with k|k
 ·have:=(h.mem.own.has k).2
  omega
 ·rw[zk] at k
  omega
def zbg (C:Cx) (x:Ex) (call:Int) (q:PS):PR:=if isT C q.pos 4 zn then bd (zd C 4 za0 (adv q)) (zN C ⟨call,x.num,x.name,x.field,x.l,x.r⟩) else zN C x q
theorem zeK (C:Cx) (J o n z:Nat) (S:Sv) (q:PS) (x:Ex) (j:Int) (w:World) (h:IM C J o n z S q w) (hp:0<q.pos):
  Calls Tryz.prog 207 #[.pointer (some ⟨z,0,none⟩),exV x,.int .i64 j] w (zQ C J o n z (zbg C x j q) id (fun q'=>.int .i64 ((q'.ex.length:Int)-1)) S w):=by
 have D:=zc h
 clear h
 cases Z:isT C q.pos 4 zn with
 |false=>
  have U:Hid (zbg C x j q=zN C x q):=by show _=_;rw[zbg,Z];rfl
  unfold exV
  go_enter Tryz.func207,Tryz.ntmps207
  go_wp2_with fail
  refine (zK C J o n z S q 4 zn _ (D.out.alloc _) (by decide)).mono ?_
  rintro e w1 ⟨rfl,m,s⟩
  rw[Z] at m ⊢
  have L:=zc m
  have Q:Hid (IS z S w S w1):=s.from
  have ae:Hid (w1.heap[w.heap.size]? =some (.cells #[.int .i64 x.kind,.int .i64 x.num,.string x.name,.string x.field,.int .i64 x.l,.int .i64 x.r] 108 (0,0))):=IS.kept D.out s rfl
  obtain⟨b0,b1,b2,b3,b4,b5,bf⟩:=zv ae.out
  clear m s
  go_wp2_with fail
  refine (zec C J o n z S q x _ L.out hp).mono ?_
  cases A:zN C x q with
  |error p=>
   rintro e I ⟨rfl,X⟩
   have O:Hid (Below n w I):=(D.out.back Q.out).trans X
   have E:Hid (zbg C x j q= .error p):=U.out.trans A
   unfold Pan
   go_wp2
   refine⟨rfl,?_⟩
   rw[E.out]
   exact⟨rfl,O.out⟩
  |ok a2=>
   rintro e I ⟨rfl,M,m,s⟩
   have K:=zc m
   have ad:Hid (IS z S w M I):=Q.out.trans s
   clear m s
   have E:=zc (U.out.trans A)
   go_wp2
   go_ret
   rw[E.out]
   exact⟨rfl,M,K.out,ad.out⟩
 |true=>
  have U:Hid (zbg C x j q=bd (zd C 4 za0 (adv q)) (zN C ⟨j,x.num,x.name,x.field,x.l,x.r⟩)):=by show _=_;rw[zbg,Z];rfl
  unfold exV
  go_enter Tryz.func207,Tryz.ntmps207
  go_wp2_with fail
  refine (zK C J o n z S q 4 zn _ (D.out.alloc _) (by decide)).mono ?_
  rintro e w1 ⟨rfl,m,s⟩
  rw[Z] at m ⊢
  have L:=zc m
  have Y:=zc s
  clear m s
  go_wp2_with fail
  refine (zbX C J o n z S (adv q) 41 _ L.out).mono ?_
  cases A:zd C 4 za0 (adv q) with
  |error p=>
   rintro e I ⟨rfl,X⟩
   have O:Hid (Below n w I):=(D.out.back Y.out.from).trans X
   have E:Hid (zbg C x j q= .error p):=bdE U.out A
   unfold Pan
   go_wp2
   refine⟨rfl,?_⟩
   rw[E.out]
   exact⟨rfl,O.out⟩
  |ok a2=>
   rintro e I ⟨rfl,M,m,s⟩
   have K:=zc m
   have H:Hid (IS z S (w.alloc (.cells #[.int .i64 x.kind,.int .i64 x.num,.string x.name,.string x.field,.int .i64 x.l,.int .i64 x.r] 108)) M I):=Y.out.trans s
   have ab:Hid (I.heap[w.heap.size]? =some (.cells #[.int .i64 x.kind,.int .i64 x.num,.string x.name,.string x.field,.int .i64 x.l,.int .i64 x.r] 108 (0,0))):=IS.kept D.out H.out rfl
   have af:Hid (a2=adv (adv q)):=(zb4 A).1
   have ag:Hid (¬M.has w.heap.size):=IS.free D.out H.out
   have ai:z<w.heap.size:=D.out.lt
   have ah:J<w.heap.size:=(zan D.out.mem.tok).1
   clear m s
   have N:=zc (bdO U.out A)
   obtain⟨b0,b1,b2,b3,b4,b5,bf⟩:=zv ab.out
   go_wp2_with fail
   refine (zec C J o n z M a2 ⟨j,x.num,x.name,x.field,x.l,x.r⟩ _ (K.out.set (by omega) (by omega) ag.out _ _) (by rw[af.out];show 0<q.pos+1+1;omega)).mono ?_
   cases V:zN C ⟨j,x.num,x.name,x.field,x.l,x.r⟩ a2 with
   |error p=>
    rintro e w3 ⟨rfl,X⟩
    have O:Hid (Below n w w3):=(D.out.back (H.out.from.new (Nat.le_refl _) _ _)).trans X
    have E:Hid (zbg C x j q= .error p):=N.out.trans V
    unfold Pan
    go_wp2
    refine⟨rfl,?_⟩
    rw[E.out]
    exact⟨rfl,O.out⟩
   |ok a3=>
    rintro e w3 ⟨rfl,S3,m,s⟩
    have ac:=zc m
    have aa:Hid (IS z S w S3 w3):=(H.out.from.new (Nat.le_refl _) _ _).trans s
    clear m s
    have E:=zc (N.out.trans V)
    go_wp2
    go_ret
    rw[E.out]
    exact⟨rfl,S3,ac.out,aa.out⟩
def exI (q:PS):Value:=.int .i64 ((q.ex.length:Int)-1)
def zeL (C:Cx) (gt cap base gp m:Nat):Prop:=∀(d:Nat) (S:Sv) (q:PS) (w:World),C.ts.length-q.pos<m→d≤20→IM C gt cap base gp S q w→
 Calls Tryz.prog 183 #[.pointer (some ⟨gp,0,none⟩),.int .i64 d] w (zQ C gt cap base gp (pE C .sum d q) id exI S w)
theorem zie (C:Cx) (n:ByteArray) (q:PS):zbc C n q=zbg C ⟨2,0,n,sNone,0,0⟩ 3 q:=by
 unfold zbc zbg
 cases j:isT C q.pos 4 zn with
 |true=>rw[zbG j];rfl
 |false=>rfl
theorem zlZ (C:Cx) (n f:ByteArray) (q:PS):zbx C n f q=zbg C ⟨4,0,n,f,0,0⟩ 5 q:=by
 unfold zbx zbg
 cases j:isT C q.pos 4 zn with
 |true=>rw[zbG j];rfl
 |false=>rfl
theorem zma {x y:ByteArray} (h:(x.toList==y.toList)=true):x=y:=by
 rw[beq_iff_eq,Lib.toList_data,Lib.toList_data] at h
 cases x
 cases y
 simp only at h
 rw[Array.toList_inj.1 h]
theorem zg5 {C:Cx} {i:Nat} {k:Int} {x:ByteArray} (h:isT C i k x=true):(ze C i).text=x:=by
 simp only[isT,Bool.and_eq_true] at h
 exact zma h.2
theorem zf4 {C:Cx} {i:Nat} {k:Int} {x:ByteArray} (h:isT C i k x=true):((ze C i).kind==k)=true:=by
 simp only[isT,Bool.and_eq_true] at h
 exact h.1
theorem zmb {C:Cx} {d:Nat} {q:PS} (h:((ze C q.pos).kind==2)=true):pE C .part d q=zN C ⟨1,(ze C q.pos).num,sNone,sNone,0,0⟩ (adv q):=by rw[zb6,h];rfl
theorem zmc {C:Cx} {d:Nat} {q:PS} (h:((ze C q.pos).kind==2)=false) (j:isT C q.pos 4 zn=true) (n:20≤d):pE C .part d q= .error (zr C q.pos):=by rw[zb6,h,j,if_neg (by decide),if_pos rfl,if_pos n]
theorem zmd {C:Cx} {d:Nat} {q:PS} (h:((ze C q.pos).kind==2)=false) (j:isT C q.pos 4 zn=true) (n: ¬20≤d):pE C .part d q=bd (pE C .sum (d+1) (adv q)) (zd C 4 za0):=by rw[zb6,h,j,if_neg (by decide),if_pos rfl,if_neg n]
theorem zme {C:Cx} {d:Nat} {q:PS} (h:((ze C q.pos).kind==2)=false) (n:isT C q.pos 4 zn=false) (o:C.scr=true) (j:isT C q.pos 1 za7=true):pE C .part d q=zbg C ⟨2,0,za7,sNone,0,0⟩ 3 (adv q):=by
 rw[zb6,h,n,o,j,if_neg (by decide),if_neg (by decide),if_pos (by decide),zie]
theorem zif {C:Cx} {d:Nat} {q:PS} (h:((ze C q.pos).kind==2)=false) (j:isT C q.pos 4 zn=false) (n:(C.scr&&isT C q.pos 1 za7)=false):
  pE C .part d q=bd (zj C false q) fun x=>if isT C x.1.pos 4 cPoint then bd (zj C true (adv x.1)) fun y=>zbg C ⟨4,0,x.2,y.2,0,0⟩ 5 y.1 else zbg C ⟨2,0,x.2,sNone,0,0⟩ 3 x.1:=by
 rw[zb6,h,j,n,if_neg (by decide),if_neg (by decide),if_neg (by decide)]
 simp only[zie,zlZ]
theorem zmf (C:Cx) (z n j o d:Nat) (S:Sv) (q:PS) (w:World) (h:IM C z n j o S q w) (U:((ze C q.pos).kind==2)=true):
  Calls Tryz.prog 206 #[.pointer (some ⟨o,0,none⟩),.int .i64 d] w (zQ C z n j o (pE C .part d q) id exI S w):=by
 have N:=zc h
 have Y:=zcH
 have ab:=zc0
 have aa:=zdY
 clear h
 have V:=zc (zmb (d:=d) U)
 go_enter Tryz.func206,Tryz.ntmps206
 go_wp2_with fail
 refine (zbr C z n j o S q _ N.out).mono ?_
 rintro e X ⟨rfl,E⟩
 unfold tkV
 have O:Hid (IM C z n j o S q X):=N.out.later E
 have L:Hid (IS o S w S X):=IS.below E
 clear E
 go_wp2_with fail
 refine (zd2 C z n j o S q 2 _ O.out U (by decide)).mono ?_
 rintro e Z ⟨rfl,m,s⟩
 have M:=zc m
 have A:Hid (IS o S w S Z):=L.out.trans s
 clear m s
 unfold tkV
 go_wp2_with fail
 refine (zec C z n j o S (adv q) ⟨1,(ze C q.pos).num,sNone,sNone,0,0⟩ _ M.out (by rw[zx];omega)).mono ?_
 cases D:zN C ⟨1,(ze C q.pos).num,sNone,sNone,0,0⟩ (adv q) with
 |error p=>
  rintro e K ⟨rfl,E⟩
  have HB:Hid (Below j w K):=(N.out.back A.out).trans E
  have HX:Hid (pE C .part d q= .error p):=V.out.trans D
  unfold Pan
  go_wp2
  refine⟨rfl,?_⟩
  rw[HX.out]
  exact⟨rfl,HB.out⟩
 |ok a3=>
  rintro e K ⟨rfl,Q,m,s⟩
  have J:=zc m
  have I:Hid (IS o S w Q K):=A.out.trans s
  clear m s
  have H:=zc (V.out.trans D)
  go_wp2
  go_ret
  rw[H.out]
  exact⟨rfl,Q,J.out,I.out⟩
theorem zmg (C:Cx) (z n j o d:Nat) (S:Sv) (q:PS) (w:World) (h:IM C z n j o S q w) (Y:((ze C q.pos).kind==2)=false) (K:isT C q.pos 4 zn=true) (hd:20≤d):
  Calls Tryz.prog 206 #[.pointer (some ⟨o,0,none⟩),.int .i64 d] w (zQ C z n j o (pE C .part d q) id exI S w):=by
 have I:=zc h
 have M:=zcH
 have aa:=zc0
 have U:=zdY
 clear h
 have Z:=zc (zmc (d:=d) Y K hd)
 have N:(20:Int)≤(d:Int):=by omega
 go_enter Tryz.func206,Tryz.ntmps206
 go_wp2_with fail
 refine (zbr C z n j o S q _ I.out).mono ?_
 rintro e L ⟨rfl,D⟩
 unfold tkV
 have J:Hid (IM C z n j o S q L):=I.out.later D
 have E:Hid (IS o S w S L):=IS.below D
 clear D
 go_wp2_with fail
 refine (zK C z n j o S q 4 zn _ J.out (by decide)).mono ?_
 rintro e O ⟨rfl,m,s⟩
 rw[K] at m ⊢
 have A:=zc m
 have H:Hid (IS o S w S O):=E.out.trans s
 clear m s
 go_wp2_with fail
 refine (zeb C z n j o S (adv q) d 20 _ A.out (by omega) (by rw[zx];omega)).mono ?_
 rintro e V ⟨rfl,D⟩
 have Q:Hid (Below j w V):=(I.out.back H.out).trans (D.mono A.out.mem.base)
 have X:Hid (pE C .part d q= .error (zr C q.pos)):=Z.out
 unfold Pan
 go_wp2
 refine⟨rfl,?_⟩
 rw[X.out]
 exact⟨rfl,Q.out⟩
theorem zmh (C:Cx) (z n j o m d:Nat) (S:Sv) (q:PS) (w:World) (h:IM C z n j o S q w) (hk:((ze C q.pos).kind==2)=false) (N:isT C q.pos 4 zn=true) (hd:d<20) (hS:zeL C z n j o m) (hm:C.ts.length-q.pos≤m):
  Calls Tryz.prog 206 #[.pointer (some ⟨o,0,none⟩),.int .i64 d] w (zQ C z n j o (pE C .part d q) id exI S w):=by
 have M:=zc h
 have af:=zcH
 have ai:=zc0
 have ah:=zdY
 clear h
 have HY:=zc (zmd (d:=d) hk N (by omega))
 have ag: ¬(20:Int)≤(d:Int):=by omega
 have aj:=za1 N (by decide)
 obtain⟨E,J⟩: ∃E:Nat,E=d+1:=⟨_,rfl⟩
 have ed:(d:Int)+1=(E:Int):=by omega
 rw[←J] at HY
 have O:E≤20:=by omega
 clear J
 go_enter Tryz.func206,Tryz.ntmps206
 go_wp2_with fail
 refine (zbr C z n j o S q _ M.out).mono ?_
 rintro e w1 ⟨rfl,A⟩
 unfold tkV
 have ae:Hid (IM C z n j o S q w1):=M.out.later A
 have Y:Hid (IS o S w S w1):=IS.below A
 clear A
 go_wp2_with fail
 refine (zK C z n j o S q 4 zn _ ae.out (by decide)).mono ?_
 rintro e w2 ⟨rfl,m,s⟩
 rw[N] at m ⊢
 have ab:=zc m
 have K:Hid (IS o S w S w2):=Y.out.trans s
 clear m s
 go_wp2_with fail
 refine (zd3 o d 20 _ (by omega)).mono ?_
 rintro e w' ⟨rfl,hw⟩
 rw[hw]
 clear hw w'
 go_wp2_with fail
 refine (hS E S (adv q) _ (by rw[zx];omega) O ab.out).mono ?_
 cases L:pE C .sum E (adv q) with
 |error p=>
  rintro e Z ⟨rfl,A⟩
  have X:Hid (Below j w Z):=(M.out.back K.out).trans A
  have HX:Hid (pE C .part d q= .error p):=bdE HY.out L
  unfold Pan
  go_wp2
  refine⟨rfl,?_⟩
  rw[HX.out]
  exact⟨rfl,X.out⟩
 |ok V=>
  rintro e Z ⟨rfl,S3,m,s⟩
  have U:=zc m
  have I:Hid (IS o S w S3 Z):=K.out.trans s
  clear m s
  have H:=zc (bdO HY.out L)
  unfold exI
  go_wp2_with fail
  refine (zbX C z n j o S3 V 41 _ U.out).mono ?_
  cases D:zd C 4 za0 V with
  |error p=>
   rintro e Q ⟨rfl,A⟩
   have X:Hid (Below j w Q):=(M.out.back I.out).trans A
   have HX:Hid (pE C .part d q= .error p):=H.out.trans D
   unfold Pan
   go_wp2
   refine⟨rfl,?_⟩
   rw[HX.out]
   exact⟨rfl,X.out⟩
  |ok a4=>
   rintro e Q ⟨rfl,S4,m,s⟩
   have aa:=zc m
   have ad:Hid (IS o S w S4 Q):=I.out.trans s
   clear m s
   have ac:=zc (H.out.trans D)
   have HP:Hid (a4=adv V):=(zb4 D).1
   go_wp2
   go_ret
   rw[ac.out]
   exact⟨by rw[HP.out];rfl,S4,aa.out,ad.out⟩
theorem zmi (C:Cx) (z n j o d:Nat) (S:Sv) (q:PS) (w:World) (h:IM C z n j o S q w) (hk:((ze C q.pos).kind==2)=false) (Z:isT C q.pos 4 zn=false) (h2:C.scr=true) (I:isT C q.pos 1 za7=true):
  Calls Tryz.prog 206 #[.pointer (some ⟨o,0,none⟩),.int .i64 d] w (zQ C z n j o (pE C .part d q) id exI S w):=by
 have V:=zc h
 have aa:=zcH
 have ac:=zc0
 have ab:=zdY
 clear h
 have HY:=zc (zme (d:=d) hk Z h2 I)
 go_enter Tryz.func206,Tryz.ntmps206
 go_wp2_with fail
 refine (zbr C z n j o S q _ V.out).mono ?_
 rintro e w1 ⟨rfl,A⟩
 unfold tkV
 have Y:Hid (IM C z n j o S q w1):=V.out.later A
 have O:Hid (IS o S w S w1):=IS.below A
 clear A
 go_wp2_with fail
 refine (zK C z n j o S q 4 zn _ Y.out (by decide)).mono ?_
 rintro e w2 ⟨rfl,m,s⟩
 rw[Z] at m ⊢
 have D:=zc m
 have U:Hid (IS o S w S w2):=O.out.trans s
 clear m s
 obtain⟨_,_,_,c3,_,_,_,_,_,_,cf⟩:=zac D.out.cells
 rw[h2] at c3
 go_wp2_with fail
 refine (zbO C z n j o S q 1 za7 _ D.out).mono ?_
 rintro e w3 ⟨rfl,A⟩
 rw[I]
 have M:Hid (IM C z n j o S q w3):=D.out.later A
 have J:Hid (IS o S w S w3):=(U.out.trans (IS.below A))
 clear A
 go_wp2_with fail
 refine (zd2 C z n j o S q 1 _ M.out (zf4 I) (by decide)).mono ?_
 rintro e w4 ⟨rfl,m,s⟩
 have Q:=zc m
 have H:Hid (IS o S w S w4):=J.out.trans s
 clear m s
 unfold tkV
 rw[zg5 I]
 go_wp2_with fail
 refine (zeK C z n j o S (adv q) ⟨2,0,za7,sNone,0,0⟩ 3 _ Q.out (by rw[zx];omega)).mono ?_
 cases E:zbg C ⟨2,0,za7,sNone,0,0⟩ 3 (adv q) with
 |error p=>
  rintro e K ⟨rfl,A⟩
  have HB:Hid (Below j w K):=(V.out.back H.out).trans A
  have HX:Hid (pE C .part d q= .error p):=HY.out.trans E
  unfold Pan
  go_wp2
  refine⟨rfl,?_⟩
  rw[HX.out]
  exact⟨rfl,HB.out⟩
 |ok a5=>
  rintro e K ⟨rfl,S5,m,s⟩
  have L:=zc m
  have N:Hid (IS o S w S5 K):=H.out.trans s
  clear m s
  have X:=zc (HY.out.trans E)
  go_wp2
  go_ret
  rw[X.out]
  exact⟨rfl,S5,L.out,N.out⟩
theorem zmj (C:Cx) (D n j o d:Nat) (S:Sv) (q:PS) (w:World) (h:IM C D n j o S q w) (hk:((ze C q.pos).kind==2)=false) (h1:isT C q.pos 4 zn=false) (h2:C.scr=true) (h3:isT C q.pos 1 za7=false):
  Calls Tryz.prog 206 #[.pointer (some ⟨o,0,none⟩),.int .i64 d] w (zQ C D n j o (pE C .part d q) id exI S w):=by
 have X:=zc h
 have am:=zcH
 have ao:=zc0
 have an:=zdY
 clear h
 have HY:=zc (zif (d:=d) hk h1 (by rw[h2,h3];rfl))
 go_enter Tryz.func206,Tryz.ntmps206
 go_wp2_with fail
 refine (zbr C D n j o S q _ X.out).mono ?_
 rintro e w1 ⟨rfl,z⟩
 unfold tkV
 have ak:Hid (IM C D n j o S q w1):=X.out.later z
 have ag:Hid (IS o S w S w1):=IS.below z
 clear z
 go_wp2_with fail
 refine (zK C D n j o S q 4 zn _ ak.out (by decide)).mono ?_
 rintro e w2 ⟨rfl,m,s⟩
 rw[h1] at m ⊢
 have O:=zc m
 have ah:Hid (IS o S w S w2):=ag.out.trans s
 clear m s
 obtain⟨_,_,_,c3,_,_,_,_,_,_,cf⟩:=zac O.out.cells
 rw[h2] at c3
 go_wp2_with fail
 refine (zbO C D n j o S q 1 za7 _ O.out).mono ?_
 rintro e w3 ⟨rfl,z⟩
 rw[h3]
 have af:Hid (IM C D n j o S q w3):=O.out.later z
 have aa:Hid (IS o S w S w3):=(ah.out.trans (IS.below z))
 clear z
 go_wp2_with fail
 refine (zdb C D n j o S q _ af.out).mono ?_
 cases Q:zj C false q with
 |error p=>
  rintro e w4 ⟨rfl,z⟩
  have M:Hid (Below j w w4):=(X.out.back aa.out).trans z
  have N:Hid (pE C .part d q= .error p):=bdE HY.out Q
  unfold Pan
  go_wp2
  refine⟨rfl,?_⟩
  rw[N.out]
  exact⟨rfl,M.out⟩
 |ok E=>
  rintro e w4 ⟨rfl,U,m,s⟩
  have ac:=zc m
  have ae:Hid (IS o S w U w4):=aa.out.trans s
  clear m s
  have ad:=zc (bdO HY.out Q)
  have Z:0<E.1.pos:=by rw[(zbd Q).1];exact Nat.succ_pos _
  cases hd:isT C E.1.pos 4 cPoint with
  |true=>
   have Y:=zc (ad.out.trans (if_pos hd))
   go_wp2_with fail
   refine (zK C D n j o U (E.1) 4 cPoint _ ac.out (by decide)).mono ?_
   rintro e w5 ⟨rfl,m,s⟩
   rw[hd] at m ⊢
   have L:=zc m
   have H:Hid (IS o S w U w5):=ae.out.trans s
   clear m s
   go_wp2_with fail
   refine (zeF C D n j o U (adv (E.1)) _ L.out).mono ?_
   cases A:zj C true (adv (E.1)) with
   |error p=>
    rintro e V ⟨rfl,z⟩
    have M:Hid (Below j w V):=(X.out.back H.out).trans z
    have N:Hid (pE C .part d q= .error p):=bdE Y.out A
    unfold Pan
    go_wp2
    refine⟨rfl,?_⟩
    rw[N.out]
    exact⟨rfl,M.out⟩
   |ok a6=>
    rintro e V ⟨rfl,S6,m,s⟩
    have K:=zc m
    have J:Hid (IS o S w S6 V):=H.out.trans s
    clear m s
    have I:=zc (bdO Y.out A)
    go_wp2_with fail
    refine (zeK C D n j o S6 (a6.1) ⟨4,0,E.2,a6.2,0,0⟩ 5 _ K.out (by rw[(zbd A).1];exact Nat.succ_pos _)).mono ?_
    cases ab:zbg C ⟨4,0,E.2,a6.2,0,0⟩ 5 (a6.1) with
    |error p=>
     rintro e w7 ⟨rfl,z⟩
     have M:Hid (Below j w w7):=(X.out.back J.out).trans z
     have N:Hid (pE C .part d q= .error p):=I.out.trans ab
     unfold Pan
     go_wp2
     refine⟨rfl,?_⟩
     rw[N.out]
     exact⟨rfl,M.out⟩
    |ok a7=>
     rintro e w7 ⟨rfl,S7,m,s⟩
     have aj:=zc m
     have al:Hid (IS o S w S7 w7):=J.out.trans s
     clear m s
     have ai:=zc (I.out.trans ab)
     go_wp2
     go_ret
     rw[ai.out]
     exact⟨rfl,S7,aj.out,al.out⟩
  |false=>
   have Y:=zc (ad.out.trans (if_neg (by rw[hd];decide)))
   go_wp2_with fail
   refine (zK C D n j o U (E.1) 4 cPoint _ ac.out (by decide)).mono ?_
   rintro e w5 ⟨rfl,m,s⟩
   rw[hd] at m ⊢
   have L:=zc m
   have H:Hid (IS o S w U w5):=ae.out.trans s
   clear m s
   go_wp2_with fail
   refine (zeK C D n j o U (E.1) ⟨2,0,E.2,sNone,0,0⟩ 3 _ L.out Z).mono ?_
   cases A:zbg C ⟨2,0,E.2,sNone,0,0⟩ 3 (E.1) with
   |error p=>
    rintro e V ⟨rfl,z⟩
    have M:Hid (Below j w V):=(X.out.back H.out).trans z
    have N:Hid (pE C .part d q= .error p):=Y.out.trans A
    unfold Pan
    go_wp2
    refine⟨rfl,?_⟩
    rw[N.out]
    exact⟨rfl,M.out⟩
   |ok a6=>
    rintro e V ⟨rfl,S6,m,s⟩
    have K:=zc m
    have J:Hid (IS o S w S6 V):=H.out.trans s
    clear m s
    have I:=zc (Y.out.trans A)
    go_wp2
    go_ret
    rw[I.out]
    exact⟨rfl,S6,K.out,J.out⟩
theorem zmk (C:Cx) (D n j o d:Nat) (S:Sv) (q:PS) (w:World) (h:IM C D n j o S q w) (hk:((ze C q.pos).kind==2)=false) (h1:isT C q.pos 4 zn=false) (h2:C.scr=false):
  Calls Tryz.prog 206 #[.pointer (some ⟨o,0,none⟩),.int .i64 d] w (zQ C D n j o (pE C .part d q) id exI S w):=by
 have V:=zc h
 have ak:=zcH
 have am:=zc0
 have al:=zdY
 clear h
 have HY:=zc (zif (d:=d) hk h1 (by rw[h2];rfl))
 go_enter Tryz.func206,Tryz.ntmps206
 go_wp2_with fail
 refine (zbr C D n j o S q _ V.out).mono ?_
 rintro e w1 ⟨rfl,E⟩
 unfold tkV
 have aj:Hid (IM C D n j o S q w1):=V.out.later E
 have ai:Hid (IS o S w S w1):=IS.below E
 clear E
 go_wp2_with fail
 refine (zK C D n j o S q 4 zn _ aj.out (by decide)).mono ?_
 rintro e w2 ⟨rfl,m,s⟩
 rw[h1] at m ⊢
 have ad:=zc m
 have ae:Hid (IS o S w S w2):=ai.out.trans s
 clear m s
 obtain⟨_,_,_,c3,_,_,_,_,_,_,cf⟩:=zac ad.out.cells
 rw[h2] at c3
 go_wp2_with fail
 refine (zdb C D n j o S q _ ad.out).mono ?_
 cases U:zj C false q with
 |error p=>
  rintro e w3 ⟨rfl,E⟩
  have M:Hid (Below j w w3):=(V.out.back ae.out).trans E
  have N:Hid (pE C .part d q= .error p):=bdE HY.out U
  unfold Pan
  go_wp2
  refine⟨rfl,?_⟩
  rw[N.out]
  exact⟨rfl,M.out⟩
 |ok A=>
  rintro e w3 ⟨rfl,Q,m,s⟩
  have ac:=zc m
  have aa:Hid (IS o S w Q w3):=ae.out.trans s
  clear m s
  have Z:=zc (bdO HY.out U)
  have Y:0<A.1.pos:=by rw[(zbd U).1];exact Nat.succ_pos _
  cases hd:isT C A.1.pos 4 cPoint with
  |true=>
   have X:=zc (Z.out.trans (if_pos hd))
   go_wp2_with fail
   refine (zK C D n j o Q (A.1) 4 cPoint _ ac.out (by decide)).mono ?_
   rintro e w4 ⟨rfl,m,s⟩
   rw[hd] at m ⊢
   have O:=zc m
   have H:Hid (IS o S w Q w4):=aa.out.trans s
   clear m s
   go_wp2_with fail
   refine (zeF C D n j o Q (adv (A.1)) _ O.out).mono ?_
   cases z:zj C true (adv (A.1)) with
   |error p=>
    rintro e K ⟨rfl,E⟩
    have M:Hid (Below j w K):=(V.out.back H.out).trans E
    have N:Hid (pE C .part d q= .error p):=bdE X.out z
    unfold Pan
    go_wp2
    refine⟨rfl,?_⟩
    rw[N.out]
    exact⟨rfl,M.out⟩
   |ok a5=>
    rintro e K ⟨rfl,S5,m,s⟩
    have L:=zc m
    have I:Hid (IS o S w S5 K):=H.out.trans s
    clear m s
    have J:=zc (bdO X.out z)
    go_wp2_with fail
    refine (zeK C D n j o S5 (a5.1) ⟨4,0,A.2,a5.2,0,0⟩ 5 _ L.out (by rw[(zbd z).1];exact Nat.succ_pos _)).mono ?_
    cases ab:zbg C ⟨4,0,A.2,a5.2,0,0⟩ 5 (a5.1) with
    |error p=>
     rintro e w6 ⟨rfl,E⟩
     have M:Hid (Below j w w6):=(V.out.back I.out).trans E
     have N:Hid (pE C .part d q= .error p):=J.out.trans ab
     unfold Pan
     go_wp2
     refine⟨rfl,?_⟩
     rw[N.out]
     exact⟨rfl,M.out⟩
    |ok a6=>
     rintro e w6 ⟨rfl,S6,m,s⟩
     have ag:=zc m
     have ah:Hid (IS o S w S6 w6):=I.out.trans s
     clear m s
     have af:=zc (J.out.trans ab)
     go_wp2
     go_ret
     rw[af.out]
     exact⟨rfl,S6,ag.out,ah.out⟩
  |false=>
   have X:=zc (Z.out.trans (if_neg (by rw[hd];decide)))
   go_wp2_with fail
   refine (zK C D n j o Q (A.1) 4 cPoint _ ac.out (by decide)).mono ?_
   rintro e w4 ⟨rfl,m,s⟩
   rw[hd] at m ⊢
   have O:=zc m
   have H:Hid (IS o S w Q w4):=aa.out.trans s
   clear m s
   go_wp2_with fail
   refine (zeK C D n j o Q (A.1) ⟨2,0,A.2,sNone,0,0⟩ 3 _ O.out Y).mono ?_
   cases z:zbg C ⟨2,0,A.2,sNone,0,0⟩ 3 (A.1) with
   |error p=>
    rintro e K ⟨rfl,E⟩
    have M:Hid (Below j w K):=(V.out.back H.out).trans E
    have N:Hid (pE C .part d q= .error p):=X.out.trans z
    unfold Pan
    go_wp2
    refine⟨rfl,?_⟩
    rw[N.out]
    exact⟨rfl,M.out⟩
   |ok a5=>
    rintro e K ⟨rfl,S5,m,s⟩
    have L:=zc m
    have I:Hid (IS o S w S5 K):=H.out.trans s
    clear m s
    have J:=zc (X.out.trans z)
    go_wp2
    go_ret
    rw[J.out]
    exact⟨rfl,S5,L.out,I.out⟩
theorem zig (C:Cx) (z n j o m d:Nat) (S:Sv) (q:PS) (w:World) (h:IM C z n j o S q w) (L:d≤20) (J:zeL C z n j o m) (K:C.ts.length-q.pos≤m):
  Calls Tryz.prog 206 #[.pointer (some ⟨o,0,none⟩),.int .i64 d] w (zQ C z n j o (pE C .part d q) id exI S w):=by
 cases A:((ze C q.pos).kind==2) with
 |true=>exact zmf C z n j o d S q w h A
 |false=>
  cases D:isT C q.pos 4 zn with
  |true=>
   by_cases E:20≤d
   ·exact zmg C z n j o d S q w h A D E
   ·exact zmh C z n j o m d S q w h A D (by omega) J K
  |false=>
   cases H:C.scr with
   |true=>
    cases I:isT C q.pos 1 za7 with
    |true=>exact zmi C z n j o d S q w h A D H I
    |false=>exact zmj C z n j o d S q w h A D H I
   |false=>exact zmk C z n j o d S q w h A D H
theorem zml {C:Cx} {d:Nat} {q:PS} (h:isT C q.pos 4 zw=false):pE C .prodT d q= .ok q:=by rw[zfo,if_neg (by rw[h];decide)]
theorem zmm {C:Cx} {d:Nat} {q:PS} (h:isT C q.pos 4 zw=true):pE C .prodT d q=bd (pE C .part d (adv q)) fun a=>bd (zN C ⟨8,0,sNone,sNone,(q.ex.length:Int)-1,(a.ex.length:Int)-1⟩ a) (pE C .prodT d):=by rw[zfo,if_pos h,zM]
theorem zmn {C:Cx} {d:Nat} {q:PS} (h:isT C q.pos 4 zbb=false) (j:isT C q.pos 4 zbU=false):pE C .sumT d q= .ok q:=by rw[ze7,if_neg (by rw[h,j];decide)]
theorem zmo {C:Cx} {d:Nat} {q:PS} (h:isT C q.pos 4 zbb=true):pE C .sumT d q=bd (pE C .prod d (adv q)) fun a=>bd (zN C ⟨7,0,sNone,sNone,(q.ex.length:Int)-1,(a.ex.length:Int)-1⟩ a) (pE C .sumT d):=by
 rw[ze7,if_pos (by rw[h];exact Bool.or_true _),zM,zcY,if_pos h]
theorem zmp {C:Cx} {d:Nat} {q:PS} (h:isT C q.pos 4 zbb=false) (j:isT C q.pos 4 zbU=true):pE C .sumT d q=bd (pE C .prod d (adv q)) fun a=>bd (zN C ⟨6,0,sNone,sNone,(q.ex.length:Int)-1,(a.ex.length:Int)-1⟩ a) (pE C .sumT d):=by
 rw[ze7,if_pos (by rw[j];rfl),zM,zcY,if_neg (by rw[h];decide)]
theorem zg6 (C:Cx) (D n j o m d:Nat) (S:Sv) (q:PS) (w:World) (h:IM C D n j o S q w) (hd:d≤20) (hS:zeL C D n j o m) (hm:C.ts.length-q.pos≤m):
  Calls Tryz.prog 201 #[.pointer (some ⟨o,0,none⟩),.int .i64 d] w (zQ C D n j o (pE C .prod d q) id exI S w):=by
 have HH:=zc h
 have HY:=zc (zhD C d q)
 clear h
 go_enter Tryz.func201,Tryz.ntmps201
 go_wp2_with fail
 refine (zig C D n j o m d S q _ HH.out hd hS hm).mono ?_
 cases H:pE C .part d q with
 |error p=>
  rintro e w1 ⟨rfl,Z⟩
  have V:Hid (Below j w w1):=(HH.out.back (IS.refl _ _ _)).trans Z
  have X:Hid (pE C .prod d q= .error p):=bdE HY.out H
  unfold Pan
  go_wp2
  refine⟨rfl,?_⟩
  rw[X.out]
  exact⟨rfl,V.out⟩
 |ok a1=>
  rintro e w1 ⟨rfl,S1,m,s⟩
  have ai:=zc m
  have ac:=zc s
  clear m s
  have ae:=zc (bdO HY.out H)
  unfold exI
  have aj:=zaY H
  go_wp2
  go_loopg [5] (C.ts.length+1) (fun k l wr=>∃(A:Sv) (z:PS),l=exI z∧pE C .prod d q=pE C .prodT d z∧C.ts.length-z.pos<k∧C.ts.length-z.pos≤m∧IM C D n j o A z wr∧IS o S w A wr)
  case atStart=>exact⟨S1,a1,rfl,ae.out,by omega,by omega,ai.out,ac.out⟩
  case round=>
   obtain⟨A,z,rfl,hy,hk,ak,m',s'⟩:=hrel
   have Y:=zc hy
   have N:Hid (IM C D n j o A z wr):=m'
   have aa:Hid (IS o S w A wr):=s'
   clear hy m' s'
   unfold exI
   cases U:isT C z.pos 4 zw with
   |false=>
    have HZ:=zc (Y.out.trans (zml U))
    go_wp2_with fail
    refine (zK C D n j o A z 4 zw _ N.out (by decide)).mono ?_
    rintro e w2 ⟨rfl,m,s⟩
    rw[U] at m ⊢
    have I:=zc m
    have E:Hid (IS o S w A w2):=aa.out.trans s
    clear m s
    go_wp2
    go_ret
    rw[HZ.out]
    exact⟨rfl,A,I.out,E.out⟩
   |true=>
    have al:=za1 U (by decide)
    have HZ:=zc (Y.out.trans (zmm U))
    go_wp2_with fail
    refine (zK C D n j o A z 4 zw _ N.out (by decide)).mono ?_
    rintro e w2 ⟨rfl,m,s⟩
    rw[U] at m ⊢
    have I:=zc m
    have E:Hid (IS o S w A w2):=aa.out.trans s
    clear m s
    go_wp2_with fail
    refine (zig C D n j o m d A (adv z) _ I.out hd hS (by rw[zx];omega)).mono ?_
    cases J:pE C .part d (adv z) with
    |error p=>
     rintro e w3 ⟨rfl,Z⟩
     have V:Hid (Below j w w3):=(HH.out.back E.out).trans Z
     have X:Hid (pE C .prod d q= .error p):=bdE HZ.out J
     unfold Pan
     go_wp2
     refine⟨rfl,?_⟩
     rw[X.out]
     exact⟨rfl,V.out⟩
    |ok L=>
     rintro e w3 ⟨rfl,S3,m,s⟩
     have ab:=zc m
     have Q:Hid (IS o S w S3 w3):=E.out.trans s
     clear m s
     have O:=zc (bdO HZ.out J)
     unfold exI
     have M:=zaY J
     rw[zx] at M
     have af:0<L.pos:=by omega
     go_wp2_with fail
     refine (zec C D n j o S3 L ⟨8,0,sNone,sNone,(z.ex.length:Int)-1,(L.ex.length:Int)-1⟩ _ ab.out af).mono ?_
     cases K:zN C ⟨8,0,sNone,sNone,(z.ex.length:Int)-1,(L.ex.length:Int)-1⟩ L with
     |error p=>
      rintro e w4 ⟨rfl,Z⟩
      have V:Hid (Below j w w4):=(HH.out.back Q.out).trans Z
      have X:Hid (pE C .prod d q= .error p):=bdE O.out K
      unfold Pan
      go_wp2
      refine⟨rfl,?_⟩
      rw[X.out]
      exact⟨rfl,V.out⟩
     |ok a4=>
      rintro e w4 ⟨rfl,S4,m,s⟩
      have ad:=zc m
      have ah:Hid (IS o S w S4 w4):=Q.out.trans s
      clear m s
      have ag:=zc (bdO O.out K)
      have HP:Hid (a4.pos=L.pos):=by show _=_;rw[(zb5 K).1]
      go_wp2
      go_roundg (gk-1)
      case rel=>exact⟨S4,a4,rfl,ag.out,by have:=HP.out;omega,by have:=HP.out;omega,ad.out,ah.out⟩
      case measure=>omega
theorem zmq (C:Cx) (E n j o m d:Nat) (S:Sv) (q:PS) (w:World) (h:IM C E n j o S q w) (hd:d≤20) (hS:zeL C E n j o m) (hm:C.ts.length-q.pos≤m):
  Calls Tryz.prog 183 #[.pointer (some ⟨o,0,none⟩),.int .i64 d] w (zQ C E n j o (pE C .sum d q) id exI S w):=by
 have HH:=zc h
 have HY:=zc (zhC C d q)
 clear h
 go_enter Tryz.func183,Tryz.ntmps183
 go_wp2_with fail
 refine (zg6 C E n j o m d S q _ HH.out hd hS hm).mono ?_
 cases ac:pE C .prod d q with
 |error p=>
  rintro e w1 ⟨rfl,A⟩
  have Y:Hid (Below j w w1):=(HH.out.back (IS.refl _ _ _)).trans A
  have V:Hid (pE C .sum d q= .error p):=bdE HY.out ac
  unfold Pan
  go_wp2
  refine⟨rfl,?_⟩
  rw[V.out]
  exact⟨rfl,Y.out⟩
 |ok a1=>
  rintro e w1 ⟨rfl,S1,m,s⟩
  have an:=zc m
  have am:=zc s
  clear m s
  have ap:=zc (bdO HY.out ac)
  unfold exI
  have ar:=zaY ac
  go_wp2
  go_loopg [5] (C.ts.length+1) (fun k l wr=>∃(D:Sv) (z:PS),l=exI z∧pE C .sum d q=pE C .sumT d z∧C.ts.length-z.pos<k∧C.ts.length-z.pos≤m∧IM C E n j o D z wr∧IS o S w D wr)
  case atStart=>exact⟨S1,a1,rfl,ap.out,by omega,by omega,an.out,am.out⟩
  case round=>
   obtain⟨D,z,rfl,hy,hk,au,m',s'⟩:=hrel
   have af:=zc hy
   have I:Hid (IM C E n j o D z wr):=m'
   have ae:Hid (IS o S w D wr):=s'
   clear hy m' s'
   unfold exI
   have aq:=I.out.mem.few
   cases hi:isT C z.pos 4 zbb with
   |true=>
    have ai:=za1 hi (by decide)
    have HZ:=zc (af.out.trans (zmo hi))
    go_wp2_with fail
    refine (zbO C E n j o D z 4 zbb _ I.out).mono ?_
    rintro e Q ⟨rfl,A⟩
    rw[hi]
    have H:Hid (IM C E n j o D z Q):=I.out.later A
    have N:Hid (IS o S w D Q):=(ae.out.trans (IS.below A))
    clear A
    obtain⟨c0,c1,c2,c3,c4,c5,c6,c7,c8,c9,cf⟩:=zac H.out.cells
    go_wp2_with fail
    have L:Hid (IM C E n j o D (adv z) (Q.setCell ⟨o,1,none⟩ (.int .i64 ((z.pos:Int)+1)))):=H.out.adv ai
    have K:Hid (IS o S w D (Q.setCell ⟨o,1,none⟩ (.int .i64 ((z.pos:Int)+1)))):=N.out.set _ _
    refine (zg6 C E n j o m d D (adv z) _ L.out hd hS (by rw[zx];omega)).mono ?_
    cases ag:pE C .prod d (adv z) with
    |error p=>
     rintro e w4 ⟨rfl,A⟩
     have Y:Hid (Below j w w4):=(HH.out.back K.out).trans A
     have V:Hid (pE C .sum d q= .error p):=bdE HZ.out ag
     unfold Pan
     go_wp2
     refine⟨rfl,?_⟩
     rw[V.out]
     exact⟨rfl,Y.out⟩
    |ok a4=>
     rintro e w4 ⟨rfl,S4,m,s⟩
     have ab:=zc m
     have O:Hid (IS o S w S4 w4):=K.out.trans s
     clear m s
     have aj:=zc (bdO HZ.out ag)
     unfold exI
     have M:=zaY ag
     rw[zx] at M
     have ad:0<a4.pos:=by omega
     go_wp2_with fail
     refine (zec C E n j o S4 a4 ⟨7,0,sNone,sNone,(z.ex.length:Int)-1,(a4.ex.length:Int)-1⟩ _ ab.out ad).mono ?_
     cases J:zN C ⟨7,0,sNone,sNone,(z.ex.length:Int)-1,(a4.ex.length:Int)-1⟩ a4 with
     |error p=>
      rintro e w5 ⟨rfl,A⟩
      have Y:Hid (Below j w w5):=(HH.out.back O.out).trans A
      have V:Hid (pE C .sum d q= .error p):=bdE aj.out J
      unfold Pan
      go_wp2
      refine⟨rfl,?_⟩
      rw[V.out]
      exact⟨rfl,Y.out⟩
     |ok U=>
      rintro e w5 ⟨rfl,S5,m,s⟩
      have aa:=zc m
      have Z:Hid (IS o S w S5 w5):=O.out.trans s
      clear m s
      have X:=zc (bdO aj.out J)
      have HP:Hid (U.pos=a4.pos):=by show _=_;rw[(zb5 J).1]
      go_wp2
      go_roundg (gk-1)
      case rel=>exact⟨S5,U,rfl,X.out,by have:=HP.out;omega,by have:=HP.out;omega,aa.out,Z.out⟩
      case measure=>omega
   |false=>
    cases hj:isT C z.pos 4 zbU with
    |true=>
     have ai:=za1 hj (by decide)
     have HZ:=zc (af.out.trans (zmp hi hj))
     go_wp2_with fail
     refine (zbO C E n j o D z 4 zbb _ I.out).mono ?_
     rintro e Q ⟨rfl,A⟩
     rw[hi]
     have H:Hid (IM C E n j o D z Q):=I.out.later A
     have N:Hid (IS o S w D Q):=(ae.out.trans (IS.below A))
     clear A
     go_wp2_with fail
     refine (zbO C E n j o D z 4 zbU _ H.out).mono ?_
     rintro e w3 ⟨rfl,A⟩
     rw[hj]
     have L:Hid (IM C E n j o D z w3):=H.out.later A
     have K:Hid (IS o S w D w3):=(N.out.trans (IS.below A))
     clear A
     obtain⟨c0,c1,c2,c3,c4,c5,c6,c7,c8,c9,cf⟩:=zac L.out.cells
     go_wp2_with fail
     have ab:Hid (IM C E n j o D (adv z) (w3.setCell ⟨o,1,none⟩ (.int .i64 ((z.pos:Int)+1)))):=L.out.adv ai
     have O:Hid (IS o S w D (w3.setCell ⟨o,1,none⟩ (.int .i64 ((z.pos:Int)+1)))):=K.out.set _ _
     refine (zg6 C E n j o m d D (adv z) _ ab.out hd hS (by rw[zx];omega)).mono ?_
     cases J:pE C .prod d (adv z) with
     |error p=>
      rintro e w5 ⟨rfl,A⟩
      have Y:Hid (Below j w w5):=(HH.out.back O.out).trans A
      have V:Hid (pE C .sum d q= .error p):=bdE HZ.out J
      unfold Pan
      go_wp2
      refine⟨rfl,?_⟩
      rw[V.out]
      exact⟨rfl,Y.out⟩
     |ok U=>
      rintro e w5 ⟨rfl,S5,m,s⟩
      have aa:=zc m
      have Z:Hid (IS o S w S5 w5):=O.out.trans s
      clear m s
      have X:=zc (bdO HZ.out J)
      unfold exI
      have M:=zaY J
      rw[zx] at M
      have ad:0<U.pos:=by omega
      go_wp2_with fail
      refine (zec C E n j o S5 U ⟨6,0,sNone,sNone,(z.ex.length:Int)-1,(U.ex.length:Int)-1⟩ _ aa.out ad).mono ?_
      cases ah:zN C ⟨6,0,sNone,sNone,(z.ex.length:Int)-1,(U.ex.length:Int)-1⟩ U with
      |error p=>
       rintro e w6 ⟨rfl,A⟩
       have Y:Hid (Below j w w6):=(HH.out.back Z.out).trans A
       have V:Hid (pE C .sum d q= .error p):=bdE X.out ah
       unfold Pan
       go_wp2
       refine⟨rfl,?_⟩
       rw[V.out]
       exact⟨rfl,Y.out⟩
      |ok a6=>
       rintro e w6 ⟨rfl,S6,m,s⟩
       have ao:=zc m
       have ak:Hid (IS o S w S6 w6):=Z.out.trans s
       clear m s
       have al:=zc (bdO X.out ah)
       have HP:Hid (a6.pos=U.pos):=by show _=_;rw[(zb5 ah).1]
       go_wp2
       go_roundg (gk-1)
       case rel=>exact⟨S6,a6,rfl,al.out,by have:=HP.out;omega,by have:=HP.out;omega,ao.out,ak.out⟩
       case measure=>omega
    |false=>
     have HZ:=zc (af.out.trans (zmn hi hj))
     go_wp2_with fail
     refine (zbO C E n j o D z 4 zbb _ I.out).mono ?_
     rintro e Q ⟨rfl,A⟩
     rw[hi]
     have H:Hid (IM C E n j o D z Q):=I.out.later A
     have N:Hid (IS o S w D Q):=(ae.out.trans (IS.below A))
     clear A
     go_wp2_with fail
     refine (zbO C E n j o D z 4 zbU _ H.out).mono ?_
     rintro e w3 ⟨rfl,A⟩
     rw[hj]
     have L:Hid (IM C E n j o D z w3):=H.out.later A
     have K:Hid (IS o S w D w3):=(N.out.trans (IS.below A))
     clear A
     go_wp2
     go_ret
     rw[HZ.out]
     exact⟨rfl,D,L.out,K.out⟩
theorem zmr (C:Cx) (A n j z m:Nat):zeL C A n j z m:=by
 induction m with
 |zero=>intro d S q w o;omega
 |succ m D=>intro d S q w o E h;exact zmq C A n j z m d S q w h E D (by omega)
theorem zms (C:Cx) (z n j o d:Nat) (S:Sv) (q:PS) (w:World) (h:IM C z n j o S q w) (A:d≤20):
  Calls Tryz.prog 183 #[.pointer (some ⟨o,0,none⟩),.int .i64 d] w (zQ C z n j o (pE C .sum d q) id exI S w):=zmr C z n j o _ d S q w (Nat.lt_succ_self _) A h
theorem zih {C:Cx} {s:ByteArray} (n:Nat): ∀{k:Nat} {q b:PS},zaB C s n k q= .ok b→b={q with pos:=q.pos+n}:=by
 induction n with
 |zero=>intro k q b h;cases h;rfl
 |succ n o=>
  intro k q b h
  rw[zaB] at h
  obtain⟨a,j,z⟩:=zf h
  rw[o z,(zb4 j).1]
  show ({q with pos:=q.pos+1+n}:PS)=_
  congr 1
  omega
theorem zii (x:Sm): ∀u∈smL x,u.oneCell'=true:=by
 intro u j
 simp[smL] at j
 rcases j with rfl|rfl|rfl<;>rfl
def stmtI (C:Cx) (k:Int) (n s:ByteArray) (q:PS):PR:=bd (pE C .sum 0 q) fun a=>bd (zaB C s s.size 0 a) fun b=>zV C k n b
theorem zd8 (C:Cx) (gt A j D:Nat) (S:Sv) (q:PS) (E:Int) (n s:ByteArray) (w:World) (h:IM C gt A j D S q w) (hs:s.size≤100) (h0:0<s.size):
  Calls Tryz.prog 154 #[.pointer (some ⟨D,0,none⟩),.int .i64 E,.string n,.string s] w (zQ C gt A j D (stmtI C E n s q) id (fun _=>.tuple #[]) S w):=by
 obtain⟨i0,hi,ae,aj,ai⟩:=info_parts Tryz.infoStmt
 have HH:=zc h
 have HY:=zc (stmtI.eq_1 C E n s q)
 clear h
 go_enter Tryz.func154,Tryz.ntmps154
 go_wp2_with fail
 refine (zms C gt A j D 0 S q _ HH.out (by omega)).mono ?_
 cases Y:pE C .sum 0 q with
 |error p=>
  rintro e w1 ⟨rfl,Z⟩
  have HB:Hid (Below j w w1):=(HH.out.back (IS.refl _ _ _)).trans Z
  have X:Hid (stmtI C E n s q= .error p):=bdE HY.out Y
  unfold Pan
  go_wp2
  refine⟨rfl,?_⟩
  rw[X.out]
  exact⟨rfl,HB.out⟩
 |ok U=>
  rintro e w1 ⟨rfl,S1,m,s⟩
  have ah:=zc m
  have V:=zc s
  clear m s
  have ac:=zc (bdO HY.out Y)
  unfold exI
  go_wp2_with fail
  refine (zgz C gt A j D S1 U s _ ah.out hs).mono ?_
  cases K:zaB C s s.size 0 U with
  |error p=>
   rintro e w2 ⟨rfl,Z⟩
   have HB:Hid (Below j w w2):=(HH.out.back V.out).trans Z
   have X:Hid (stmtI C E n s q= .error p):=bdE ac.out K
   unfold Pan
   go_wp2
   refine⟨rfl,?_⟩
   rw[X.out]
   exact⟨rfl,HB.out⟩
  |ok z=>
   rintro e w2 ⟨rfl,S2,m,s⟩
   have o:=zc m
   have ad:Hid (IS D S w S2 w2):=V.out.trans s
   clear m s
   have M:=zc (bdO ac.out K)
   have J:=zih _ K
   have O:0<z.pos:=by rw[J];show 0<U.pos+s.size;omega
   have HE:Hid (z.ex=U.ex):=by show _=_;rw[J]
   clear J
   have ak:=o.out.mem.inv.st
   obtain⟨c0,c1,c2,c3,c4,c5,c6,c7,c8,c9,cf⟩:=zac o.out.cells
   go_wp2_with fail
   by_cases hn:z.st.length<80
   ·have HZ:=zc (M.out.trans (show zV C E n z=_ from if_neg (by omega)))
    refine (zd3 D z.st.length 80 _ (by omega)).mono ?_
    rintro e w' ⟨rfl,hw⟩
    rw[hw]
    clear hw w'
    have HN:Hid (some D≠S2.st.blk):=fun e=>o.out.free (.inr (.inr (.inr (.inl e.symm))))
    have al:=o.out.lt
    have H:=fun I=>(o.out.mem.own.st.alloc I)
    have N:=fun I=>(o.out.alloc I).mem.base
    have ab:=fun I=>(o.out.alloc I).lt
    have Q:=fun I=>(o.out.alloc I).cells
    go_wp2_with (at_builtin;refine zcu _ rfl _ _ 25 rfl j 106 i0 _ 3 32 Tryz.underlying25 hi ae aj ai rfl (by decide) (by decide) S2.st z.st.length _ (by rfl) (H _) w2.heap.size (smL ⟨E,n,(U.ex.length:Int)-1⟩) (by rfl) (by exact heap_alloc_new w2 _) rfl (zii _) (by omega) (N _) ?_;intro r' wz hr L aa;have g2:=(L.block D (ab _) HN.out).trans (Q _);obtain⟨d0,d1,d2,d3,d4,d5,d6,d7,d8,d9,df⟩:=zac g2;have HR:Hid (OwnR wz j 106 3 r' (z.st.length+1) _):=hr;have ag:Hid (World.grownBy _ wz _):=L;have af:Hid (_∨_):=aa;clear hr L aa g2 c0 c1 c2 c3 c4 c5 c6 c7 c8 c9 cf H N ab Q)
    go_wp2
    go_end0
    obtain⟨m',s'⟩:=o.out.grow_st ((Below.refl _ _).alloc (Nat.le_refl _) _) ag.out HR.out af.out hn
    rw[HZ.out]
    rw[←HE.out] at m'
    exact⟨rfl,_,m',ad.out.trans s'⟩
   ·have HZ:Hid (stmtI C E n s q= .error (zr C (z.pos-1))):=M.out.trans (if_pos (by omega))
    refine (zeb C gt A j D S2 z z.st.length 80 _ o.out (by omega) O).mono ?_
    rintro e wz ⟨rfl,Z⟩
    have HB:Hid (Below j w wz):=(HH.out.back ad.out).trans (Z.mono o.out.mem.base)
    have X:Hid (stmtI C E n s q= .error (zr C (z.pos-1))):=HZ.out
    unfold Pan
    go_wp2
    refine⟨rfl,?_⟩
    rw[X.out]
    exact⟨rfl,HB.out⟩
def letJ (C:Cx) (k:Int) (q:PS):PR:=bd (zj C false q) fun a=>bd (zd C 4 cEq a.1) fun b=>stmtI C k a.2 cSemi b
def fnI (C:Cx) (q:PS):PR:=bd (zj C false q) fun a=>bd (zaB C cCall cCall.size 0 a.1) fun b=>bd (zd C 1 zdT b) fun c=>stmtI C 2 a.2 cSemiRight c
def printI (C:Cx) (q:PS):PR:=bd (zd C 4 zn q) fun a=>stmtI C 4 sNone cShutSemi a
theorem zg7 (C:Cx) (K n j o:Nat) (S:Sv) (q:PS) (w:World) (h:IM C K n j o S q w):
  Calls Tryz.prog 144 #[.pointer (some ⟨o,0,none⟩)] w (zQ C K n j o (letJ C 1 q) id (fun _=>.tuple #[]) S w):=by
 have Q:=zc h
 have HY:=zc (letJ.eq_1 C 1 q)
 clear h
 go_enter Tryz.func144,Tryz.ntmps144
 go_wp2_with fail
 refine (zdb C K n j o S q _ Q.out).mono ?_
 cases I:zj C false q with
 |error p=>
  rintro e w1 ⟨rfl,N⟩
  have D:Hid (Below j w w1):=(Q.out.back (IS.refl _ _ _)).trans N
  have H:Hid (letJ C 1 q= .error p):=bdE HY.out I
  unfold Pan
  go_wp2
  refine⟨rfl,?_⟩
  rw[H.out]
  exact⟨rfl,D.out⟩
 |ok O=>
  rintro e w1 ⟨rfl,S1,m,s⟩
  have ab:=zc m
  have E:=zc s
  clear m s
  have J:=zc (bdO HY.out I)
  go_wp2_with fail
  refine (zbX C K n j o S1 (O.1) 61 _ ab.out).mono ?_
  cases A:zd C 4 cEq (O.1) with
  |error p=>
   rintro e Y ⟨rfl,N⟩
   have D:Hid (Below j w Y):=(Q.out.back E.out).trans N
   have H:Hid (letJ C 1 q= .error p):=bdE J.out A
   unfold Pan
   go_wp2
   refine⟨rfl,?_⟩
   rw[H.out]
   exact⟨rfl,D.out⟩
  |ok a2=>
   rintro e Y ⟨rfl,S2,m,s⟩
   have aa:=zc m
   have L:Hid (IS o S w S2 Y):=E.out.trans s
   clear m s
   have z:=zc (bdO J.out A)
   go_wp2_with fail
   refine (zd8 C K n j o S2 a2 1 O.2 cSemi _ aa.out (by decide) (by decide)).mono ?_
   cases M:stmtI C 1 O.2 cSemi a2 with
   |error p=>
    rintro e Z ⟨rfl,N⟩
    have D:Hid (Below j w Z):=(Q.out.back L.out).trans N
    have H:Hid (letJ C 1 q= .error p):=z.out.trans M
    unfold Pan
    go_wp2
    refine⟨rfl,?_⟩
    rw[H.out]
    exact⟨rfl,D.out⟩
   |ok a3=>
    rintro e Z ⟨rfl,S3,m,s⟩
    have X:=zc m
    have V:Hid (IS o S w S3 Z):=L.out.trans s
    clear m s
    have U:=zc (z.out.trans M)
    go_wp2
    go_end0
    rw[U.out]
    exact⟨rfl,S3,X.out,V.out⟩
theorem zij (C:Cx) (K n j o:Nat) (S:Sv) (q:PS) (w:World) (h:IM C K n j o S q w):
  Calls Tryz.prog 90 #[.pointer (some ⟨o,0,none⟩)] w (zQ C K n j o (letJ C 3 q) id (fun _=>.tuple #[]) S w):=by
 have Q:=zc h
 have HY:=zc (letJ.eq_1 C 3 q)
 clear h
 go_enter Tryz.func90,Tryz.ntmps90
 go_wp2_with fail
 refine (zdb C K n j o S q _ Q.out).mono ?_
 cases I:zj C false q with
 |error p=>
  rintro e w1 ⟨rfl,N⟩
  have D:Hid (Below j w w1):=(Q.out.back (IS.refl _ _ _)).trans N
  have H:Hid (letJ C 3 q= .error p):=bdE HY.out I
  unfold Pan
  go_wp2
  refine⟨rfl,?_⟩
  rw[H.out]
  exact⟨rfl,D.out⟩
 |ok O=>
  rintro e w1 ⟨rfl,S1,m,s⟩
  have ab:=zc m
  have E:=zc s
  clear m s
  have J:=zc (bdO HY.out I)
  go_wp2_with fail
  refine (zbX C K n j o S1 (O.1) 61 _ ab.out).mono ?_
  cases A:zd C 4 cEq (O.1) with
  |error p=>
   rintro e Y ⟨rfl,N⟩
   have D:Hid (Below j w Y):=(Q.out.back E.out).trans N
   have H:Hid (letJ C 3 q= .error p):=bdE J.out A
   unfold Pan
   go_wp2
   refine⟨rfl,?_⟩
   rw[H.out]
   exact⟨rfl,D.out⟩
  |ok a2=>
   rintro e Y ⟨rfl,S2,m,s⟩
   have aa:=zc m
   have L:Hid (IS o S w S2 Y):=E.out.trans s
   clear m s
   have z:=zc (bdO J.out A)
   go_wp2_with fail
   refine (zd8 C K n j o S2 a2 3 O.2 cSemi _ aa.out (by decide) (by decide)).mono ?_
   cases M:stmtI C 3 O.2 cSemi a2 with
   |error p=>
    rintro e Z ⟨rfl,N⟩
    have D:Hid (Below j w Z):=(Q.out.back L.out).trans N
    have H:Hid (letJ C 3 q= .error p):=z.out.trans M
    unfold Pan
    go_wp2
    refine⟨rfl,?_⟩
    rw[H.out]
    exact⟨rfl,D.out⟩
   |ok a3=>
    rintro e Z ⟨rfl,S3,m,s⟩
    have X:=zc m
    have V:Hid (IS o S w S3 Z):=L.out.trans s
    clear m s
    have U:=zc (z.out.trans M)
    go_wp2
    go_end0
    rw[U.out]
    exact⟨rfl,S3,X.out,V.out⟩
theorem zg8 (C:Cx) (E n j o:Nat) (S:Sv) (q:PS) (w:World) (h:IM C E n j o S q w):
  Calls Tryz.prog 145 #[.pointer (some ⟨o,0,none⟩)] w (zQ C E n j o (fnI C q) id (fun _=>.tuple #[]) S w):=by
 have U:=zc h
 have HY:=zc (fnI.eq_1 C q)
 clear h
 go_enter Tryz.func145,Tryz.ntmps145
 go_wp2_with fail
 refine (zdb C E n j o S q _ U.out).mono ?_
 cases M:zj C false q with
 |error p=>
  rintro e w1 ⟨rfl,D⟩
  have z:Hid (Below j w w1):=(U.out.back (IS.refl _ _ _)).trans D
  have A:Hid (fnI C q= .error p):=bdE HY.out M
  unfold Pan
  go_wp2
  refine⟨rfl,?_⟩
  rw[A.out]
  exact⟨rfl,z.out⟩
 |ok X=>
  rintro e w1 ⟨rfl,S1,m,s⟩
  have ae:=zc m
  have L:=zc s
  clear m s
  have N:=zc (bdO HY.out M)
  go_wp2_with fail
  refine (zgz C E n j o S1 (X.1) cCall _ ae.out (by decide)).mono ?_
  cases K:zaB C cCall cCall.size 0 (X.1) with
  |error p=>
   rintro e w2 ⟨rfl,D⟩
   have z:Hid (Below j w w2):=(U.out.back L.out).trans D
   have A:Hid (fnI C q= .error p):=bdE N.out K
   unfold Pan
   go_wp2
   refine⟨rfl,?_⟩
   rw[A.out]
   exact⟨rfl,z.out⟩
  |ok a2=>
   rintro e w2 ⟨rfl,S2,m,s⟩
   have ab:=zc m
   have O:Hid (IS o S w S2 w2):=L.out.trans s
   clear m s
   have H:=zc (bdO N.out K)
   go_wp2_with fail
   refine (zea C E n j o S2 a2 zdT _ ab.out).mono ?_
   cases Q:zd C 1 zdT a2 with
   |error p=>
    rintro e w3 ⟨rfl,D⟩
    have z:Hid (Below j w w3):=(U.out.back O.out).trans D
    have A:Hid (fnI C q= .error p):=bdE H.out Q
    unfold Pan
    go_wp2
    refine⟨rfl,?_⟩
    rw[A.out]
    exact⟨rfl,z.out⟩
   |ok a3=>
    rintro e w3 ⟨rfl,S3,m,s⟩
    have Z:=zc m
    have J:Hid (IS o S w S3 w3):=O.out.trans s
    clear m s
    have I:=zc (bdO H.out Q)
    go_wp2_with fail
    refine (zd8 C E n j o S3 a3 2 X.2 cSemiRight _ Z.out (by decide) (by decide)).mono ?_
    cases V:stmtI C 2 X.2 cSemiRight a3 with
    |error p=>
     rintro e Y ⟨rfl,D⟩
     have z:Hid (Below j w Y):=(U.out.back J.out).trans D
     have A:Hid (fnI C q= .error p):=I.out.trans V
     unfold Pan
     go_wp2
     refine⟨rfl,?_⟩
     rw[A.out]
     exact⟨rfl,z.out⟩
    |ok a4=>
     rintro e Y ⟨rfl,S4,m,s⟩
     have aa:=zc m
     have ad:Hid (IS o S w S4 Y):=J.out.trans s
     clear m s
     have ac:=zc (I.out.trans V)
     go_wp2
     go_end0
     rw[ac.out]
     exact⟨rfl,S4,aa.out,ad.out⟩
theorem zik (C:Cx) (H n j o:Nat) (S:Sv) (q:PS) (w:World) (h:IM C H n j o S q w):
  Calls Tryz.prog 146 #[.pointer (some ⟨o,0,none⟩)] w (zQ C H n j o (printI C q) id (fun _=>.tuple #[]) S w):=by
 have Q:=zc h
 have X:=zc (printI.eq_1 C q)
 clear h
 go_enter Tryz.func146,Tryz.ntmps146
 go_wp2_with fail
 refine (zbX C H n j o S q 40 _ Q.out).mono ?_
 cases D:zd C 4 zn q with
 |error p=>
  rintro e Y ⟨rfl,O⟩
  have K:Hid (Below j w Y):=(Q.out.back (IS.refl _ _ _)).trans O
  have L:Hid (printI C q= .error p):=bdE X.out D
  unfold Pan
  go_wp2
  refine⟨rfl,?_⟩
  rw[L.out]
  exact⟨rfl,K.out⟩
 |ok V=>
  rintro e Y ⟨rfl,S1,m,s⟩
  have U:=zc m
  have A:=zc s
  clear m s
  have E:=zc (bdO X.out D)
  go_wp2_with fail
  refine (zd8 C H n j o S1 V 4 sNone cShutSemi _ U.out (by decide) (by decide)).mono ?_
  cases z:stmtI C 4 sNone cShutSemi V with
  |error p=>
   rintro e J ⟨rfl,O⟩
   have K:Hid (Below j w J):=(Q.out.back A.out).trans O
   have L:Hid (printI C q= .error p):=E.out.trans z
   unfold Pan
   go_wp2
   refine⟨rfl,?_⟩
   rw[L.out]
   exact⟨rfl,K.out⟩
  |ok a2=>
   rintro e J ⟨rfl,Z,m,s⟩
   have M:=zc m
   have N:Hid (IS o S w Z J):=A.out.trans s
   clear m s
   have I:=zc (E.out.trans z)
   go_wp2
   go_end0
   rw[I.out]
   exact⟨rfl,Z,M.out,N.out⟩
theorem zil (C:Cx) (z n j o:Nat) (S:Sv) (q:PS) (w:World) (h:IM C z n j o S q w):
  Calls Tryz.prog 147 #[.pointer (some ⟨o,0,none⟩)] w (zQ C z n j o (stmtI C 5 sNone cSemi q) id (fun _=>.tuple #[]) S w):=by
 have K:=zc h
 clear h
 go_enter Tryz.func147,Tryz.ntmps147
 go_wp2_with fail
 refine (zd8 C z n j o S q 5 sNone cSemi _ K.out (by decide) (by decide)).mono ?_
 cases A:stmtI C 5 sNone cSemi q with
 |error p=>
  rintro e H ⟨rfl,J⟩
  unfold Pan
  go_wp2
  refine⟨rfl,?_⟩
  rw[A]
  exact⟨rfl,J⟩
 |ok a=>
  rintro e H ⟨rfl,D,m,s⟩
  have E:=zc m
  have I:=zc s
  clear m s
  go_wp2
  go_end0
  rw[A]
  exact⟨rfl,D,E.out,I.out⟩
theorem zmt (C:Cx) (z n j o:Nat) (S:Sv) (q:PS) (w:World) (h:IM C z n j o S q w):
  Calls Tryz.prog 148 #[.pointer (some ⟨o,0,none⟩)] w (zQ C z n j o (stmtI C 6 sNone cSemi q) id (fun _=>.tuple #[]) S w):=by
 have K:=zc h
 clear h
 go_enter Tryz.func148,Tryz.ntmps148
 go_wp2_with fail
 refine (zd8 C z n j o S q 6 sNone cSemi _ K.out (by decide) (by decide)).mono ?_
 cases A:stmtI C 6 sNone cSemi q with
 |error p=>
  rintro e H ⟨rfl,J⟩
  unfold Pan
  go_wp2
  refine⟨rfl,?_⟩
  rw[A]
  exact⟨rfl,J⟩
 |ok a=>
  rintro e H ⟨rfl,D,m,s⟩
  have E:=zc m
  have I:=zc s
  clear m s
  go_wp2
  go_end0
  rw[A]
  exact⟨rfl,D,E.out,I.out⟩
def zcm (C:Cx) (i:Nat):ByteArray:=if (ze C i).kind==1 then (ze C i).text else sNone
theorem zim (C:Cx) (D n j z:Nat) (S:Sv) (q:PS) (w:World) (h:IM C D n j z S q w):
  Calls Tryz.prog 89 #[.pointer (some ⟨z,0,none⟩)] w fun e I=>e= .returned (.string (zcm C q.pos))∧Below w.heap.size w I:=by
 have E:=zc h
 clear h
 cases H:((ze C q.pos).kind==1) with
 |true=>
  have A:Hid (zcm C q.pos=(ze C q.pos).text):=by show _=_;rw[zcm,H];rfl
  go_enter Tryz.func89,Tryz.ntmps89
  go_wp2_with fail
  refine (zbr C D n j z S q _ E.out).mono ?_
  rintro e J ⟨rfl,o⟩
  unfold tkV
  go_wp2
  go_ret
  rw[A.out]
  exact⟨rfl,o.alloc o.size _⟩
 |false=>
  have A:Hid (zcm C q.pos=sNone):=by show _=_;rw[zcm,H];rfl
  go_enter Tryz.func89,Tryz.ntmps89
  go_wp2_with fail
  refine (zbr C D n j z S q _ E.out).mono ?_
  rintro e J ⟨rfl,o⟩
  unfold tkV
  go_wp2
  go_ret
  rw[A.out]
  exact⟨rfl,o.alloc o.size _⟩
theorem OwnR.stmtName {w:World} {j:Nat} {r:Rw} {l:List Sm} {x:Sm} (h:OwnR w j 106 3 r (l++[x]).length ((l++[x]).flatMap smL)): ∃g,r.a=some ⟨g,0,none⟩∧w.cell? ⟨g,l.length*3+1,none⟩=some (.string x.name):=by
 rcases h.2 with ⟨_,E⟩|⟨g,A,D,n,_⟩
 ·simp at E
 ·simp only[Value.slice.injEq] at n
  have o:=h
  unfold OwnR at o
  rw[n.1,n.2.2] at o
  refine⟨g,n.1,?_⟩
  rw[World.ownsRow.cellAt o _ (by simp;omega)]
  have z: ∀l:List Sm,(l.flatMap smL).length=l.length*3:=by
   intro l
   induction l with
   |nil=>rfl
   |cons y l q=>simp[List.flatMap_cons,smL,q] at q ⊢;omega
  rw[List.flatMap_append,List.getElem?_append_right (by rw[z];omega),z]
  simp[smL]
theorem zmu (C:Cx) (I n j A:Nat) (S:Sv) (q:PS) (l:List Sm) (x:Sm) (w:World) (h:IM C I n j A S q w) (M:q.st=l++[x]) (Q:x.name.size≤281474976710656) (hp:0<q.pos):
  Calls Tryz.prog 179 #[.pointer (some ⟨A,0,none⟩)] w (zQ C I n j A (zo C ⟨1,x.name,x.name,sNone⟩ q) id (fun _=>.tuple #[]) S w):=by
 have HH:=zc h
 obtain⟨_,_,_,_,_,_,_,D,_,_,_⟩:=zac h.cells
 have N:=h.mem.own.st
 rw[M] at N D
 obtain⟨g,hg,V⟩:=N.stmtName
 have H:=h.mem.inv.st
 rw[M] at H
 have E:(l++[x]).length=l.length+1:=by simp
 rw[E] at D H
 rw[hg] at D
 have X:=zc D
 have CN:=zc V
 have e1:((l.length+1:Nat):Int)-1=(l.length:Int):=by omega
 have e2:(l.length:Int)+1-1=(l.length:Int):=by omega
 have ab:IntKind.i64.wrap (l.length:Int)=(l.length:Int):=IntWalk.i64_in _ ⟨by omega,by omega⟩
 have aa:(l.length:Int)<((l.length+1:Nat):Int):=by omega
 have U:(l.length:Int)<(l.length:Int)+1:=by omega
 have cC: ∀d Z,Calls Tryz.prog 85 #[.string x.name] (grow (redrawn w d) Z) fun e K=>e= .returned (.string x.name)∧∃p:Regrown,K=grow (redrawn w p.d) p.os:=fun d Z=>Calls.regrown_of (zib _ _ Q)
 clear h D V N hg M
 go_enter Tryz.func179,Tryz.ntmps179
 go_wp2_with fail
 have k7:=cell_regrown X.out
 have kN:=cell_regrown CN.out
 refine wp_region_quiet_below (by kernel_rfl) (by kernel_rfl) ?_
 repeat (go_big_quiet_step (exact cC _ _))
 refine wpQuiet_nil ?_
 intro w1 J
 obtain⟨⟨dq,ac⟩,o⟩:=J
 have z:Hid (Below w.heap.size w w1):=by show Below _ _ _;rw[o];exact below_regrown _ _ _
 clear o k7 kN cC X CN
 have O:Hid (IM C I n j A S q w1):=HH.out.later z.out
 go_wp2_with fail
 refine (zeJ C I n j A S q ⟨1,x.name,x.name,sNone⟩ _ O.out hp).mono ?_
 cases hn:zo C ⟨1,x.name,x.name,sNone⟩ q with
 |error p=>
  rintro e L ⟨rfl,hb⟩
  have HB:Hid (Below j w L):=(z.out.mono HH.out.mem.base).trans hb
  unfold Pan
  go_wp2
  refine⟨rfl,?_⟩
  rw[hn]
  exact⟨rfl,HB.out⟩
 |ok a=>
  rintro e L ⟨rfl,Y,m,s⟩
  have HM:=zc m
  have HS:Hid (IS A S w Y L):=(IS.below z.out).trans s
  clear m s
  go_wp2
  go_end0
  rw[hn]
  exact⟨rfl,Y,HM.out,HS.out⟩
def Fr (e:TypeId) (size:Nat) (w:World) (b:Nat) (r:Rw) (n:Nat) (xs:List Value) (S:Sv):Prop:=OwnR w b e size r n xs∧∀k,r.blk=some k→¬S.has k
theorem Fr.ngp {C:Cx} {A o j z size b n:Nat} {S:Sv} {q:PS} {w:World} {e:TypeId} {r:Rw} {xs:List Value} (f:Fr e size w b r n xs S) (h:IM C A o j z S q w) (D:e≠59) {k:Nat} (E:r.blk=some k):k≠z:=by
 rintro rfl
 obtain⟨_,_,c,g⟩:=f.1.typed E
 rw[h.cells] at g
 simp only[Option.some.injEq,Obj.cells.injEq] at g
 exact D g.2.1.symm
theorem Fr.ngt {C:Cx} {z o j A size b n:Nat} {S:Sv} {q:PS} {w:World} {e:TypeId} {r:Rw} {xs:List Value} (f:Fr e size w b r n xs S) (h:IM C z o j A S q w) (D:e≠111) {k:Nat} (H:r.blk=some k):k≠z:=by
 rintro rfl
 obtain⟨_,_,c,g⟩:=f.1.typed H
 obtain⟨I,E⟩:=zfr h.mem.tok
 rw[E] at g
 simp only[Option.some.injEq,Obj.cells.injEq] at g
 exact D g.2.1.symm
theorem Fr.step {C:Cx} {H o j A size b n:Nat} {S E:Sv} {q:PS} {w z:World} {e:TypeId} {r:Rw} {xs:List Value} (f:Fr e size w b r n xs S) (h:IM C H o j A S q w) (J:e≠59) (s:IS A S w E z):Fr e size z b r n xs E:=by
 refine⟨f.1.keep fun k g=>s.block k (f.1.typed g).2.1 (f.2 k g) (f.ngp h J g),fun k g I=>?_⟩
 rcases s.sub k I with D|D
 ·exact f.2 k g D
 ·have:=(f.1.typed g).2.1
  omega
theorem Fr.low {size b j n:Nat} {S:Sv} {w:World} {e:TypeId} {r:Rw} {xs:List Value} (f:Fr e size w b r n xs S) (o:j≤b):Fr e size w j r n xs S:=⟨f.1.low o,f.2⟩
theorem Fr.later {size b n:Nat} {S:Sv} {w j:World} {e:TypeId} {r:Rw} {xs:List Value} (f:Fr e size w b r n xs S) (o:Below w.heap.size w j):Fr e size j b r n xs S:=⟨f.1.keep fun k g=>o.block k (f.1.typed g).2.1,f.2⟩
theorem IM.aside {C:Cx} {z n j o:Nat} {S:Sv} {q:PS} {W E:World} {b:Option Nat} (h:IM C z n j o S q W) (A:W.grownBy E b) (D: ∀k,b=some k→¬S.has k∧k≠o∧k≠z):IM C z n j o S q E:=by
 refine⟨⟨h.mem.own.keep fun k g=>A.block k (h.mem.own.has g).2 fun e=>(D k e.symm).1 g,h.mem.inv,zb0 h.mem.tok (A.block z (zan h.mem.tok).1 fun e=>(D z e.symm).2.2 rfl),h.mem.few,Nat.le_trans h.mem.base A.size⟩,(A.block o h.lt fun e=>(D o e.symm).2.1 rfl).trans h.cells,h.ge⟩
theorem IS.aside {q:Nat} {S o:Sv} {w W z:World} {b:Option Nat} (s:IS q S w o W) (j:W.grownBy z b) (D: ∀k,b=some k→w.heap.size≤k):IS q S w o z:=
 ⟨j.os.trans s.os,j.tape.trans s.tape,j.output.trans s.output,Nat.le_trans s.size j.size,fun k A E n=>(j.block k (Nat.lt_of_lt_of_le A s.size) fun e=>by have:=D k e.symm;omega).trans (s.block k A E n),s.sub⟩
theorem Fr.grown {size b n:Nat} {S:Sv} {W E:World} {e:TypeId} {r o:Rw} {xs I:List Value} {C:Cx} {L z j K:Nat} {q:PS} (f:Fr e size W b r n xs S) (h:IM C L z j K S q W) (J:OwnR E b e size o (n+1) I) (D:o.blk=r.blk∨o.blk=some W.heap.size):Fr e size E b o (n+1) I S:=by
 refine⟨J,fun k g H=>?_⟩
 rcases D with A|A
 ·exact f.2 k (A.symm.trans g) H
 ·have M:W.heap.size=k:=Option.some.inj (A.symm.trans g)
  have:=(h.mem.own.has H).2
  omega
theorem zmv {α:Type} (f:α→List Value) (m:Nat) (n: ∀x,(f x).length=m): ∀(l:List α) (j i:Nat) (x:α),l[j]? =some x→i<m→(l.flatMap f)[j*m+i]? =(f x)[i]?:=by
 intro l
 induction l with
 |nil=>intro j i x h;simp at h
 |cons y l q=>
  intro j i x h o
  rw[List.flatMap_cons]
  match j with
  |0=>
   simp only[List.getElem?_cons_zero,Option.some.injEq] at h
   subst h
   rw[Nat.zero_mul,Nat.zero_add,List.getElem?_append_left (by rw[n];exact o)]
  |j+1=>
   simp only[List.getElem?_cons_succ] at h
   rw[List.getElem?_append_right (by rw[n,Nat.succ_mul];omega),n,←q j i x h o]
   congr 1
   rw[Nat.succ_mul]
   omega
theorem OwnR.elem {α:Type} {f:α→List Value} {m:Nat} (H: ∀x,(f x).length=m) {w:World} {n:Nat} {e:TypeId} {r:Rw} {l:List α} (h:OwnR w n e m r l.length (l.flatMap f)) {j:Nat} {x:α} (A:l[j]? =some x): ∃g,r.a=some ⟨g,0,none⟩∧∀i,i<m→w.cell? ⟨g,j*m+i,none⟩=(f x)[i]?:=by
 have q:j<l.length:=(List.getElem?_eq_some_iff.1 A).1
 rcases h.2 with ⟨_,K⟩|⟨g,D,E,o,_⟩
 ·omega
 ·simp only[Value.slice.injEq] at o
  have z:=h
  unfold OwnR at z
  rw[o.1,o.2.2] at z
  refine⟨g,o.1,fun i J=>?_⟩
  have I:j*m+i<l.length*m:=by
   have:=Nat.mul_le_mul_right m q
   rw[Nat.succ_mul] at this
   omega
  rw[World.ownsRow.cellAt z _ I]
  exact zmv f m H l j i x A J
structure OwnMd (w:World) (base:Nat) (S:Sv) (m:Md):Prop where
 rq:OwnR w base 9 1 S.rq m.rq.length (m.rq.map .string)
 im:OwnR w base 100 3 S.im m.im.length (m.im.flatMap imL)
 ep:OwnR w base 102 4 S.ep m.ep.length (m.ep.flatMap epL)
 st:OwnR w base 106 3 S.st m.st.length (m.st.flatMap smL)
 ex:OwnR w base 108 6 S.ex m.ex.length (m.ex.flatMap exL)
theorem OwnMod.md {w:World} {j:Nat} {S:Sv} {q:PS} (h:OwnMod w j S q):OwnMd w j S (zdx q):=⟨h.rq,h.im,h.ep,h.st,h.ex⟩
theorem OwnMd.later {w o:World} {j:Nat} {S:Sv} {m:Md} (h:OwnMd w j S m) (n:Below w.heap.size w o):OwnMd o j S m:=
 ⟨h.rq.keep fun k g=>n.block k (h.rq.typed g).2.1,h.im.keep fun k g=>n.block k (h.im.typed g).2.1,h.ep.keep fun k g=>n.block k (h.ep.typed g).2.1,h.st.keep fun k g=>n.block k (h.st.typed g).2.1,h.ex.keep fun k g=>n.block k (h.ex.typed g).2.1⟩
theorem OwnMd.alloc {w:World} {j:Nat} {S:Sv} {m:Md} (h:OwnMd w j S m) (o:Obj):OwnMd (w.alloc o) j S m:=h.later ((Below.refl _ _).alloc (Nat.le_refl _) _)
def zp (S:Sv) (m:Md):Value:=.agg #[.slice S.rq.a m.rq.length S.rq.cap,.slice S.im.a m.im.length S.im.cap,.slice S.ep.a m.ep.length S.ep.cap,.slice S.st.a m.st.length S.st.cap,.slice S.ex.a m.ex.length S.ex.cap]
theorem OwnMd.expr {w:World} {n:Nat} {S:Sv} {m:Md} (h:OwnMd w n S m) {i:Nat} (o:i<m.ex.length): ∃g,S.ex.a=some ⟨g,0,none⟩∧g<w.heap.size∧w.cell? ⟨g,i*6,none⟩=some (.int .i64 (m.ex.getD i zg).kind)∧w.cell? ⟨g,i*6+1,none⟩=some (.int .i64 (m.ex.getD i zg).num)∧w.cell? ⟨g,i*6+2,none⟩=some (.string (m.ex.getD i zg).name)∧w.cell? ⟨g,i*6+3,none⟩=some (.string (m.ex.getD i zg).field)∧w.cell? ⟨g,i*6+4,none⟩=some (.int .i64 (m.ex.getD i zg).l)∧w.cell? ⟨g,i*6+5,none⟩=some (.int .i64 (m.ex.getD i zg).r):=by
 obtain⟨g,q,j⟩:=OwnR.elem (f:=exL) (m:=6) (fun _=>rfl) h.ex (List.getElem?_eq_getElem o)
 rw[zdz o]
 exact⟨g,q,(h.ex.typed (by rw[Rw.blk,q];rfl)).2.1,j 0 (by omega),j 1 (by omega),j 2 (by omega),j 3 (by omega),j 4 (by omega),j 5 (by omega)⟩
def zcM (N:Nat) (x:Ep):Prop:=x.name.size≤N∧x.loc.size≤N∧x.spec.size≤N
def zeM (N:Nat) (x:Ex):Prop:=x.name.size≤N∧x.field.size≤N∧0≤x.num∧x.num≤1000000
structure BS (N:Nat) (q:PS):Prop where
 rq: ∀x∈q.rq,x.size≤N
 im: ∀x∈q.im,x.spec.size≤N∧x.first.size≤N∧x.loc.size≤N
 ep: ∀x∈q.ep,zcM N x
 la: ∀x∈q.la,zcM N x
 st: ∀x∈q.st,x.name.size≤N
 ex: ∀x∈q.ex,zeM N x
def BT (N:Nat) (ts:List Tk):Prop:=∀t∈ts,t.text.size≤N∧0≤t.num∧t.num≤1000000
theorem zmw {s:ByteArray} {o:Bool} {a e:Nat} {t:Tk} (h:Tok s o a t e):t.text.size≤s.size∧0≤t.num∧t.num≤1000000:=by
 cases h using Tok.elim with
 |name _ _=>exact⟨by simp only[ByteArray.size_extract];omega,by simp,by simp⟩
 |num h n=>
  refine⟨Nat.zero_le _,?_,n.2.2.2.2.1⟩
  have:=zgf (s:=s) (a:=a) 0 (e-a) (fun j q=>by
   have:=n.1.2.2.1 (a+j) (by omega) (by omega)
   rw[zch] at this
   exact this.1) (Nat.zero_le _)
  rw[n.2.2.2.1]
  exact this.2
 |str _ _=>exact⟨by simp only[ByteArray.size_extract];omega,by simp,by simp⟩
 |sign _=>exact⟨by simp only[ByteArray.size_extract];omega,by simp,by simp⟩
theorem zmx {s:ByteArray} {z:Bool} {a n:Nat} {r:Except Nat (List Tk)} (h:Lx s z a n r): ∀j,r= .ok j→BT s.size j:=by
 induction h using Lx.ind with
 |done=>intro j k;cases k;intro t q;cases q
 |bad _ _=>intro j k;cases k
 | @tok a n e b t r h H q E D A=>
  intro j k
  cases r with
  |error p=>cases k
  |ok l=>
   cases k
   intro u o
   rcases List.mem_cons.1 o with rfl|o
   ·exact zmw q
   ·exact A l rfl u o
theorem zeN {N:Nat} {C:Cx} (n:BT N C.ts) (i:Nat):(ze C i).text.size≤N∧0≤(ze C i).num∧(ze C i).num≤1000000:=by
 by_cases j:i<C.ts.length
 ·have e:ze C i=C.ts[i]:=by simp[ze,List.getD,List.getElem?_eq_getElem j]
  rw[e]
  exact n _ (List.getElem_mem j)
 ·rw[zdl (by omega)]
  exact⟨Nat.zero_le _,by simp,by simp⟩
theorem zc2 {N:Nat} {q:PS} (h:BS N q):BS N (adv q):=⟨h.rq,h.im,h.ep,h.la,h.st,h.ex⟩
theorem zao {N:Nat} {C:Cx} {k:Int} {x:ByteArray} {q q':PS} (h:zd C k x q= .ok q') (j:BS N q):BS N q':=by
 obtain⟨rfl,_⟩:=zb4 h
 exact zc2 j
theorem zdd {N:Nat} {C:Cx} (j:BT N C.ts) {o:Bool} {q:PS} {y:PS×ByteArray} (h:zj C o q= .ok y) (n:BS N q):BS N y.1∧y.2.size≤N:=by
 obtain⟨rfl,_⟩:=zbd h
 exact⟨zc2 n,(zeN j _).1⟩
theorem zd9 {N:Nat} {C:Cx} {x:Ex} {q q':PS} (h:zN C x q= .ok q') (n:BS N q) (o:zeM N x):BS N q':=by
 obtain⟨rfl,_⟩:=zb5 h
 refine⟨n.rq,n.im,n.ep,n.la,n.st,fun y j=>?_⟩
 rcases List.mem_append.1 j with j|j
 ·exact n.ex y j
 ·rw[List.mem_singleton] at j
  rw[j]
  exact o
theorem zee {N:Nat} {k l r:Int} {n f:ByteArray} (o:n.size≤N) (j:f.size≤N):zeM N ⟨k,0,n,f,l,r⟩:=⟨o,j,Int.le_refl _,by simp⟩
theorem zin {N:Nat} {C:Cx} {n:ByteArray} {q q':PS} (h:zbc C n q= .ok q') (j:BS N q) (o:n.size≤N):BS N q':=by
 unfold zbc at h
 split at h
 ·obtain⟨a,D,E⟩:=zf h
  obtain⟨b,z,A⟩:=zf D
  exact zd9 E (zao A (zao z j)) (zee o (Nat.zero_le _))
 ·exact zd9 h j (zee o (Nat.zero_le _))
theorem zmy {N:Nat} {C:Cx} {n f:ByteArray} {q q':PS} (h:zbx C n f q= .ok q') (o:BS N q) (z:n.size≤N) (j:f.size≤N):BS N q':=by
 unfold zbx at h
 split at h
 ·obtain⟨a,E,H⟩:=zf h
  obtain⟨b,A,D⟩:=zf E
  exact zd9 H (zao D (zao A o)) (zee z j)
 ·exact zd9 h o (zee z j)
theorem zmz {N:Nat} {C:Cx} (H:BT N C.ts) (K:8≤N) (f:Nat): ∀(E:NT) (d:Nat) (q q':PS),ev C f E d q= .ok q'→BS N q→BS N q':=by
 induction f with
 |zero=>intro E d q q' h;cases E using NT.elim<;>cases h
 |succ f z=>
  intro E d q q' h o
  cases E using NT.elim with
  |sum=>
   rw[ev] at h
   obtain⟨a,n,j⟩:=zf h
   exact z _ _ _ _ j (z _ _ _ _ n o)
  |prod=>
   rw[ev] at h
   obtain⟨a,n,j⟩:=zf h
   exact z _ _ _ _ j (z _ _ _ _ n o)
  |sumT=>
   rw[ev] at h
   split at h
   ·obtain⟨a,n,j⟩:=zf h
    obtain⟨b,A,D⟩:=zf n
    exact z _ _ _ _ j (zd9 D (z _ _ _ _ A (zc2 o)) (zee (Nat.zero_le _) (Nat.zero_le _)))
   ·cases h
    exact o
  |prodT=>
   rw[ev] at h
   split at h
   ·obtain⟨a,n,j⟩:=zf h
    obtain⟨b,A,D⟩:=zf n
    exact z _ _ _ _ j (zd9 D (z _ _ _ _ A (zc2 o)) (zee (Nat.zero_le _) (Nat.zero_le _)))
   ·cases h
    exact o
  |part=>
   rw[ev] at h
   split at h
   ·exact zd9 h (zc2 o) ⟨Nat.zero_le _,Nat.zero_le _,(zeN H _).2⟩
   ·split at h
    ·split at h
     ·cases h
     ·obtain⟨a,n,j⟩:=zf h
      exact zao j (z _ _ _ _ n (zc2 o))
    ·split at h
     ·exact zin h (zc2 o) (Nat.le_trans (show 5≤8 by omega) K)
     ·obtain⟨a,n,j⟩:=zf h
      obtain⟨J,I⟩:=zdd H n o
      split at j
      ·obtain⟨b,A,D⟩:=zf j
       obtain⟨L,M⟩:=zdd H A (zc2 J)
       exact zmy D L I M
      ·exact zin j J I
theorem zef {N:Nat} {C:Cx} (o:BT N C.ts) (n:8≤N) {j:NT} {d:Nat} {q q':PS} (h:pE C j d q= .ok q') (z:BS N q):BS N q':=zmz o n _ _ _ _ _ h z
theorem zio {N:Nat} {C:Cx} (o:BT N C.ts) {q:PS} {a:PS×ByteArray} (h:zH C q= .ok a) (j:BS N q):BS N a.1∧a.2.size≤N:=by
 unfold zH at h
 split at h
 ·split at h
  ·cases h
   exact⟨zc2 j,(zeN o _).1⟩
  ·split at h
   ·cases h
   ·cases h
    refine⟨⟨fun x n=>?_,j.im,j.ep,j.la,j.st,j.ex⟩,(zeN o _).1⟩
    rcases List.mem_append.1 n with n|n
    ·exact j.rq x n
    ·rw[List.mem_singleton] at n
     rw[n]
     exact (zeN o _).1
 ·cases h
theorem zeg {N:Nat} {C:Cx} {k:Int} {n:ByteArray} {q q':PS} (h:zV C k n q= .ok q') (o:BS N q) (z:n.size≤N):BS N q':=by
 unfold zV at h
 split at h
 ·cases h
 ·cases h
  refine⟨o.rq,o.im,o.ep,o.la,fun x j=>?_,o.ex⟩
  rcases List.mem_append.1 j with j|j
  ·exact o.st x j
  ·rw[List.mem_singleton] at j
   rw[j]
   exact z
theorem zg9 {N:Nat} {C:Cx} {y:Im} {q q':PS} (h:zak C y q= .ok q') (n:BS N q) (o:y.spec.size≤N∧y.first.size≤N∧y.loc.size≤N):BS N q':=by
 unfold zak at h
 split at h
 ·cases h
 ·cases h
  refine⟨n.rq,fun x j=>?_,n.ep,n.la,n.st,n.ex⟩
  rcases List.mem_append.1 j with j|j
  ·exact n.im x j
  ·rw[List.mem_singleton] at j
   rw[j]
   exact o
theorem zdp {α:Type} {P:α→Prop} {l:List α} {y:α} (h: ∀x∈l,P x) (n:P y): ∀x∈l++[y],P x:=fun x j=>by
 rcases List.mem_append.1 j with j|j
 ·exact h x j
 ·rw[List.mem_singleton] at j
  rw[j]
  exact n
theorem zeh {N:Nat} {C:Cx} {y:Ep} {q q':PS} (h:zo C y q= .ok q') (j:BS N q) (n:zcM N y):BS N q':=by
 unfold zo at h
 split at h
 ·cases h
 ·split at h
  ·cases h
   exact⟨j.rq,j.im,j.ep,zdp j.la n,j.st,j.ex⟩
  ·cases h
   exact⟨j.rq,j.im,zdp j.ep n,j.la,j.st,j.ex⟩
theorem zm0 {α:Type} {f:α→PS→PR} (l:List α): ∀(x:PR) (q':PS),zP f l x= .ok q'→∃q,x= .ok q∧True:=by
 induction l with
 |nil=>intro x q' h;exact⟨q',h,trivial⟩
 |cons a l o=>
  intro x q' h
  obtain⟨b,n,_⟩:=o _ _ h
  obtain⟨c,j,_⟩:=zf n
  exact⟨c,j,trivial⟩
theorem zgA {α:Type} {N:Nat} {f:α→PS→PR} (l:List α) (z: ∀a∈l,∀q q',f a q= .ok q'→BS N q→BS N q'): ∀(q q':PS),zP f l (.ok q)= .ok q'→BS N q→BS N q':=by
 induction l with
 |nil=>intro q q' h o;cases h;exact o
 |cons a l A=>
  intro q q' h o
  have n:zP f l (f a q)= .ok q':=h
  cases j:f a q with
  |error e=>
   rw[j] at n
   obtain⟨c,E,_⟩:=zm0 l _ _ n
   cases E
  |ok b=>
   rw[j] at n
   exact A (fun x D=>z x (List.mem_cons_of_mem _ D)) b q' n (z a (List.mem_cons_self ..) q b j o)
theorem zm1 {N:Nat} {C:Cx} (q:BT N C.ts) {j:Bool} {a b:PS×ByteArray} (h:asP C j a= .ok b) (n:BS N a.1) (o:a.2.size≤N):BS N b.1∧b.2.size≤N:=by
 unfold asP at h
 split at h
 ·exact zdd q h (zc2 n)
 ·split at h
  ·cases h
  ·cases h
   exact⟨n,o⟩
theorem zm2 {N:Nat} {C:Cx} (A:BT N C.ts) {o:Bool} (f:Nat): ∀(q:PS) (acc:List Ep) (a:PS×List Ep),zcv C o f q acc= .ok a→BS N q→(∀x∈acc,zcM N x)→BS N a.1∧∀x∈a.2,zcM N x:=by
 induction f with
 |zero=>intro q acc a h;cases h
 |succ f J=>
  intro q acc a h Q j
  rw[zcv] at h
  obtain⟨b,L,U⟩:=zf h
  obtain⟨c,H,n⟩:=zf U
  obtain⟨M,z⟩:=zdd A L Q
  obtain⟨D,O⟩:=zm1 A H M z
  have E: ∀x∈acc++[(⟨0,c.2,b.2,sNone⟩:Ep)],zcM N x:=zdp j ⟨O,z,Nat.zero_le _⟩
  split at n
  ·exact J _ _ _ n (zc2 D) E
  ·obtain⟨d,I,K⟩:=zf n
   cases K
   exact⟨zao I D,E⟩
theorem zip {N:Nat} {C:Cx} (o:BT N C.ts) {j:Bool} {q:PS} {a:PS×List Ep} (h:zcw C j q= .ok a) (A:BS N q):BS N a.1∧∀x∈a.2,zcM N x:=by
 obtain⟨b,z,D⟩:=zf h
 exact zm2 o _ _ _ _ D (zao z A) fun x n=>by cases n
theorem zeO {N:Nat} {C:Cx} (A:BT N C.ts) {x:PR} {b:PS×ByteArray} (h:zaR C (zaE C x)= .ok b): ∃q,x= .ok q∧(BS N q→BS N b.1∧b.2.size≤N):=by
 obtain⟨a,E,L⟩:=zf h
 obtain⟨c,j,n⟩:=zf L
 obtain⟨d,o,D⟩:=zf E
 obtain⟨e,J,I⟩:=zf o
 cases n
 refine⟨e,J,fun K=>?_⟩
 obtain⟨H,z⟩:=zio A D (zao I K)
 exact⟨zao j H,z⟩
theorem zm3 {N:Nat} {C:Cx} (n:BT N C.ts) (V:8≤N) {q q':PS} (h:zaQ C q= .ok q') (hq:BS N q):BS N q':=by
 obtain⟨q1,Y,A⟩:=zf h
 have L:=zao Y hq
 split at A
 ·obtain⟨a,z,j⟩:=zf A
  obtain⟨b,I,J⟩:=zf j
  obtain⟨l1,X⟩:=zip n z L
  obtain⟨d,Q,D⟩:=zeO n I
  cases Q
  obtain⟨K,H⟩:=D l1
  exact zgA _ (fun x U p p' Z hb=>zg9 Z hb ⟨H,(X x U).2.1,(X x U).1⟩) _ _ J K
 ·split at A
  ·obtain⟨a,z,j⟩:=zf A
   obtain⟨b,I,J⟩:=zf j
   obtain⟨c,h7,h8⟩:=zf z
   obtain⟨d,Q,D⟩:=zf h7
   obtain⟨O,M⟩:=zdd n h8 (zao D (zao Q L))
   obtain⟨f,E,o⟩:=zeO n I
   cases E
   obtain⟨K,H⟩:=o O
   exact zg9 J K ⟨H,Nat.le_trans (show 1≤8 by omega) V,M⟩
  ·split at A
   ·obtain⟨a,z,j⟩:=zf A
    obtain⟨b,I,J⟩:=zf j
    obtain⟨O,M⟩:=zdd n z L
    obtain⟨f,E,o⟩:=zeO n I
    cases E
    obtain⟨K,H⟩:=o O
    exact zg9 J K ⟨H,Nat.le_trans (show 7≤8 by omega) V,M⟩
   ·obtain⟨a,z,j⟩:=zf A
    exact zao j (zio n z L).1
theorem ziq {N:Nat} {C:Cx} (A:BT N C.ts) (I:8≤N) {q:PS} {a:PS×ByteArray} (h:zcj C q= .ok a) (U:BS N q):BS N a.1∧a.2.size≤N:=by
 obtain⟨b,M,X⟩:=zf h
 obtain⟨z,n,o⟩:=zf X
 cases o
 obtain⟨c,E,H⟩:=zf M
 obtain⟨d,J,L⟩:=zf n
 obtain⟨f,Q,O⟩:=zf J
 obtain⟨g,V,j⟩:=zf Q
 obtain⟨K,D⟩:=zdd A H (zao E U)
 exact⟨zeg L (zao O (zef A I j (zao (show zd C 4 cEq b.1= .ok g from V) K))) D,D⟩
theorem zir {N:Nat} {C:Cx} (Q:BT N C.ts) (hN:8≤N) {q:PS} {a:PS×ByteArray} (h:fnP C q= .ok a) (hq:BS N q):BS N a.1∧a.2.size≤N:=by
 obtain⟨b,U,h2⟩:=zf h
 obtain⟨z,H,I⟩:=zf h2
 cases I
 obtain⟨c,h3,X⟩:=zf U
 obtain⟨d,h5,h6⟩:=zf H
 obtain⟨f,Z,V⟩:=zf h5
 obtain⟨g,h9,J⟩:=zf Z
 obtain⟨i,M,D⟩:=zf h9
 obtain⟨j,A,n⟩:=zf M
 obtain⟨k,L,o⟩:=zf A
 obtain⟨l,E,K⟩:=zf L
 obtain⟨Y,O⟩:=zdd Q X (zao h3 hq)
 exact⟨zeg h6 (zao V (zao J (zef Q hN D (zao n (zao o (zao K (zao (show zd C 4 zn b.1= .ok l from E) Y))))))) O,O⟩
theorem zm4 {N:Nat} {C:Cx} (I:BT N C.ts) (J:8≤N) {q q':PS} (h:zag C q= .ok q') (hq:BS N q):BS N q':=by
 obtain⟨q1,X,j⟩:=zf h
 have K:=zao X hq
 split at j
 ·obtain⟨a,A,z⟩:=zf j
  obtain⟨V,O⟩:=zip I A K
  split at z
  ·obtain⟨b,D,E⟩:=zf z
   exact zgA (f:=fun e=>zo C (zA e)) _ (fun x M p p' Q U=>zeh (y:=zA x) Q U ⟨(O x M).1,(O x M).2.1,Nat.zero_le _⟩) _ _ E (zao D V)
  ·obtain⟨b,D,E⟩:=zf z
   obtain⟨d,L,n⟩:=zeO I D
   cases L
   obtain⟨H,o⟩:=n V
   exact zgA (f:=fun e=>zo C (zai b.2 e)) _ (fun x M p p' Q U=>zeh (y:=zai b.2 x) Q U ⟨(O x M).1,(O x M).2.1,o⟩) _ _ E H
 ·split at j
  ·obtain⟨b,D,E⟩:=zf j
   obtain⟨d,L,n⟩:=zeO I D
   obtain⟨H,o⟩:=n (zao L K)
   exact zeh E H ⟨Nat.zero_le _,Nat.zero_le _,o⟩
  ·split at j
   ·obtain⟨a,A,z⟩:=zf j
    obtain⟨b,D,E⟩:=zf A
    obtain⟨c,Z,Y⟩:=zf D
    obtain⟨d,L,n⟩:=zf Z
    exact zeh z (zeg E (zao Y (zef I J n (zao L K))) J) ⟨Nat.le_trans (show 7≤8 by omega) J,J,Nat.zero_le _⟩
   ·split at j
    ·obtain⟨a,A,z⟩:=zf j
     obtain⟨H,o⟩:=ziq I J A K
     exact zeh z H ⟨o,o,Nat.zero_le _⟩
    ·split at j
     ·obtain⟨a,A,z⟩:=zf j
      obtain⟨H,o⟩:=zir I J A K
      exact zeh z H ⟨o,o,Nat.zero_le _⟩
     ·cases j
theorem zis {N:Nat} {C:Cx} (A:BT N C.ts) (o:8≤N) {s:ByteArray} {k:Int} {q q':PS} (h:bd (bd (bd (zd C 1 s q) (pE C .sum 0)) (zd C 4 cSemi)) (zV C k sNone)= .ok q') (H:BS N q):BS N q':=by
 obtain⟨a,E,I⟩:=zf h
 obtain⟨b,j,n⟩:=zf E
 obtain⟨c,z,D⟩:=zf j
 exact zeg I (zao n (zef A o D (zao z H))) (Nat.zero_le _)
theorem zm5 {N:Nat} {C:Cx} (j:BT N C.ts) (n:8≤N) {q q':PS} (h:zy C q= .ok q') (o:BS N q):BS N q':=by
 unfold zy at h
 split at h
 ·exact zm3 j n h o
 ·split at h
  ·exact zm4 j n h o
  ·split at h
   ·obtain⟨a,z,A⟩:=zf h
    cases A
    exact (ziq j n z o).1
   ·split at h
    ·obtain⟨a,z,A⟩:=zf h
     cases A
     exact (zir j n z o).1
    ·split at h
     ·obtain⟨a,z,A⟩:=zf h
      obtain⟨b,D,E⟩:=zf z
      obtain⟨c,H,J⟩:=zf D
      obtain⟨d,L,K⟩:=zf H
      obtain⟨e,Q,I⟩:=zf L
      exact zeg A (zao E (zao J (zef j n K (zao I (zao Q o))))) (Nat.zero_le _)
     ·split at h
      ·exact zis j n h o
      ·split at h
       ·exact zis j n h o
       ·obtain⟨a,z,A⟩:=zf h
        obtain⟨b,D,E⟩:=zf A
        obtain⟨c,H,J⟩:=zf D
        obtain⟨d,L,K⟩:=zf H
        obtain⟨M,O⟩:=zdd j z o
        exact zeg E (zao J (zef j n K (zao L M))) O
theorem zm6 {N:Nat} {C:Cx} (z:BT N C.ts) (n:8≤N) (f:Nat): ∀(q q':PS),zcx C f q= .ok q'→BS N q→BS N q':=by
 induction f with
 |zero=>intro q q' h;cases h
 |succ f o=>
  intro q q' h j
  rw[zcx] at h
  split at h
  ·obtain⟨a,A,D⟩:=zf h
   exact o _ _ D (zm5 z n A j)
  ·cases h
   exact j
theorem zm7 {s:ByteArray} {j:Bool} {q:PS} {N:Nat} (h:zb7 s j (.ok q)) (E:s.size≤N) (o:8≤N):BS N q:=by
 obtain⟨r,⟨a,_,D⟩,e⟩:=h
 cases r with
 |error p=>cases e
 |ok n=>
  refine zm6 (C:=⟨n,s.size,j⟩) (fun t A=>?_) o _ _ _ e.symm ⟨?_,?_,?_,?_,?_,?_⟩
  ·have:=zmx D n rfl t A
   exact⟨Nat.le_trans this.1 E,this.2⟩
  all_goals (intro x z;cases z)
def KG {α:Type} (R:PS→PS→Prop) (p:α→PS) (x:Except Nat α) (q:PS):Prop:=∀a,x= .ok a→R q (p a)
def zit (C:Cx) (k:Int) (n:ByteArray):Prop:=n=sNone∨k=1∨∃i o,zD C i o=true∧n=(ze C i).text
structure Kept (C:Cx) (R:PS→PS→Prop):Prop where
 rfl': ∀q,R q q
 tr: ∀{a b c},R a b→R b c→R a c
 adv: ∀q,R q (adv q)
 ex: ∀x q,KG R id (zN C x q) q
 im: ∀x q,KG R id (zak C x q) q
 ep: ∀x q,KG R id (zo C x q) q
 sp: ∀q,KG R Prod.fst (zH C q) q
 st: ∀k n q,zit C k n→KG R id (zV C k n q) q
theorem KG.bd {C:Cx} {R:PS→PS→Prop} {α β:Type} (H:Kept C R) {p:α→PS} {r:β→PS} {x:Except Nat α} {f:α→Except Nat β} {q:PS} (h:KG R p x q) (k: ∀a,x= .ok a→KG R r (f a) (p a)):KG R r (bd x f) q:=by
 intro b n
 obtain⟨a,j,o⟩:=zf n
 exact H.tr (h a j) (k a j b o)
theorem KG.after {C:Cx} {R:PS→PS→Prop} (H:Kept C R) {α:Type} {r:α→PS} {y:Except Nat α} {q q':PS} (h:R q q') (k:KG R r y q'):KG R r y q:=fun b j=>H.tr h (k b j)
theorem KG.ok {C:Cx} {R:PS→PS→Prop} (H:Kept C R) {α:Type} {p:α→PS} {a:α}:KG R p (.ok a) (p a):=fun b j=>by cases j;exact H.rfl' _
theorem KG.err {R:PS→PS→Prop} {α:Type} {p:α→PS} {e:Nat} {q:PS}:KG R p (.error e) q:=fun b j=>by cases j
theorem zap {C:Cx} {R:PS→PS→Prop} (H:Kept C R) (k:Int) (x:ByteArray) (q:PS):KG R id (zd C k x q) q:=fun a h=>by obtain⟨rfl,_⟩:=zb4 h;exact H.adv q
theorem zde {C:Cx} {R:PS→PS→Prop} (H:Kept C R) (o:Bool) (q:PS):KG R Prod.fst (zj C o q) q:=fun a h=>by obtain⟨rfl,_⟩:=zbd h;exact H.adv q
theorem ziu {C:Cx} {R:PS→PS→Prop} (H:Kept C R) (n:ByteArray) (q:PS):KG R id (zbc C n q) q:=by
 unfold zbc
 split
 ·exact .bd H (.bd H (zap H _ _ _) fun _ _=>zap H _ _ _) fun _ _=>H.ex _ _
 ·exact H.ex _ _
theorem zm8 {C:Cx} {R:PS→PS→Prop} (H:Kept C R) (n f:ByteArray) (q:PS):KG R id (zbx C n f q) q:=by
 unfold zbx
 split
 ·exact .bd H (.bd H (zap H _ _ _) fun _ _=>zap H _ _ _) fun _ _=>H.ex _ _
 ·exact H.ex _ _
theorem zm9 {C:Cx} {R:PS→PS→Prop} (H:Kept C R) (f:Nat): ∀(n:NT) (d:Nat) (q:PS),KG R id (ev C f n d q) q:=by
 induction f with
 |zero=>intro n d q;cases n using NT.elim<;>exact .err
 |succ f j=>
  intro n d q
  cases n using NT.elim<;>rw[ev]
  ·exact .bd H (j _ _ _) fun _ _=>j _ _ _
  ·split
   ·exact .bd H (.bd H (.after H (H.adv q) (j _ _ _)) fun _ _=>H.ex _ _) fun _ _=>j _ _ _
   ·exact .ok (p:=id) H
  ·exact .bd H (j _ _ _) fun _ _=>j _ _ _
  ·split
   ·exact .bd H (.bd H (.after H (H.adv q) (j _ _ _)) fun _ _=>H.ex _ _) fun _ _=>j _ _ _
   ·exact .ok (p:=id) H
  ·split
   ·exact .after H (H.adv q) (H.ex _ _)
   ·split
    ·split
     ·exact .err
     ·exact .bd H (.after H (H.adv q) (j _ _ _)) fun _ _=>zap H _ _ _
    ·split
     ·exact .after H (H.adv q) (ziu H _ _)
     ·refine .bd H (zde H _ _) fun a _=>?_
      split
      ·exact .bd H (.after H (H.adv _) (zde H _ _)) fun _ _=>zm8 H _ _ _
      ·exact ziu H _ _
theorem zei {C:Cx} {R:PS→PS→Prop} (H:Kept C R) (j:NT) (d:Nat) (q:PS):KG R id (pE C j d q) q:=zm9 H _ _ _ _
theorem ziv {C:Cx} {R:PS→PS→Prop} (H:Kept C R) {y:PRN} {F:PR→ByteArray→PR} {q:PS} (h:KG R Prod.fst y q) (k: ∀a,y= .ok a→KG R id (F (.ok a.1) a.2) a.1):KG R Prod.fst (withN y F) q:=
 .bd H h fun a j=>.bd (r:=Prod.fst) H (k a j) fun b _=>.ok (p:=Prod.fst) (a:=(b,a.2)) H
theorem ziw {C:Cx} {R:PS→PS→Prop} (H:Kept C R) (q:PS):KG R Prod.fst (zcj C q) q:=
 ziv H (.bd H (zap H _ _ _) fun _ _=>zde H _ _) fun _ _=>.bd H (.bd H (.bd H (.bd (p:=id) H (.ok (p:=id) H) fun _ _=>zap H _ _ _) fun _ _=>zei H _ _ _) fun _ _=>zap H _ _ _) fun _ _=>H.st _ _ _ (.inr (.inl rfl))
theorem zix {C:Cx} {k:Int} {o:Bool} {q:PS} {a:PS×ByteArray} (h:zj C o q= .ok a):zit C k a.2:=by
 obtain⟨rfl,j⟩:=zbd h
 exact .inr (.inr ⟨_,_,j,rfl⟩)
theorem ziy {C:Cx} {R:PS→PS→Prop} (H:Kept C R) (q:PS):KG R Prod.fst (fnP C q) q:=
 ziv H (.bd H (zap H _ _ _) fun _ _=>zde H _ _) fun a j=>.bd H (.bd H (.bd H (.bd H (.bd H (.bd H (.bd H (.bd (p:=id) H (.ok (p:=id) H) fun _ _=>zap H _ _ _) fun _ _=>zap H _ _ _) fun _ _=>zap H _ _ _) fun _ _=>zap H _ _ _) fun _ _=>zei H _ _ _) fun _ _=>zap H _ _ _) fun _ _=>zap H _ _ _) fun _ _=>H.st _ _ _ (by
  obtain⟨b,_,n⟩:=zf j
  exact zix n)
theorem zmA {C:Cx} {R:PS→PS→Prop} (H:Kept C R) (e:Bool) (a:PS×ByteArray):KG R Prod.fst (asP C e a) a.1:=by
 unfold asP
 split
 ·exact .after H (H.adv _) (zde H _ _)
 ·split
  ·exact .err
  ·exact .ok (p:=Prod.fst) H
theorem zmB {C:Cx} {R:PS→PS→Prop} (H:Kept C R) (e:Bool) (f:Nat): ∀(q:PS) (acc:List Ep),KG R Prod.fst (zcv C e f q acc) q:=by
 induction f with
 |zero=>intro q acc;exact .err
 |succ f j=>
  intro q acc
  rw[zcv]
  refine .bd H (zde H _ _) fun a _=>.bd H (zmA H _ _) fun b _=>?_
  split
  ·exact .after H (H.adv _) (j _ _)
  ·exact .bd (r:=Prod.fst) H (zap H _ _ _) fun c _=>.ok (p:=Prod.fst) (a:=(c,_)) H
theorem ziz {C:Cx} {R:PS→PS→Prop} (H:Kept C R) (e:Bool) (q:PS):KG R Prod.fst (zcw C e q) q:=.bd H (zap H _ _ _) fun _ _=>zmB H _ _ _ _
theorem zeP {C:Cx} {R:PS→PS→Prop} (H:Kept C R) {x:PR} {q:PS} (h:KG R id x q):KG R Prod.fst (zaR C (zaE C x)) q:=
 .bd H (.bd H (.bd H h fun _ _=>zap H _ _ _) fun _ _=>H.sp _) fun a _=>.bd (r:=Prod.fst) H (zap H _ _ _) fun c _=>.ok (p:=Prod.fst) (a:=(c,a.2)) H
theorem zgB {C:Cx} {R:PS→PS→Prop} (H:Kept C R) {α:Type} {f:α→PS→PR} (j: ∀a q,KG R id (f a q) q) (l:List α): ∀(x:PR) (q:PS),KG R id x q→KG R id (zP f l x) q:=by
 induction l with
 |nil=>intro x q h;exact h
 |cons a l n=>intro x q h;exact n _ _ (.bd H h fun _ _=>j _ _)
theorem zmC {C:Cx} {R:PS→PS→Prop} (H:Kept C R) (q:PS):KG R id (zaQ C q) q:=by
 refine .bd H (zap H _ _ _) fun j _=>?_
 split
 ·exact .bd H (ziz H _ _) fun a _=>.bd H (zeP H (.ok (p:=id) H)) fun b _=>zgB H (fun _ _=>H.im _ _) _ _ _ (.ok (p:=id) H)
 ·split
  ·exact .bd H (.bd H (.bd H (zap H _ _ _) fun _ _=>zap H _ _ _) fun _ _=>zde H _ _) fun a _=>.bd H (zeP H (.ok (p:=id) H)) fun _ _=>H.im _ _
  ·split
   ·exact .bd H (zde H _ _) fun a _=>.bd H (zeP H (.ok (p:=id) H)) fun _ _=>H.im _ _
   ·exact .bd H (H.sp _) fun _ _=>zap H _ _ _
theorem zmD {C:Cx} {R:PS→PS→Prop} (H:Kept C R) (q:PS):KG R id (zag C q) q:=by
 refine .bd H (zap H _ _ _) fun j _=>?_
 split
 ·refine .bd H (ziz H _ _) fun a _=>?_
  split
  ·exact .bd H (zap H _ _ _) fun _ _=>zgB H (fun _ _=>H.ep _ _) _ _ _ (.ok (p:=id) H)
  ·exact .bd H (zeP H (.ok (p:=id) H)) fun _ _=>zgB H (fun _ _=>H.ep _ _) _ _ _ (.ok (p:=id) H)
 ·split
  ·exact .bd H (zeP H (zap H _ _ _)) fun _ _=>H.ep _ _
  ·split
   ·exact .bd H (.bd H (.bd H (.bd H (zap H _ _ _) fun _ _=>zei H _ _ _) fun _ _=>zap H _ _ _) fun _ _=>H.st _ _ _ (.inr (.inl rfl))) fun _ _=>H.ep _ _
   ·split
    ·exact .bd H (ziw H _) fun _ _=>H.ep _ _
    ·split
     ·exact .bd H (ziy H _) fun _ _=>H.ep _ _
     ·exact .err
theorem zi0 {C:Cx} {R:PS→PS→Prop} (H:Kept C R) (s:ByteArray) (k:Int) (q:PS):KG R id (bd (bd (bd (zd C 1 s q) (pE C .sum 0)) (zd C 4 cSemi)) (zV C k sNone)) q:=
 .bd H (.bd H (.bd H (zap H _ _ _) fun _ _=>zei H _ _ _) fun _ _=>zap H _ _ _) fun _ _=>H.st _ _ _ (.inl rfl)
theorem zmE {C:Cx} {R:PS→PS→Prop} (H:Kept C R) (q:PS):KG R id (zy C q) q:=by
 unfold zy
 split
 ·exact zmC H q
 ·split
  ·exact zmD H q
  ·split
   ·exact .bd H (ziw H q) fun a _=>.ok (p:=id) H
   ·split
    ·exact .bd H (ziy H q) fun a _=>.ok (p:=id) H
    ·split
     ·exact .bd H (.bd H (.bd H (.bd H (.bd H (zap H _ _ _) fun _ _=>zap H _ _ _) fun _ _=>zei H _ _ _) fun _ _=>zap H _ _ _) fun _ _=>zap H _ _ _) fun _ _=>H.st _ _ _ (.inl rfl)
     ·split
      ·exact zi0 H _ _ _
      ·split
       ·exact zi0 H _ _ _
       ·exact .bd H (zde H _ _) fun a j=>.bd H (.bd H (.bd H (zap H _ _ _) fun _ _=>zei H _ _ _) fun _ _=>zap H _ _ _) fun _ _=>H.st _ _ _ (zix j)
theorem zmF {C:Cx} {R:PS→PS→Prop} (H:Kept C R) (f:Nat): ∀q,KG R id (zcx C f q) q:=by
 induction f with
 |zero=>intro q;exact .err
 |succ f j=>
  intro q
  rw[zcx]
  split
  ·exact .bd H (zmE H q) fun _ _=>j _
  ·exact .ok (p:=id) H
theorem zmG {R:PS→PS→Prop} {s:ByteArray} {j:Bool} {q:PS} (h:zb7 s j (.ok q)) (H: ∀n,zae s j (.ok n)→Kept ⟨n,s.size,j⟩ R):R zbC q:=by
 obtain⟨r,o,e⟩:=h
 cases r with
 |error p=>cases e
 |ok n=>exact zmF (H n o) _ zbC q e.symm
abbrev dN:List UInt8:=[42,100,101,102,97,117,108,116]
def zdq (st:List Sm):Prop:=∀s∈st,s.name.toList=dN→s.kind=1
def zi1 (ts:List Tk):Prop:=∀t∈ts,t.kind=1→t.text.toList≠dN
theorem zmH {s:ByteArray} {j:Bool} {a e:Nat} {t:Tk} (n:a<s.size) (h:Tok s j a t e):t.kind=1→t.text.toList≠dN:=by
 have D:=(zdQ n h).1
 have z:=(zdQ n h).2.1
 cases h using Tok.elim with
 |name o _=>
  intro _ k
  have q:bt (s.extract a e) 0=42:=by
   rw[zdk,←Lib.toList_data,k]
   rfl
  have A:bt (s.extract a e) 0=bt s a:=by
   rw[zdk,zdk,ByteArray.data_extract]
   simp only[List.getD,List.getElem?_map,Array.getElem?_toList,Array.getElem?_extract]
   rw[if_pos (by have:s.data.size=s.size:=rfl;omega),Nat.add_zero]
  rw[←A,q] at o
  cases j<;>revert o<;>decide
 |num _ _=>intro k;cases k
 |str _ _=>intro k;cases k
 |sign _=>intro k;cases k
theorem zmI {s:ByteArray} {z:Bool} {a n:Nat} {r:Except Nat (List Tk)} (h:Lx s z a n r): ∀j,r= .ok j→zi1 j:=by
 induction h using Lx.ind with
 |done=>intro j k;cases k;intro t q;cases q
 |bad _ _=>intro j k;cases k
 | @tok a n e b t r h H q E D A=>
  intro j k
  cases r with
  |error p=>cases k
  |ok l=>
   cases k
   intro u o
   rcases List.mem_cons.1 o with rfl|o
   ·exact zmH h q
   ·exact A l rfl u o
theorem zmJ {C:Cx} (n:zi1 C.ts) {i:Nat} {o:Bool} (h:zD C i o=true):(ze C i).text.toList≠dN:=by
 have j:=ze4 h
 have e:ze C i=C.ts[i]:=by simp[ze,List.getD,List.getElem?_eq_getElem j]
 simp only[zD,Bool.and_eq_true,beq_iff_eq] at h
 rw[e] at h ⊢
 exact n _ (List.getElem_mem j) h.1
theorem zmK {k:Int} (h:sNone.toList=dN):k=1:=by
 rw[Lib.toList_data] at h
 cases h
theorem zi2 {s:ByteArray} {D:Bool} {q:PS} (h:zb7 s D (.ok q)):zdq q.st:=by
 refine zmG (R:=fun a b=>zdq a.st→zdq b.st) h (fun J A=>?_) (fun s z=>by cases z)
 obtain⟨_,_,A⟩:=A
 have I:=zmI A J rfl
 refine⟨fun _ h=>h,fun h k x=>k (h x),fun _ h=>h,?_,?_,?_,?_,?_⟩
 ·intro x q a h j
  obtain⟨rfl,_⟩:=zb5 h
  exact j
 ·intro x q a h j
  unfold zak at h
  split at h<;>cases h
  exact j
 ·intro x q a h j
  unfold zo at h
  split at h
  ·cases h
  ·split at h<;>cases h<;>exact j
 ·intro q a h j
  unfold zH at h
  split at h
  ·split at h
   ·cases h;exact j
   ·split at h<;>cases h
    exact j
  ·cases h
 ·intro k n q E a h j
  unfold zV at h
  split at h<;>cases h
  intro s z
  rcases List.mem_append.1 z with z|z
  ·exact j s z
  ·rw[List.mem_singleton.1 z]
   intro H
   rcases E with rfl|E|⟨i,o,K,rfl⟩
   ·exact zmK H
   ·exact E
   ·exact absurd H (zmJ I K)
end Go.Proofs.YticdggnnpjachaaGreat
