/-
  What slices.Index and slices.Contains answer over a row of texts,and strings.Clone: the walks.
  What request of impl's parser answers: the walks.
  What nameOrCall of impl's parser answers: the walk.
  What part of impl's parser answers: the walk.
  What product and sum of impl's parser answer: the walks.
  What statement of impl's parser answers: the walk.
  What the small items of impl's parser,itemWord and exportLast answer: the walks.
  Rows beside impl's parser: lists of names under way. No program is spoken of but for the numbers of its types.
  A program in memory,of any size. No program is spoken of but for the numbers of its types.
-/
import Derived.Test.YticdggnnpjachaaGreatCbImplParseHToImplParseI
import Derived.Test.YticdggnnpjachaaGreatCbShelf
namespace Go.Proofs.YticdggnnpjachaaGreat
set_option maxRecDepth 100000
set_option maxHeartbeats 3200000
open Go.RowKit Go.PlainAid Go.Sort
theorem zib (s:ByteArray) (w:World) (h:s.size≤281474976710656):
  Calls Tryz.prog 85 #[.string s] w fun e n=>e= .returned (.string s)∧Below w.heap.size w n:=by
 go_enter Tryz.func85,Tryz.ntmps85
 go_wp2_with fail
 refine (Tryz.stringslite_Clone _ _ h).mono ?_
 rintro e o ⟨rfl,j⟩
 go_wp2
 go_ret
 exact⟨rfl,j⟩
theorem OwnR.text {w:World} {o n:Nat} {r:Rw} {l:List ByteArray} (h:OwnR w o 9 1 r n (l.map .string)) {j:Nat} (I:j<n): ∃g,r.a=some ⟨g,0,none⟩∧w.cell? ⟨g,j,none⟩=some (.string (l.getD j sNone)):=by
 rcases h.2 with ⟨_,H⟩|⟨g,A,D,q,_⟩
 ·omega
 ·simp only[Value.slice.injEq] at q
  have z:=h
  unfold OwnR at z
  rw[q.1,q.2.2] at z
  have E:l.length=n:=by have:=h.1;simpa using this
  refine⟨g,q.1,?_⟩
  rw[World.ownsRow.cellAt z j (by omega)]
  simp only[List.getElem?_map,List.getD]
  rw[List.getElem?_eq_getElem (by omega)]
  rfl
theorem zlE {l:List ByteArray} {x:ByteArray} {j:Nat} (n:j<l.length):zaX (l.drop j) x=((l.getD j sNone).toList==x.toList||zaX (l.drop (j+1)) x):=by
 rw[List.drop_eq_getElem_cons n]
 simp only[zaX,List.any_cons,List.getD,List.getElem?_eq_getElem n,Option.getD_some]
theorem zlF (o g:Nat) (r:Rw) (l:List ByteArray) (x:ByteArray) (w:World) (h:OwnR w o 9 1 r l.length (l.map .string)) (hl:l.length≤1000000) (L:r.a=some ⟨g,0,none⟩):
  Calls Tryz.prog 204 #[.slice (some ⟨g,0,none⟩) l.length r.cap,.string x] w fun e V=>(∃v:Int,e= .returned (.int .i64 v)∧decide (0≤v)=zaX l x)∧V=w:=by
 have O:=zc h
 have J:=zc L
 clear h L
 go_enter Tryz.func204,Tryz.ntmps204
 go_wp2
 go_loopg [8] (l.length+1) (fun k i wr=>∃j:Nat,i= .int .i64 j∧j+k=l.length+1∧zaX (l.drop j) x=zaX l x∧wr=w)
 case atStart=>exact⟨0,rfl,by omega,by simp,rfl⟩
 case round=>
  obtain⟨j,rfl,Z,N,rfl⟩:=hrel
  have I:=zc N
  clear N
  by_cases A:j<l.length
  ·have q:(j:Int)<(l.length:Int):=by omega
   obtain⟨U,n,X⟩:=O.out.text A
   have Q:U=g:=by have:=n.symm.trans J.out;simpa using this
   subst Q
   clear n
   obtain⟨E,z⟩: ∃E,E=j+1:=⟨_,rfl⟩
   have Y:(j:Int)+1=(E:Int):=by omega
   have M:=zc z
   clear z
   have H:Hid (zaX (l.drop j) x=((l.getD j sNone).toList==x.toList||zaX (l.drop (j+1)) x)):=zlE A
   generalize l.getD j sNone=y at X H
   cases D:(x.toList==y.toList) with
   |true=>
    go_wp2
    go_ret
    refine⟨⟨_,rfl,?_⟩,rfl⟩
    have K:(y.toList==x.toList)=true:=by rw[beq_iff_eq] at D ⊢;exact D.symm
    rw[←I.out,H.out,K]
    simp
   |false=>
    go_wp2
    go_roundg (gk-1)
    case rel=>
     have K:(y.toList==x.toList)=false:=by
      rw[beq_eq_false_iff_ne] at D ⊢;exact fun e=>D e.symm
     refine⟨E,rfl,by have:=M.out;omega,?_,rfl⟩
     rw[←I.out,H.out,K,M.out]
     simp
    case measure=>omega
  ·have q: ¬(j:Int)<(l.length:Int):=by omega
   go_wp2
   go_ret
   refine⟨⟨_,rfl,?_⟩,rfl⟩
   rw[←I.out,List.drop_eq_nil_of_le (by omega)]
   rfl
theorem zlG (x:ByteArray) (w:World):
  Calls Tryz.prog 204 #[.slice none 0 0,.string x] w fun e j=>e= .returned (.int .i64 (-1))∧j=w:=by
 go_enter Tryz.func204,Tryz.ntmps204
 go_wp2
 go_loopg [8] 1 (fun k i wr=>k=1∧i= .int .i64 0∧wr=w)
 case atStart=>exact⟨rfl,rfl,rfl⟩
 case round=>
  obtain⟨rfl,rfl,rfl⟩:=hrel
  go_wp2
  go_ret
  exact⟨rfl,rfl⟩
theorem zlH (j:Nat) (r:Rw) (l:List ByteArray) (x:ByteArray) (w:World) (h:OwnR w j 9 1 r l.length (l.map .string)) (q:l.length≤1000000):
  Calls Tryz.prog 204 #[.slice r.a l.length r.cap,.string x] w fun e z=>(∃v:Int,e= .returned (.int .i64 v)∧decide (0≤v)=zaX l x)∧z=w:=by
 rcases h.nil_or with ⟨A,D,o⟩|⟨g,n⟩
 ·rw[A,D,o]
  refine (zlG x w).mono ?_
  rintro e E ⟨rfl,rfl⟩
  have:l=[]:=List.length_eq_zero_iff.1 o
  subst this
  exact⟨⟨_,rfl,rfl⟩,rfl⟩
 ·rw[n]
  exact zlF j g r l x w h q n
theorem zg2 (j:Nat) (r:Rw) (l:List ByteArray) (x:ByteArray) (w:World) (h:OwnR w j 9 1 r l.length (l.map .string)) (o:l.length≤1000000):
  Calls Tryz.prog 194 #[.slice r.a l.length r.cap,.string x] w fun e z=>e= .returned (.bool (zaX l x))∧z=w:=by
 have q:=zc h
 clear h
 go_enter Tryz.func194,Tryz.ntmps194
 go_wp2_with fail
 refine (zlH j r l x _ q.out o).mono ?_
 rintro e D ⟨⟨v,rfl,n⟩,rfl⟩
 have A:=zc n
 clear n
 go_wp2
 go_ret
 exact⟨zm A.out,rfl⟩
theorem Tryz.infoText:(Tryz.prog.info? 9).map (fun i=>(i.zero,i.size,i.bytes))=some (some (.string {data:=#[]}),1,16):=by kernel_rfl
def zbf (C:Cx):Prop:=∀i,(ze C i).text.size≤281474976710656
theorem zlI (x:ByteArray): ∀u∈[Value.string x],u.oneCell'=true:=by
 intro u j
 simp at j
 rw[j]
 rfl
theorem zlJ (C:Cx) (M n j o:Nat) (S:Sv) (q:PS) (w:World) (h:IM C M n j o S q w) (hC:zbf C) (hk:((ze C q.pos).kind==3)=true) (hs:zaX q.rq (ze C q.pos).text=false) (hn:q.rq.length<40):
  Calls Tryz.prog 172 #[.pointer (some ⟨o,0,none⟩)] w fun e w'=>e= .returned (.string (ze C q.pos).text)∧∃S',IM C M n j o S' {adv q with rq:=q.rq++[(ze C q.pos).text]} w'∧IS o S w S' w':=by
 obtain⟨i0,hi,Z,V,aa⟩:=info_parts Tryz.infoText
 have HH:=zc h
 have ad:=zc0
 have J:=hC q.pos
 clear h
 go_enter Tryz.func172,Tryz.ntmps172
 go_wp2_with fail
 refine (zd1 C M n j o S q 3 _ HH.out hk (by decide)).mono ?_
 rintro e O ⟨rfl,m1,s1⟩
 have L:=zc m1
 have Q:=zc s1
 clear m1 s1
 unfold tkV
 obtain⟨c0,c1,c2,c3,c4,c5,c6,c7,c8,c9,cf⟩:=zac L.out.cells
 rw[show (adv q).rq=q.rq from rfl] at c4
 generalize I:(ze C q.pos).text=tx at hs J ⊢
 have ab:=zc I
 clear I
 go_wp2_with fail
 refine (zg2 j S.rq q.rq tx _ L.out.mem.own.rq (by omega)).mono ?_
 rintro e A ⟨rfl,K⟩
 rw[hs,K]
 clear K A
 go_wp2_with fail
 refine (zd2 o q.rq.length 40 _ (by omega)).mono ?_
 rintro e A ⟨rfl,K⟩
 rw[K]
 clear K A
 have HN:Hid (some o≠S.rq.blk):=fun e=>L.out.free (.inl e.symm)
 go_wp2_with fail
 go_region_law (first|(refine zcH rfl (.tmp 28) (.tmp 31) 22 rfl j 9 i0 _ 1 16 Tryz.underlying22 hi Z V aa rfl (by decide) (by decide) S.rq q.rq.length (q.rq.map .string) (by rfl) (by exact D.out.mem.own.rq.alloc _) N.heap.size [.string tx] (by rfl) (by exact heap_alloc_new N _) rfl (zlI tx) (by omega) (by exact (D.out.alloc _).mem.base) ?_;intro r' w2 hr E H;have g2:=(E.block o (by exact (D.out.alloc _).lt) HN.out).trans (by exact (D.out.alloc _).cells);obtain⟨d0,d1,d2,d3,d4,d5,d6,d7,d8,d9,df⟩:=zac g2)|(go_simp;go_wp2_with (go_at_call 85;refine (zib _ _ J).mono ?_;rintro e N ⟨rfl,z⟩;have D:Hid (IM C M n j o S (adv q) N):=L.out.drew.later z;have X:Hid (Below O.heap.size O N):=(Below.refl O.heap.size O).drew.trans z;obtain⟨e0,e1,e2,e3,e4,e5,e6,e7,e8,e9,ef⟩:=zac D.out.cells;rw[show (adv q).rq=q.rq from rfl] at e4;have ac:=D.out.lt;clear z)))
 all_goals
  have HR:=zc hr
  have U:=zc E
  have Y:=zc H
  clear hr E H g2 c0 c1 c2 c3 c4 c5 c6 c7 c8 c9 cf e0 e1 e2 e3 e4 e5 e6 e7 e8 e9 ef
  go_wp2
  go_ret
  obtain⟨m',s'⟩:=D.out.grow_rq (x:=tx) ((Below.refl _ _).alloc (Nat.le_refl _) _) U.out HR.out Y.out hn
  rw[ab.out]
  exact⟨rfl,_,m',Q.out.trans (s'.grownI X.out)⟩
theorem zf3 (C:Cx) (z n j o:Nat) (S:Sv) (q:PS) (w:World) (h:IM C z n j o S q w) (hC:zbf C):
  Calls Tryz.prog 172 #[.pointer (some ⟨o,0,none⟩)] w (zQ C z n j o (zH C q) (·.1) (fun a=>.string a.2) S w):=by
 cases D:((ze C q.pos).kind==3) with
 |false=>
  have E:=zc h
  have M:Hid (zH C q= .error (zr C q.pos)):=by show _=_;rw[zH,D];rfl
  clear h
  go_enter Tryz.func172,Tryz.ntmps172
  go_wp2_with fail
  refine (zhZ C z n j o S q 3 _ E.out D).mono ?_
  rintro e Q ⟨rfl,O⟩
  have V:Hid (Below j w Q):=O.mono E.out.mem.base
  clear O
  unfold Pan
  go_wp2
  refine⟨rfl,?_⟩
  rw[M.out]
  exact⟨rfl,V.out⟩
 |true=>
  cases L:zaX q.rq (ze C q.pos).text with
  |true=>
   have E:=zc h
   have M:Hid (zH C q= .ok (adv q,(ze C q.pos).text)):=by show _=_;rw[zH,D,L];rfl
   have U:=zc0
   have Y:=h.mem.inv.rq
   clear h
   go_enter Tryz.func172,Tryz.ntmps172
   go_wp2_with fail
   refine (zd1 C z n j o S q 3 _ E.out D (by decide)).mono ?_
   rintro e Q ⟨rfl,I,J⟩
   have A:=zc I
   have H:=zc J
   clear I J
   unfold tkV
   obtain⟨c0,c1,c2,c3,X,c5,c6,c7,Z,c9,cf⟩:=zac A.out.cells
   rw[show (adv q).rq=q.rq from rfl] at X
   go_wp2_with fail
   refine (zg2 j S.rq q.rq (ze C q.pos).text _ A.out.mem.own.rq (by omega)).mono ?_
   rintro e K ⟨rfl,N⟩
   rw[L,N]
   clear N K
   go_wp2
   go_ret
   rw[M.out]
   exact⟨rfl,S,A.out,H.out⟩
  |false=>
   by_cases hn:q.rq.length<40
   ·refine (zlJ C z n j o S q w h hC D L hn).mono ?_
    rintro e Q ⟨rfl,S1,I,J⟩
    rw[zH,D,L,if_pos rfl,if_neg (by decide),if_neg (by omega)]
    exact⟨rfl,S1,I,J⟩
   ·have E:Hid (IM C z n j o S q w):=h
    have M:Hid (zH C q= .error (zr C q.pos)):=by show _=_;rw[zH,D,L,if_pos rfl,if_neg (by decide),if_pos (by omega)]
    have U:=zc0
    have Y:=h.mem.inv.rq
    clear h
    go_enter Tryz.func172,Tryz.ntmps172
    go_wp2_with fail
    refine (zd1 C z n j o S q 3 _ E.out D (by decide)).mono ?_
    rintro e Q ⟨rfl,I,J⟩
    have A:=zc I
    have H:=zc J
    clear I J
    unfold tkV
    obtain⟨c0,c1,c2,c3,X,c5,c6,c7,Z,c9,cf⟩:=zac A.out.cells
    rw[show (adv q).rq=q.rq from rfl] at X
    go_wp2_with fail
    refine (zg2 j S.rq q.rq (ze C q.pos).text _ A.out.mem.own.rq (by omega)).mono ?_
    rintro e K ⟨rfl,N⟩
    rw[L,N]
    clear N K
    go_wp2_with fail
    refine (zeb C z n j o S (adv q) q.rq.length 40 _ A.out (by omega) (by rw[zx];omega)).mono ?_
    rintro e w2 ⟨rfl,O⟩
    have V:Hid (Below j w w2):=(E.out.back H.out).trans (O.mono A.out.mem.base)
    clear O
    unfold Pan
    go_wp2
    refine⟨rfl,?_⟩
    rw[M.out]
    exact⟨rfl,V.out⟩
theorem bdO {α β:Type} {Y:Except Nat β} {x:Except Nat α} {f:α→Except Nat β} {a:α} (h:Y=bd x f) (j:x= .ok a):Y=f a:=by rw[h,j];rfl
theorem bdE {α β:Type} {Y:Except Nat β} {x:Except Nat α} {f:α→Except Nat β} {p:Nat} (h:Y=bd x f) (j:x= .error p):Y= .error p:=by rw[h,j];rfl
theorem zed {α:Type} (x:Except Nat α):bd x .ok=x:=by cases x<;>rfl
abbrev cCall:ByteArray:={data:=#[40,41,123]}
abbrev cShutSemi:ByteArray:={data:=#[41,59]}
abbrev cSemiRight:ByteArray:={data:=#[59,125]}
theorem zic (C:Cx) (b:UInt8) (q:PS):zaB C {data:=#[b]} 1 0 q=zd C 4 {data:=#[b]} q:=by
 have e:({data:=#[b]}:ByteArray).extract 0 (0+1)={data:=#[b]}:=by simp[ByteArray.extract,ByteArray.copySlice]
 rw[zaB,e]
 exact zed _
theorem zid (C:Cx) (b c:UInt8) (q:PS):zaB C {data:=#[b,c]} 2 0 q=bd (zd C 4 {data:=#[b]} q) (zd C 4 {data:=#[c]}):=by
 have e:({data:=#[b,c]}:ByteArray).extract 0 (0+1)={data:=#[b]}:=by simp[ByteArray.extract,ByteArray.copySlice]
 have j:({data:=#[b,c]}:ByteArray).extract (0+1) (0+1+1)={data:=#[c]}:=by simp[ByteArray.extract,ByteArray.copySlice]
 rw[zaB,e]
 refine zab fun a _=>?_
 rw[zaB,j]
 exact zed _
theorem zlK (C:Cx) (b c d:UInt8) (q:PS):zaB C {data:=#[b,c,d]} 3 0 q=bd (zd C 4 {data:=#[b]} q) fun a=>bd (zd C 4 {data:=#[c]} a) (zd C 4 {data:=#[d]}):=by
 have e:({data:=#[b,c,d]}:ByteArray).extract 0 (0+1)={data:=#[b]}:=by simp[ByteArray.extract,ByteArray.copySlice]
 have n:({data:=#[b,c,d]}:ByteArray).extract (0+1) (0+1+1)={data:=#[c]}:=by simp[ByteArray.extract,ByteArray.copySlice]
 have j:({data:=#[b,c,d]}:ByteArray).extract (0+1+1) (0+1+1+1)={data:=#[d]}:=by simp[ByteArray.extract,ByteArray.copySlice]
 rw[zaB,e]
 refine zab fun a _=>?_
 rw[zaB,n]
 refine zab fun a _=>?_
 rw[zaB,j]
 exact zed _
theorem zlL (C:Cx) (z n j o:Nat) (S:Sv) (q:PS) (s:ByteArray) (f:PS→PR) (w:World) (h:IM C z n j o S q w) (A:zaB C s s.size 0 q=f q) (D:s.size≤100):
  Calls Tryz.prog 153 #[.pointer (some ⟨o,0,none⟩),.string s] w (zQ C z n j o (f q) id (fun _=>.tuple #[]) S w):=by
 rw[←A]
 exact zgx C z n j o S q s w h D
theorem zbX (C:Cx) (z n j o:Nat) (S:Sv) (q:PS) (b:UInt8) (w:World) (h:IM C z n j o S q w):
  Calls Tryz.prog 153 #[.pointer (some ⟨o,0,none⟩),.string {data:=#[b]}] w (zQ C z n j o (zd C 4 {data:=#[b]} q) id (fun _=>.tuple #[]) S w):=
 zlL C z n j o S q {data:=#[b]} (zd C 4 {data:=#[b]}) w h (zic C b q) (by show 1≤100;omega)
structure Six (w:World) (b:Nat) (v0 v1 v2 v3 v4 v5:Value):Prop where
 c0:w.cell? ⟨b,0,none⟩=some v0
 c1:w.cell? ⟨b,1,none⟩=some v1
 c2:w.cell? ⟨b,2,none⟩=some v2
 c3:w.cell? ⟨b,3,none⟩=some v3
 c4:w.cell? ⟨b,4,none⟩=some v4
 c5:w.cell? ⟨b,5,none⟩=some v5
 fz: ∀i,w.frozen? ⟨b,i,none⟩=false
theorem zv {w:World} {b:Nat} {t:TypeId} {z n o A q j:Value} (h:w.heap[b]? =some (.cells #[z,n,o,A,q,j] t (0,0))):Six w b z n o A q j:=by
 constructor<;>simp[World.cell?,World.frozen?,h]
theorem IS.kept {C:Cx} {D n j z b:Nat} {S E:Sv} {q:PS} {w A:World} {o:Obj} (h:IM C D n j z S q w) (s:IS z S (w.alloc o) E A) (H:b=w.heap.size):A.heap[b]? =some o:=by
 subst H
 refine (s.block _ (by rw[zk];omega) (fun g=>?_) (by have:=h.lt;omega)).trans (heap_alloc_new w _)
 have:=(h.mem.own.has g).2
 omega
theorem IS.from {q:Nat} {S j:Sv} {w n:World} {o:Obj} (s:IS q S (w.alloc o) j n):IS q S w j n:=(IS.below ((Below.refl _ _).alloc (Nat.le_refl _) _)).trans s
theorem IS.free {C:Cx} {D n j z:Nat} {S A:Sv} {q:PS} {w E:World} {o:Obj} (h:IM C D n j z S q w) (s:IS z S (w.alloc o) A E): ¬A.has w.heap.size:=by
 intro g
 rcases s.sub _ g with k|k
 ·have:=(h.mem.own.has k).2
  omega
 ·rw[zk] at k
  omega
def zbg (C:Cx) (x:Ex) (call:Int) (q:PS):PR:=if isT C q.pos 4 zn then bd (zd C 4 za0 (adv q)) (zN C ⟨call,x.num,x.name,x.field,x.l,x.r⟩) else zN C x q
theorem zeI (C:Cx) (J o n A:Nat) (S:Sv) (q:PS) (x:Ex) (j:Int) (w:World) (h:IM C J o n A S q w) (hp:0<q.pos):
  Calls Tryz.prog 207 #[.pointer (some ⟨A,0,none⟩),exV x,.int .i64 j] w (zQ C J o n A (zbg C x j q) id (fun q'=>.int .i64 ((q'.ex.length:Int)-1)) S w):=by
 have D:=zc h
 clear h
 cases hi:isT C q.pos 4 zn with
 |false=>
  have X:Hid (zbg C x j q=zN C x q):=by show _=_;rw[zbg,hi];rfl
  unfold exV
  go_enter Tryz.func207,Tryz.ntmps207
  go_wp2_with fail
  refine (zK C J o n A S q 4 zn _ (D.out.alloc _) (by decide)).mono ?_
  rintro e w1 ⟨rfl,m,s⟩
  rw[hi] at m ⊢
  have L:=zc m
  have Q:Hid (IS A S w S w1):=s.from
  have ac:Hid (w1.heap[w.heap.size]? =some (.cells #[.int .i64 x.kind,.int .i64 x.num,.string x.name,.string x.field,.int .i64 x.l,.int .i64 x.r] 108 (0,0))):=IS.kept D.out s rfl
  obtain⟨b0,b1,b2,b3,b4,b5,bf⟩:=zv ac.out
  clear m s
  go_wp2_with fail
  refine (zec C J o n A S q x _ L.out hp).mono ?_
  cases z:zN C x q with
  |error p=>
   rintro e I ⟨rfl,U⟩
   have N:Hid (Below n w I):=(D.out.back Q.out).trans U
   have H:Hid (zbg C x j q= .error p):=X.out.trans z
   unfold Pan
   go_wp2
   refine⟨rfl,?_⟩
   rw[H.out]
   exact⟨rfl,N.out⟩
  |ok Z=>
   rintro e I ⟨rfl,M,m,s⟩
   have K:=zc m
   have ab:Hid (IS A S w M I):=Q.out.trans s
   clear m s
   have H:=zc (X.out.trans z)
   go_wp2
   go_ret
   rw[H.out]
   exact⟨rfl,M,K.out,ab.out⟩
 |true=>
  have X:Hid (zbg C x j q=bd (zd C 4 za0 (adv q)) (zN C ⟨j,x.num,x.name,x.field,x.l,x.r⟩)):=by show _=_;rw[zbg,hi];rfl
  unfold exV
  go_enter Tryz.func207,Tryz.ntmps207
  go_wp2_with fail
  refine (zK C J o n A S q 4 zn _ (D.out.alloc _) (by decide)).mono ?_
  rintro e w1 ⟨rfl,m,s⟩
  rw[hi] at m ⊢
  have L:=zc m
  have Y:=zc s
  clear m s
  go_wp2_with fail
  refine (zbX C J o n A S (adv q) 41 _ L.out).mono ?_
  cases z:zd C 4 za0 (adv q) with
  |error p=>
   rintro e I ⟨rfl,U⟩
   have N:Hid (Below n w I):=(D.out.back Y.out.from).trans U
   have H:Hid (zbg C x j q= .error p):=bdE X.out z
   unfold Pan
   go_wp2
   refine⟨rfl,?_⟩
   rw[H.out]
   exact⟨rfl,N.out⟩
  |ok Z=>
   rintro e I ⟨rfl,M,m,s⟩
   have K:=zc m
   have E:Hid (IS A S (w.alloc (.cells #[.int .i64 x.kind,.int .i64 x.num,.string x.name,.string x.field,.int .i64 x.l,.int .i64 x.r] 108)) M I):=Y.out.trans s
   have ae:Hid (I.heap[w.heap.size]? =some (.cells #[.int .i64 x.kind,.int .i64 x.num,.string x.name,.string x.field,.int .i64 x.l,.int .i64 x.r] 108 (0,0))):=IS.kept D.out E.out rfl
   have af:Hid (Z=adv (adv q)):=(zb4 z).1
   have ad:Hid (¬M.has w.heap.size):=IS.free D.out E.out
   have ah:A<w.heap.size:=D.out.lt
   have ai:J<w.heap.size:=(zan D.out.mem.tok).1
   clear m s
   have O:=zc (bdO X.out z)
   obtain⟨b0,b1,b2,b3,b4,b5,bf⟩:=zv ae.out
   go_wp2_with fail
   refine (zec C J o n A M Z ⟨j,x.num,x.name,x.field,x.l,x.r⟩ _ (K.out.set (by omega) (by omega) ad.out _ _) (by rw[af.out];show 0<q.pos+1+1;omega)).mono ?_
   cases V:zN C ⟨j,x.num,x.name,x.field,x.l,x.r⟩ Z with
   |error p=>
    rintro e w3 ⟨rfl,U⟩
    have N:Hid (Below n w w3):=(D.out.back (E.out.from.new (Nat.le_refl _) _ _)).trans U
    have H:Hid (zbg C x j q= .error p):=O.out.trans V
    unfold Pan
    go_wp2
    refine⟨rfl,?_⟩
    rw[H.out]
    exact⟨rfl,N.out⟩
   |ok a3=>
    rintro e w3 ⟨rfl,S3,m,s⟩
    have ag:=zc m
    have aa:Hid (IS A S w S3 w3):=(E.out.from.new (Nat.le_refl _) _ _).trans s
    clear m s
    have H:=zc (O.out.trans V)
    go_wp2
    go_ret
    rw[H.out]
    exact⟨rfl,S3,ag.out,aa.out⟩
def exI (q:PS):Value:=.int .i64 ((q.ex.length:Int)-1)
def zeJ (C:Cx) (gt cap base gp m:Nat):Prop:=∀(d:Nat) (S:Sv) (q:PS) (w:World),C.ts.length-q.pos<m→d≤20→IM C gt cap base gp S q w→
 Calls Tryz.prog 183 #[.pointer (some ⟨gp,0,none⟩),.int .i64 d] w (zQ C gt cap base gp (pE C .sum d q) id exI S w)
theorem zie (C:Cx) (n:ByteArray) (q:PS):zbc C n q=zbg C ⟨2,0,n,sNone,0,0⟩ 3 q:=by
 unfold zbc zbg
 cases j:isT C q.pos 4 zn with
 |true=>rw[zbG j];rfl
 |false=>rfl
theorem zlM (C:Cx) (n f:ByteArray) (q:PS):zbx C n f q=zbg C ⟨4,0,n,f,0,0⟩ 5 q:=by
 unfold zbx zbg
 cases j:isT C q.pos 4 zn with
 |true=>rw[zbG j];rfl
 |false=>rfl
theorem zlN {x y:ByteArray} (h:(x.toList==y.toList)=true):x=y:=by
 rw[beq_iff_eq,Lib.toList_data,Lib.toList_data] at h
 cases x
 cases y
 simp only at h
 rw[Array.toList_inj.1 h]
theorem zg3 {C:Cx} {i:Nat} {k:Int} {x:ByteArray} (h:isT C i k x=true):(ze C i).text=x:=by
 simp only[isT,Bool.and_eq_true] at h
 exact zlN h.2
theorem zf4 {C:Cx} {i:Nat} {k:Int} {x:ByteArray} (h:isT C i k x=true):((ze C i).kind==k)=true:=by
 simp only[isT,Bool.and_eq_true] at h
 exact h.1
theorem zlO {C:Cx} {d:Nat} {q:PS} (h:((ze C q.pos).kind==2)=true):pE C .part d q=zN C ⟨1,(ze C q.pos).num,sNone,sNone,0,0⟩ (adv q):=by rw[zb6,h];rfl
theorem zlP {C:Cx} {d:Nat} {q:PS} (h:((ze C q.pos).kind==2)=false) (n:isT C q.pos 4 zn=true) (j:20≤d):pE C .part d q= .error (zr C q.pos):=by rw[zb6,h,n,if_neg (by decide),if_pos rfl,if_pos j]
theorem zlQ {C:Cx} {d:Nat} {q:PS} (h:((ze C q.pos).kind==2)=false) (n:isT C q.pos 4 zn=true) (j: ¬20≤d):pE C .part d q=bd (pE C .sum (d+1) (adv q)) (zd C 4 za0):=by rw[zb6,h,n,if_neg (by decide),if_pos rfl,if_neg j]
theorem zlR {C:Cx} {d:Nat} {q:PS} (h:((ze C q.pos).kind==2)=false) (o:isT C q.pos 4 zn=false) (j:C.scr=true) (n:isT C q.pos 1 za7=true):pE C .part d q=zbg C ⟨2,0,za7,sNone,0,0⟩ 3 (adv q):=by
 rw[zb6,h,o,j,n,if_neg (by decide),if_neg (by decide),if_pos (by decide),zie]
theorem zif {C:Cx} {d:Nat} {q:PS} (h:((ze C q.pos).kind==2)=false) (n:isT C q.pos 4 zn=false) (j:(C.scr&&isT C q.pos 1 za7)=false):
  pE C .part d q=bd (zj C false q) fun x=>if isT C x.1.pos 4 cPoint then bd (zj C true (adv x.1)) fun y=>zbg C ⟨4,0,x.2,y.2,0,0⟩ 5 y.1 else zbg C ⟨2,0,x.2,sNone,0,0⟩ 3 x.1:=by
 rw[zb6,h,n,j,if_neg (by decide),if_neg (by decide),if_neg (by decide)]
 simp only[zie,zlM]
theorem zlS (C:Cx) (z n j o d:Nat) (S:Sv) (q:PS) (w:World) (h:IM C z n j o S q w) (X:((ze C q.pos).kind==2)=true):
  Calls Tryz.prog 206 #[.pointer (some ⟨o,0,none⟩),.int .i64 d] w (zQ C z n j o (pE C .part d q) id exI S w):=by
 have I:=zc h
 have aa:=zcG
 have Y:=zc0
 have ab:=zdY
 clear h
 have U:=zc (zlO (d:=d) X)
 go_enter Tryz.func206,Tryz.ntmps206
 go_wp2_with fail
 refine (zbr C z n j o S q _ I.out).mono ?_
 rintro e Q ⟨rfl,D⟩
 unfold tkV
 have M:Hid (IM C z n j o S q Q):=I.out.later D
 have K:Hid (IS o S w S Q):=IS.below D
 clear D
 go_wp2_with fail
 refine (zd1 C z n j o S q 2 _ M.out X (by decide)).mono ?_
 rintro e w2 ⟨rfl,m,s⟩
 have J:=zc m
 have A:Hid (IS o S w S w2):=K.out.trans s
 clear m s
 unfold tkV
 go_wp2_with fail
 refine (zec C z n j o S (adv q) ⟨1,(ze C q.pos).num,sNone,sNone,0,0⟩ _ J.out (by rw[zx];omega)).mono ?_
 cases E:zN C ⟨1,(ze C q.pos).num,sNone,sNone,0,0⟩ (adv q) with
 |error p=>
  rintro e L ⟨rfl,D⟩
  have Z:Hid (Below j w L):=(I.out.back A.out).trans D
  have HX:Hid (pE C .part d q= .error p):=U.out.trans E
  unfold Pan
  go_wp2
  refine⟨rfl,?_⟩
  rw[HX.out]
  exact⟨rfl,Z.out⟩
 |ok a3=>
  rintro e L ⟨rfl,V,m,s⟩
  have O:=zc m
  have H:Hid (IS o S w V L):=A.out.trans s
  clear m s
  have N:=zc (U.out.trans E)
  go_wp2
  go_ret
  rw[N.out]
  exact⟨rfl,V,O.out,H.out⟩
theorem zlT (C:Cx) (z n j o d:Nat) (S:Sv) (q:PS) (w:World) (h:IM C z n j o S q w) (hk:((ze C q.pos).kind==2)=false) (L:isT C q.pos 4 zn=true) (Y:20≤d):
  Calls Tryz.prog 206 #[.pointer (some ⟨o,0,none⟩),.int .i64 d] w (zQ C z n j o (pE C .part d q) id exI S w):=by
 have H:=zc h
 have U:=zcG
 have M:=zc0
 have V:=zdY
 clear h
 have Z:=zc (zlP (d:=d) hk L Y)
 have Q:(20:Int)≤(d:Int):=by omega
 go_enter Tryz.func206,Tryz.ntmps206
 go_wp2_with fail
 refine (zbr C z n j o S q _ H.out).mono ?_
 rintro e K ⟨rfl,D⟩
 unfold tkV
 have J:Hid (IM C z n j o S q K):=H.out.later D
 have I:Hid (IS o S w S K):=IS.below D
 clear D
 go_wp2_with fail
 refine (zK C z n j o S q 4 zn _ J.out (by decide)).mono ?_
 rintro e O ⟨rfl,m,s⟩
 rw[L] at m ⊢
 have A:=zc m
 have E:Hid (IS o S w S O):=I.out.trans s
 clear m s
 go_wp2_with fail
 refine (zeb C z n j o S (adv q) d 20 _ A.out (by omega) (by rw[zx];omega)).mono ?_
 rintro e X ⟨rfl,D⟩
 have N:Hid (Below j w X):=(H.out.back E.out).trans (D.mono A.out.mem.base)
 have HX:Hid (pE C .part d q= .error (zr C q.pos)):=Z.out
 unfold Pan
 go_wp2
 refine⟨rfl,?_⟩
 rw[HX.out]
 exact⟨rfl,N.out⟩
theorem zlU (C:Cx) (z n j o m d:Nat) (S:Sv) (q:PS) (w:World) (h:IM C z n j o S q w) (hk:((ze C q.pos).kind==2)=false) (X:isT C q.pos 4 zn=true) (hd:d<20) (hS:zeJ C z n j o m) (hm:C.ts.length-q.pos≤m):
  Calls Tryz.prog 206 #[.pointer (some ⟨o,0,none⟩),.int .i64 d] w (zQ C z n j o (pE C .part d q) id exI S w):=by
 have M:=zc h
 have ag:=zcG
 have ae:=zc0
 have ah:=zdY
 clear h
 have HY:=zc (zlQ (d:=d) hk X (by omega))
 have af: ¬(20:Int)≤(d:Int):=by omega
 have ai:=za1 X (by decide)
 obtain⟨E,J⟩: ∃E:Nat,E=d+1:=⟨_,rfl⟩
 have ed:(d:Int)+1=(E:Int):=by omega
 rw[←J] at HY
 have N:E≤20:=by omega
 clear J
 go_enter Tryz.func206,Tryz.ntmps206
 go_wp2_with fail
 refine (zbr C z n j o S q _ M.out).mono ?_
 rintro e w1 ⟨rfl,D⟩
 unfold tkV
 have ac:Hid (IM C z n j o S q w1):=M.out.later D
 have U:Hid (IS o S w S w1):=IS.below D
 clear D
 go_wp2_with fail
 refine (zK C z n j o S q 4 zn _ ac.out (by decide)).mono ?_
 rintro e w2 ⟨rfl,m,s⟩
 rw[X] at m ⊢
 have Q:=zc m
 have I:Hid (IS o S w S w2):=U.out.trans s
 clear m s
 go_wp2_with fail
 refine (zd2 o d 20 _ (by omega)).mono ?_
 rintro e w' ⟨rfl,hw⟩
 rw[hw]
 clear hw w'
 go_wp2_with fail
 refine (hS E S (adv q) _ (by rw[zx];omega) N Q.out).mono ?_
 cases K:pE C .sum E (adv q) with
 |error p=>
  rintro e V ⟨rfl,D⟩
  have O:Hid (Below j w V):=(M.out.back I.out).trans D
  have HX:Hid (pE C .part d q= .error p):=bdE HY.out K
  unfold Pan
  go_wp2
  refine⟨rfl,?_⟩
  rw[HX.out]
  exact⟨rfl,O.out⟩
 |ok a3=>
  rintro e V ⟨rfl,S3,m,s⟩
  have ad:=zc m
  have H:Hid (IS o S w S3 V):=I.out.trans s
  clear m s
  have L:=zc (bdO HY.out K)
  unfold exI
  go_wp2_with fail
  refine (zbX C z n j o S3 a3 41 _ ad.out).mono ?_
  cases A:zd C 4 za0 a3 with
  |error p=>
   rintro e Z ⟨rfl,D⟩
   have O:Hid (Below j w Z):=(M.out.back H.out).trans D
   have HX:Hid (pE C .part d q= .error p):=L.out.trans A
   unfold Pan
   go_wp2
   refine⟨rfl,?_⟩
   rw[HX.out]
   exact⟨rfl,O.out⟩
  |ok a4=>
   rintro e Z ⟨rfl,S4,m,s⟩
   have aa:=zc m
   have ab:Hid (IS o S w S4 Z):=H.out.trans s
   clear m s
   have Y:=zc (L.out.trans A)
   have HP:Hid (a4=adv a3):=(zb4 A).1
   go_wp2
   go_ret
   rw[Y.out]
   exact⟨by rw[HP.out];rfl,S4,aa.out,ab.out⟩
theorem zlV (C:Cx) (z n j o d:Nat) (S:Sv) (q:PS) (w:World) (h:IM C z n j o S q w) (hk:((ze C q.pos).kind==2)=false) (h1:isT C q.pos 4 zn=false) (h2:C.scr=true) (I:isT C q.pos 1 za7=true):
  Calls Tryz.prog 206 #[.pointer (some ⟨o,0,none⟩),.int .i64 d] w (zQ C z n j o (pE C .part d q) id exI S w):=by
 have M:=zc h
 have ab:=zcG
 have aa:=zc0
 have ac:=zdY
 clear h
 have HY:=zc (zlR (d:=d) hk h1 h2 I)
 go_enter Tryz.func206,Tryz.ntmps206
 go_wp2_with fail
 refine (zbr C z n j o S q _ M.out).mono ?_
 rintro e w1 ⟨rfl,A⟩
 unfold tkV
 have V:Hid (IM C z n j o S q w1):=M.out.later A
 have O:Hid (IS o S w S w1):=IS.below A
 clear A
 go_wp2_with fail
 refine (zK C z n j o S q 4 zn _ V.out (by decide)).mono ?_
 rintro e w2 ⟨rfl,m,s⟩
 rw[h1] at m ⊢
 have D:=zc m
 have K:Hid (IS o S w S w2):=O.out.trans s
 clear m s
 obtain⟨_,_,_,c3,_,_,_,_,_,_,cf⟩:=zac D.out.cells
 rw[h2] at c3
 go_wp2_with fail
 refine (zbO C z n j o S q 1 za7 _ D.out).mono ?_
 rintro e Z ⟨rfl,A⟩
 rw[I]
 have Y:Hid (IM C z n j o S q Z):=D.out.later A
 have J:Hid (IS o S w S Z):=(K.out.trans (IS.below A))
 clear A
 go_wp2_with fail
 refine (zd1 C z n j o S q 1 _ Y.out (zf4 I) (by decide)).mono ?_
 rintro e w4 ⟨rfl,m,s⟩
 have U:=zc m
 have H:Hid (IS o S w S w4):=J.out.trans s
 clear m s
 unfold tkV
 rw[zg3 I]
 go_wp2_with fail
 refine (zeI C z n j o S (adv q) ⟨2,0,za7,sNone,0,0⟩ 3 _ U.out (by rw[zx];omega)).mono ?_
 cases E:zbg C ⟨2,0,za7,sNone,0,0⟩ 3 (adv q) with
 |error p=>
  rintro e Q ⟨rfl,A⟩
  have HB:Hid (Below j w Q):=(M.out.back H.out).trans A
  have HX:Hid (pE C .part d q= .error p):=HY.out.trans E
  unfold Pan
  go_wp2
  refine⟨rfl,?_⟩
  rw[HX.out]
  exact⟨rfl,HB.out⟩
 |ok a5=>
  rintro e Q ⟨rfl,S5,m,s⟩
  have L:=zc m
  have N:Hid (IS o S w S5 Q):=H.out.trans s
  clear m s
  have X:=zc (HY.out.trans E)
  go_wp2
  go_ret
  rw[X.out]
  exact⟨rfl,S5,L.out,N.out⟩
theorem zlW (C:Cx) (A n j o d:Nat) (S:Sv) (q:PS) (w:World) (h:IM C A n j o S q w) (hk:((ze C q.pos).kind==2)=false) (h1:isT C q.pos 4 zn=false) (h2:C.scr=true) (h3:isT C q.pos 1 za7=false):
  Calls Tryz.prog 206 #[.pointer (some ⟨o,0,none⟩),.int .i64 d] w (zQ C A n j o (pE C .part d q) id exI S w):=by
 have X:=zc h
 have an:=zcG
 have am:=zc0
 have ao:=zdY
 clear h
 have HY:=zc (zif (d:=d) hk h1 (by rw[h2,h3];rfl))
 go_enter Tryz.func206,Tryz.ntmps206
 go_wp2_with fail
 refine (zbr C A n j o S q _ X.out).mono ?_
 rintro e w1 ⟨rfl,z⟩
 unfold tkV
 have ak:Hid (IM C A n j o S q w1):=X.out.later z
 have ah:Hid (IS o S w S w1):=IS.below z
 clear z
 go_wp2_with fail
 refine (zK C A n j o S q 4 zn _ ak.out (by decide)).mono ?_
 rintro e w2 ⟨rfl,m,s⟩
 rw[h1] at m ⊢
 have M:=zc m
 have ag:Hid (IS o S w S w2):=ah.out.trans s
 clear m s
 obtain⟨_,_,_,c3,_,_,_,_,_,_,cf⟩:=zac M.out.cells
 rw[h2] at c3
 go_wp2_with fail
 refine (zbO C A n j o S q 1 za7 _ M.out).mono ?_
 rintro e w3 ⟨rfl,z⟩
 rw[h3]
 have al:Hid (IM C A n j o S q w3):=M.out.later z
 have Y:Hid (IS o S w S w3):=(ag.out.trans (IS.below z))
 clear z
 go_wp2_with fail
 refine (zdb C A n j o S q _ al.out).mono ?_
 cases O:zj C false q with
 |error p=>
  rintro e w4 ⟨rfl,z⟩
  have K:Hid (Below j w w4):=(X.out.back Y.out).trans z
  have V:Hid (pE C .part d q= .error p):=bdE HY.out O
  unfold Pan
  go_wp2
  refine⟨rfl,?_⟩
  rw[V.out]
  exact⟨rfl,K.out⟩
 |ok E=>
  rintro e w4 ⟨rfl,U,m,s⟩
  have ad:=zc m
  have ae:Hid (IS o S w U w4):=Y.out.trans s
  clear m s
  have ab:=zc (bdO HY.out O)
  have ac:0<E.1.pos:=by rw[(zbd O).1];exact Nat.succ_pos _
  cases hd:isT C E.1.pos 4 cPoint with
  |true=>
   have Z:=zc (ab.out.trans (if_pos hd))
   go_wp2_with fail
   refine (zK C A n j o U (E.1) 4 cPoint _ ad.out (by decide)).mono ?_
   rintro e w5 ⟨rfl,m,s⟩
   rw[hd] at m ⊢
   have L:=zc m
   have H:Hid (IS o S w U w5):=ae.out.trans s
   clear m s
   go_wp2_with fail
   refine (zeD C A n j o U (adv (E.1)) _ L.out).mono ?_
   cases D:zj C true (adv (E.1)) with
   |error p=>
    rintro e Q ⟨rfl,z⟩
    have K:Hid (Below j w Q):=(X.out.back H.out).trans z
    have V:Hid (pE C .part d q= .error p):=bdE Z.out D
    unfold Pan
    go_wp2
    refine⟨rfl,?_⟩
    rw[V.out]
    exact⟨rfl,K.out⟩
   |ok a6=>
    rintro e Q ⟨rfl,S6,m,s⟩
    have N:=zc m
    have I:Hid (IS o S w S6 Q):=H.out.trans s
    clear m s
    have J:=zc (bdO Z.out D)
    go_wp2_with fail
    refine (zeI C A n j o S6 (a6.1) ⟨4,0,E.2,a6.2,0,0⟩ 5 _ N.out (by rw[(zbd D).1];exact Nat.succ_pos _)).mono ?_
    cases aa:zbg C ⟨4,0,E.2,a6.2,0,0⟩ 5 (a6.1) with
    |error p=>
     rintro e w7 ⟨rfl,z⟩
     have K:Hid (Below j w w7):=(X.out.back I.out).trans z
     have V:Hid (pE C .part d q= .error p):=J.out.trans aa
     unfold Pan
     go_wp2
     refine⟨rfl,?_⟩
     rw[V.out]
     exact⟨rfl,K.out⟩
    |ok a7=>
     rintro e w7 ⟨rfl,S7,m,s⟩
     have aj:=zc m
     have af:Hid (IS o S w S7 w7):=I.out.trans s
     clear m s
     have ai:=zc (J.out.trans aa)
     go_wp2
     go_ret
     rw[ai.out]
     exact⟨rfl,S7,aj.out,af.out⟩
  |false=>
   have Z:=zc (ab.out.trans (if_neg (by rw[hd];decide)))
   go_wp2_with fail
   refine (zK C A n j o U (E.1) 4 cPoint _ ad.out (by decide)).mono ?_
   rintro e w5 ⟨rfl,m,s⟩
   rw[hd] at m ⊢
   have L:=zc m
   have H:Hid (IS o S w U w5):=ae.out.trans s
   clear m s
   go_wp2_with fail
   refine (zeI C A n j o U (E.1) ⟨2,0,E.2,sNone,0,0⟩ 3 _ L.out ac).mono ?_
   cases D:zbg C ⟨2,0,E.2,sNone,0,0⟩ 3 (E.1) with
   |error p=>
    rintro e Q ⟨rfl,z⟩
    have K:Hid (Below j w Q):=(X.out.back H.out).trans z
    have V:Hid (pE C .part d q= .error p):=Z.out.trans D
    unfold Pan
    go_wp2
    refine⟨rfl,?_⟩
    rw[V.out]
    exact⟨rfl,K.out⟩
   |ok a6=>
    rintro e Q ⟨rfl,S6,m,s⟩
    have N:=zc m
    have I:Hid (IS o S w S6 Q):=H.out.trans s
    clear m s
    have J:=zc (Z.out.trans D)
    go_wp2
    go_ret
    rw[J.out]
    exact⟨rfl,S6,N.out,I.out⟩
theorem zlX (C:Cx) (D n j o d:Nat) (S:Sv) (q:PS) (w:World) (h:IM C D n j o S q w) (hk:((ze C q.pos).kind==2)=false) (h1:isT C q.pos 4 zn=false) (h2:C.scr=false):
  Calls Tryz.prog 206 #[.pointer (some ⟨o,0,none⟩),.int .i64 d] w (zQ C D n j o (pE C .part d q) id exI S w):=by
 have V:=zc h
 have al:=zcG
 have ak:=zc0
 have am:=zdY
 clear h
 have HY:=zc (zif (d:=d) hk h1 (by rw[h2];rfl))
 go_enter Tryz.func206,Tryz.ntmps206
 go_wp2_with fail
 refine (zbr C D n j o S q _ V.out).mono ?_
 rintro e w1 ⟨rfl,E⟩
 unfold tkV
 have aj:Hid (IM C D n j o S q w1):=V.out.later E
 have ai:Hid (IS o S w S w1):=IS.below E
 clear E
 go_wp2_with fail
 refine (zK C D n j o S q 4 zn _ aj.out (by decide)).mono ?_
 rintro e w2 ⟨rfl,m,s⟩
 rw[h1] at m ⊢
 have aa:=zc m
 have Z:Hid (IS o S w S w2):=ai.out.trans s
 clear m s
 obtain⟨_,_,_,c3,_,_,_,_,_,_,cf⟩:=zac aa.out.cells
 rw[h2] at c3
 go_wp2_with fail
 refine (zdb C D n j o S q _ aa.out).mono ?_
 cases O:zj C false q with
 |error p=>
  rintro e w3 ⟨rfl,E⟩
  have K:Hid (Below j w w3):=(V.out.back Z.out).trans E
  have U:Hid (pE C .part d q= .error p):=bdE HY.out O
  unfold Pan
  go_wp2
  refine⟨rfl,?_⟩
  rw[U.out]
  exact⟨rfl,K.out⟩
 |ok A=>
  rintro e w3 ⟨rfl,Q,m,s⟩
  have ae:=zc m
  have X:Hid (IS o S w Q w3):=Z.out.trans s
  clear m s
  have ad:=zc (bdO HY.out O)
  have ac:0<A.1.pos:=by rw[(zbd O).1];exact Nat.succ_pos _
  cases hd:isT C A.1.pos 4 cPoint with
  |true=>
   have Y:=zc (ad.out.trans (if_pos hd))
   go_wp2_with fail
   refine (zK C D n j o Q (A.1) 4 cPoint _ ae.out (by decide)).mono ?_
   rintro e w4 ⟨rfl,m,s⟩
   rw[hd] at m ⊢
   have N:=zc m
   have H:Hid (IS o S w Q w4):=X.out.trans s
   clear m s
   go_wp2_with fail
   refine (zeD C D n j o Q (adv (A.1)) _ N.out).mono ?_
   cases z:zj C true (adv (A.1)) with
   |error p=>
    rintro e M ⟨rfl,E⟩
    have K:Hid (Below j w M):=(V.out.back H.out).trans E
    have U:Hid (pE C .part d q= .error p):=bdE Y.out z
    unfold Pan
    go_wp2
    refine⟨rfl,?_⟩
    rw[U.out]
    exact⟨rfl,K.out⟩
   |ok a5=>
    rintro e M ⟨rfl,S5,m,s⟩
    have L:=zc m
    have I:Hid (IS o S w S5 M):=H.out.trans s
    clear m s
    have J:=zc (bdO Y.out z)
    go_wp2_with fail
    refine (zeI C D n j o S5 (a5.1) ⟨4,0,A.2,a5.2,0,0⟩ 5 _ L.out (by rw[(zbd z).1];exact Nat.succ_pos _)).mono ?_
    cases ab:zbg C ⟨4,0,A.2,a5.2,0,0⟩ 5 (a5.1) with
    |error p=>
     rintro e w6 ⟨rfl,E⟩
     have K:Hid (Below j w w6):=(V.out.back I.out).trans E
     have U:Hid (pE C .part d q= .error p):=J.out.trans ab
     unfold Pan
     go_wp2
     refine⟨rfl,?_⟩
     rw[U.out]
     exact⟨rfl,K.out⟩
    |ok a6=>
     rintro e w6 ⟨rfl,S6,m,s⟩
     have ah:=zc m
     have af:Hid (IS o S w S6 w6):=I.out.trans s
     clear m s
     have ag:=zc (J.out.trans ab)
     go_wp2
     go_ret
     rw[ag.out]
     exact⟨rfl,S6,ah.out,af.out⟩
  |false=>
   have Y:=zc (ad.out.trans (if_neg (by rw[hd];decide)))
   go_wp2_with fail
   refine (zK C D n j o Q (A.1) 4 cPoint _ ae.out (by decide)).mono ?_
   rintro e w4 ⟨rfl,m,s⟩
   rw[hd] at m ⊢
   have N:=zc m
   have H:Hid (IS o S w Q w4):=X.out.trans s
   clear m s
   go_wp2_with fail
   refine (zeI C D n j o Q (A.1) ⟨2,0,A.2,sNone,0,0⟩ 3 _ N.out ac).mono ?_
   cases z:zbg C ⟨2,0,A.2,sNone,0,0⟩ 3 (A.1) with
   |error p=>
    rintro e M ⟨rfl,E⟩
    have K:Hid (Below j w M):=(V.out.back H.out).trans E
    have U:Hid (pE C .part d q= .error p):=Y.out.trans z
    unfold Pan
    go_wp2
    refine⟨rfl,?_⟩
    rw[U.out]
    exact⟨rfl,K.out⟩
   |ok a5=>
    rintro e M ⟨rfl,S5,m,s⟩
    have L:=zc m
    have I:Hid (IS o S w S5 M):=H.out.trans s
    clear m s
    have J:=zc (Y.out.trans z)
    go_wp2
    go_ret
    rw[J.out]
    exact⟨rfl,S5,L.out,I.out⟩
theorem zig (C:Cx) (z n j o m d:Nat) (S:Sv) (q:PS) (w:World) (h:IM C z n j o S q w) (L:d≤20) (K:zeJ C z n j o m) (J:C.ts.length-q.pos≤m):
  Calls Tryz.prog 206 #[.pointer (some ⟨o,0,none⟩),.int .i64 d] w (zQ C z n j o (pE C .part d q) id exI S w):=by
 cases A:((ze C q.pos).kind==2) with
 |true=>exact zlS C z n j o d S q w h A
 |false=>
  cases D:isT C q.pos 4 zn with
  |true=>
   by_cases E:20≤d
   ·exact zlT C z n j o d S q w h A D E
   ·exact zlU C z n j o m d S q w h A D (by omega) K J
  |false=>
   cases H:C.scr with
   |true=>
    cases I:isT C q.pos 1 za7 with
    |true=>exact zlV C z n j o d S q w h A D H I
    |false=>exact zlW C z n j o d S q w h A D H I
   |false=>exact zlX C z n j o d S q w h A D H
theorem zlY {C:Cx} {d:Nat} {q:PS} (h:isT C q.pos 4 zw=false):pE C .prodT d q= .ok q:=by rw[zfo,if_neg (by rw[h];decide)]
theorem zlZ {C:Cx} {d:Nat} {q:PS} (h:isT C q.pos 4 zw=true):pE C .prodT d q=bd (pE C .part d (adv q)) fun a=>bd (zN C ⟨8,0,sNone,sNone,(q.ex.length:Int)-1,(a.ex.length:Int)-1⟩ a) (pE C .prodT d):=by rw[zfo,if_pos h,zM]
theorem zma {C:Cx} {d:Nat} {q:PS} (h:isT C q.pos 4 zbb=false) (j:isT C q.pos 4 zbU=false):pE C .sumT d q= .ok q:=by rw[ze7,if_neg (by rw[h,j];decide)]
theorem zmb {C:Cx} {d:Nat} {q:PS} (h:isT C q.pos 4 zbb=true):pE C .sumT d q=bd (pE C .prod d (adv q)) fun a=>bd (zN C ⟨7,0,sNone,sNone,(q.ex.length:Int)-1,(a.ex.length:Int)-1⟩ a) (pE C .sumT d):=by
 rw[ze7,if_pos (by rw[h];exact Bool.or_true _),zM,zcY,if_pos h]
theorem zmc {C:Cx} {d:Nat} {q:PS} (h:isT C q.pos 4 zbb=false) (j:isT C q.pos 4 zbU=true):pE C .sumT d q=bd (pE C .prod d (adv q)) fun a=>bd (zN C ⟨6,0,sNone,sNone,(q.ex.length:Int)-1,(a.ex.length:Int)-1⟩ a) (pE C .sumT d):=by
 rw[ze7,if_pos (by rw[j];rfl),zM,zcY,if_neg (by rw[h];decide)]
theorem zg4 (C:Cx) (D n j o m d:Nat) (S:Sv) (q:PS) (w:World) (h:IM C D n j o S q w) (hd:d≤20) (hS:zeJ C D n j o m) (hm:C.ts.length-q.pos≤m):
  Calls Tryz.prog 201 #[.pointer (some ⟨o,0,none⟩),.int .i64 d] w (zQ C D n j o (pE C .prod d q) id exI S w):=by
 have HH:=zc h
 have HY:=zc (zhD C d q)
 clear h
 go_enter Tryz.func201,Tryz.ntmps201
 go_wp2_with fail
 refine (zig C D n j o m d S q _ HH.out hd hS hm).mono ?_
 cases H:pE C .part d q with
 |error p=>
  rintro e w1 ⟨rfl,Q⟩
  have O:Hid (Below j w w1):=(HH.out.back (IS.refl _ _ _)).trans Q
  have Y:Hid (pE C .prod d q= .error p):=bdE HY.out H
  unfold Pan
  go_wp2
  refine⟨rfl,?_⟩
  rw[Y.out]
  exact⟨rfl,O.out⟩
 |ok a1=>
  rintro e w1 ⟨rfl,S1,m,s⟩
  have ah:=zc m
  have ac:=zc s
  clear m s
  have ab:=zc (bdO HY.out H)
  unfold exI
  have ak:=zaY H
  go_wp2
  go_loopg [5] (C.ts.length+1) (fun k l wr=>∃(A:Sv) (z:PS),l=exI z∧pE C .prod d q=pE C .prodT d z∧C.ts.length-z.pos<k∧C.ts.length-z.pos≤m∧IM C D n j o A z wr∧IS o S w A wr)
  case atStart=>exact⟨S1,a1,rfl,ab.out,by omega,by omega,ah.out,ac.out⟩
  case round=>
   obtain⟨A,z,rfl,hy,hk,aj,m',s'⟩:=hrel
   have U:=zc hy
   have aa:Hid (IM C D n j o A z wr):=m'
   have V:Hid (IS o S w A wr):=s'
   clear hy m' s'
   unfold exI
   cases N:isT C z.pos 4 zw with
   |false=>
    have HZ:=zc (U.out.trans (zlY N))
    go_wp2_with fail
    refine (zK C D n j o A z 4 zw _ aa.out (by decide)).mono ?_
    rintro e w2 ⟨rfl,m,s⟩
    rw[N] at m ⊢
    have I:=zc m
    have E:Hid (IS o S w A w2):=V.out.trans s
    clear m s
    go_wp2
    go_ret
    rw[HZ.out]
    exact⟨rfl,A,I.out,E.out⟩
   |true=>
    have al:=za1 N (by decide)
    have HZ:=zc (U.out.trans (zlZ N))
    go_wp2_with fail
    refine (zK C D n j o A z 4 zw _ aa.out (by decide)).mono ?_
    rintro e w2 ⟨rfl,m,s⟩
    rw[N] at m ⊢
    have I:=zc m
    have E:Hid (IS o S w A w2):=V.out.trans s
    clear m s
    go_wp2_with fail
    refine (zig C D n j o m d A (adv z) _ I.out hd hS (by rw[zx];omega)).mono ?_
    cases K:pE C .part d (adv z) with
    |error p=>
     rintro e w3 ⟨rfl,Q⟩
     have O:Hid (Below j w w3):=(HH.out.back E.out).trans Q
     have Y:Hid (pE C .prod d q= .error p):=bdE HZ.out K
     unfold Pan
     go_wp2
     refine⟨rfl,?_⟩
     rw[Y.out]
     exact⟨rfl,O.out⟩
    |ok L=>
     rintro e w3 ⟨rfl,S3,m,s⟩
     have ai:=zc m
     have M:Hid (IS o S w S3 w3):=E.out.trans s
     clear m s
     have X:=zc (bdO HZ.out K)
     unfold exI
     have Z:=zaY K
     rw[zx] at Z
     have ag:0<L.pos:=by omega
     go_wp2_with fail
     refine (zec C D n j o S3 L ⟨8,0,sNone,sNone,(z.ex.length:Int)-1,(L.ex.length:Int)-1⟩ _ ai.out ag).mono ?_
     cases J:zN C ⟨8,0,sNone,sNone,(z.ex.length:Int)-1,(L.ex.length:Int)-1⟩ L with
     |error p=>
      rintro e w4 ⟨rfl,Q⟩
      have O:Hid (Below j w w4):=(HH.out.back M.out).trans Q
      have Y:Hid (pE C .prod d q= .error p):=bdE X.out J
      unfold Pan
      go_wp2
      refine⟨rfl,?_⟩
      rw[Y.out]
      exact⟨rfl,O.out⟩
     |ok a4=>
      rintro e w4 ⟨rfl,S4,m,s⟩
      have ae:=zc m
      have af:Hid (IS o S w S4 w4):=M.out.trans s
      clear m s
      have ad:=zc (bdO X.out J)
      have HP:Hid (a4.pos=L.pos):=by show _=_;rw[(zb5 J).1]
      go_wp2
      go_roundg (gk-1)
      case rel=>exact⟨S4,a4,rfl,ad.out,by have:=HP.out;omega,by have:=HP.out;omega,ae.out,af.out⟩
      case measure=>omega
theorem zmd (C:Cx) (E n j o m d:Nat) (S:Sv) (q:PS) (w:World) (h:IM C E n j o S q w) (hd:d≤20) (hS:zeJ C E n j o m) (hm:C.ts.length-q.pos≤m):
  Calls Tryz.prog 183 #[.pointer (some ⟨o,0,none⟩),.int .i64 d] w (zQ C E n j o (pE C .sum d q) id exI S w):=by
 have HH:=zc h
 have HY:=zc (zhC C d q)
 clear h
 go_enter Tryz.func183,Tryz.ntmps183
 go_wp2_with fail
 refine (zg4 C E n j o m d S q _ HH.out hd hS hm).mono ?_
 cases ah:pE C .prod d q with
 |error p=>
  rintro e w1 ⟨rfl,A⟩
  have X:Hid (Below j w w1):=(HH.out.back (IS.refl _ _ _)).trans A
  have V:Hid (pE C .sum d q= .error p):=bdE HY.out ah
  unfold Pan
  go_wp2
  refine⟨rfl,?_⟩
  rw[V.out]
  exact⟨rfl,X.out⟩
 |ok a1=>
  rintro e w1 ⟨rfl,S1,m,s⟩
  have ao:=zc m
  have al:=zc s
  clear m s
  have an:=zc (bdO HY.out ah)
  unfold exI
  have ar:=zaY ah
  go_wp2
  go_loopg [5] (C.ts.length+1) (fun k l wr=>∃(D:Sv) (z:PS),l=exI z∧pE C .sum d q=pE C .sumT d z∧C.ts.length-z.pos<k∧C.ts.length-z.pos≤m∧IM C E n j o D z wr∧IS o S w D wr)
  case atStart=>exact⟨S1,a1,rfl,an.out,by omega,by omega,ao.out,al.out⟩
  case round=>
   obtain⟨D,z,rfl,hy,hk,au,m',s'⟩:=hrel
   have ai:=zc hy
   have J:Hid (IM C E n j o D z wr):=m'
   have ad:Hid (IS o S w D wr):=s'
   clear hy m' s'
   unfold exI
   have aq:=J.out.mem.few
   cases hi:isT C z.pos 4 zbb with
   |true=>
    have ag:=za1 hi (by decide)
    have HZ:=zc (ai.out.trans (zmb hi))
    go_wp2_with fail
    refine (zbO C E n j o D z 4 zbb _ J.out).mono ?_
    rintro e Q ⟨rfl,A⟩
    rw[hi]
    have H:Hid (IM C E n j o D z Q):=J.out.later A
    have O:Hid (IS o S w D Q):=(ad.out.trans (IS.below A))
    clear A
    obtain⟨c0,c1,c2,c3,c4,c5,c6,c7,c8,c9,cf⟩:=zac H.out.cells
    go_wp2_with fail
    have K:Hid (IM C E n j o D (adv z) (Q.setCell ⟨o,1,none⟩ (.int .i64 ((z.pos:Int)+1)))):=H.out.adv ag
    have L:Hid (IS o S w D (Q.setCell ⟨o,1,none⟩ (.int .i64 ((z.pos:Int)+1)))):=O.out.set _ _
    refine (zg4 C E n j o m d D (adv z) _ K.out hd hS (by rw[zx];omega)).mono ?_
    cases aa:pE C .prod d (adv z) with
    |error p=>
     rintro e w4 ⟨rfl,A⟩
     have X:Hid (Below j w w4):=(HH.out.back L.out).trans A
     have V:Hid (pE C .sum d q= .error p):=bdE HZ.out aa
     unfold Pan
     go_wp2
     refine⟨rfl,?_⟩
     rw[V.out]
     exact⟨rfl,X.out⟩
    |ok a4=>
     rintro e w4 ⟨rfl,S4,m,s⟩
     have af:=zc m
     have M:Hid (IS o S w S4 w4):=L.out.trans s
     clear m s
     have aj:=zc (bdO HZ.out aa)
     unfold exI
     have N:=zaY aa
     rw[zx] at N
     have ab:0<a4.pos:=by omega
     go_wp2_with fail
     refine (zec C E n j o S4 a4 ⟨7,0,sNone,sNone,(z.ex.length:Int)-1,(a4.ex.length:Int)-1⟩ _ af.out ab).mono ?_
     cases I:zN C ⟨7,0,sNone,sNone,(z.ex.length:Int)-1,(a4.ex.length:Int)-1⟩ a4 with
     |error p=>
      rintro e w5 ⟨rfl,A⟩
      have X:Hid (Below j w w5):=(HH.out.back M.out).trans A
      have V:Hid (pE C .sum d q= .error p):=bdE aj.out I
      unfold Pan
      go_wp2
      refine⟨rfl,?_⟩
      rw[V.out]
      exact⟨rfl,X.out⟩
     |ok U=>
      rintro e w5 ⟨rfl,S5,m,s⟩
      have ae:=zc m
      have Y:Hid (IS o S w S5 w5):=M.out.trans s
      clear m s
      have Z:=zc (bdO aj.out I)
      have HP:Hid (U.pos=a4.pos):=by show _=_;rw[(zb5 I).1]
      go_wp2
      go_roundg (gk-1)
      case rel=>exact⟨S5,U,rfl,Z.out,by have:=HP.out;omega,by have:=HP.out;omega,ae.out,Y.out⟩
      case measure=>omega
   |false=>
    cases hj:isT C z.pos 4 zbU with
    |true=>
     have ag:=za1 hj (by decide)
     have HZ:=zc (ai.out.trans (zmc hi hj))
     go_wp2_with fail
     refine (zbO C E n j o D z 4 zbb _ J.out).mono ?_
     rintro e Q ⟨rfl,A⟩
     rw[hi]
     have H:Hid (IM C E n j o D z Q):=J.out.later A
     have O:Hid (IS o S w D Q):=(ad.out.trans (IS.below A))
     clear A
     go_wp2_with fail
     refine (zbO C E n j o D z 4 zbU _ H.out).mono ?_
     rintro e w3 ⟨rfl,A⟩
     rw[hj]
     have K:Hid (IM C E n j o D z w3):=H.out.later A
     have L:Hid (IS o S w D w3):=(O.out.trans (IS.below A))
     clear A
     obtain⟨c0,c1,c2,c3,c4,c5,c6,c7,c8,c9,cf⟩:=zac K.out.cells
     go_wp2_with fail
     have af:Hid (IM C E n j o D (adv z) (w3.setCell ⟨o,1,none⟩ (.int .i64 ((z.pos:Int)+1)))):=K.out.adv ag
     have M:Hid (IS o S w D (w3.setCell ⟨o,1,none⟩ (.int .i64 ((z.pos:Int)+1)))):=L.out.set _ _
     refine (zg4 C E n j o m d D (adv z) _ af.out hd hS (by rw[zx];omega)).mono ?_
     cases I:pE C .prod d (adv z) with
     |error p=>
      rintro e w5 ⟨rfl,A⟩
      have X:Hid (Below j w w5):=(HH.out.back M.out).trans A
      have V:Hid (pE C .sum d q= .error p):=bdE HZ.out I
      unfold Pan
      go_wp2
      refine⟨rfl,?_⟩
      rw[V.out]
      exact⟨rfl,X.out⟩
     |ok U=>
      rintro e w5 ⟨rfl,S5,m,s⟩
      have ae:=zc m
      have Y:Hid (IS o S w S5 w5):=M.out.trans s
      clear m s
      have Z:=zc (bdO HZ.out I)
      unfold exI
      have N:=zaY I
      rw[zx] at N
      have ab:0<U.pos:=by omega
      go_wp2_with fail
      refine (zec C E n j o S5 U ⟨6,0,sNone,sNone,(z.ex.length:Int)-1,(U.ex.length:Int)-1⟩ _ ae.out ab).mono ?_
      cases ac:zN C ⟨6,0,sNone,sNone,(z.ex.length:Int)-1,(U.ex.length:Int)-1⟩ U with
      |error p=>
       rintro e w6 ⟨rfl,A⟩
       have X:Hid (Below j w w6):=(HH.out.back Y.out).trans A
       have V:Hid (pE C .sum d q= .error p):=bdE Z.out ac
       unfold Pan
       go_wp2
       refine⟨rfl,?_⟩
       rw[V.out]
       exact⟨rfl,X.out⟩
      |ok a6=>
       rintro e w6 ⟨rfl,S6,m,s⟩
       have ap:=zc m
       have am:Hid (IS o S w S6 w6):=Y.out.trans s
       clear m s
       have ak:=zc (bdO Z.out ac)
       have HP:Hid (a6.pos=U.pos):=by show _=_;rw[(zb5 ac).1]
       go_wp2
       go_roundg (gk-1)
       case rel=>exact⟨S6,a6,rfl,ak.out,by have:=HP.out;omega,by have:=HP.out;omega,ap.out,am.out⟩
       case measure=>omega
    |false=>
     have HZ:=zc (ai.out.trans (zma hi hj))
     go_wp2_with fail
     refine (zbO C E n j o D z 4 zbb _ J.out).mono ?_
     rintro e Q ⟨rfl,A⟩
     rw[hi]
     have H:Hid (IM C E n j o D z Q):=J.out.later A
     have O:Hid (IS o S w D Q):=(ad.out.trans (IS.below A))
     clear A
     go_wp2_with fail
     refine (zbO C E n j o D z 4 zbU _ H.out).mono ?_
     rintro e w3 ⟨rfl,A⟩
     rw[hj]
     have K:Hid (IM C E n j o D z w3):=H.out.later A
     have L:Hid (IS o S w D w3):=(O.out.trans (IS.below A))
     clear A
     go_wp2
     go_ret
     rw[HZ.out]
     exact⟨rfl,D,K.out,L.out⟩
theorem zme (C:Cx) (A n j z m:Nat):zeJ C A n j z m:=by
 induction m with
 |zero=>intro d S q w o;omega
 |succ m D=>intro d S q w o E h;exact zmd C A n j z m d S q w h E D (by omega)
theorem zmf (C:Cx) (z n j o d:Nat) (S:Sv) (q:PS) (w:World) (h:IM C z n j o S q w) (A:d≤20):
  Calls Tryz.prog 183 #[.pointer (some ⟨o,0,none⟩),.int .i64 d] w (zQ C z n j o (pE C .sum d q) id exI S w):=zme C z n j o _ d S q w (Nat.lt_succ_self _) A h
theorem zih {C:Cx} {s:ByteArray} (n:Nat): ∀{k:Nat} {q b:PS},zaB C s n k q= .ok b→b={q with pos:=q.pos+n}:=by
 induction n with
 |zero=>intro k q b h;cases h;rfl
 |succ n o=>
  intro k q b h
  rw[zaB] at h
  obtain⟨a,z,j⟩:=zf h
  rw[o j,(zb4 z).1]
  show ({q with pos:=q.pos+1+n}:PS)=_
  congr 1
  omega
theorem zii (x:Sm): ∀u∈smL x,u.oneCell'=true:=by
 intro u j
 simp[smL] at j
 rcases j with rfl|rfl|rfl<;>rfl
def stmtI (C:Cx) (k:Int) (n s:ByteArray) (q:PS):PR:=bd (pE C .sum 0 q) fun a=>bd (zaB C s s.size 0 a) fun b=>zV C k n b
theorem zd7 (C:Cx) (gt z j D:Nat) (S:Sv) (q:PS) (E:Int) (n s:ByteArray) (w:World) (h:IM C gt z j D S q w) (hs:s.size≤100) (h0:0<s.size):
  Calls Tryz.prog 154 #[.pointer (some ⟨D,0,none⟩),.int .i64 E,.string n,.string s] w (zQ C gt z j D (stmtI C E n s q) id (fun _=>.tuple #[]) S w):=by
 obtain⟨i0,hi,aj,ah,ak⟩:=info_parts Tryz.infoStmt
 have HH:=zc h
 have HY:=zc (stmtI.eq_1 C E n s q)
 clear h
 go_enter Tryz.func154,Tryz.ntmps154
 go_wp2_with fail
 refine (zmf C gt z j D 0 S q _ HH.out (by omega)).mono ?_
 cases ad:pE C .sum 0 q with
 |error p=>
  rintro e w1 ⟨rfl,Q⟩
  have Z:Hid (Below j w w1):=(HH.out.back (IS.refl _ _ _)).trans Q
  have Y:Hid (stmtI C E n s q= .error p):=bdE HY.out ad
  unfold Pan
  go_wp2
  refine⟨rfl,?_⟩
  rw[Y.out]
  exact⟨rfl,Z.out⟩
 |ok a1=>
  rintro e w1 ⟨rfl,S1,m,s⟩
  have ag:=zc m
  have O:=zc s
  clear m s
  have X:=zc (bdO HY.out ad)
  unfold exI
  go_wp2_with fail
  refine (zgx C gt z j D S1 a1 s _ ag.out hs).mono ?_
  cases I:zaB C s s.size 0 a1 with
  |error p=>
   rintro e V ⟨rfl,Q⟩
   have Z:Hid (Below j w V):=(HH.out.back O.out).trans Q
   have Y:Hid (stmtI C E n s q= .error p):=bdE X.out I
   unfold Pan
   go_wp2
   refine⟨rfl,?_⟩
   rw[Y.out]
   exact⟨rfl,Z.out⟩
  |ok A=>
   rintro e V ⟨rfl,S2,m,s⟩
   have o:=zc m
   have ae:Hid (IS D S w S2 V):=O.out.trans s
   clear m s
   have N:=zc (bdO X.out I)
   have K:=zih _ I
   have aa:0<A.pos:=by rw[K];show 0<a1.pos+s.size;omega
   have HE:Hid (A.ex=a1.ex):=by show _=_;rw[K]
   clear K
   have am:=o.out.mem.inv.st
   obtain⟨c0,c1,c2,c3,c4,c5,c6,c7,c8,c9,cf⟩:=zac o.out.cells
   go_wp2_with fail
   by_cases hn:A.st.length<80
   ·have HZ:=zc (N.out.trans (show zV C E n A=_ from if_neg (by omega)))
    refine (zd2 D A.st.length 80 _ (by omega)).mono ?_
    rintro e w' ⟨rfl,hw⟩
    rw[hw]
    clear hw w'
    have HN:Hid (some D≠S2.st.blk):=fun e=>o.out.free (.inr (.inr (.inr (.inl e.symm))))
    have al:=o.out.lt
    have H:=fun J=>(o.out.mem.own.st.alloc J)
    have ab:=fun J=>(o.out.alloc J).mem.base
    have M:=fun J=>(o.out.alloc J).lt
    have ac:=fun J=>(o.out.alloc J).cells
    go_wp2_with (at_builtin;refine zcu _ rfl _ _ 25 rfl j 106 i0 _ 3 32 Tryz.underlying25 hi aj ah ak rfl (by decide) (by decide) S2.st A.st.length _ (by rfl) (H _) V.heap.size (smL ⟨E,n,(a1.ex.length:Int)-1⟩) (by rfl) (by exact heap_alloc_new V _) rfl (zii _) (by omega) (ab _) ?_;intro r' wz hr L U;have g2:=(L.block D (M _) HN.out).trans (ac _);obtain⟨d0,d1,d2,d3,d4,d5,d6,d7,d8,d9,df⟩:=zac g2;have HR:Hid (OwnR wz j 106 3 r' (A.st.length+1) _):=hr;have af:Hid (World.grownBy _ wz _):=L;have ai:Hid (_∨_):=U;clear hr L U g2 c0 c1 c2 c3 c4 c5 c6 c7 c8 c9 cf H ab M ac)
    go_wp2
    go_end0
    obtain⟨m',s'⟩:=o.out.grow_st ((Below.refl _ _).alloc (Nat.le_refl _) _) af.out HR.out ai.out hn
    rw[HZ.out]
    rw[←HE.out] at m'
    exact⟨rfl,_,m',ae.out.trans s'⟩
   ·have HZ:Hid (stmtI C E n s q= .error (zr C (A.pos-1))):=N.out.trans (if_pos (by omega))
    refine (zeb C gt z j D S2 A A.st.length 80 _ o.out (by omega) aa).mono ?_
    rintro e wz ⟨rfl,Q⟩
    have Z:Hid (Below j w wz):=(HH.out.back ae.out).trans (Q.mono o.out.mem.base)
    have Y:Hid (stmtI C E n s q= .error (zr C (A.pos-1))):=HZ.out
    unfold Pan
    go_wp2
    refine⟨rfl,?_⟩
    rw[Y.out]
    exact⟨rfl,Z.out⟩
def letJ (C:Cx) (k:Int) (q:PS):PR:=bd (zj C false q) fun a=>bd (zd C 4 cEq a.1) fun b=>stmtI C k a.2 cSemi b
def fnI (C:Cx) (q:PS):PR:=bd (zj C false q) fun a=>bd (zaB C cCall cCall.size 0 a.1) fun b=>bd (zd C 1 zdT b) fun c=>stmtI C 2 a.2 cSemiRight c
def printI (C:Cx) (q:PS):PR:=bd (zd C 4 zn q) fun a=>stmtI C 4 sNone cShutSemi a
theorem zg5 (C:Cx) (I n j o:Nat) (S:Sv) (q:PS) (w:World) (h:IM C I n j o S q w):
  Calls Tryz.prog 144 #[.pointer (some ⟨o,0,none⟩)] w (zQ C I n j o (letJ C 1 q) id (fun _=>.tuple #[]) S w):=by
 have O:=zc h
 have HY:=zc (letJ.eq_1 C 1 q)
 clear h
 go_enter Tryz.func144,Tryz.ntmps144
 go_wp2_with fail
 refine (zdb C I n j o S q _ O.out).mono ?_
 cases z:zj C false q with
 |error p=>
  rintro e w1 ⟨rfl,L⟩
  have D:Hid (Below j w w1):=(O.out.back (IS.refl _ _ _)).trans L
  have N:Hid (letJ C 1 q= .error p):=bdE HY.out z
  unfold Pan
  go_wp2
  refine⟨rfl,?_⟩
  rw[N.out]
  exact⟨rfl,D.out⟩
 |ok Q=>
  rintro e w1 ⟨rfl,S1,m,s⟩
  have Z:=zc m
  have K:=zc s
  clear m s
  have J:=zc (bdO HY.out z)
  go_wp2_with fail
  refine (zbX C I n j o S1 (Q.1) 61 _ Z.out).mono ?_
  cases A:zd C 4 cEq (Q.1) with
  |error p=>
   rintro e V ⟨rfl,L⟩
   have D:Hid (Below j w V):=(O.out.back K.out).trans L
   have N:Hid (letJ C 1 q= .error p):=bdE J.out A
   unfold Pan
   go_wp2
   refine⟨rfl,?_⟩
   rw[N.out]
   exact⟨rfl,D.out⟩
  |ok a2=>
   rintro e V ⟨rfl,S2,m,s⟩
   have X:=zc m
   have H:Hid (IS o S w S2 V):=K.out.trans s
   clear m s
   have E:=zc (bdO J.out A)
   go_wp2_with fail
   refine (zd7 C I n j o S2 a2 1 Q.2 cSemi _ X.out (by decide) (by decide)).mono ?_
   cases M:stmtI C 1 Q.2 cSemi a2 with
   |error p=>
    rintro e Y ⟨rfl,L⟩
    have D:Hid (Below j w Y):=(O.out.back H.out).trans L
    have N:Hid (letJ C 1 q= .error p):=E.out.trans M
    unfold Pan
    go_wp2
    refine⟨rfl,?_⟩
    rw[N.out]
    exact⟨rfl,D.out⟩
   |ok a3=>
    rintro e Y ⟨rfl,S3,m,s⟩
    have ab:=zc m
    have U:Hid (IS o S w S3 Y):=H.out.trans s
    clear m s
    have aa:=zc (E.out.trans M)
    go_wp2
    go_end0
    rw[aa.out]
    exact⟨rfl,S3,ab.out,U.out⟩
theorem zij (C:Cx) (I n j o:Nat) (S:Sv) (q:PS) (w:World) (h:IM C I n j o S q w):
  Calls Tryz.prog 90 #[.pointer (some ⟨o,0,none⟩)] w (zQ C I n j o (letJ C 3 q) id (fun _=>.tuple #[]) S w):=by
 have O:=zc h
 have HY:=zc (letJ.eq_1 C 3 q)
 clear h
 go_enter Tryz.func90,Tryz.ntmps90
 go_wp2_with fail
 refine (zdb C I n j o S q _ O.out).mono ?_
 cases z:zj C false q with
 |error p=>
  rintro e w1 ⟨rfl,L⟩
  have D:Hid (Below j w w1):=(O.out.back (IS.refl _ _ _)).trans L
  have N:Hid (letJ C 3 q= .error p):=bdE HY.out z
  unfold Pan
  go_wp2
  refine⟨rfl,?_⟩
  rw[N.out]
  exact⟨rfl,D.out⟩
 |ok Q=>
  rintro e w1 ⟨rfl,S1,m,s⟩
  have Z:=zc m
  have K:=zc s
  clear m s
  have J:=zc (bdO HY.out z)
  go_wp2_with fail
  refine (zbX C I n j o S1 (Q.1) 61 _ Z.out).mono ?_
  cases A:zd C 4 cEq (Q.1) with
  |error p=>
   rintro e V ⟨rfl,L⟩
   have D:Hid (Below j w V):=(O.out.back K.out).trans L
   have N:Hid (letJ C 3 q= .error p):=bdE J.out A
   unfold Pan
   go_wp2
   refine⟨rfl,?_⟩
   rw[N.out]
   exact⟨rfl,D.out⟩
  |ok a2=>
   rintro e V ⟨rfl,S2,m,s⟩
   have X:=zc m
   have H:Hid (IS o S w S2 V):=K.out.trans s
   clear m s
   have E:=zc (bdO J.out A)
   go_wp2_with fail
   refine (zd7 C I n j o S2 a2 3 Q.2 cSemi _ X.out (by decide) (by decide)).mono ?_
   cases M:stmtI C 3 Q.2 cSemi a2 with
   |error p=>
    rintro e Y ⟨rfl,L⟩
    have D:Hid (Below j w Y):=(O.out.back H.out).trans L
    have N:Hid (letJ C 3 q= .error p):=E.out.trans M
    unfold Pan
    go_wp2
    refine⟨rfl,?_⟩
    rw[N.out]
    exact⟨rfl,D.out⟩
   |ok a3=>
    rintro e Y ⟨rfl,S3,m,s⟩
    have ab:=zc m
    have U:Hid (IS o S w S3 Y):=H.out.trans s
    clear m s
    have aa:=zc (E.out.trans M)
    go_wp2
    go_end0
    rw[aa.out]
    exact⟨rfl,S3,ab.out,U.out⟩
theorem zg6 (C:Cx) (E n j o:Nat) (S:Sv) (q:PS) (w:World) (h:IM C E n j o S q w):
  Calls Tryz.prog 145 #[.pointer (some ⟨o,0,none⟩)] w (zQ C E n j o (fnI C q) id (fun _=>.tuple #[]) S w):=by
 have M:=zc h
 have HY:=zc (fnI.eq_1 C q)
 clear h
 go_enter Tryz.func145,Tryz.ntmps145
 go_wp2_with fail
 refine (zdb C E n j o S q _ M.out).mono ?_
 cases I:zj C false q with
 |error p=>
  rintro e w1 ⟨rfl,A⟩
  have z:Hid (Below j w w1):=(M.out.back (IS.refl _ _ _)).trans A
  have D:Hid (fnI C q= .error p):=bdE HY.out I
  unfold Pan
  go_wp2
  refine⟨rfl,?_⟩
  rw[D.out]
  exact⟨rfl,z.out⟩
 |ok X=>
  rintro e w1 ⟨rfl,S1,m,s⟩
  have ad:=zc m
  have O:=zc s
  clear m s
  have N:=zc (bdO HY.out I)
  go_wp2_with fail
  refine (zgx C E n j o S1 (X.1) cCall _ ad.out (by decide)).mono ?_
  cases J:zaB C cCall cCall.size 0 (X.1) with
  |error p=>
   rintro e Y ⟨rfl,A⟩
   have z:Hid (Below j w Y):=(M.out.back O.out).trans A
   have D:Hid (fnI C q= .error p):=bdE N.out J
   unfold Pan
   go_wp2
   refine⟨rfl,?_⟩
   rw[D.out]
   exact⟨rfl,z.out⟩
  |ok a2=>
   rintro e Y ⟨rfl,S2,m,s⟩
   have Z:=zc m
   have L:Hid (IS o S w S2 Y):=O.out.trans s
   clear m s
   have K:=zc (bdO N.out J)
   go_wp2_with fail
   refine (zea C E n j o S2 a2 zdT _ Z.out).mono ?_
   cases U:zd C 1 zdT a2 with
   |error p=>
    rintro e w3 ⟨rfl,A⟩
    have z:Hid (Below j w w3):=(M.out.back L.out).trans A
    have D:Hid (fnI C q= .error p):=bdE K.out U
    unfold Pan
    go_wp2
    refine⟨rfl,?_⟩
    rw[D.out]
    exact⟨rfl,z.out⟩
   |ok a3=>
    rintro e w3 ⟨rfl,S3,m,s⟩
    have ae:=zc m
    have H:Hid (IS o S w S3 w3):=L.out.trans s
    clear m s
    have V:=zc (bdO K.out U)
    go_wp2_with fail
    refine (zd7 C E n j o S3 a3 2 X.2 cSemiRight _ ae.out (by decide) (by decide)).mono ?_
    cases Q:stmtI C 2 X.2 cSemiRight a3 with
    |error p=>
     rintro e w4 ⟨rfl,A⟩
     have z:Hid (Below j w w4):=(M.out.back H.out).trans A
     have D:Hid (fnI C q= .error p):=V.out.trans Q
     unfold Pan
     go_wp2
     refine⟨rfl,?_⟩
     rw[D.out]
     exact⟨rfl,z.out⟩
    |ok a4=>
     rintro e w4 ⟨rfl,S4,m,s⟩
     have ab:=zc m
     have ac:Hid (IS o S w S4 w4):=H.out.trans s
     clear m s
     have aa:=zc (V.out.trans Q)
     go_wp2
     go_end0
     rw[aa.out]
     exact⟨rfl,S4,ab.out,ac.out⟩
theorem zik (C:Cx) (H n j o:Nat) (S:Sv) (q:PS) (w:World) (h:IM C H n j o S q w):
  Calls Tryz.prog 146 #[.pointer (some ⟨o,0,none⟩)] w (zQ C H n j o (printI C q) id (fun _=>.tuple #[]) S w):=by
 have M:=zc h
 have Z:=zc (printI.eq_1 C q)
 clear h
 go_enter Tryz.func146,Tryz.ntmps146
 go_wp2_with fail
 refine (zbX C H n j o S q 40 _ M.out).mono ?_
 cases z:zd C 4 zn q with
 |error p=>
  rintro e V ⟨rfl,O⟩
  have I:Hid (Below j w V):=(M.out.back (IS.refl _ _ _)).trans O
  have U:Hid (printI C q= .error p):=bdE Z.out z
  unfold Pan
  go_wp2
  refine⟨rfl,?_⟩
  rw[U.out]
  exact⟨rfl,I.out⟩
 |ok X=>
  rintro e V ⟨rfl,S1,m,s⟩
  have Q:=zc m
  have E:=zc s
  clear m s
  have D:=zc (bdO Z.out z)
  go_wp2_with fail
  refine (zd7 C H n j o S1 X 4 sNone cShutSemi _ Q.out (by decide) (by decide)).mono ?_
  cases A:stmtI C 4 sNone cShutSemi X with
  |error p=>
   rintro e J ⟨rfl,O⟩
   have I:Hid (Below j w J):=(M.out.back E.out).trans O
   have U:Hid (printI C q= .error p):=D.out.trans A
   unfold Pan
   go_wp2
   refine⟨rfl,?_⟩
   rw[U.out]
   exact⟨rfl,I.out⟩
  |ok a2=>
   rintro e J ⟨rfl,Y,m,s⟩
   have N:=zc m
   have L:Hid (IS o S w Y J):=E.out.trans s
   clear m s
   have K:=zc (D.out.trans A)
   go_wp2
   go_end0
   rw[K.out]
   exact⟨rfl,Y,N.out,L.out⟩
theorem zil (C:Cx) (z n j o:Nat) (S:Sv) (q:PS) (w:World) (h:IM C z n j o S q w):
  Calls Tryz.prog 147 #[.pointer (some ⟨o,0,none⟩)] w (zQ C z n j o (stmtI C 5 sNone cSemi q) id (fun _=>.tuple #[]) S w):=by
 have E:=zc h
 clear h
 go_enter Tryz.func147,Tryz.ntmps147
 go_wp2_with fail
 refine (zd7 C z n j o S q 5 sNone cSemi _ E.out (by decide) (by decide)).mono ?_
 cases A:stmtI C 5 sNone cSemi q with
 |error p=>
  rintro e K ⟨rfl,H⟩
  unfold Pan
  go_wp2
  refine⟨rfl,?_⟩
  rw[A]
  exact⟨rfl,H⟩
 |ok a=>
  rintro e K ⟨rfl,I,m,s⟩
  have D:=zc m
  have J:=zc s
  clear m s
  go_wp2
  go_end0
  rw[A]
  exact⟨rfl,I,D.out,J.out⟩
theorem zmg (C:Cx) (z n j o:Nat) (S:Sv) (q:PS) (w:World) (h:IM C z n j o S q w):
  Calls Tryz.prog 148 #[.pointer (some ⟨o,0,none⟩)] w (zQ C z n j o (stmtI C 6 sNone cSemi q) id (fun _=>.tuple #[]) S w):=by
 have E:=zc h
 clear h
 go_enter Tryz.func148,Tryz.ntmps148
 go_wp2_with fail
 refine (zd7 C z n j o S q 6 sNone cSemi _ E.out (by decide) (by decide)).mono ?_
 cases A:stmtI C 6 sNone cSemi q with
 |error p=>
  rintro e K ⟨rfl,H⟩
  unfold Pan
  go_wp2
  refine⟨rfl,?_⟩
  rw[A]
  exact⟨rfl,H⟩
 |ok a=>
  rintro e K ⟨rfl,I,m,s⟩
  have D:=zc m
  have J:=zc s
  clear m s
  go_wp2
  go_end0
  rw[A]
  exact⟨rfl,I,D.out,J.out⟩
def zcm (C:Cx) (i:Nat):ByteArray:=if (ze C i).kind==1 then (ze C i).text else sNone
theorem zim (C:Cx) (A n j z:Nat) (S:Sv) (q:PS) (w:World) (h:IM C A n j z S q w):
  Calls Tryz.prog 89 #[.pointer (some ⟨z,0,none⟩)] w fun e I=>e= .returned (.string (zcm C q.pos))∧Below w.heap.size w I:=by
 have H:=zc h
 clear h
 cases E:((ze C q.pos).kind==1) with
 |true=>
  have D:Hid (zcm C q.pos=(ze C q.pos).text):=by show _=_;rw[zcm,E];rfl
  go_enter Tryz.func89,Tryz.ntmps89
  go_wp2_with fail
  refine (zbr C A n j z S q _ H.out).mono ?_
  rintro e J ⟨rfl,o⟩
  unfold tkV
  go_wp2
  go_ret
  rw[D.out]
  exact⟨rfl,o.alloc o.size _⟩
 |false=>
  have D:Hid (zcm C q.pos=sNone):=by show _=_;rw[zcm,E];rfl
  go_enter Tryz.func89,Tryz.ntmps89
  go_wp2_with fail
  refine (zbr C A n j z S q _ H.out).mono ?_
  rintro e J ⟨rfl,o⟩
  unfold tkV
  go_wp2
  go_ret
  rw[D.out]
  exact⟨rfl,o.alloc o.size _⟩
theorem OwnR.stmtName {w:World} {j:Nat} {r:Rw} {l:List Sm} {x:Sm} (h:OwnR w j 106 3 r (l++[x]).length ((l++[x]).flatMap smL)): ∃g,r.a=some ⟨g,0,none⟩∧w.cell? ⟨g,l.length*3+1,none⟩=some (.string x.name):=by
 rcases h.2 with ⟨_,D⟩|⟨g,A,E,n,_⟩
 ·simp at D
 ·simp only[Value.slice.injEq] at n
  have o:=h
  unfold OwnR at o
  rw[n.1,n.2.2] at o
  refine⟨g,n.1,?_⟩
  rw[World.ownsRow.cellAt o _ (by simp;omega)]
  have q: ∀l:List Sm,(l.flatMap smL).length=l.length*3:=by
   intro l
   induction l with
   |nil=>rfl
   |cons y l z=>simp[List.flatMap_cons,smL,z] at z ⊢;omega
  rw[List.flatMap_append,List.getElem?_append_right (by rw[q];omega),q]
  simp[smL]
theorem zmh (C:Cx) (I n j A:Nat) (S:Sv) (q:PS) (l:List Sm) (x:Sm) (w:World) (h:IM C I n j A S q w) (N:q.st=l++[x]) (Q:x.name.size≤281474976710656) (hp:0<q.pos):
  Calls Tryz.prog 179 #[.pointer (some ⟨A,0,none⟩)] w (zQ C I n j A (zo C ⟨1,x.name,x.name,sNone⟩ q) id (fun _=>.tuple #[]) S w):=by
 have X:=zc h
 obtain⟨_,_,_,_,_,_,_,H,_,_,_⟩:=zac h.cells
 have J:=h.mem.own.st
 rw[N] at J H
 obtain⟨g,U,hc⟩:=J.stmtName
 have E:=h.mem.inv.st
 rw[N] at E
 have D:(l++[x]).length=l.length+1:=by simp
 rw[D] at H E
 rw[U] at H
 have C7:=zc H
 have CN:=zc hc
 have e1:((l.length+1:Nat):Int)-1=(l.length:Int):=by omega
 have e2:(l.length:Int)+1-1=(l.length:Int):=by omega
 have ab:IntKind.i64.wrap (l.length:Int)=(l.length:Int):=IntWalk.i64_in _ ⟨by omega,by omega⟩
 have V:(l.length:Int)<((l.length+1:Nat):Int):=by omega
 have Y:(l.length:Int)<(l.length:Int)+1:=by omega
 have cC: ∀d os,Calls Tryz.prog 85 #[.string x.name] (grow (redrawn w d) os) fun e L=>e= .returned (.string x.name)∧∃p:Regrown,L=grow (redrawn w p.d) p.os:=fun d os=>Calls.regrown_of (zib _ _ Q)
 clear h H hc J U N
 go_enter Tryz.func179,Tryz.ntmps179
 go_wp2_with fail
 have k7:=cell_regrown C7.out
 have kN:=cell_regrown CN.out
 refine wp_region_quiet_below (by kernel_rfl) (by kernel_rfl) ?_
 repeat (go_big_quiet_step (exact cC _ _))
 refine wpQuiet_nil ?_
 intro Z M
 obtain⟨⟨dq,aa⟩,o⟩:=M
 have z:Hid (Below w.heap.size w Z):=by show Below _ _ _;rw[o];exact below_regrown _ _ _
 clear o k7 kN cC C7 CN
 have O:Hid (IM C I n j A S q Z):=X.out.later z.out
 go_wp2_with fail
 refine (zeH C I n j A S q ⟨1,x.name,x.name,sNone⟩ _ O.out hp).mono ?_
 cases hn:zo C ⟨1,x.name,x.name,sNone⟩ q with
 |error p=>
  rintro e K ⟨rfl,hb⟩
  have HB:Hid (Below j w K):=(z.out.mono X.out.mem.base).trans hb
  unfold Pan
  go_wp2
  refine⟨rfl,?_⟩
  rw[hn]
  exact⟨rfl,HB.out⟩
 |ok a=>
  rintro e K ⟨rfl,S1,m,s⟩
  have HM:=zc m
  have HS:Hid (IS A S w S1 K):=(IS.below z.out).trans s
  clear m s
  go_wp2
  go_end0
  rw[hn]
  exact⟨rfl,S1,HM.out,HS.out⟩
def Fr (e:TypeId) (size:Nat) (w:World) (b:Nat) (r:Rw) (n:Nat) (xs:List Value) (S:Sv):Prop:=OwnR w b e size r n xs∧∀k,r.blk=some k→¬S.has k
theorem Fr.ngp {C:Cx} {D o j z size b n:Nat} {S:Sv} {q:PS} {w:World} {e:TypeId} {r:Rw} {xs:List Value} (f:Fr e size w b r n xs S) (h:IM C D o j z S q w) (A:e≠59) {k:Nat} (E:r.blk=some k):k≠z:=by
 rintro rfl
 obtain⟨_,_,c,g⟩:=f.1.typed E
 rw[h.cells] at g
 simp only[Option.some.injEq,Obj.cells.injEq] at g
 exact A g.2.1.symm
theorem Fr.ngt {C:Cx} {z o j D size b n:Nat} {S:Sv} {q:PS} {w:World} {e:TypeId} {r:Rw} {xs:List Value} (f:Fr e size w b r n xs S) (h:IM C z o j D S q w) (A:e≠111) {k:Nat} (H:r.blk=some k):k≠z:=by
 rintro rfl
 obtain⟨_,_,c,g⟩:=f.1.typed H
 obtain⟨I,E⟩:=zfr h.mem.tok
 rw[E] at g
 simp only[Option.some.injEq,Obj.cells.injEq] at g
 exact A g.2.1.symm
theorem Fr.step {C:Cx} {I o j z size b n:Nat} {S D:Sv} {q:PS} {w E:World} {e:TypeId} {r:Rw} {xs:List Value} (f:Fr e size w b r n xs S) (h:IM C I o j z S q w) (H:e≠59) (s:IS z S w D E):Fr e size E b r n xs D:=by
 refine⟨f.1.keep fun k g=>s.block k (f.1.typed g).2.1 (f.2 k g) (f.ngp h H g),fun k g J=>?_⟩
 rcases s.sub k J with A|A
 ·exact f.2 k g A
 ·have:=(f.1.typed g).2.1
  omega
theorem Fr.low {size b j n:Nat} {S:Sv} {w:World} {e:TypeId} {r:Rw} {xs:List Value} (f:Fr e size w b r n xs S) (o:j≤b):Fr e size w j r n xs S:=⟨f.1.low o,f.2⟩
theorem Fr.later {size b n:Nat} {S:Sv} {w j:World} {e:TypeId} {r:Rw} {xs:List Value} (f:Fr e size w b r n xs S) (o:Below w.heap.size w j):Fr e size j b r n xs S:=⟨f.1.keep fun k g=>o.block k (f.1.typed g).2.1,f.2⟩
theorem IM.aside {C:Cx} {z o j n:Nat} {S:Sv} {q:PS} {W E:World} {b:Option Nat} (h:IM C z o j n S q W) (A:W.grownBy E b) (D: ∀k,b=some k→¬S.has k∧k≠n∧k≠z):IM C z o j n S q E:=by
 refine⟨⟨h.mem.own.keep fun k g=>A.block k (h.mem.own.has g).2 fun e=>(D k e.symm).1 g,h.mem.inv,zbz h.mem.tok (A.block z (zan h.mem.tok).1 fun e=>(D z e.symm).2.2 rfl),h.mem.few,Nat.le_trans h.mem.base A.size⟩,(A.block n h.lt fun e=>(D n e.symm).2.1 rfl).trans h.cells,h.ge⟩
theorem IS.aside {q:Nat} {S z:Sv} {w W o:World} {b:Option Nat} (s:IS q S w z W) (j:W.grownBy o b) (E: ∀k,b=some k→w.heap.size≤k):IS q S w z o:=
 ⟨j.os.trans s.os,j.tape.trans s.tape,j.output.trans s.output,Nat.le_trans s.size j.size,fun k A D n=>(j.block k (Nat.lt_of_lt_of_le A s.size) fun e=>by have:=E k e.symm;omega).trans (s.block k A D n),s.sub⟩
theorem Fr.grown {size b n:Nat} {S:Sv} {W E:World} {e:TypeId} {r o:Rw} {xs H:List Value} {C:Cx} {K A j J:Nat} {q:PS} (f:Fr e size W b r n xs S) (h:IM C K A j J S q W) (L:OwnR E b e size o (n+1) H) (z:o.blk=r.blk∨o.blk=some W.heap.size):Fr e size E b o (n+1) H S:=by
 refine⟨L,fun k g I=>?_⟩
 rcases z with D|D
 ·exact f.2 k (D.symm.trans g) I
 ·have M:W.heap.size=k:=Option.some.inj (D.symm.trans g)
  have:=(h.mem.own.has I).2
  omega
theorem zmi {α:Type} (f:α→List Value) (m:Nat) (n: ∀x,(f x).length=m): ∀(l:List α) (j i:Nat) (x:α),l[j]? =some x→i<m→(l.flatMap f)[j*m+i]? =(f x)[i]?:=by
 intro l
 induction l with
 |nil=>intro j i x h;simp at h
 |cons y l q=>
  intro j i x h o
  rw[List.flatMap_cons]
  match j with
  |0=>
   simp only[List.getElem?_cons_zero,Option.some.injEq] at h
   subst h
   rw[Nat.zero_mul,Nat.zero_add,List.getElem?_append_left (by rw[n];exact o)]
  |j+1=>
   simp only[List.getElem?_cons_succ] at h
   rw[List.getElem?_append_right (by rw[n,Nat.succ_mul];omega),n,←q j i x h o]
   congr 1
   rw[Nat.succ_mul]
   omega
theorem OwnR.elem {α:Type} {f:α→List Value} {m:Nat} (E: ∀x,(f x).length=m) {w:World} {n:Nat} {e:TypeId} {r:Rw} {l:List α} (h:OwnR w n e m r l.length (l.flatMap f)) {j:Nat} {x:α} (A:l[j]? =some x): ∃g,r.a=some ⟨g,0,none⟩∧∀i,i<m→w.cell? ⟨g,j*m+i,none⟩=(f x)[i]?:=by
 have z:j<l.length:=(List.getElem?_eq_some_iff.1 A).1
 rcases h.2 with ⟨_,K⟩|⟨g,H,J,o,_⟩
 ·omega
 ·simp only[Value.slice.injEq] at o
  have q:=h
  unfold OwnR at q
  rw[o.1,o.2.2] at q
  refine⟨g,o.1,fun i D=>?_⟩
  have I:j*m+i<l.length*m:=by
   have:=Nat.mul_le_mul_right m z
   rw[Nat.succ_mul] at this
   omega
  rw[World.ownsRow.cellAt q _ I]
  exact zmi f m E l j i x A D
structure OwnMd (w:World) (base:Nat) (S:Sv) (m:Md):Prop where
 rq:OwnR w base 9 1 S.rq m.rq.length (m.rq.map .string)
 im:OwnR w base 100 3 S.im m.im.length (m.im.flatMap imL)
 ep:OwnR w base 102 4 S.ep m.ep.length (m.ep.flatMap epL)
 st:OwnR w base 106 3 S.st m.st.length (m.st.flatMap smL)
 ex:OwnR w base 108 6 S.ex m.ex.length (m.ex.flatMap exL)
theorem OwnMod.md {w:World} {j:Nat} {S:Sv} {q:PS} (h:OwnMod w j S q):OwnMd w j S (zdx q):=⟨h.rq,h.im,h.ep,h.st,h.ex⟩
theorem OwnMd.later {w o:World} {j:Nat} {S:Sv} {m:Md} (h:OwnMd w j S m) (n:Below w.heap.size w o):OwnMd o j S m:=
 ⟨h.rq.keep fun k g=>n.block k (h.rq.typed g).2.1,h.im.keep fun k g=>n.block k (h.im.typed g).2.1,h.ep.keep fun k g=>n.block k (h.ep.typed g).2.1,h.st.keep fun k g=>n.block k (h.st.typed g).2.1,h.ex.keep fun k g=>n.block k (h.ex.typed g).2.1⟩
theorem OwnMd.alloc {w:World} {j:Nat} {S:Sv} {m:Md} (h:OwnMd w j S m) (o:Obj):OwnMd (w.alloc o) j S m:=h.later ((Below.refl _ _).alloc (Nat.le_refl _) _)
def zp (S:Sv) (m:Md):Value:=.agg #[.slice S.rq.a m.rq.length S.rq.cap,.slice S.im.a m.im.length S.im.cap,.slice S.ep.a m.ep.length S.ep.cap,.slice S.st.a m.st.length S.st.cap,.slice S.ex.a m.ex.length S.ex.cap]
theorem OwnMd.expr {w:World} {n:Nat} {S:Sv} {m:Md} (h:OwnMd w n S m) {i:Nat} (q:i<m.ex.length): ∃g,S.ex.a=some ⟨g,0,none⟩∧g<w.heap.size∧w.cell? ⟨g,i*6,none⟩=some (.int .i64 (m.ex.getD i zg).kind)∧w.cell? ⟨g,i*6+1,none⟩=some (.int .i64 (m.ex.getD i zg).num)∧w.cell? ⟨g,i*6+2,none⟩=some (.string (m.ex.getD i zg).name)∧w.cell? ⟨g,i*6+3,none⟩=some (.string (m.ex.getD i zg).field)∧w.cell? ⟨g,i*6+4,none⟩=some (.int .i64 (m.ex.getD i zg).l)∧w.cell? ⟨g,i*6+5,none⟩=some (.int .i64 (m.ex.getD i zg).r):=by
 obtain⟨g,o,j⟩:=OwnR.elem (f:=exL) (m:=6) (fun _=>rfl) h.ex (List.getElem?_eq_getElem q)
 rw[zdz q]
 exact⟨g,o,(h.ex.typed (by rw[Rw.blk,o];rfl)).2.1,j 0 (by omega),j 1 (by omega),j 2 (by omega),j 3 (by omega),j 4 (by omega),j 5 (by omega)⟩
end Go.Proofs.YticdggnnpjachaaGreat
