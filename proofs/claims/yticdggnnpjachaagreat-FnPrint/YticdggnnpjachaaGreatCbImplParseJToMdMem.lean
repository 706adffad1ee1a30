/-
  What slices.Index and slices.Contains answer over a row of texts,and strings.Clone: the walks.
  What request of impl's parser answers: the walks.
  What nameOrCall of impl's parser answers: the walk.
  What part of impl's parser answers: the walk.
  What product and sum of impl's parser answer: the walks.
  What statement of impl's parser answers: the walk.
  What the small items of impl's parser,itemWord and exportLast answer: the walks.
  Rows beside impl's parser: lists of names under way. No program is spoken of but for the numbers of its types.
  A program in memory,of any size. No program is spoken of but for the numbers of its types.
-/
import Derived.Test.YticdggnnpjachaaGreatCbImplParseHToImplParseI
import Derived.Test.YticdggnnpjachaaGreatCbShelf
namespace Go.Proofs.YticdggnnpjachaaGreat
set_option maxRecDepth 100000
set_option maxHeartbeats 3200000
open Go.RowKit Go.PlainAid Go.Sort
theorem zib (s:ByteArray) (w:World) (h:s.size≤281474976710656):
  Calls Tryz.prog 85 #[.string s] w fun e j=>e= .returned (.string s)∧Below w.heap.size w j:=by
 go_enter Tryz.func85,Tryz.ntmps85
 go_wp2_with fail
 refine (Tryz.stringslite_Clone _ _ h).mono ?_
 rintro e o ⟨rfl,n⟩
 go_wp2
 go_ret
 exact⟨rfl,n⟩
theorem OwnR.text {w:World} {o n:Nat} {r:Rw} {l:List ByteArray} (h:OwnR w o 9 1 r n (l.map .string)) {j:Nat} (I:j<n): ∃g,r.a=some ⟨g,0,none⟩∧w.cell? ⟨g,j,none⟩=some (.string (l.getD j sNone)):=by
 rcases h.2 with ⟨_,H⟩|⟨g,A,D,q,_⟩
 ·omega
 ·simp only[Value.slice.injEq] at q
  have z:=h
  unfold OwnR at z
  rw[q.1,q.2.2] at z
  have E:l.length=n:=by have:=h.1;simpa using this
  refine⟨g,q.1,?_⟩
  rw[World.ownsRow.cellAt z j (by omega)]
  simp only[List.getElem?_map,List.getD]
  rw[List.getElem?_eq_getElem (by omega)]
  rfl
theorem zlE {l:List ByteArray} {x:ByteArray} {j:Nat} (n:j<l.length):zaX (l.drop j) x=((l.getD j sNone).toList==x.toList||zaX (l.drop (j+1)) x):=by
 rw[List.drop_eq_getElem_cons n]
 simp only[zaX,List.any_cons,List.getD,List.getElem?_eq_getElem n,Option.getD_some]
theorem zlF (z g:Nat) (r:Rw) (l:List ByteArray) (x:ByteArray) (w:World) (h:OwnR w z 9 1 r l.length (l.map .string)) (hl:l.length≤1000000) (L:r.a=some ⟨g,0,none⟩):
  Calls Tryz.prog 204 #[.slice (some ⟨g,0,none⟩) l.length r.cap,.string x] w fun e V=>(∃v:Int,e= .returned (.int .i64 v)∧decide (0≤v)=zaX l x)∧V=w:=by
 have O:=zc h
 have J:=zc L
 clear h L
 go_enter Tryz.func204,Tryz.ntmps204
 go_wp2
 go_loopg [8] (l.length+1) (fun k i wr=>∃j:Nat,i= .int .i64 j∧j+k=l.length+1∧zaX (l.drop j) x=zaX l x∧wr=w)
 case atStart=>exact⟨0,rfl,by omega,by simp,rfl⟩
 case round=>
  obtain⟨j,rfl,Y,M,rfl⟩:=hrel
  have H:=zc M
  clear M
  by_cases o:j<l.length
  ·have A:(j:Int)<(l.length:Int):=by omega
   obtain⟨Q,n,U⟩:=O.out.text o
   have X:Q=g:=by have:=n.symm.trans J.out;simpa using this
   subst X
   clear n
   obtain⟨E,q⟩: ∃E,E=j+1:=⟨_,rfl⟩
   have Z:(j:Int)+1=(E:Int):=by omega
   have N:=zc q
   clear q
   have I:Hid (zaX (l.drop j) x=((l.getD j sNone).toList==x.toList||zaX (l.drop (j+1)) x)):=zlE o
   generalize l.getD j sNone=y at U I
   cases D:(x.toList==y.toList) with
   |true=>
    go_wp2
    go_ret
    refine⟨⟨_,rfl,?_⟩,rfl⟩
    have K:(y.toList==x.toList)=true:=by rw[beq_iff_eq] at D ⊢;exact D.symm
    rw[←H.out,I.out,K]
    simp
   |false=>
    go_wp2
    go_roundg (gk-1)
    case rel=>
     have K:(y.toList==x.toList)=false:=by
      rw[beq_eq_false_iff_ne] at D ⊢;exact fun e=>D e.symm
     refine⟨E,rfl,by have:=N.out;omega,?_,rfl⟩
     rw[←H.out,I.out,K,N.out]
     simp
    case measure=>omega
  ·have A: ¬(j:Int)<(l.length:Int):=by omega
   go_wp2
   go_ret
   refine⟨⟨_,rfl,?_⟩,rfl⟩
   rw[←H.out,List.drop_eq_nil_of_le (by omega)]
   rfl
theorem zlG (x:ByteArray) (w:World):
  Calls Tryz.prog 204 #[.slice none 0 0,.string x] w fun e j=>e= .returned (.int .i64 (-1))∧j=w:=by
 go_enter Tryz.func204,Tryz.ntmps204
 go_wp2
 go_loopg [8] 1 (fun k i wr=>k=1∧i= .int .i64 0∧wr=w)
 case atStart=>exact⟨rfl,rfl,rfl⟩
 case round=>
  obtain⟨rfl,rfl,rfl⟩:=hrel
  go_wp2
  go_ret
  exact⟨rfl,rfl⟩
theorem zlH (j:Nat) (r:Rw) (l:List ByteArray) (x:ByteArray) (w:World) (h:OwnR w j 9 1 r l.length (l.map .string)) (q:l.length≤1000000):
  Calls Tryz.prog 204 #[.slice r.a l.length r.cap,.string x] w fun e z=>(∃v:Int,e= .returned (.int .i64 v)∧decide (0≤v)=zaX l x)∧z=w:=by
 rcases h.nil_or with ⟨A,D,o⟩|⟨g,n⟩
 ·rw[A,D,o]
  refine (zlG x w).mono ?_
  rintro e E ⟨rfl,rfl⟩
  have:l=[]:=List.length_eq_zero_iff.1 o
  subst this
  exact⟨⟨_,rfl,rfl⟩,rfl⟩
 ·rw[n]
  exact zlF j g r l x w h q n
theorem zg2 (j:Nat) (r:Rw) (l:List ByteArray) (x:ByteArray) (w:World) (h:OwnR w j 9 1 r l.length (l.map .string)) (o:l.length≤1000000):
  Calls Tryz.prog 194 #[.slice r.a l.length r.cap,.string x] w fun e q=>e= .returned (.bool (zaX l x))∧q=w:=by
 have z:=zc h
 clear h
 go_enter Tryz.func194,Tryz.ntmps194
 go_wp2_with fail
 refine (zlH j r l x _ z.out o).mono ?_
 rintro e D ⟨⟨v,rfl,n⟩,rfl⟩
 have A:=zc n
 clear n
 go_wp2
 go_ret
 exact⟨zm A.out,rfl⟩
theorem Tryz.infoText:(Tryz.prog.info? 9).map (fun i=>(i.zero,i.size,i.bytes))=some (some (.string {data:=#[]}),1,16):=by kernel_rfl
def zbf (C:Cx):Prop:=∀i,(ze C i).text.size≤281474976710656
theorem zlI (x:ByteArray): ∀u∈[Value.string x],u.oneCell'=true:=by
 intro u j
 simp at j
 rw[j]
 rfl
theorem zlJ (C:Cx) (L n j o:Nat) (S:Sv) (q:PS) (w:World) (h:IM C L n j o S q w) (hC:zbf C) (hk:((ze C q.pos).kind==3)=true) (hs:zaX q.rq (ze C q.pos).text=false) (hn:q.rq.length<40):
  Calls Tryz.prog 172 #[.pointer (some ⟨o,0,none⟩)] w fun e w'=>e= .returned (.string (ze C q.pos).text)∧∃S',IM C L n j o S' {adv q with rq:=q.rq++[(ze C q.pos).text]} w'∧IS o S w S' w':=by
 obtain⟨i0,hi,Z,ab,Q⟩:=info_parts Tryz.infoText
 have HH:=zc h
 have ad:=zc0
 have H:=hC q.pos
 clear h
 go_enter Tryz.func172,Tryz.ntmps172
 go_wp2_with fail
 refine (zd1 C L n j o S q 3 _ HH.out hk (by decide)).mono ?_
 rintro e N ⟨rfl,m1,s1⟩
 have O:=zc m1
 have aa:=zc s1
 clear m1 s1
 unfold tkV
 obtain⟨c0,c1,c2,c3,c4,c5,c6,c7,c8,c9,cf⟩:=zac O.out.cells
 rw[show (adv q).rq=q.rq from rfl] at c4
 generalize J:(ze C q.pos).text=tx at hs H ⊢
 have U:=zc J
 clear J
 go_wp2_with fail
 refine (zg2 j S.rq q.rq tx _ O.out.mem.own.rq (by omega)).mono ?_
 rintro e A ⟨rfl,I⟩
 rw[hs,I]
 clear I A
 go_wp2_with fail
 refine (zd2 o q.rq.length 40 _ (by omega)).mono ?_
 rintro e A ⟨rfl,I⟩
 rw[I]
 clear I A
 have HN:Hid (some o≠S.rq.blk):=fun e=>O.out.free (.inl e.symm)
 go_wp2_with fail
 go_region_law (first|(refine zcH rfl (.tmp 28) (.tmp 31) 22 rfl j 9 i0 _ 1 16 Tryz.underlying22 hi Z ab Q rfl (by decide) (by decide) S.rq q.rq.length (q.rq.map .string) (by rfl) (by exact D.out.mem.own.rq.alloc _) M.heap.size [.string tx] (by rfl) (by exact heap_alloc_new M _) rfl (zlI tx) (by omega) (by exact (D.out.alloc _).mem.base) ?_;intro r' w2 hr E K;have g2:=(E.block o (by exact (D.out.alloc _).lt) HN.out).trans (by exact (D.out.alloc _).cells);obtain⟨d0,d1,d2,d3,d4,d5,d6,d7,d8,d9,df⟩:=zac g2)|(go_simp;go_wp2_with (go_at_call 85;refine (zib _ _ H).mono ?_;rintro e M ⟨rfl,z⟩;have D:Hid (IM C L n j o S (adv q) M):=O.out.drew.later z;have Y:Hid (Below N.heap.size N M):=(Below.refl N.heap.size N).drew.trans z;obtain⟨e0,e1,e2,e3,e4,e5,e6,e7,e8,e9,ef⟩:=zac D.out.cells;rw[show (adv q).rq=q.rq from rfl] at e4;have ac:=D.out.lt;clear z)))
 all_goals
  have HR:=zc hr
  have V:=zc E
  have X:=zc K
  clear hr E K g2 c0 c1 c2 c3 c4 c5 c6 c7 c8 c9 cf e0 e1 e2 e3 e4 e5 e6 e7 e8 e9 ef
  go_wp2
  go_ret
  obtain⟨m',s'⟩:=D.out.grow_rq (x:=tx) ((Below.refl _ _).alloc (Nat.le_refl _) _) V.out HR.out X.out hn
  rw[U.out]
  exact⟨rfl,_,m',aa.out.trans (s'.grownI Y.out)⟩
theorem zf3 (C:Cx) (D n j o:Nat) (S:Sv) (q:PS) (w:World) (h:IM C D n j o S q w) (hC:zbf C):
  Calls Tryz.prog 172 #[.pointer (some ⟨o,0,none⟩)] w (zQ C D n j o (zH C q) (·.1) (fun a=>.string a.2) S w):=by
 cases z:((ze C q.pos).kind==3) with
 |false=>
  have H:=zc h
  have O:Hid (zH C q= .error (zr C q.pos)):=by show _=_;rw[zH,z];rfl
  clear h
  go_enter Tryz.func172,Tryz.ntmps172
  go_wp2_with fail
  refine (zhZ C D n j o S q 3 _ H.out z).mono ?_
  rintro e Q ⟨rfl,M⟩
  have V:Hid (Below j w Q):=M.mono H.out.mem.base
  clear M
  unfold Pan
  go_wp2
  refine⟨rfl,?_⟩
  rw[O.out]
  exact⟨rfl,V.out⟩
 |true=>
  cases L:zaX q.rq (ze C q.pos).text with
  |true=>
   have H:=zc h
   have O:Hid (zH C q= .ok (adv q,(ze C q.pos).text)):=by show _=_;rw[zH,z,L];rfl
   have U:=zc0
   have X:=h.mem.inv.rq
   clear h
   go_enter Tryz.func172,Tryz.ntmps172
   go_wp2_with fail
   refine (zd1 C D n j o S q 3 _ H.out z (by decide)).mono ?_
   rintro e Q ⟨rfl,J,I⟩
   have A:=zc J
   have K:=zc I
   clear J I
   unfold tkV
   obtain⟨c0,c1,c2,c3,Y,c5,c6,c7,c8,Z,cf⟩:=zac A.out.cells
   rw[show (adv q).rq=q.rq from rfl] at Y
   go_wp2_with fail
   refine (zg2 j S.rq q.rq (ze C q.pos).text _ A.out.mem.own.rq (by omega)).mono ?_
   rintro e E ⟨rfl,N⟩
   rw[L,N]
   clear N E
   go_wp2
   go_ret
   rw[O.out]
   exact⟨rfl,S,A.out,K.out⟩
  |false=>
   by_cases hn:q.rq.length<40
   ·refine (zlJ C D n j o S q w h hC z L hn).mono ?_
    rintro e Q ⟨rfl,S1,J,I⟩
    rw[zH,z,L,if_pos rfl,if_neg (by decide),if_neg (by omega)]
    exact⟨rfl,S1,J,I⟩
   ·have H:Hid (IM C D n j o S q w):=h
    have O:Hid (zH C q= .error (zr C q.pos)):=by show _=_;rw[zH,z,L,if_pos rfl,if_neg (by decide),if_pos (by omega)]
    have U:=zc0
    have X:=h.mem.inv.rq
    clear h
    go_enter Tryz.func172,Tryz.ntmps172
    go_wp2_with fail
    refine (zd1 C D n j o S q 3 _ H.out z (by decide)).mono ?_
    rintro e Q ⟨rfl,J,I⟩
    have A:=zc J
    have K:=zc I
    clear J I
    unfold tkV
    obtain⟨c0,c1,c2,c3,Y,c5,c6,c7,c8,Z,cf⟩:=zac A.out.cells
    rw[show (adv q).rq=q.rq from rfl] at Y
    go_wp2_with fail
    refine (zg2 j S.rq q.rq (ze C q.pos).text _ A.out.mem.own.rq (by omega)).mono ?_
    rintro e E ⟨rfl,N⟩
    rw[L,N]
    clear N E
    go_wp2_with fail
    refine (zeb C D n j o S (adv q) q.rq.length 40 _ A.out (by omega) (by rw[zx];omega)).mono ?_
    rintro e w2 ⟨rfl,M⟩
    have V:Hid (Below j w w2):=(H.out.back K.out).trans (M.mono A.out.mem.base)
    clear M
    unfold Pan
    go_wp2
    refine⟨rfl,?_⟩
    rw[O.out]
    exact⟨rfl,V.out⟩
theorem bdO {α β:Type} {Y:Except Nat β} {x:Except Nat α} {f:α→Except Nat β} {a:α} (h:Y=bd x f) (j:x= .ok a):Y=f a:=by rw[h,j];rfl
theorem bdE {α β:Type} {Y:Except Nat β} {x:Except Nat α} {f:α→Except Nat β} {p:Nat} (h:Y=bd x f) (j:x= .error p):Y= .error p:=by rw[h,j];rfl
theorem zed {α:Type} (x:Except Nat α):bd x .ok=x:=by cases x<;>rfl
abbrev cCall:ByteArray:={data:=#[40,41,123]}
abbrev cShutSemi:ByteArray:={data:=#[41,59]}
abbrev cSemiRight:ByteArray:={data:=#[59,125]}
theorem zic (C:Cx) (b:UInt8) (q:PS):zaB C {data:=#[b]} 1 0 q=zd C 4 {data:=#[b]} q:=by
 have e:({data:=#[b]}:ByteArray).extract 0 (0+1)={data:=#[b]}:=by simp[ByteArray.extract,ByteArray.copySlice]
 rw[zaB,e]
 exact zed _
theorem zid (C:Cx) (b c:UInt8) (q:PS):zaB C {data:=#[b,c]} 2 0 q=bd (zd C 4 {data:=#[b]} q) (zd C 4 {data:=#[c]}):=by
 have e:({data:=#[b,c]}:ByteArray).extract 0 (0+1)={data:=#[b]}:=by simp[ByteArray.extract,ByteArray.copySlice]
 have j:({data:=#[b,c]}:ByteArray).extract (0+1) (0+1+1)={data:=#[c]}:=by simp[ByteArray.extract,ByteArray.copySlice]
 rw[zaB,e]
 refine zab fun a _=>?_
 rw[zaB,j]
 exact zed _
theorem zlK (C:Cx) (b c d:UInt8) (q:PS):zaB C {data:=#[b,c,d]} 3 0 q=bd (zd C 4 {data:=#[b]} q) fun a=>bd (zd C 4 {data:=#[c]} a) (zd C 4 {data:=#[d]}):=by
 have e:({data:=#[b,c,d]}:ByteArray).extract 0 (0+1)={data:=#[b]}:=by simp[ByteArray.extract,ByteArray.copySlice]
 have j:({data:=#[b,c,d]}:ByteArray).extract (0+1) (0+1+1)={data:=#[c]}:=by simp[ByteArray.extract,ByteArray.copySlice]
 have n:({data:=#[b,c,d]}:ByteArray).extract (0+1+1) (0+1+1+1)={data:=#[d]}:=by simp[ByteArray.extract,ByteArray.copySlice]
 rw[zaB,e]
 refine zab fun a _=>?_
 rw[zaB,j]
 refine zab fun a _=>?_
 rw[zaB,n]
 exact zed _
theorem zlL (C:Cx) (z n j o:Nat) (S:Sv) (q:PS) (s:ByteArray) (f:PS→PR) (w:World) (h:IM C z n j o S q w) (A:zaB C s s.size 0 q=f q) (D:s.size≤100):
  Calls Tryz.prog 153 #[.pointer (some ⟨o,0,none⟩),.string s] w (zQ C z n j o (f q) id (fun _=>.tuple #[]) S w):=by
 rw[←A]
 exact zgx C z n j o S q s w h D
theorem zbX (C:Cx) (z n j o:Nat) (S:Sv) (q:PS) (b:UInt8) (w:World) (h:IM C z n j o S q w):
  Calls Tryz.prog 153 #[.pointer (some ⟨o,0,none⟩),.string {data:=#[b]}] w (zQ C z n j o (zd C 4 {data:=#[b]} q) id (fun _=>.tuple #[]) S w):=
 zlL C z n j o S q {data:=#[b]} (zd C 4 {data:=#[b]}) w h (zic C b q) (by show 1≤100;omega)
structure Six (w:World) (b:Nat) (v0 v1 v2 v3 v4 v5:Value):Prop where
 c0:w.cell? ⟨b,0,none⟩=some v0
 c1:w.cell? ⟨b,1,none⟩=some v1
 c2:w.cell? ⟨b,2,none⟩=some v2
 c3:w.cell? ⟨b,3,none⟩=some v3
 c4:w.cell? ⟨b,4,none⟩=some v4
 c5:w.cell? ⟨b,5,none⟩=some v5
 fz: ∀i,w.frozen? ⟨b,i,none⟩=false
theorem zv {w:World} {b:Nat} {t:TypeId} {z q A j o n:Value} (h:w.heap[b]? =some (.cells #[z,q,A,j,o,n] t (0,0))):Six w b z q A j o n:=by
 constructor<;>simp[World.cell?,World.frozen?,h]
theorem IS.kept {C:Cx} {E n j z b:Nat} {S D:Sv} {q:PS} {w A:World} {o:Obj} (h:IM C E n j z S q w) (s:IS z S (w.alloc o) D A) (H:b=w.heap.size):A.heap[b]? =some o:=by
 subst H
 refine (s.block _ (by rw[zk];omega) (fun g=>?_) (by have:=h.lt;omega)).trans (heap_alloc_new w _)
 have:=(h.mem.own.has g).2
 omega
theorem IS.from {j:Nat} {S q:Sv} {w n:World} {o:Obj} (s:IS j S (w.alloc o) q n):IS j S w q n:=(IS.below ((Below.refl _ _).alloc (Nat.le_refl _) _)).trans s
theorem IS.free {C:Cx} {E n j z:Nat} {S A:Sv} {q:PS} {w D:World} {o:Obj} (h:IM C E n j z S q w) (s:IS z S (w.alloc o) A D): ¬A.has w.heap.size:=by
 intro g
 rcases s.sub _ g with k|k
 ·have:=(h.mem.own.has k).2
  omega
 ·rw[zk] at k
  omega
def zbg (C:Cx) (x:Ex) (call:Int) (q:PS):PR:=if isT C q.pos 4 zn then bd (zd C 4 za0 (adv q)) (zN C ⟨call,x.num,x.name,x.field,x.l,x.r⟩) else zN C x q
theorem zeI (C:Cx) (J o n z:Nat) (S:Sv) (q:PS) (x:Ex) (j:Int) (w:World) (h:IM C J o n z S q w) (hp:0<q.pos):
  Calls Tryz.prog 207 #[.pointer (some ⟨z,0,none⟩),exV x,.int .i64 j] w (zQ C J o n z (zbg C x j q) id (fun q'=>.int .i64 ((q'.ex.length:Int)-1)) S w):=by
 have D:=zc h
 clear h
 cases hi:isT C q.pos 4 zn with
 |false=>
  have Q:Hid (zbg C x j q=zN C x q):=by show _=_;rw[zbg,hi];rfl
  unfold exV
  go_enter Tryz.func207,Tryz.ntmps207
  go_wp2_with fail
  refine (zK C J o n z S q 4 zn _ (D.out.alloc _) (by decide)).mono ?_
  rintro e w1 ⟨rfl,m,s⟩
  rw[hi] at m ⊢
  have L:=zc m
  have Y:Hid (IS z S w S w1):=s.from
  have ab:Hid (w1.heap[w.heap.size]? =some (.cells #[.int .i64 x.kind,.int .i64 x.num,.string x.name,.string x.field,.int .i64 x.l,.int .i64 x.r] 108 (0,0))):=IS.kept D.out s rfl
  obtain⟨b0,b1,b2,b3,b4,b5,bf⟩:=zv ab.out
  clear m s
  go_wp2_with fail
  refine (zec C J o n z S q x _ L.out hp).mono ?_
  cases A:zN C x q with
  |error p=>
   rintro e I ⟨rfl,N⟩
   have X:Hid (Below n w I):=(D.out.back Y.out).trans N
   have E:Hid (zbg C x j q= .error p):=Q.out.trans A
   unfold Pan
   go_wp2
   refine⟨rfl,?_⟩
   rw[E.out]
   exact⟨rfl,X.out⟩
  |ok Z=>
   rintro e I ⟨rfl,M,m,s⟩
   have K:=zc m
   have ad:Hid (IS z S w M I):=Y.out.trans s
   clear m s
   have E:=zc (Q.out.trans A)
   go_wp2
   go_ret
   rw[E.out]
   exact⟨rfl,M,K.out,ad.out⟩
 |true=>
  have Q:Hid (zbg C x j q=bd (zd C 4 za0 (adv q)) (zN C ⟨j,x.num,x.name,x.field,x.l,x.r⟩)):=by show _=_;rw[zbg,hi];rfl
  unfold exV
  go_enter Tryz.func207,Tryz.ntmps207
  go_wp2_with fail
  refine (zK C J o n z S q 4 zn _ (D.out.alloc _) (by decide)).mono ?_
  rintro e w1 ⟨rfl,m,s⟩
  rw[hi] at m ⊢
  have L:=zc m
  have O:=zc s
  clear m s
  go_wp2_with fail
  refine (zbX C J o n z S (adv q) 41 _ L.out).mono ?_
  cases A:zd C 4 za0 (adv q) with
  |error p=>
   rintro e I ⟨rfl,N⟩
   have X:Hid (Below n w I):=(D.out.back O.out.from).trans N
   have E:Hid (zbg C x j q= .error p):=bdE Q.out A
   unfold Pan
   go_wp2
   refine⟨rfl,?_⟩
   rw[E.out]
   exact⟨rfl,X.out⟩
  |ok Z=>
   rintro e I ⟨rfl,M,m,s⟩
   have K:=zc m
   have H:Hid (IS z S (w.alloc (.cells #[.int .i64 x.kind,.int .i64 x.num,.string x.name,.string x.field,.int .i64 x.l,.int .i64 x.r] 108)) M I):=O.out.trans s
   have af:Hid (I.heap[w.heap.size]? =some (.cells #[.int .i64 x.kind,.int .i64 x.num,.string x.name,.string x.field,.int .i64 x.l,.int .i64 x.r] 108 (0,0))):=IS.kept D.out H.out rfl
   have ag:Hid (Z=adv (adv q)):=(zb4 A).1
   have ae:Hid (¬M.has w.heap.size):=IS.free D.out H.out
   have ai:z<w.heap.size:=D.out.lt
   have ah:J<w.heap.size:=(zan D.out.mem.tok).1
   clear m s
   have U:=zc (bdO Q.out A)
   obtain⟨b0,b1,b2,b3,b4,b5,bf⟩:=zv af.out
   go_wp2_with fail
   refine (zec C J o n z M Z ⟨j,x.num,x.name,x.field,x.l,x.r⟩ _ (K.out.set (by omega) (by omega) ae.out _ _) (by rw[ag.out];show 0<q.pos+1+1;omega)).mono ?_
   cases V:zN C ⟨j,x.num,x.name,x.field,x.l,x.r⟩ Z with
   |error p=>
    rintro e w3 ⟨rfl,N⟩
    have X:Hid (Below n w w3):=(D.out.back (H.out.from.new (Nat.le_refl _) _ _)).trans N
    have E:Hid (zbg C x j q= .error p):=U.out.trans V
    unfold Pan
    go_wp2
    refine⟨rfl,?_⟩
    rw[E.out]
    exact⟨rfl,X.out⟩
   |ok a3=>
    rintro e w3 ⟨rfl,S3,m,s⟩
    have aa:=zc m
    have ac:Hid (IS z S w S3 w3):=(H.out.from.new (Nat.le_refl _) _ _).trans s
    clear m s
    have E:=zc (U.out.trans V)
    go_wp2
    go_ret
    rw[E.out]
    exact⟨rfl,S3,aa.out,ac.out⟩
def exI (q:PS):Value:=.int .i64 ((q.ex.length:Int)-1)
def zeJ (C:Cx) (gt cap base gp m:Nat):Prop:=∀(d:Nat) (S:Sv) (q:PS) (w:World),C.ts.length-q.pos<m→d≤20→IM C gt cap base gp S q w→
 Calls Tryz.prog 183 #[.pointer (some ⟨gp,0,none⟩),.int .i64 d] w (zQ C gt cap base gp (pE C .sum d q) id exI S w)
theorem zie (C:Cx) (n:ByteArray) (q:PS):zbc C n q=zbg C ⟨2,0,n,sNone,0,0⟩ 3 q:=by
 unfold zbc zbg
 cases j:isT C q.pos 4 zn with
 |true=>rw[zbG j];rfl
 |false=>rfl
theorem zlM (C:Cx) (n f:ByteArray) (q:PS):zbx C n f q=zbg C ⟨4,0,n,f,0,0⟩ 5 q:=by
 unfold zbx zbg
 cases j:isT C q.pos 4 zn with
 |true=>rw[zbG j];rfl
 |false=>rfl
theorem zlN {x y:ByteArray} (h:(x.toList==y.toList)=true):x=y:=by
 rw[beq_iff_eq,Lib.toList_data,Lib.toList_data] at h
 cases x
 cases y
 simp only at h
 rw[Array.toList_inj.1 h]
theorem zg3 {C:Cx} {i:Nat} {k:Int} {x:ByteArray} (h:isT C i k x=true):(ze C i).text=x:=by
 simp only[isT,Bool.and_eq_true] at h
 exact zlN h.2
theorem zf4 {C:Cx} {i:Nat} {k:Int} {x:ByteArray} (h:isT C i k x=true):((ze C i).kind==k)=true:=by
 simp only[isT,Bool.and_eq_true] at h
 exact h.1
theorem zlO {C:Cx} {d:Nat} {q:PS} (h:((ze C q.pos).kind==2)=true):pE C .part d q=zN C ⟨1,(ze C q.pos).num,sNone,sNone,0,0⟩ (adv q):=by rw[zb6,h];rfl
theorem zlP {C:Cx} {d:Nat} {q:PS} (h:((ze C q.pos).kind==2)=false) (n:isT C q.pos 4 zn=true) (j:20≤d):pE C .part d q= .error (zr C q.pos):=by rw[zb6,h,n,if_neg (by decide),if_pos rfl,if_pos j]
theorem zlQ {C:Cx} {d:Nat} {q:PS} (h:((ze C q.pos).kind==2)=false) (n:isT C q.pos 4 zn=true) (j: ¬20≤d):pE C .part d q=bd (pE C .sum (d+1) (adv q)) (zd C 4 za0):=by rw[zb6,h,n,if_neg (by decide),if_pos rfl,if_neg j]
theorem zlR {C:Cx} {d:Nat} {q:PS} (h:((ze C q.pos).kind==2)=false) (n:isT C q.pos 4 zn=false) (j:C.scr=true) (o:isT C q.pos 1 za7=true):pE C .part d q=zbg C ⟨2,0,za7,sNone,0,0⟩ 3 (adv q):=by
 rw[zb6,h,n,j,o,if_neg (by decide),if_neg (by decide),if_pos (by decide),zie]
theorem zif {C:Cx} {d:Nat} {q:PS} (h:((ze C q.pos).kind==2)=false) (n:isT C q.pos 4 zn=false) (j:(C.scr&&isT C q.pos 1 za7)=false):
  pE C .part d q=bd (zj C false q) fun x=>if isT C x.1.pos 4 cPoint then bd (zj C true (adv x.1)) fun y=>zbg C ⟨4,0,x.2,y.2,0,0⟩ 5 y.1 else zbg C ⟨2,0,x.2,sNone,0,0⟩ 3 x.1:=by
 rw[zb6,h,n,j,if_neg (by decide),if_neg (by decide),if_neg (by decide)]
 simp only[zie,zlM]
theorem zlS (C:Cx) (z n j o d:Nat) (S:Sv) (q:PS) (w:World) (h:IM C z n j o S q w) (Q:((ze C q.pos).kind==2)=true):
  Calls Tryz.prog 206 #[.pointer (some ⟨o,0,none⟩),.int .i64 d] w (zQ C z n j o (pE C .part d q) id exI S w):=by
 have K:=zc h
 have Z:=zcG
 have Y:=zc0
 have aa:=zdY
 clear h
 have U:=zc (zlO (d:=d) Q)
 go_enter Tryz.func206,Tryz.ntmps206
 go_wp2_with fail
 refine (zbr C z n j o S q _ K.out).mono ?_
 rintro e X ⟨rfl,A⟩
 unfold tkV
 have N:Hid (IM C z n j o S q X):=K.out.later A
 have O:Hid (IS o S w S X):=IS.below A
 clear A
 go_wp2_with fail
 refine (zd1 C z n j o S q 2 _ N.out Q (by decide)).mono ?_
 rintro e w2 ⟨rfl,m,s⟩
 have L:=zc m
 have D:Hid (IS o S w S w2):=O.out.trans s
 clear m s
 unfold tkV
 go_wp2_with fail
 refine (zec C z n j o S (adv q) ⟨1,(ze C q.pos).num,sNone,sNone,0,0⟩ _ L.out (by rw[zx];omega)).mono ?_
 cases E:zN C ⟨1,(ze C q.pos).num,sNone,sNone,0,0⟩ (adv q) with
 |error p=>
  rintro e M ⟨rfl,A⟩
  have HB:Hid (Below j w M):=(K.out.back D.out).trans A
  have HX:Hid (pE C .part d q= .error p):=U.out.trans E
  unfold Pan
  go_wp2
  refine⟨rfl,?_⟩
  rw[HX.out]
  exact⟨rfl,HB.out⟩
 |ok a3=>
  rintro e M ⟨rfl,V,m,s⟩
  have I:=zc m
  have J:Hid (IS o S w V M):=D.out.trans s
  clear m s
  have H:=zc (U.out.trans E)
  go_wp2
  go_ret
  rw[H.out]
  exact⟨rfl,V,I.out,J.out⟩
theorem zlT (C:Cx) (z n j o d:Nat) (S:Sv) (q:PS) (w:World) (h:IM C z n j o S q w) (Q:((ze C q.pos).kind==2)=false) (K:isT C q.pos 4 zn=true) (Z:20≤d):
  Calls Tryz.prog 206 #[.pointer (some ⟨o,0,none⟩),.int .i64 d] w (zQ C z n j o (pE C .part d q) id exI S w):=by
 have H:=zc h
 have N:=zcG
 have M:=zc0
 have Y:=zdY
 clear h
 have U:=zc (zlP (d:=d) Q K Z)
 have O:(20:Int)≤(d:Int):=by omega
 go_enter Tryz.func206,Tryz.ntmps206
 go_wp2_with fail
 refine (zbr C z n j o S q _ H.out).mono ?_
 rintro e L ⟨rfl,A⟩
 unfold tkV
 have I:Hid (IM C z n j o S q L):=H.out.later A
 have J:Hid (IS o S w S L):=IS.below A
 clear A
 go_wp2_with fail
 refine (zK C z n j o S q 4 zn _ I.out (by decide)).mono ?_
 rintro e X ⟨rfl,m,s⟩
 rw[K] at m ⊢
 have D:=zc m
 have E:Hid (IS o S w S X):=J.out.trans s
 clear m s
 go_wp2_with fail
 refine (zeb C z n j o S (adv q) d 20 _ D.out (by omega) (by rw[zx];omega)).mono ?_
 rintro e w3 ⟨rfl,A⟩
 have HB:Hid (Below j w w3):=(H.out.back E.out).trans (A.mono D.out.mem.base)
 have V:Hid (pE C .part d q= .error (zr C q.pos)):=U.out
 unfold Pan
 go_wp2
 refine⟨rfl,?_⟩
 rw[V.out]
 exact⟨rfl,HB.out⟩
theorem zlU (C:Cx) (A n j o m d:Nat) (S:Sv) (q:PS) (w:World) (h:IM C A n j o S q w) (hk:((ze C q.pos).kind==2)=false) (X:isT C q.pos 4 zn=true) (hd:d<20) (hS:zeJ C A n j o m) (hm:C.ts.length-q.pos≤m):
  Calls Tryz.prog 206 #[.pointer (some ⟨o,0,none⟩),.int .i64 d] w (zQ C A n j o (pE C .part d q) id exI S w):=by
 have M:=zc h
 have ag:=zcG
 have ae:=zc0
 have ai:=zdY
 clear h
 have Z:=zc (zlQ (d:=d) hk X (by omega))
 have ah: ¬(20:Int)≤(d:Int):=by omega
 have af:=za1 X (by decide)
 obtain⟨E,K⟩: ∃E:Nat,E=d+1:=⟨_,rfl⟩
 have ed:(d:Int)+1=(E:Int):=by omega
 rw[←K] at Z
 have ab:E≤20:=by omega
 clear K
 go_enter Tryz.func206,Tryz.ntmps206
 go_wp2_with fail
 refine (zbr C A n j o S q _ M.out).mono ?_
 rintro e w1 ⟨rfl,z⟩
 unfold tkV
 have ac:Hid (IM C A n j o S q w1):=M.out.later z
 have ad:Hid (IS o S w S w1):=IS.below z
 clear z
 go_wp2_with fail
 refine (zK C A n j o S q 4 zn _ ac.out (by decide)).mono ?_
 rintro e w2 ⟨rfl,m,s⟩
 rw[X] at m ⊢
 have aa:=zc m
 have J:Hid (IS o S w S w2):=ad.out.trans s
 clear m s
 go_wp2_with fail
 refine (zd2 o d 20 _ (by omega)).mono ?_
 rintro e w' ⟨rfl,hw⟩
 rw[hw]
 clear hw w'
 go_wp2_with fail
 refine (hS E S (adv q) _ (by rw[zx];omega) ab aa.out).mono ?_
 cases L:pE C .sum E (adv q) with
 |error p=>
  rintro e w3 ⟨rfl,z⟩
  have HB:Hid (Below j w w3):=(M.out.back J.out).trans z
  have HX:Hid (pE C .part d q= .error p):=bdE Z.out L
  unfold Pan
  go_wp2
  refine⟨rfl,?_⟩
  rw[HX.out]
  exact⟨rfl,HB.out⟩
 |ok Q=>
  rintro e w3 ⟨rfl,S3,m,s⟩
  have O:=zc m
  have I:Hid (IS o S w S3 w3):=J.out.trans s
  clear m s
  have H:=zc (bdO Z.out L)
  unfold exI
  go_wp2_with fail
  refine (zbX C A n j o S3 Q 41 _ O.out).mono ?_
  cases D:zd C 4 za0 Q with
  |error p=>
   rintro e U ⟨rfl,z⟩
   have HB:Hid (Below j w U):=(M.out.back I.out).trans z
   have HX:Hid (pE C .part d q= .error p):=H.out.trans D
   unfold Pan
   go_wp2
   refine⟨rfl,?_⟩
   rw[HX.out]
   exact⟨rfl,HB.out⟩
  |ok a4=>
   rintro e U ⟨rfl,S4,m,s⟩
   have N:=zc m
   have V:Hid (IS o S w S4 U):=I.out.trans s
   clear m s
   have Y:=zc (H.out.trans D)
   have HP:Hid (a4=adv Q):=(zb4 D).1
   go_wp2
   go_ret
   rw[Y.out]
   exact⟨by rw[HP.out];rfl,S4,N.out,V.out⟩
theorem zlV (C:Cx) (A n j o d:Nat) (S:Sv) (q:PS) (w:World) (h:IM C A n j o S q w) (hk:((ze C q.pos).kind==2)=false) (h1:isT C q.pos 4 zn=false) (Z:C.scr=true) (I:isT C q.pos 1 za7=true):
  Calls Tryz.prog 206 #[.pointer (some ⟨o,0,none⟩),.int .i64 d] w (zQ C A n j o (pE C .part d q) id exI S w):=by
 have O:=zc h
 have ab:=zcG
 have aa:=zc0
 have ac:=zdY
 clear h
 have HY:=zc (zlR (d:=d) hk h1 Z I)
 go_enter Tryz.func206,Tryz.ntmps206
 go_wp2_with fail
 refine (zbr C A n j o S q _ O.out).mono ?_
 rintro e w1 ⟨rfl,z⟩
 unfold tkV
 have X:Hid (IM C A n j o S q w1):=O.out.later z
 have Y:Hid (IS o S w S w1):=IS.below z
 clear z
 go_wp2_with fail
 refine (zK C A n j o S q 4 zn _ X.out (by decide)).mono ?_
 rintro e w2 ⟨rfl,m,s⟩
 rw[h1] at m ⊢
 have D:=zc m
 have N:Hid (IS o S w S w2):=Y.out.trans s
 clear m s
 obtain⟨_,_,_,c3,_,_,_,_,_,_,cf⟩:=zac D.out.cells
 rw[Z] at c3
 go_wp2_with fail
 refine (zbO C A n j o S q 1 za7 _ D.out).mono ?_
 rintro e w3 ⟨rfl,z⟩
 rw[I]
 have L:Hid (IM C A n j o S q w3):=D.out.later z
 have M:Hid (IS o S w S w3):=(N.out.trans (IS.below z))
 clear z
 go_wp2_with fail
 refine (zd1 C A n j o S q 1 _ L.out (zf4 I) (by decide)).mono ?_
 rintro e w4 ⟨rfl,m,s⟩
 have J:=zc m
 have E:Hid (IS o S w S w4):=M.out.trans s
 clear m s
 unfold tkV
 rw[zg3 I]
 go_wp2_with fail
 refine (zeI C A n j o S (adv q) ⟨2,0,za7,sNone,0,0⟩ 3 _ J.out (by rw[zx];omega)).mono ?_
 cases H:zbg C ⟨2,0,za7,sNone,0,0⟩ 3 (adv q) with
 |error p=>
  rintro e V ⟨rfl,z⟩
  have HB:Hid (Below j w V):=(O.out.back E.out).trans z
  have HX:Hid (pE C .part d q= .error p):=HY.out.trans H
  unfold Pan
  go_wp2
  refine⟨rfl,?_⟩
  rw[HX.out]
  exact⟨rfl,HB.out⟩
 |ok a5=>
  rintro e V ⟨rfl,S5,m,s⟩
  have K:=zc m
  have U:Hid (IS o S w S5 V):=E.out.trans s
  clear m s
  have Q:=zc (HY.out.trans H)
  go_wp2
  go_ret
  rw[Q.out]
  exact⟨rfl,S5,K.out,U.out⟩
theorem zlW (C:Cx) (D n j o d:Nat) (S:Sv) (q:PS) (w:World) (h:IM C D n j o S q w) (hk:((ze C q.pos).kind==2)=false) (h1:isT C q.pos 4 zn=false) (h2:C.scr=true) (h3:isT C q.pos 1 za7=false):
  Calls Tryz.prog 206 #[.pointer (some ⟨o,0,none⟩),.int .i64 d] w (zQ C D n j o (pE C .part d q) id exI S w):=by
 have X:=zc h
 have an:=zcG
 have am:=zc0
 have ao:=zdY
 clear h
 have HY:=zc (zif (d:=d) hk h1 (by rw[h2,h3];rfl))
 go_enter Tryz.func206,Tryz.ntmps206
 go_wp2_with fail
 refine (zbr C D n j o S q _ X.out).mono ?_
 rintro e w1 ⟨rfl,z⟩
 unfold tkV
 have ak:Hid (IM C D n j o S q w1):=X.out.later z
 have al:Hid (IS o S w S w1):=IS.below z
 clear z
 go_wp2_with fail
 refine (zK C D n j o S q 4 zn _ ak.out (by decide)).mono ?_
 rintro e w2 ⟨rfl,m,s⟩
 rw[h1] at m ⊢
 have Q:=zc m
 have aj:Hid (IS o S w S w2):=al.out.trans s
 clear m s
 obtain⟨_,_,_,c3,_,_,_,_,_,_,cf⟩:=zac Q.out.cells
 rw[h2] at c3
 go_wp2_with fail
 refine (zbO C D n j o S q 1 za7 _ Q.out).mono ?_
 rintro e w3 ⟨rfl,z⟩
 rw[h3]
 have af:Hid (IM C D n j o S q w3):=Q.out.later z
 have ad:Hid (IS o S w S w3):=(aj.out.trans (IS.below z))
 clear z
 go_wp2_with fail
 refine (zdb C D n j o S q _ af.out).mono ?_
 cases V:zj C false q with
 |error p=>
  rintro e w4 ⟨rfl,z⟩
  have U:Hid (Below j w w4):=(X.out.back ad.out).trans z
  have O:Hid (pE C .part d q= .error p):=bdE HY.out V
  unfold Pan
  go_wp2
  refine⟨rfl,?_⟩
  rw[O.out]
  exact⟨rfl,U.out⟩
 |ok E=>
  rintro e w4 ⟨rfl,N,m,s⟩
  have aa:=zc m
  have ac:Hid (IS o S w N w4):=ad.out.trans s
  clear m s
  have ae:=zc (bdO HY.out V)
  have ab:0<E.1.pos:=by rw[(zbd V).1];exact Nat.succ_pos _
  cases hd:isT C E.1.pos 4 cPoint with
  |true=>
   have HZ:=zc (ae.out.trans (if_pos hd))
   go_wp2_with fail
   refine (zK C D n j o N (E.1) 4 cPoint _ aa.out (by decide)).mono ?_
   rintro e w5 ⟨rfl,m,s⟩
   rw[hd] at m ⊢
   have K:=zc m
   have H:Hid (IS o S w N w5):=ac.out.trans s
   clear m s
   go_wp2_with fail
   refine (zeD C D n j o N (adv (E.1)) _ K.out).mono ?_
   cases A:zj C true (adv (E.1)) with
   |error p=>
    rintro e M ⟨rfl,z⟩
    have U:Hid (Below j w M):=(X.out.back H.out).trans z
    have O:Hid (pE C .part d q= .error p):=bdE HZ.out A
    unfold Pan
    go_wp2
    refine⟨rfl,?_⟩
    rw[O.out]
    exact⟨rfl,U.out⟩
   |ok Y=>
    rintro e M ⟨rfl,S6,m,s⟩
    have L:=zc m
    have J:Hid (IS o S w S6 M):=H.out.trans s
    clear m s
    have I:=zc (bdO HZ.out A)
    go_wp2_with fail
    refine (zeI C D n j o S6 (Y.1) ⟨4,0,E.2,Y.2,0,0⟩ 5 _ L.out (by rw[(zbd A).1];exact Nat.succ_pos _)).mono ?_
    cases Z:zbg C ⟨4,0,E.2,Y.2,0,0⟩ 5 (Y.1) with
    |error p=>
     rintro e w7 ⟨rfl,z⟩
     have U:Hid (Below j w w7):=(X.out.back J.out).trans z
     have O:Hid (pE C .part d q= .error p):=I.out.trans Z
     unfold Pan
     go_wp2
     refine⟨rfl,?_⟩
     rw[O.out]
     exact⟨rfl,U.out⟩
    |ok a7=>
     rintro e w7 ⟨rfl,S7,m,s⟩
     have ag:=zc m
     have ai:Hid (IS o S w S7 w7):=J.out.trans s
     clear m s
     have ah:=zc (I.out.trans Z)
     go_wp2
     go_ret
     rw[ah.out]
     exact⟨rfl,S7,ag.out,ai.out⟩
  |false=>
   have HZ:=zc (ae.out.trans (if_neg (by rw[hd];decide)))
   go_wp2_with fail
   refine (zK C D n j o N (E.1) 4 cPoint _ aa.out (by decide)).mono ?_
   rintro e w5 ⟨rfl,m,s⟩
   rw[hd] at m ⊢
   have K:=zc m
   have H:Hid (IS o S w N w5):=ac.out.trans s
   clear m s
   go_wp2_with fail
   refine (zeI C D n j o N (E.1) ⟨2,0,E.2,sNone,0,0⟩ 3 _ K.out ab).mono ?_
   cases A:zbg C ⟨2,0,E.2,sNone,0,0⟩ 3 (E.1) with
   |error p=>
    rintro e M ⟨rfl,z⟩
    have U:Hid (Below j w M):=(X.out.back H.out).trans z
    have O:Hid (pE C .part d q= .error p):=HZ.out.trans A
    unfold Pan
    go_wp2
    refine⟨rfl,?_⟩
    rw[O.out]
    exact⟨rfl,U.out⟩
   |ok Y=>
    rintro e M ⟨rfl,S6,m,s⟩
    have L:=zc m
    have J:Hid (IS o S w S6 M):=H.out.trans s
    clear m s
    have I:=zc (HZ.out.trans A)
    go_wp2
    go_ret
    rw[I.out]
    exact⟨rfl,S6,L.out,J.out⟩
theorem zlX (C:Cx) (H n j o d:Nat) (S:Sv) (q:PS) (w:World) (h:IM C H n j o S q w) (hk:((ze C q.pos).kind==2)=false) (h1:isT C q.pos 4 zn=false) (h2:C.scr=false):
  Calls Tryz.prog 206 #[.pointer (some ⟨o,0,none⟩),.int .i64 d] w (zQ C H n j o (pE C .part d q) id exI S w):=by
 have V:=zc h
 have al:=zcG
 have ak:=zc0
 have am:=zdY
 clear h
 have HY:=zc (zif (d:=d) hk h1 (by rw[h2];rfl))
 go_enter Tryz.func206,Tryz.ntmps206
 go_wp2_with fail
 refine (zbr C H n j o S q _ V.out).mono ?_
 rintro e w1 ⟨rfl,D⟩
 unfold tkV
 have ai:Hid (IM C H n j o S q w1):=V.out.later D
 have aj:Hid (IS o S w S w1):=IS.below D
 clear D
 go_wp2_with fail
 refine (zK C H n j o S q 4 zn _ ai.out (by decide)).mono ?_
 rintro e w2 ⟨rfl,m,s⟩
 rw[h1] at m ⊢
 have ae:=zc m
 have ad:Hid (IS o S w S w2):=aj.out.trans s
 clear m s
 obtain⟨_,_,_,c3,_,_,_,_,_,_,cf⟩:=zac ae.out.cells
 rw[h2] at c3
 go_wp2_with fail
 refine (zdb C H n j o S q _ ae.out).mono ?_
 cases O:zj C false q with
 |error p=>
  rintro e w3 ⟨rfl,D⟩
  have U:Hid (Below j w w3):=(V.out.back ad.out).trans D
  have M:Hid (pE C .part d q= .error p):=bdE HY.out O
  unfold Pan
  go_wp2
  refine⟨rfl,?_⟩
  rw[M.out]
  exact⟨rfl,U.out⟩
 |ok A=>
  rintro e w3 ⟨rfl,N,m,s⟩
  have aa:=zc m
  have ac:Hid (IS o S w N w3):=ad.out.trans s
  clear m s
  have X:=zc (bdO HY.out O)
  have Z:0<A.1.pos:=by rw[(zbd O).1];exact Nat.succ_pos _
  cases hd:isT C A.1.pos 4 cPoint with
  |true=>
   have HZ:=zc (X.out.trans (if_pos hd))
   go_wp2_with fail
   refine (zK C H n j o N (A.1) 4 cPoint _ aa.out (by decide)).mono ?_
   rintro e w4 ⟨rfl,m,s⟩
   rw[hd] at m ⊢
   have K:=zc m
   have E:Hid (IS o S w N w4):=ac.out.trans s
   clear m s
   go_wp2_with fail
   refine (zeD C H n j o N (adv (A.1)) _ K.out).mono ?_
   cases z:zj C true (adv (A.1)) with
   |error p=>
    rintro e Q ⟨rfl,D⟩
    have U:Hid (Below j w Q):=(V.out.back E.out).trans D
    have M:Hid (pE C .part d q= .error p):=bdE HZ.out z
    unfold Pan
    go_wp2
    refine⟨rfl,?_⟩
    rw[M.out]
    exact⟨rfl,U.out⟩
   |ok a5=>
    rintro e Q ⟨rfl,Y,m,s⟩
    have L:=zc m
    have J:Hid (IS o S w Y Q):=E.out.trans s
    clear m s
    have I:=zc (bdO HZ.out z)
    go_wp2_with fail
    refine (zeI C H n j o Y (a5.1) ⟨4,0,A.2,a5.2,0,0⟩ 5 _ L.out (by rw[(zbd z).1];exact Nat.succ_pos _)).mono ?_
    cases ab:zbg C ⟨4,0,A.2,a5.2,0,0⟩ 5 (a5.1) with
    |error p=>
     rintro e w6 ⟨rfl,D⟩
     have U:Hid (Below j w w6):=(V.out.back J.out).trans D
     have M:Hid (pE C .part d q= .error p):=I.out.trans ab
     unfold Pan
     go_wp2
     refine⟨rfl,?_⟩
     rw[M.out]
     exact⟨rfl,U.out⟩
    |ok a6=>
     rintro e w6 ⟨rfl,S6,m,s⟩
     have af:=zc m
     have ah:Hid (IS o S w S6 w6):=J.out.trans s
     clear m s
     have ag:=zc (I.out.trans ab)
     go_wp2
     go_ret
     rw[ag.out]
     exact⟨rfl,S6,af.out,ah.out⟩
  |false=>
   have HZ:=zc (X.out.trans (if_neg (by rw[hd];decide)))
   go_wp2_with fail
   refine (zK C H n j o N (A.1) 4 cPoint _ aa.out (by decide)).mono ?_
   rintro e w4 ⟨rfl,m,s⟩
   rw[hd] at m ⊢
   have K:=zc m
   have E:Hid (IS o S w N w4):=ac.out.trans s
   clear m s
   go_wp2_with fail
   refine (zeI C H n j o N (A.1) ⟨2,0,A.2,sNone,0,0⟩ 3 _ K.out Z).mono ?_
   cases z:zbg C ⟨2,0,A.2,sNone,0,0⟩ 3 (A.1) with
   |error p=>
    rintro e Q ⟨rfl,D⟩
    have U:Hid (Below j w Q):=(V.out.back E.out).trans D
    have M:Hid (pE C .part d q= .error p):=HZ.out.trans z
    unfold Pan
    go_wp2
    refine⟨rfl,?_⟩
    rw[M.out]
    exact⟨rfl,U.out⟩
   |ok a5=>
    rintro e Q ⟨rfl,Y,m,s⟩
    have L:=zc m
    have J:Hid (IS o S w Y Q):=E.out.trans s
    clear m s
    have I:=zc (HZ.out.trans z)
    go_wp2
    go_ret
    rw[I.out]
    exact⟨rfl,Y,L.out,J.out⟩
theorem zig (C:Cx) (z n j o m d:Nat) (S:Sv) (q:PS) (w:World) (h:IM C z n j o S q w) (L:d≤20) (J:zeJ C z n j o m) (K:C.ts.length-q.pos≤m):
  Calls Tryz.prog 206 #[.pointer (some ⟨o,0,none⟩),.int .i64 d] w (zQ C z n j o (pE C .part d q) id exI S w):=by
 cases A:((ze C q.pos).kind==2) with
 |true=>exact zlS C z n j o d S q w h A
 |false=>
  cases D:isT C q.pos 4 zn with
  |true=>
   by_cases H:20≤d
   ·exact zlT C z n j o d S q w h A D H
   ·exact zlU C z n j o m d S q w h A D (by omega) J K
  |false=>
   cases E:C.scr with
   |true=>
    cases I:isT C q.pos 1 za7 with
    |true=>exact zlV C z n j o d S q w h A D E I
    |false=>exact zlW C z n j o d S q w h A D E I
   |false=>exact zlX C z n j o d S q w h A D E
theorem zlY {C:Cx} {d:Nat} {q:PS} (h:isT C q.pos 4 zw=false):pE C .prodT d q= .ok q:=by rw[zfo,if_neg (by rw[h];decide)]
theorem zlZ {C:Cx} {d:Nat} {q:PS} (h:isT C q.pos 4 zw=true):pE C .prodT d q=bd (pE C .part d (adv q)) fun a=>bd (zN C ⟨8,0,sNone,sNone,(q.ex.length:Int)-1,(a.ex.length:Int)-1⟩ a) (pE C .prodT d):=by rw[zfo,if_pos h,zM]
theorem zma {C:Cx} {d:Nat} {q:PS} (h:isT C q.pos 4 zbb=false) (j:isT C q.pos 4 zbU=false):pE C .sumT d q= .ok q:=by rw[ze7,if_neg (by rw[h,j];decide)]
theorem zmb {C:Cx} {d:Nat} {q:PS} (h:isT C q.pos 4 zbb=true):pE C .sumT d q=bd (pE C .prod d (adv q)) fun a=>bd (zN C ⟨7,0,sNone,sNone,(q.ex.length:Int)-1,(a.ex.length:Int)-1⟩ a) (pE C .sumT d):=by
 rw[ze7,if_pos (by rw[h];exact Bool.or_true _),zM,zcY,if_pos h]
theorem zmc {C:Cx} {d:Nat} {q:PS} (h:isT C q.pos 4 zbb=false) (j:isT C q.pos 4 zbU=true):pE C .sumT d q=bd (pE C .prod d (adv q)) fun a=>bd (zN C ⟨6,0,sNone,sNone,(q.ex.length:Int)-1,(a.ex.length:Int)-1⟩ a) (pE C .sumT d):=by
 rw[ze7,if_pos (by rw[j];rfl),zM,zcY,if_neg (by rw[h];decide)]
theorem zg4 (C:Cx) (D n j o m d:Nat) (S:Sv) (q:PS) (w:World) (h:IM C D n j o S q w) (hd:d≤20) (hS:zeJ C D n j o m) (hm:C.ts.length-q.pos≤m):
  Calls Tryz.prog 201 #[.pointer (some ⟨o,0,none⟩),.int .i64 d] w (zQ C D n j o (pE C .prod d q) id exI S w):=by
 have HH:=zc h
 have HY:=zc (zhD C d q)
 clear h
 go_enter Tryz.func201,Tryz.ntmps201
 go_wp2_with fail
 refine (zig C D n j o m d S q _ HH.out hd hS hm).mono ?_
 cases H:pE C .part d q with
 |error p=>
  rintro e w1 ⟨rfl,Q⟩
  have HB:Hid (Below j w w1):=(HH.out.back (IS.refl _ _ _)).trans Q
  have X:Hid (pE C .prod d q= .error p):=bdE HY.out H
  unfold Pan
  go_wp2
  refine⟨rfl,?_⟩
  rw[X.out]
  exact⟨rfl,HB.out⟩
 |ok a1=>
  rintro e w1 ⟨rfl,S1,m,s⟩
  have ag:=zc m
  have ah:=zc s
  clear m s
  have aa:=zc (bdO HY.out H)
  unfold exI
  have ak:=zaY H
  go_wp2
  go_loopg [5] (C.ts.length+1) (fun k l wr=>∃(A:Sv) (z:PS),l=exI z∧pE C .prod d q=pE C .prodT d z∧C.ts.length-z.pos<k∧C.ts.length-z.pos≤m∧IM C D n j o A z wr∧IS o S w A wr)
  case atStart=>exact⟨S1,a1,rfl,aa.out,by omega,by omega,ag.out,ah.out⟩
  case round=>
   obtain⟨A,z,rfl,hy,hk,aj,m',s'⟩:=hrel
   have V:=zc hy
   have M:Hid (IM C D n j o A z wr):=m'
   have Y:Hid (IS o S w A wr):=s'
   clear hy m' s'
   unfold exI
   cases Z:isT C z.pos 4 zw with
   |false=>
    have HZ:=zc (V.out.trans (zlY Z))
    go_wp2_with fail
    refine (zK C D n j o A z 4 zw _ M.out (by decide)).mono ?_
    rintro e w2 ⟨rfl,m,s⟩
    rw[Z] at m ⊢
    have J:=zc m
    have E:Hid (IS o S w A w2):=Y.out.trans s
    clear m s
    go_wp2
    go_ret
    rw[HZ.out]
    exact⟨rfl,A,J.out,E.out⟩
   |true=>
    have ai:=za1 Z (by decide)
    have HZ:=zc (V.out.trans (zlZ Z))
    go_wp2_with fail
    refine (zK C D n j o A z 4 zw _ M.out (by decide)).mono ?_
    rintro e w2 ⟨rfl,m,s⟩
    rw[Z] at m ⊢
    have J:=zc m
    have E:Hid (IS o S w A w2):=Y.out.trans s
    clear m s
    go_wp2_with fail
    refine (zig C D n j o m d A (adv z) _ J.out hd hS (by rw[zx];omega)).mono ?_
    cases I:pE C .part d (adv z) with
    |error p=>
     rintro e w3 ⟨rfl,Q⟩
     have HB:Hid (Below j w w3):=(HH.out.back E.out).trans Q
     have X:Hid (pE C .prod d q= .error p):=bdE HZ.out I
     unfold Pan
     go_wp2
     refine⟨rfl,?_⟩
     rw[X.out]
     exact⟨rfl,HB.out⟩
    |ok L=>
     rintro e w3 ⟨rfl,S3,m,s⟩
     have ac:=zc m
     have U:Hid (IS o S w S3 w3):=E.out.trans s
     clear m s
     have O:=zc (bdO HZ.out I)
     unfold exI
     have N:=zaY I
     rw[zx] at N
     have ad:0<L.pos:=by omega
     go_wp2_with fail
     refine (zec C D n j o S3 L ⟨8,0,sNone,sNone,(z.ex.length:Int)-1,(L.ex.length:Int)-1⟩ _ ac.out ad).mono ?_
     cases K:zN C ⟨8,0,sNone,sNone,(z.ex.length:Int)-1,(L.ex.length:Int)-1⟩ L with
     |error p=>
      rintro e w4 ⟨rfl,Q⟩
      have HB:Hid (Below j w w4):=(HH.out.back U.out).trans Q
      have X:Hid (pE C .prod d q= .error p):=bdE O.out K
      unfold Pan
      go_wp2
      refine⟨rfl,?_⟩
      rw[X.out]
      exact⟨rfl,HB.out⟩
     |ok a4=>
      rintro e w4 ⟨rfl,S4,m,s⟩
      have ab:=zc m
      have ae:Hid (IS o S w S4 w4):=U.out.trans s
      clear m s
      have af:=zc (bdO O.out K)
      have HP:Hid (a4.pos=L.pos):=by show _=_;rw[(zb5 K).1]
      go_wp2
      go_roundg (gk-1)
      case rel=>exact⟨S4,a4,rfl,af.out,by have:=HP.out;omega,by have:=HP.out;omega,ab.out,ae.out⟩
      case measure=>omega
theorem zmd (C:Cx) (E n j o m d:Nat) (S:Sv) (q:PS) (w:World) (h:IM C E n j o S q w) (hd:d≤20) (hS:zeJ C E n j o m) (hm:C.ts.length-q.pos≤m):
  Calls Tryz.prog 183 #[.pointer (some ⟨o,0,none⟩),.int .i64 d] w (zQ C E n j o (pE C .sum d q) id exI S w):=by
 have HH:=zc h
 have HY:=zc (zhC C d q)
 clear h
 go_enter Tryz.func183,Tryz.ntmps183
 go_wp2_with fail
 refine (zg4 C E n j o m d S q _ HH.out hd hS hm).mono ?_
 cases af:pE C .prod d q with
 |error p=>
  rintro e w1 ⟨rfl,A⟩
  have Z:Hid (Below j w w1):=(HH.out.back (IS.refl _ _ _)).trans A
  have Y:Hid (pE C .sum d q= .error p):=bdE HY.out af
  unfold Pan
  go_wp2
  refine⟨rfl,?_⟩
  rw[Y.out]
  exact⟨rfl,Z.out⟩
 |ok a1=>
  rintro e w1 ⟨rfl,S1,m,s⟩
  have am:=zc m
  have an:=zc s
  clear m s
  have ao:=zc (bdO HY.out af)
  unfold exI
  have as:=zaY af
  go_wp2
  go_loopg [5] (C.ts.length+1) (fun k l wr=>∃(D:Sv) (z:PS),l=exI z∧pE C .sum d q=pE C .sumT d z∧C.ts.length-z.pos<k∧C.ts.length-z.pos≤m∧IM C E n j o D z wr∧IS o S w D wr)
  case atStart=>exact⟨S1,a1,rfl,ao.out,by omega,by omega,am.out,an.out⟩
  case round=>
   obtain⟨D,z,rfl,hy,hk,ar,m',s'⟩:=hrel
   have ai:=zc hy
   have I:Hid (IM C E n j o D z wr):=m'
   have ad:Hid (IS o S w D wr):=s'
   clear hy m' s'
   unfold exI
   have aq:=I.out.mem.few
   cases hi:isT C z.pos 4 zbb with
   |true=>
    have ab:=za1 hi (by decide)
    have HZ:=zc (ai.out.trans (zmb hi))
    go_wp2_with fail
    refine (zbO C E n j o D z 4 zbb _ I.out).mono ?_
    rintro e Q ⟨rfl,A⟩
    rw[hi]
    have H:Hid (IM C E n j o D z Q):=I.out.later A
    have N:Hid (IS o S w D Q):=(ad.out.trans (IS.below A))
    clear A
    obtain⟨c0,c1,c2,c3,c4,c5,c6,c7,c8,c9,cf⟩:=zac H.out.cells
    go_wp2_with fail
    have K:Hid (IM C E n j o D (adv z) (Q.setCell ⟨o,1,none⟩ (.int .i64 ((z.pos:Int)+1)))):=H.out.adv ab
    have L:Hid (IS o S w D (Q.setCell ⟨o,1,none⟩ (.int .i64 ((z.pos:Int)+1)))):=N.out.set _ _
    refine (zg4 C E n j o m d D (adv z) _ K.out hd hS (by rw[zx];omega)).mono ?_
    cases ae:pE C .prod d (adv z) with
    |error p=>
     rintro e w4 ⟨rfl,A⟩
     have Z:Hid (Below j w w4):=(HH.out.back L.out).trans A
     have Y:Hid (pE C .sum d q= .error p):=bdE HZ.out ae
     unfold Pan
     go_wp2
     refine⟨rfl,?_⟩
     rw[Y.out]
     exact⟨rfl,Z.out⟩
    |ok a4=>
     rintro e w4 ⟨rfl,S4,m,s⟩
     have ah:=zc m
     have O:Hid (IS o S w S4 w4):=L.out.trans s
     clear m s
     have aj:=zc (bdO HZ.out ae)
     unfold exI
     have M:=zaY ae
     rw[zx] at M
     have ag:0<a4.pos:=by omega
     go_wp2_with fail
     refine (zec C E n j o S4 a4 ⟨7,0,sNone,sNone,(z.ex.length:Int)-1,(a4.ex.length:Int)-1⟩ _ ah.out ag).mono ?_
     cases J:zN C ⟨7,0,sNone,sNone,(z.ex.length:Int)-1,(a4.ex.length:Int)-1⟩ a4 with
     |error p=>
      rintro e w5 ⟨rfl,A⟩
      have Z:Hid (Below j w w5):=(HH.out.back O.out).trans A
      have Y:Hid (pE C .sum d q= .error p):=bdE aj.out J
      unfold Pan
      go_wp2
      refine⟨rfl,?_⟩
      rw[Y.out]
      exact⟨rfl,Z.out⟩
     |ok V=>
      rintro e w5 ⟨rfl,S5,m,s⟩
      have aa:=zc m
      have X:Hid (IS o S w S5 w5):=O.out.trans s
      clear m s
      have U:=zc (bdO aj.out J)
      have HP:Hid (V.pos=a4.pos):=by show _=_;rw[(zb5 J).1]
      go_wp2
      go_roundg (gk-1)
      case rel=>exact⟨S5,V,rfl,U.out,by have:=HP.out;omega,by have:=HP.out;omega,aa.out,X.out⟩
      case measure=>omega
   |false=>
    cases hj:isT C z.pos 4 zbU with
    |true=>
     have ab:=za1 hj (by decide)
     have HZ:=zc (ai.out.trans (zmc hi hj))
     go_wp2_with fail
     refine (zbO C E n j o D z 4 zbb _ I.out).mono ?_
     rintro e Q ⟨rfl,A⟩
     rw[hi]
     have H:Hid (IM C E n j o D z Q):=I.out.later A
     have N:Hid (IS o S w D Q):=(ad.out.trans (IS.below A))
     clear A
     go_wp2_with fail
     refine (zbO C E n j o D z 4 zbU _ H.out).mono ?_
     rintro e w3 ⟨rfl,A⟩
     rw[hj]
     have K:Hid (IM C E n j o D z w3):=H.out.later A
     have L:Hid (IS o S w D w3):=(N.out.trans (IS.below A))
     clear A
     obtain⟨c0,c1,c2,c3,c4,c5,c6,c7,c8,c9,cf⟩:=zac K.out.cells
     go_wp2_with fail
     have ah:Hid (IM C E n j o D (adv z) (w3.setCell ⟨o,1,none⟩ (.int .i64 ((z.pos:Int)+1)))):=K.out.adv ab
     have O:Hid (IS o S w D (w3.setCell ⟨o,1,none⟩ (.int .i64 ((z.pos:Int)+1)))):=L.out.set _ _
     refine (zg4 C E n j o m d D (adv z) _ ah.out hd hS (by rw[zx];omega)).mono ?_
     cases J:pE C .prod d (adv z) with
     |error p=>
      rintro e w5 ⟨rfl,A⟩
      have Z:Hid (Below j w w5):=(HH.out.back O.out).trans A
      have Y:Hid (pE C .sum d q= .error p):=bdE HZ.out J
      unfold Pan
      go_wp2
      refine⟨rfl,?_⟩
      rw[Y.out]
      exact⟨rfl,Z.out⟩
     |ok V=>
      rintro e w5 ⟨rfl,S5,m,s⟩
      have aa:=zc m
      have X:Hid (IS o S w S5 w5):=O.out.trans s
      clear m s
      have U:=zc (bdO HZ.out J)
      unfold exI
      have M:=zaY J
      rw[zx] at M
      have ag:0<V.pos:=by omega
      go_wp2_with fail
      refine (zec C E n j o S5 V ⟨6,0,sNone,sNone,(z.ex.length:Int)-1,(V.ex.length:Int)-1⟩ _ aa.out ag).mono ?_
      cases ac:zN C ⟨6,0,sNone,sNone,(z.ex.length:Int)-1,(V.ex.length:Int)-1⟩ V with
      |error p=>
       rintro e w6 ⟨rfl,A⟩
       have Z:Hid (Below j w w6):=(HH.out.back X.out).trans A
       have Y:Hid (pE C .sum d q= .error p):=bdE U.out ac
       unfold Pan
       go_wp2
       refine⟨rfl,?_⟩
       rw[Y.out]
       exact⟨rfl,Z.out⟩
      |ok a6=>
       rintro e w6 ⟨rfl,S6,m,s⟩
       have ap:=zc m
       have al:Hid (IS o S w S6 w6):=X.out.trans s
       clear m s
       have ak:=zc (bdO U.out ac)
       have HP:Hid (a6.pos=V.pos):=by show _=_;rw[(zb5 ac).1]
       go_wp2
       go_roundg (gk-1)
       case rel=>exact⟨S6,a6,rfl,ak.out,by have:=HP.out;omega,by have:=HP.out;omega,ap.out,al.out⟩
       case measure=>omega
    |false=>
     have HZ:=zc (ai.out.trans (zma hi hj))
     go_wp2_with fail
     refine (zbO C E n j o D z 4 zbb _ I.out).mono ?_
     rintro e Q ⟨rfl,A⟩
     rw[hi]
     have H:Hid (IM C E n j o D z Q):=I.out.later A
     have N:Hid (IS o S w D Q):=(ad.out.trans (IS.below A))
     clear A
     go_wp2_with fail
     refine (zbO C E n j o D z 4 zbU _ H.out).mono ?_
     rintro e w3 ⟨rfl,A⟩
     rw[hj]
     have K:Hid (IM C E n j o D z w3):=H.out.later A
     have L:Hid (IS o S w D w3):=(N.out.trans (IS.below A))
     clear A
     go_wp2
     go_ret
     rw[HZ.out]
     exact⟨rfl,D,K.out,L.out⟩
theorem zme (C:Cx) (A n j z m:Nat):zeJ C A n j z m:=by
 induction m with
 |zero=>intro d S q w o;omega
 |succ m D=>intro d S q w o E h;exact zmd C A n j z m d S q w h E D (by omega)
theorem zmf (C:Cx) (z n j o d:Nat) (S:Sv) (q:PS) (w:World) (h:IM C z n j o S q w) (A:d≤20):
  Calls Tryz.prog 183 #[.pointer (some ⟨o,0,none⟩),.int .i64 d] w (zQ C z n j o (pE C .sum d q) id exI S w):=zme C z n j o _ d S q w (Nat.lt_succ_self _) A h
theorem zih {C:Cx} {s:ByteArray} (n:Nat): ∀{k:Nat} {q b:PS},zaB C s n k q= .ok b→b={q with pos:=q.pos+n}:=by
 induction n with
 |zero=>intro k q b h;cases h;rfl
 |succ n o=>
  intro k q b h
  rw[zaB] at h
  obtain⟨a,z,j⟩:=zf h
  rw[o j,(zb4 z).1]
  show ({q with pos:=q.pos+1+n}:PS)=_
  congr 1
  omega
theorem zii (x:Sm): ∀u∈smL x,u.oneCell'=true:=by
 intro u j
 simp[smL] at j
 rcases j with rfl|rfl|rfl<;>rfl
def stmtI (C:Cx) (k:Int) (n s:ByteArray) (q:PS):PR:=bd (pE C .sum 0 q) fun a=>bd (zaB C s s.size 0 a) fun b=>zV C k n b
theorem zd7 (C:Cx) (N z j D:Nat) (S:Sv) (q:PS) (E:Int) (n s:ByteArray) (w:World) (h:IM C N z j D S q w) (hs:s.size≤100) (h0:0<s.size):
  Calls Tryz.prog 154 #[.pointer (some ⟨D,0,none⟩),.int .i64 E,.string n,.string s] w (zQ C N z j D (stmtI C E n s q) id (fun _=>.tuple #[]) S w):=by
 obtain⟨i0,hi,ai,aj,ae⟩:=info_parts Tryz.infoStmt
 have HH:=zc h
 have HY:=zc (stmtI.eq_1 C E n s q)
 clear h
 go_enter Tryz.func154,Tryz.ntmps154
 go_wp2_with fail
 refine (zmf C N z j D 0 S q _ HH.out (by omega)).mono ?_
 cases aa:pE C .sum 0 q with
 |error p=>
  rintro e w1 ⟨rfl,M⟩
  have HB:Hid (Below j w w1):=(HH.out.back (IS.refl _ _ _)).trans M
  have HX:Hid (stmtI C E n s q= .error p):=bdE HY.out aa
  unfold Pan
  go_wp2
  refine⟨rfl,?_⟩
  rw[HX.out]
  exact⟨rfl,HB.out⟩
 |ok a1=>
  rintro e w1 ⟨rfl,S1,m,s⟩
  have ah:=zc m
  have ab:=zc s
  clear m s
  have ac:=zc (bdO HY.out aa)
  unfold exI
  go_wp2_with fail
  refine (zgx C N z j D S1 a1 s _ ah.out hs).mono ?_
  cases J:zaB C s s.size 0 a1 with
  |error p=>
   rintro e X ⟨rfl,M⟩
   have HB:Hid (Below j w X):=(HH.out.back ab.out).trans M
   have HX:Hid (stmtI C E n s q= .error p):=bdE ac.out J
   unfold Pan
   go_wp2
   refine⟨rfl,?_⟩
   rw[HX.out]
   exact⟨rfl,HB.out⟩
  |ok A=>
   rintro e X ⟨rfl,S2,m,s⟩
   have o:=zc m
   have Q:Hid (IS D S w S2 X):=ab.out.trans s
   clear m s
   have V:=zc (bdO ac.out J)
   have L:=zih _ J
   have Z:0<A.pos:=by rw[L];show 0<a1.pos+s.size;omega
   have HE:Hid (A.ex=a1.ex):=by show _=_;rw[L]
   clear L
   have al:=o.out.mem.inv.st
   obtain⟨c0,c1,c2,c3,c4,c5,c6,c7,c8,c9,cf⟩:=zac o.out.cells
   go_wp2_with fail
   by_cases hn:A.st.length<80
   ·have HZ:=zc (V.out.trans (show zV C E n A=_ from if_neg (by omega)))
    refine (zd2 D A.st.length 80 _ (by omega)).mono ?_
    rintro e w' ⟨rfl,hw⟩
    rw[hw]
    clear hw w'
    have HN:Hid (some D≠S2.st.blk):=fun e=>o.out.free (.inr (.inr (.inr (.inl e.symm))))
    have ak:=o.out.lt
    have H:=fun I=>(o.out.mem.own.st.alloc I)
    have O:=fun I=>(o.out.alloc I).mem.base
    have U:=fun I=>(o.out.alloc I).lt
    have Y:=fun I=>(o.out.alloc I).cells
    go_wp2_with (at_builtin;refine zcu _ rfl _ _ 25 rfl j 106 i0 _ 3 32 Tryz.underlying25 hi ai aj ae rfl (by decide) (by decide) S2.st A.st.length _ (by rfl) (H _) X.heap.size (smL ⟨E,n,(a1.ex.length:Int)-1⟩) (by rfl) (by exact heap_alloc_new X _) rfl (zii _) (by omega) (O _) ?_;intro r' wz hr K ad;have g2:=(K.block D (U _) HN.out).trans (Y _);obtain⟨d0,d1,d2,d3,d4,d5,d6,d7,d8,d9,df⟩:=zac g2;have HR:Hid (OwnR wz j 106 3 r' (A.st.length+1) _):=hr;have af:Hid (World.grownBy _ wz _):=K;have ag:Hid (_∨_):=ad;clear hr K ad g2 c0 c1 c2 c3 c4 c5 c6 c7 c8 c9 cf H O U Y)
    go_wp2
    go_end0
    obtain⟨m',s'⟩:=o.out.grow_st ((Below.refl _ _).alloc (Nat.le_refl _) _) af.out HR.out ag.out hn
    rw[HZ.out]
    rw[←HE.out] at m'
    exact⟨rfl,_,m',Q.out.trans s'⟩
   ·have HZ:Hid (stmtI C E n s q= .error (zr C (A.pos-1))):=V.out.trans (if_pos (by omega))
    refine (zeb C N z j D S2 A A.st.length 80 _ o.out (by omega) Z).mono ?_
    rintro e wz ⟨rfl,M⟩
    have HB:Hid (Below j w wz):=(HH.out.back Q.out).trans (M.mono o.out.mem.base)
    have HX:Hid (stmtI C E n s q= .error (zr C (A.pos-1))):=HZ.out
    unfold Pan
    go_wp2
    refine⟨rfl,?_⟩
    rw[HX.out]
    exact⟨rfl,HB.out⟩
def letJ (C:Cx) (k:Int) (q:PS):PR:=bd (zj C false q) fun a=>bd (zd C 4 cEq a.1) fun b=>stmtI C k a.2 cSemi b
def fnI (C:Cx) (q:PS):PR:=bd (zj C false q) fun a=>bd (zaB C cCall cCall.size 0 a.1) fun b=>bd (zd C 1 zdT b) fun c=>stmtI C 2 a.2 cSemiRight c
def printI (C:Cx) (q:PS):PR:=bd (zd C 4 zn q) fun a=>stmtI C 4 sNone cShutSemi a
theorem zg5 (C:Cx) (M n j o:Nat) (S:Sv) (q:PS) (w:World) (h:IM C M n j o S q w):
  Calls Tryz.prog 144 #[.pointer (some ⟨o,0,none⟩)] w (zQ C M n j o (letJ C 1 q) id (fun _=>.tuple #[]) S w):=by
 have O:=zc h
 have HY:=zc (letJ.eq_1 C 1 q)
 clear h
 go_enter Tryz.func144,Tryz.ntmps144
 go_wp2_with fail
 refine (zdb C M n j o S q _ O.out).mono ?_
 cases D:zj C false q with
 |error p=>
  rintro e w1 ⟨rfl,A⟩
  have L:Hid (Below j w w1):=(O.out.back (IS.refl _ _ _)).trans A
  have I:Hid (letJ C 1 q= .error p):=bdE HY.out D
  unfold Pan
  go_wp2
  refine⟨rfl,?_⟩
  rw[I.out]
  exact⟨rfl,L.out⟩
 |ok Q=>
  rintro e w1 ⟨rfl,S1,m,s⟩
  have aa:=zc m
  have N:=zc s
  clear m s
  have z:=zc (bdO HY.out D)
  go_wp2_with fail
  refine (zbX C M n j o S1 (Q.1) 61 _ aa.out).mono ?_
  cases J:zd C 4 cEq (Q.1) with
  |error p=>
   rintro e Y ⟨rfl,A⟩
   have L:Hid (Below j w Y):=(O.out.back N.out).trans A
   have I:Hid (letJ C 1 q= .error p):=bdE z.out J
   unfold Pan
   go_wp2
   refine⟨rfl,?_⟩
   rw[I.out]
   exact⟨rfl,L.out⟩
  |ok a2=>
   rintro e Y ⟨rfl,S2,m,s⟩
   have Z:=zc m
   have E:Hid (IS o S w S2 Y):=N.out.trans s
   clear m s
   have H:=zc (bdO z.out J)
   go_wp2_with fail
   refine (zd7 C M n j o S2 a2 1 Q.2 cSemi _ Z.out (by decide) (by decide)).mono ?_
   cases K:stmtI C 1 Q.2 cSemi a2 with
   |error p=>
    rintro e w3 ⟨rfl,A⟩
    have L:Hid (Below j w w3):=(O.out.back E.out).trans A
    have I:Hid (letJ C 1 q= .error p):=H.out.trans K
    unfold Pan
    go_wp2
    refine⟨rfl,?_⟩
    rw[I.out]
    exact⟨rfl,L.out⟩
   |ok a3=>
    rintro e w3 ⟨rfl,S3,m,s⟩
    have V:=zc m
    have X:Hid (IS o S w S3 w3):=E.out.trans s
    clear m s
    have U:=zc (H.out.trans K)
    go_wp2
    go_end0
    rw[U.out]
    exact⟨rfl,S3,V.out,X.out⟩
theorem zij (C:Cx) (M n j o:Nat) (S:Sv) (q:PS) (w:World) (h:IM C M n j o S q w):
  Calls Tryz.prog 90 #[.pointer (some ⟨o,0,none⟩)] w (zQ C M n j o (letJ C 3 q) id (fun _=>.tuple #[]) S w):=by
 have O:=zc h
 have HY:=zc (letJ.eq_1 C 3 q)
 clear h
 go_enter Tryz.func90,Tryz.ntmps90
 go_wp2_with fail
 refine (zdb C M n j o S q _ O.out).mono ?_
 cases D:zj C false q with
 |error p=>
  rintro e w1 ⟨rfl,A⟩
  have L:Hid (Below j w w1):=(O.out.back (IS.refl _ _ _)).trans A
  have I:Hid (letJ C 3 q= .error p):=bdE HY.out D
  unfold Pan
  go_wp2
  refine⟨rfl,?_⟩
  rw[I.out]
  exact⟨rfl,L.out⟩
 |ok Q=>
  rintro e w1 ⟨rfl,S1,m,s⟩
  have aa:=zc m
  have N:=zc s
  clear m s
  have z:=zc (bdO HY.out D)
  go_wp2_with fail
  refine (zbX C M n j o S1 (Q.1) 61 _ aa.out).mono ?_
  cases J:zd C 4 cEq (Q.1) with
  |error p=>
   rintro e Y ⟨rfl,A⟩
   have L:Hid (Below j w Y):=(O.out.back N.out).trans A
   have I:Hid (letJ C 3 q= .error p):=bdE z.out J
   unfold Pan
   go_wp2
   refine⟨rfl,?_⟩
   rw[I.out]
   exact⟨rfl,L.out⟩
  |ok a2=>
   rintro e Y ⟨rfl,S2,m,s⟩
   have Z:=zc m
   have E:Hid (IS o S w S2 Y):=N.out.trans s
   clear m s
   have H:=zc (bdO z.out J)
   go_wp2_with fail
   refine (zd7 C M n j o S2 a2 3 Q.2 cSemi _ Z.out (by decide) (by decide)).mono ?_
   cases K:stmtI C 3 Q.2 cSemi a2 with
   |error p=>
    rintro e w3 ⟨rfl,A⟩
    have L:Hid (Below j w w3):=(O.out.back E.out).trans A
    have I:Hid (letJ C 3 q= .error p):=H.out.trans K
    unfold Pan
    go_wp2
    refine⟨rfl,?_⟩
    rw[I.out]
    exact⟨rfl,L.out⟩
   |ok a3=>
    rintro e w3 ⟨rfl,S3,m,s⟩
    have V:=zc m
    have X:Hid (IS o S w S3 w3):=E.out.trans s
    clear m s
    have U:=zc (H.out.trans K)
    go_wp2
    go_end0
    rw[U.out]
    exact⟨rfl,S3,V.out,X.out⟩
theorem zg6 (C:Cx) (E n j o:Nat) (S:Sv) (q:PS) (w:World) (h:IM C E n j o S q w):
  Calls Tryz.prog 145 #[.pointer (some ⟨o,0,none⟩)] w (zQ C E n j o (fnI C q) id (fun _=>.tuple #[]) S w):=by
 have M:=zc h
 have HY:=zc (fnI.eq_1 C q)
 clear h
 go_enter Tryz.func145,Tryz.ntmps145
 go_wp2_with fail
 refine (zdb C E n j o S q _ M.out).mono ?_
 cases J:zj C false q with
 |error p=>
  rintro e w1 ⟨rfl,z⟩
  have D:Hid (Below j w w1):=(M.out.back (IS.refl _ _ _)).trans z
  have A:Hid (fnI C q= .error p):=bdE HY.out J
  unfold Pan
  go_wp2
  refine⟨rfl,?_⟩
  rw[A.out]
  exact⟨rfl,D.out⟩
 |ok X=>
  rintro e w1 ⟨rfl,S1,m,s⟩
  have ad:=zc m
  have U:=zc s
  clear m s
  have I:=zc (bdO HY.out J)
  go_wp2_with fail
  refine (zgx C E n j o S1 (X.1) cCall _ ad.out (by decide)).mono ?_
  cases O:zaB C cCall cCall.size 0 (X.1) with
  |error p=>
   rintro e w2 ⟨rfl,z⟩
   have D:Hid (Below j w w2):=(M.out.back U.out).trans z
   have A:Hid (fnI C q= .error p):=bdE I.out O
   unfold Pan
   go_wp2
   refine⟨rfl,?_⟩
   rw[A.out]
   exact⟨rfl,D.out⟩
  |ok a2=>
   rintro e w2 ⟨rfl,S2,m,s⟩
   have ac:=zc m
   have L:Hid (IS o S w S2 w2):=U.out.trans s
   clear m s
   have N:=zc (bdO I.out O)
   go_wp2_with fail
   refine (zea C E n j o S2 a2 zdT _ ac.out).mono ?_
   cases Q:zd C 1 zdT a2 with
   |error p=>
    rintro e w3 ⟨rfl,z⟩
    have D:Hid (Below j w w3):=(M.out.back L.out).trans z
    have A:Hid (fnI C q= .error p):=bdE N.out Q
    unfold Pan
    go_wp2
    refine⟨rfl,?_⟩
    rw[A.out]
    exact⟨rfl,D.out⟩
   |ok a3=>
    rintro e w3 ⟨rfl,S3,m,s⟩
    have Z:=zc m
    have K:Hid (IS o S w S3 w3):=L.out.trans s
    clear m s
    have H:=zc (bdO N.out Q)
    go_wp2_with fail
    refine (zd7 C E n j o S3 a3 2 X.2 cSemiRight _ Z.out (by decide) (by decide)).mono ?_
    cases V:stmtI C 2 X.2 cSemiRight a3 with
    |error p=>
     rintro e w4 ⟨rfl,z⟩
     have D:Hid (Below j w w4):=(M.out.back K.out).trans z
     have A:Hid (fnI C q= .error p):=H.out.trans V
     unfold Pan
     go_wp2
     refine⟨rfl,?_⟩
     rw[A.out]
     exact⟨rfl,D.out⟩
    |ok a4=>
     rintro e w4 ⟨rfl,S4,m,s⟩
     have Y:=zc m
     have aa:Hid (IS o S w S4 w4):=K.out.trans s
     clear m s
     have ab:=zc (H.out.trans V)
     go_wp2
     go_end0
     rw[ab.out]
     exact⟨rfl,S4,Y.out,aa.out⟩
theorem zik (C:Cx) (H n j o:Nat) (S:Sv) (q:PS) (w:World) (h:IM C H n j o S q w):
  Calls Tryz.prog 146 #[.pointer (some ⟨o,0,none⟩)] w (zQ C H n j o (printI C q) id (fun _=>.tuple #[]) S w):=by
 have K:=zc h
 have V:=zc (printI.eq_1 C q)
 clear h
 go_enter Tryz.func146,Tryz.ntmps146
 go_wp2_with fail
 refine (zbX C H n j o S q 40 _ K.out).mono ?_
 cases A:zd C 4 zn q with
 |error p=>
  rintro e Z ⟨rfl,I⟩
  have Q:Hid (Below j w Z):=(K.out.back (IS.refl _ _ _)).trans I
  have M:Hid (printI C q= .error p):=bdE V.out A
  unfold Pan
  go_wp2
  refine⟨rfl,?_⟩
  rw[M.out]
  exact⟨rfl,Q.out⟩
 |ok Y=>
  rintro e Z ⟨rfl,S1,m,s⟩
  have U:=zc m
  have E:=zc s
  clear m s
  have z:=zc (bdO V.out A)
  go_wp2_with fail
  refine (zd7 C H n j o S1 Y 4 sNone cShutSemi _ U.out (by decide) (by decide)).mono ?_
  cases D:stmtI C 4 sNone cShutSemi Y with
  |error p=>
   rintro e N ⟨rfl,I⟩
   have Q:Hid (Below j w N):=(K.out.back E.out).trans I
   have M:Hid (printI C q= .error p):=z.out.trans D
   unfold Pan
   go_wp2
   refine⟨rfl,?_⟩
   rw[M.out]
   exact⟨rfl,Q.out⟩
  |ok a2=>
   rintro e N ⟨rfl,X,m,s⟩
   have O:=zc m
   have J:Hid (IS o S w X N):=E.out.trans s
   clear m s
   have L:=zc (z.out.trans D)
   go_wp2
   go_end0
   rw[L.out]
   exact⟨rfl,X,O.out,J.out⟩
theorem zil (C:Cx) (z n j o:Nat) (S:Sv) (q:PS) (w:World) (h:IM C z n j o S q w):
  Calls Tryz.prog 147 #[.pointer (some ⟨o,0,none⟩)] w (zQ C z n j o (stmtI C 5 sNone cSemi q) id (fun _=>.tuple #[]) S w):=by
 have H:=zc h
 clear h
 go_enter Tryz.func147,Tryz.ntmps147
 go_wp2_with fail
 refine (zd7 C z n j o S q 5 sNone cSemi _ H.out (by decide) (by decide)).mono ?_
 cases A:stmtI C 5 sNone cSemi q with
 |error p=>
  rintro e J ⟨rfl,I⟩
  unfold Pan
  go_wp2
  refine⟨rfl,?_⟩
  rw[A]
  exact⟨rfl,I⟩
 |ok a=>
  rintro e J ⟨rfl,E,m,s⟩
  have D:=zc m
  have K:=zc s
  clear m s
  go_wp2
  go_end0
  rw[A]
  exact⟨rfl,E,D.out,K.out⟩
theorem zmg (C:Cx) (z n j o:Nat) (S:Sv) (q:PS) (w:World) (h:IM C z n j o S q w):
  Calls Tryz.prog 148 #[.pointer (some ⟨o,0,none⟩)] w (zQ C z n j o (stmtI C 6 sNone cSemi q) id (fun _=>.tuple #[]) S w):=by
 have H:=zc h
 clear h
 go_enter Tryz.func148,Tryz.ntmps148
 go_wp2_with fail
 refine (zd7 C z n j o S q 6 sNone cSemi _ H.out (by decide) (by decide)).mono ?_
 cases A:stmtI C 6 sNone cSemi q with
 |error p=>
  rintro e J ⟨rfl,I⟩
  unfold Pan
  go_wp2
  refine⟨rfl,?_⟩
  rw[A]
  exact⟨rfl,I⟩
 |ok a=>
  rintro e J ⟨rfl,E,m,s⟩
  have D:=zc m
  have K:=zc s
  clear m s
  go_wp2
  go_end0
  rw[A]
  exact⟨rfl,E,D.out,K.out⟩
def zcm (C:Cx) (i:Nat):ByteArray:=if (ze C i).kind==1 then (ze C i).text else sNone
theorem zim (C:Cx) (D n j z:Nat) (S:Sv) (q:PS) (w:World) (h:IM C D n j z S q w):
  Calls Tryz.prog 89 #[.pointer (some ⟨z,0,none⟩)] w fun e I=>e= .returned (.string (zcm C q.pos))∧Below w.heap.size w I:=by
 have H:=zc h
 clear h
 cases E:((ze C q.pos).kind==1) with
 |true=>
  have A:Hid (zcm C q.pos=(ze C q.pos).text):=by show _=_;rw[zcm,E];rfl
  go_enter Tryz.func89,Tryz.ntmps89
  go_wp2_with fail
  refine (zbr C D n j z S q _ H.out).mono ?_
  rintro e J ⟨rfl,o⟩
  unfold tkV
  go_wp2
  go_ret
  rw[A.out]
  exact⟨rfl,o.alloc o.size _⟩
 |false=>
  have A:Hid (zcm C q.pos=sNone):=by show _=_;rw[zcm,E];rfl
  go_enter Tryz.func89,Tryz.ntmps89
  go_wp2_with fail
  refine (zbr C D n j z S q _ H.out).mono ?_
  rintro e J ⟨rfl,o⟩
  unfold tkV
  go_wp2
  go_ret
  rw[A.out]
  exact⟨rfl,o.alloc o.size _⟩
theorem OwnR.stmtName {w:World} {j:Nat} {r:Rw} {l:List Sm} {x:Sm} (h:OwnR w j 106 3 r (l++[x]).length ((l++[x]).flatMap smL)): ∃g,r.a=some ⟨g,0,none⟩∧w.cell? ⟨g,l.length*3+1,none⟩=some (.string x.name):=by
 rcases h.2 with ⟨_,A⟩|⟨g,D,E,n,_⟩
 ·simp at A
 ·simp only[Value.slice.injEq] at n
  have o:=h
  unfold OwnR at o
  rw[n.1,n.2.2] at o
  refine⟨g,n.1,?_⟩
  rw[World.ownsRow.cellAt o _ (by simp;omega)]
  have q: ∀l:List Sm,(l.flatMap smL).length=l.length*3:=by
   intro l
   induction l with
   |nil=>rfl
   |cons y l z=>simp[List.flatMap_cons,smL,z] at z ⊢;omega
  rw[List.flatMap_append,List.getElem?_append_right (by rw[q];omega),q]
  simp[smL]
theorem zmh (C:Cx) (I n j A:Nat) (S:Sv) (q:PS) (l:List Sm) (x:Sm) (w:World) (h:IM C I n j A S q w) (L:q.st=l++[x]) (K:x.name.size≤281474976710656) (hp:0<q.pos):
  Calls Tryz.prog 179 #[.pointer (some ⟨A,0,none⟩)] w (zQ C I n j A (zo C ⟨1,x.name,x.name,sNone⟩ q) id (fun _=>.tuple #[]) S w):=by
 have HH:=zc h
 obtain⟨_,_,_,_,_,_,_,E,_,_,_⟩:=zac h.cells
 have N:=h.mem.own.st
 rw[L] at N E
 obtain⟨g,V,hc⟩:=N.stmtName
 have H:=h.mem.inv.st
 rw[L] at H
 have D:(l++[x]).length=l.length+1:=by simp
 rw[D] at E H
 rw[V] at E
 have C7:=zc E
 have CN:=zc hc
 have e1:((l.length+1:Nat):Int)-1=(l.length:Int):=by omega
 have e2:(l.length:Int)+1-1=(l.length:Int):=by omega
 have ab:IntKind.i64.wrap (l.length:Int)=(l.length:Int):=IntWalk.i64_in _ ⟨by omega,by omega⟩
 have U:(l.length:Int)<((l.length+1:Nat):Int):=by omega
 have aa:(l.length:Int)<(l.length:Int)+1:=by omega
 have Z: ∀d Y,Calls Tryz.prog 85 #[.string x.name] (grow (redrawn w d) Y) fun e O=>e= .returned (.string x.name)∧∃p:Regrown,O=grow (redrawn w p.d) p.os:=fun d Y=>Calls.regrown_of (zib _ _ K)
 clear h E hc N V L
 go_enter Tryz.func179,Tryz.ntmps179
 go_wp2_with fail
 have k7:=cell_regrown C7.out
 have kN:=cell_regrown CN.out
 refine wp_region_quiet_below (by kernel_rfl) (by kernel_rfl) ?_
 repeat (go_big_quiet_step (exact Z _ _))
 refine wpQuiet_nil ?_
 intro w1 J
 obtain⟨⟨dq,ac⟩,o⟩:=J
 have z:Hid (Below w.heap.size w w1):=by show Below _ _ _;rw[o];exact below_regrown _ _ _
 clear o k7 kN Z C7 CN
 have Q:Hid (IM C I n j A S q w1):=HH.out.later z.out
 go_wp2_with fail
 refine (zeH C I n j A S q ⟨1,x.name,x.name,sNone⟩ _ Q.out hp).mono ?_
 cases X:zo C ⟨1,x.name,x.name,sNone⟩ q with
 |error p=>
  rintro e M ⟨rfl,hb⟩
  have HB:Hid (Below j w M):=(z.out.mono HH.out.mem.base).trans hb
  unfold Pan
  go_wp2
  refine⟨rfl,?_⟩
  rw[X]
  exact⟨rfl,HB.out⟩
 |ok a=>
  rintro e M ⟨rfl,S1,m,s⟩
  have HM:=zc m
  have HS:Hid (IS A S w S1 M):=(IS.below z.out).trans s
  clear m s
  go_wp2
  go_end0
  rw[X]
  exact⟨rfl,S1,HM.out,HS.out⟩
def Fr (e:TypeId) (size:Nat) (w:World) (b:Nat) (r:Rw) (n:Nat) (xs:List Value) (S:Sv):Prop:=OwnR w b e size r n xs∧∀k,r.blk=some k→¬S.has k
theorem Fr.ngp {C:Cx} {E o j z size b n:Nat} {S:Sv} {q:PS} {w:World} {e:TypeId} {r:Rw} {xs:List Value} (f:Fr e size w b r n xs S) (h:IM C E o j z S q w) (A:e≠59) {k:Nat} (D:r.blk=some k):k≠z:=by
 rintro rfl
 obtain⟨_,_,c,g⟩:=f.1.typed D
 rw[h.cells] at g
 simp only[Option.some.injEq,Obj.cells.injEq] at g
 exact A g.2.1.symm
theorem Fr.ngt {C:Cx} {z o j D size b n:Nat} {S:Sv} {q:PS} {w:World} {e:TypeId} {r:Rw} {xs:List Value} (f:Fr e size w b r n xs S) (h:IM C z o j D S q w) (A:e≠111) {k:Nat} (E:r.blk=some k):k≠z:=by
 rintro rfl
 obtain⟨_,_,c,g⟩:=f.1.typed E
 obtain⟨I,H⟩:=zfr h.mem.tok
 rw[H] at g
 simp only[Option.some.injEq,Obj.cells.injEq] at g
 exact A g.2.1.symm
theorem Fr.step {C:Cx} {I o j z size b n:Nat} {S E:Sv} {q:PS} {w A:World} {e:TypeId} {r:Rw} {xs:List Value} (f:Fr e size w b r n xs S) (h:IM C I o j z S q w) (H:e≠59) (s:IS z S w E A):Fr e size A b r n xs E:=by
 refine⟨f.1.keep fun k g=>s.block k (f.1.typed g).2.1 (f.2 k g) (f.ngp h H g),fun k g J=>?_⟩
 rcases s.sub k J with D|D
 ·exact f.2 k g D
 ·have:=(f.1.typed g).2.1
  omega
theorem Fr.low {size b j n:Nat} {S:Sv} {w:World} {e:TypeId} {r:Rw} {xs:List Value} (f:Fr e size w b r n xs S) (o:j≤b):Fr e size w j r n xs S:=⟨f.1.low o,f.2⟩
theorem Fr.later {size b n:Nat} {S:Sv} {w j:World} {e:TypeId} {r:Rw} {xs:List Value} (f:Fr e size w b r n xs S) (o:Below w.heap.size w j):Fr e size j b r n xs S:=⟨f.1.keep fun k g=>o.block k (f.1.typed g).2.1,f.2⟩
theorem IM.aside {C:Cx} {o z j n:Nat} {S:Sv} {q:PS} {W E:World} {b:Option Nat} (h:IM C o z j n S q W) (A:W.grownBy E b) (D: ∀k,b=some k→¬S.has k∧k≠n∧k≠o):IM C o z j n S q E:=by
 refine⟨⟨h.mem.own.keep fun k g=>A.block k (h.mem.own.has g).2 fun e=>(D k e.symm).1 g,h.mem.inv,zbz h.mem.tok (A.block o (zan h.mem.tok).1 fun e=>(D o e.symm).2.2 rfl),h.mem.few,Nat.le_trans h.mem.base A.size⟩,(A.block n h.lt fun e=>(D n e.symm).2.1 rfl).trans h.cells,h.ge⟩
theorem IS.aside {o:Nat} {S z:Sv} {w W A:World} {b:Option Nat} (s:IS o S w z W) (j:W.grownBy A b) (E: ∀k,b=some k→w.heap.size≤k):IS o S w z A:=
 ⟨j.os.trans s.os,j.tape.trans s.tape,j.output.trans s.output,Nat.le_trans s.size j.size,fun k q D n=>(j.block k (Nat.lt_of_lt_of_le q s.size) fun e=>by have:=E k e.symm;omega).trans (s.block k q D n),s.sub⟩
theorem Fr.grown {size b n:Nat} {S:Sv} {W H:World} {e:TypeId} {r o:Rw} {xs I:List Value} {C:Cx} {K D j J:Nat} {q:PS} (f:Fr e size W b r n xs S) (h:IM C K D j J S q W) (L:OwnR H b e size o (n+1) I) (A:o.blk=r.blk∨o.blk=some W.heap.size):Fr e size H b o (n+1) I S:=by
 refine⟨L,fun k g E=>?_⟩
 rcases A with z|z
 ·exact f.2 k (z.symm.trans g) E
 ·have M:W.heap.size=k:=Option.some.inj (z.symm.trans g)
  have:=(h.mem.own.has E).2
  omega
theorem zmi {α:Type} (f:α→List Value) (m:Nat) (n: ∀x,(f x).length=m): ∀(l:List α) (j i:Nat) (x:α),l[j]? =some x→i<m→(l.flatMap f)[j*m+i]? =(f x)[i]?:=by
 intro l
 induction l with
 |nil=>intro j i x h;simp at h
 |cons y l q=>
  intro j i x h o
  rw[List.flatMap_cons]
  match j with
  |0=>
   simp only[List.getElem?_cons_zero,Option.some.injEq] at h
   subst h
   rw[Nat.zero_mul,Nat.zero_add,List.getElem?_append_left (by rw[n];exact o)]
  |j+1=>
   simp only[List.getElem?_cons_succ] at h
   rw[List.getElem?_append_right (by rw[n,Nat.succ_mul];omega),n,←q j i x h o]
   congr 1
   rw[Nat.succ_mul]
   omega
theorem OwnR.elem {α:Type} {f:α→List Value} {m:Nat} (H: ∀x,(f x).length=m) {w:World} {n:Nat} {e:TypeId} {r:Rw} {l:List α} (h:OwnR w n e m r l.length (l.flatMap f)) {j:Nat} {x:α} (A:l[j]? =some x): ∃g,r.a=some ⟨g,0,none⟩∧∀i,i<m→w.cell? ⟨g,j*m+i,none⟩=(f x)[i]?:=by
 have q:j<l.length:=(List.getElem?_eq_some_iff.1 A).1
 rcases h.2 with ⟨_,K⟩|⟨g,I,J,o,_⟩
 ·omega
 ·simp only[Value.slice.injEq] at o
  have z:=h
  unfold OwnR at z
  rw[o.1,o.2.2] at z
  refine⟨g,o.1,fun i D=>?_⟩
  have E:j*m+i<l.length*m:=by
   have:=Nat.mul_le_mul_right m q
   rw[Nat.succ_mul] at this
   omega
  rw[World.ownsRow.cellAt z _ E]
  exact zmi f m H l j i x A D
structure OwnMd (w:World) (base:Nat) (S:Sv) (m:Md):Prop where
 rq:OwnR w base 9 1 S.rq m.rq.length (m.rq.map .string)
 im:OwnR w base 100 3 S.im m.im.length (m.im.flatMap imL)
 ep:OwnR w base 102 4 S.ep m.ep.length (m.ep.flatMap epL)
 st:OwnR w base 106 3 S.st m.st.length (m.st.flatMap smL)
 ex:OwnR w base 108 6 S.ex m.ex.length (m.ex.flatMap exL)
theorem OwnMod.md {w:World} {j:Nat} {S:Sv} {q:PS} (h:OwnMod w j S q):OwnMd w j S (zdx q):=⟨h.rq,h.im,h.ep,h.st,h.ex⟩
theorem OwnMd.later {w o:World} {j:Nat} {S:Sv} {m:Md} (h:OwnMd w j S m) (n:Below w.heap.size w o):OwnMd o j S m:=
 ⟨h.rq.keep fun k g=>n.block k (h.rq.typed g).2.1,h.im.keep fun k g=>n.block k (h.im.typed g).2.1,h.ep.keep fun k g=>n.block k (h.ep.typed g).2.1,h.st.keep fun k g=>n.block k (h.st.typed g).2.1,h.ex.keep fun k g=>n.block k (h.ex.typed g).2.1⟩
theorem OwnMd.alloc {w:World} {j:Nat} {S:Sv} {m:Md} (h:OwnMd w j S m) (o:Obj):OwnMd (w.alloc o) j S m:=h.later ((Below.refl _ _).alloc (Nat.le_refl _) _)
def zp (S:Sv) (m:Md):Value:=.agg #[.slice S.rq.a m.rq.length S.rq.cap,.slice S.im.a m.im.length S.im.cap,.slice S.ep.a m.ep.length S.ep.cap,.slice S.st.a m.st.length S.st.cap,.slice S.ex.a m.ex.length S.ex.cap]
theorem OwnMd.expr {w:World} {n:Nat} {S:Sv} {m:Md} (h:OwnMd w n S m) {i:Nat} (q:i<m.ex.length): ∃g,S.ex.a=some ⟨g,0,none⟩∧g<w.heap.size∧w.cell? ⟨g,i*6,none⟩=some (.int .i64 (m.ex.getD i zg).kind)∧w.cell? ⟨g,i*6+1,none⟩=some (.int .i64 (m.ex.getD i zg).num)∧w.cell? ⟨g,i*6+2,none⟩=some (.string (m.ex.getD i zg).name)∧w.cell? ⟨g,i*6+3,none⟩=some (.string (m.ex.getD i zg).field)∧w.cell? ⟨g,i*6+4,none⟩=some (.int .i64 (m.ex.getD i zg).l)∧w.cell? ⟨g,i*6+5,none⟩=some (.int .i64 (m.ex.getD i zg).r):=by
 obtain⟨g,o,j⟩:=OwnR.elem (f:=exL) (m:=6) (fun _=>rfl) h.ex (List.getElem?_eq_getElem q)
 rw[zdz q]
 exact⟨g,o,(h.ex.typed (by rw[Rw.blk,o];rfl)).2.1,j 0 (by omega),j 1 (by omega),j 2 (by omega),j 3 (by omega),j 4 (by omega),j 5 (by omega)⟩
end Go.Proofs.YticdggnnpjachaaGreat
