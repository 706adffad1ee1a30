/-
  What slices.Index and slices.Contains answer over a row of texts,and strings.Clone: the walks.
  What request of impl's parser answers: the walks.
  What nameOrCall of impl's parser answers: the walk.
  What part of impl's parser answers: the walk.
  What product and sum of impl's parser answer: the walks.
  What statement of impl's parser answers: the walk.
  What the small items of impl's parser,itemWord and exportLast answer: the walks.
  Rows beside impl's parser: lists of names under way. No program is spoken of but for the numbers of its types.
  A program in memory,of any size. No program is spoken of but for the numbers of its types.
  What slices.Equal answers of rows of the call's own,the model's != handed in: the walks.
-/
import Derived.Test.YticdggnnpjachaaGreatCcImplParseHToImplParseI
import Derived.Test.YticdggnnpjachaaGreatCcShelf
namespace Go.Proofs.YticdggnnpjachaaGreat
set_option maxRecDepth 100000
set_option maxHeartbeats 6400000
open Go.RowKit Go.PlainAid Go.Sort
theorem zhl (s:ByteArray) (w:World) (h:s.size≤281474976710656):
  Calls Tryz.prog 85 #[.string s] w fun e j=>e= .returned (.string s)∧Below w.heap.size w j:=by
 go_enter Tryz.func85,Tryz.ntmps85
 go_wp2_with fail
 refine (Tryz.stringslite_Clone _ _ h).mono ?_
 rintro e o ⟨rfl,n⟩
 go_wp2
 go_ret
 exact⟨rfl,n⟩
theorem OwnR.text {w:World} {o n:Nat} {r:Rw} {l:List ByteArray} (h:OwnR w o 9 1 r n (l.map .string)) {j:Nat} (I:j<n): ∃g,r.a=some ⟨g,0,none⟩∧w.cell? ⟨g,j,none⟩=some (.string (l.getD j sNone)):=by
 rcases h.2 with ⟨_,E⟩|⟨g,A,D,q,_⟩
 ·omega
 ·simp only[Value.slice.injEq] at q
  have z:=h
  unfold OwnR at z
  rw[q.1,q.2.2] at z
  have H:l.length=n:=by have:=h.1;simpa using this
  refine⟨g,q.1,?_⟩
  rw[World.ownsRow.cellAt z j (by omega)]
  simp only[List.getElem?_map,List.getD]
  rw[List.getElem?_eq_getElem (by omega)]
  rfl
theorem zk5 {l:List ByteArray} {x:ByteArray} {j:Nat} (h:j<l.length):zaO (l.drop j) x=((l.getD j sNone).toList==x.toList||zaO (l.drop (j+1)) x):=by
 rw[List.drop_eq_getElem_cons h]
 simp only[zaO,List.any_cons,List.getD,List.getElem?_eq_getElem h,Option.getD_some]
theorem zk6 (q g:Nat) (r:Rw) (l:List ByteArray) (x:ByteArray) (w:World) (h:OwnR w q 9 1 r l.length (l.map .string)) (hl:l.length≤1000000) (N:r.a=some ⟨g,0,none⟩):
  Calls Tryz.prog 204 #[.slice (some ⟨g,0,none⟩) l.length r.cap,.string x] w fun e X=>(∃v:Int,e= .returned (.int .i64 v)∧decide (0≤v)=zaO l x)∧X=w:=by
 have V:=zc h
 have I:=zc N
 clear h N
 go_enter Tryz.func204,Tryz.ntmps204
 go_wp2
 go_loopg [8] (l.length+1) (fun k i wr=>∃j:Nat,i= .int .i64 j∧j+k=l.length+1∧zaO (l.drop j) x=zaO l x∧wr=w)
 case atStart=>exact⟨0,rfl,by omega,by simp,rfl⟩
 case round=>
  obtain⟨j,rfl,hj,L,rfl⟩:=hrel
  have J:=zc L
  clear L
  by_cases A:j<l.length
  ·have z:(j:Int)<(l.length:Int):=by omega
   obtain⟨Y,o,O⟩:=V.out.text A
   have U:Y=g:=by have:=o.symm.trans I.out;simpa using this
   subst U
   clear o
   obtain⟨D,n⟩: ∃D,D=j+1:=⟨_,rfl⟩
   have Z:(j:Int)+1=(D:Int):=by omega
   have M:=zc n
   clear n
   have H:Hid (zaO (l.drop j) x=((l.getD j sNone).toList==x.toList||zaO (l.drop (j+1)) x)):=zk5 A
   generalize l.getD j sNone=y at O H
   cases E:(x.toList==y.toList) with
   |true=>
    go_wp2
    go_ret
    refine⟨⟨_,rfl,?_⟩,rfl⟩
    have K:(y.toList==x.toList)=true:=by rw[beq_iff_eq] at E ⊢;exact E.symm
    rw[←J.out,H.out,K]
    simp
   |false=>
    go_wp2
    go_roundg (gk-1)
    case rel=>
     have K:(y.toList==x.toList)=false:=by
      rw[beq_eq_false_iff_ne] at E ⊢;exact fun e=>E e.symm
     refine⟨D,rfl,by have:=M.out;omega,?_,rfl⟩
     rw[←J.out,H.out,K,M.out]
     simp
    case measure=>omega
  ·have z: ¬(j:Int)<(l.length:Int):=by omega
   go_wp2
   go_ret
   refine⟨⟨_,rfl,?_⟩,rfl⟩
   rw[←J.out,List.drop_eq_nil_of_le (by omega)]
   rfl
theorem zk7 (x:ByteArray) (w:World):
  Calls Tryz.prog 204 #[.slice none 0 0,.string x] w fun e h=>e= .returned (.int .i64 (-1))∧h=w:=by
 go_enter Tryz.func204,Tryz.ntmps204
 go_wp2
 go_loopg [8] 1 (fun k i wr=>k=1∧i= .int .i64 0∧wr=w)
 case atStart=>exact⟨rfl,rfl,rfl⟩
 case round=>
  obtain⟨rfl,rfl,rfl⟩:=hrel
  go_wp2
  go_ret
  exact⟨rfl,rfl⟩
theorem zk8 (j:Nat) (r:Rw) (l:List ByteArray) (x:ByteArray) (w:World) (h:OwnR w j 9 1 r l.length (l.map .string)) (z:l.length≤1000000):
  Calls Tryz.prog 204 #[.slice r.a l.length r.cap,.string x] w fun e q=>(∃v:Int,e= .returned (.int .i64 v)∧decide (0≤v)=zaO l x)∧q=w:=by
 rcases h.nil_or with ⟨D,A,o⟩|⟨g,n⟩
 ·rw[D,A,o]
  refine (zk7 x w).mono ?_
  rintro e E ⟨rfl,rfl⟩
  have:l=[]:=List.length_eq_zero_iff.1 o
  subst this
  exact⟨⟨_,rfl,rfl⟩,rfl⟩
 ·rw[n]
  exact zk6 j g r l x w h z n
theorem zfS (j:Nat) (r:Rw) (l:List ByteArray) (x:ByteArray) (w:World) (h:OwnR w j 9 1 r l.length (l.map .string)) (q:l.length≤1000000):
  Calls Tryz.prog 194 #[.slice r.a l.length r.cap,.string x] w fun e o=>e= .returned (.bool (zaO l x))∧o=w:=by
 have z:=zc h
 clear h
 go_enter Tryz.func194,Tryz.ntmps194
 go_wp2_with fail
 refine (zk8 j r l x _ z.out q).mono ?_
 rintro e D ⟨⟨v,rfl,n⟩,rfl⟩
 have A:=zc n
 clear n
 go_wp2
 go_ret
 exact⟨zl A.out,rfl⟩
theorem Tryz.infoText:(Tryz.prog.info? 9).map (fun i=>(i.zero,i.size,i.bytes))=some (some (.string {data:=#[]}),1,16):=by kernel_rfl
def zaV (C:Cx):Prop:=∀i,(ze C i).text.size≤281474976710656
theorem zk9 (x:ByteArray): ∀u∈[Value.string x],u.oneCell'=true:=by
 intro u h
 simp at h
 rw[h]
 rfl
theorem zkA (C:Cx) (O n j o:Nat) (S:Sv) (q:PS) (w:World) (h:IM C O n j o S q w) (hC:zaV C) (hk:((ze C q.pos).kind==3)=true) (hs:zaO q.rq (ze C q.pos).text=false) (hn:q.rq.length<40):
  Calls Tryz.prog 172 #[.pointer (some ⟨o,0,none⟩)] w fun e w'=>e= .returned (.string (ze C q.pos).text)∧∃S',IM C O n j o S' {adv q with rq:=q.rq++[(ze C q.pos).text]} w'∧IS o S w S' w':=by
 obtain⟨i0,hi,aa,ab,U⟩:=info_parts Tryz.infoText
 have HH:=zc h
 have ae:=zco
 have J:=hC q.pos
 clear h
 go_enter Tryz.func172,Tryz.ntmps172
 go_wp2_with fail
 refine (zdi C O n j o S q 3 _ HH.out hk (by decide)).mono ?_
 rintro e L ⟨rfl,m1,s1⟩
 have N:=zc m1
 have ac:=zc s1
 clear m1 s1
 unfold tkV
 obtain⟨c0,c1,c2,c3,c4,c5,c6,c7,c8,c9,cf⟩:=zaa N.out.cells
 rw[show (adv q).rq=q.rq from rfl] at c4
 generalize H:(ze C q.pos).text=tx at hs J ⊢
 have Z:=zc H
 clear H
 go_wp2_with fail
 refine (zfS j S.rq q.rq tx _ N.out.mem.own.rq (by omega)).mono ?_
 rintro e D ⟨rfl,I⟩
 rw[hs,I]
 clear I D
 go_wp2_with fail
 refine (zdj o q.rq.length 40 _ (by omega)).mono ?_
 rintro e D ⟨rfl,I⟩
 rw[I]
 clear I D
 have HN:Hid (some o≠S.rq.blk):=fun e=>N.out.free (.inl e.symm)
 go_wp2_with fail
 go_region_law (first|(refine zeq rfl (.tmp 28) (.tmp 31) 22 rfl j 9 i0 _ 1 16 Tryz.underlying22 hi aa ab U rfl (by decide) (by decide) S.rq q.rq.length (q.rq.map .string) (by rfl) (by exact A.out.mem.own.rq.alloc _) M.heap.size [.string tx] (by rfl) (by exact heap_alloc_new M _) rfl (zk9 tx) (by omega) (by exact (A.out.alloc _).mem.base) ?_;intro r' w2 hr z K;have g2:=(z.block o (by exact (A.out.alloc _).lt) HN.out).trans (by exact (A.out.alloc _).cells);obtain⟨d0,d1,d2,d3,d4,d5,d6,d7,d8,d9,df⟩:=zaa g2)|(go_simp;go_wp2_with (go_at_call 85;refine (zhl _ _ J).mono ?_;rintro e M ⟨rfl,E⟩;have A:Hid (IM C O n j o S (adv q) M):=N.out.drew.later E;have X:Hid (Below L.heap.size L M):=(Below.refl L.heap.size L).drew.trans E;obtain⟨e0,e1,e2,e3,e4,e5,e6,e7,e8,e9,ef⟩:=zaa A.out.cells;rw[show (adv q).rq=q.rq from rfl] at e4;have ad:=A.out.lt;clear E)))
 all_goals
  have HR:=zc hr
  have Y:=zc z
  have V:=zc K
  clear hr z K g2 c0 c1 c2 c3 c4 c5 c6 c7 c8 c9 cf e0 e1 e2 e3 e4 e5 e6 e7 e8 e9 ef
  go_wp2
  go_ret
  obtain⟨m',s'⟩:=A.out.grow_rq (x:=tx) ((Below.refl _ _).alloc (Nat.le_refl _) _) Y.out HR.out V.out hn
  rw[Z.out]
  exact⟨rfl,_,m',ac.out.trans (s'.grownI X.out)⟩
theorem zfa (C:Cx) (A n j o:Nat) (S:Sv) (q:PS) (w:World) (h:IM C A n j o S q w) (hC:zaV C):
  Calls Tryz.prog 172 #[.pointer (some ⟨o,0,none⟩)] w (zN C A n j o (zG C q) (·.1) (fun a=>.string a.2) S w):=by
 cases D:((ze C q.pos).kind==3) with
 |false=>
  have H:=zc h
  have M:Hid (zG C q= .error (zq C q.pos)):=by show _=_;rw[zG,D];rfl
  clear h
  go_enter Tryz.func172,Tryz.ntmps172
  go_wp2_with fail
  refine (zhj C A n j o S q 3 _ H.out D).mono ?_
  rintro e U ⟨rfl,N⟩
  have V:Hid (Below j w U):=N.mono H.out.mem.base
  clear N
  unfold Pan
  go_wp2
  refine⟨rfl,?_⟩
  rw[M.out]
  exact⟨rfl,V.out⟩
 |true=>
  cases L:zaO q.rq (ze C q.pos).text with
  |true=>
   have H:=zc h
   have M:Hid (zG C q= .ok (adv q,(ze C q.pos).text)):=by show _=_;rw[zG,D,L];rfl
   have Y:=zco
   have Z:=h.mem.inv.rq
   clear h
   go_enter Tryz.func172,Tryz.ntmps172
   go_wp2_with fail
   refine (zdi C A n j o S q 3 _ H.out D (by decide)).mono ?_
   rintro e U ⟨rfl,J,K⟩
   have z:=zc J
   have I:=zc K
   clear J K
   unfold tkV
   obtain⟨c0,c1,c2,c3,X,c5,c6,c7,c8,c9,cf⟩:=zaa z.out.cells
   rw[show (adv q).rq=q.rq from rfl] at X
   go_wp2_with fail
   refine (zfS j S.rq q.rq (ze C q.pos).text _ z.out.mem.own.rq (by omega)).mono ?_
   rintro e E ⟨rfl,O⟩
   rw[L,O]
   clear O E
   go_wp2
   go_ret
   rw[M.out]
   exact⟨rfl,S,z.out,I.out⟩
  |false=>
   by_cases hn:q.rq.length<40
   ·refine (zkA C A n j o S q w h hC D L hn).mono ?_
    rintro e U ⟨rfl,S1,J,K⟩
    rw[zG,D,L,if_pos rfl,if_neg (by decide),if_neg (by omega)]
    exact⟨rfl,S1,J,K⟩
   ·have H:Hid (IM C A n j o S q w):=h
    have M:Hid (zG C q= .error (zq C q.pos)):=by show _=_;rw[zG,D,L,if_pos rfl,if_neg (by decide),if_pos (by omega)]
    have Y:=zco
    have Z:=h.mem.inv.rq
    clear h
    go_enter Tryz.func172,Tryz.ntmps172
    go_wp2_with fail
    refine (zdi C A n j o S q 3 _ H.out D (by decide)).mono ?_
    rintro e U ⟨rfl,J,K⟩
    have z:=zc J
    have I:=zc K
    clear J K
    unfold tkV
    obtain⟨c0,c1,c2,c3,X,c5,c6,c7,c8,c9,cf⟩:=zaa z.out.cells
    rw[show (adv q).rq=q.rq from rfl] at X
    go_wp2_with fail
    refine (zfS j S.rq q.rq (ze C q.pos).text _ z.out.mem.own.rq (by omega)).mono ?_
    rintro e E ⟨rfl,O⟩
    rw[L,O]
    clear O E
    go_wp2_with fail
    refine (zdI C A n j o S (adv q) q.rq.length 40 _ z.out (by omega) (by rw[zw];omega)).mono ?_
    rintro e w2 ⟨rfl,N⟩
    have V:Hid (Below j w w2):=(H.out.back I.out).trans (N.mono z.out.mem.base)
    clear N
    unfold Pan
    go_wp2
    refine⟨rfl,?_⟩
    rw[M.out]
    exact⟨rfl,V.out⟩
theorem bdO {α β:Type} {Y:Except Nat β} {x:Except Nat α} {f:α→Except Nat β} {a:α} (h:Y=bd x f) (j:x= .ok a):Y=f a:=by rw[h,j];rfl
theorem bdE {α β:Type} {Y:Except Nat β} {x:Except Nat α} {f:α→Except Nat β} {p:Nat} (h:Y=bd x f) (j:x= .error p):Y= .error p:=by rw[h,j];rfl
theorem zdK {α:Type} (x:Except Nat α):bd x .ok=x:=by cases x<;>rfl
abbrev cCall:ByteArray:={data:=#[40,41,123]}
abbrev cShutSemi:ByteArray:={data:=#[41,59]}
abbrev cSemiRight:ByteArray:={data:=#[59,125]}
theorem zhm (C:Cx) (b:UInt8) (q:PS):za6 C {data:=#[b]} 1 0 q=zd C 4 {data:=#[b]} q:=by
 have e:({data:=#[b]}:ByteArray).extract 0 (0+1)={data:=#[b]}:=by simp[ByteArray.extract,ByteArray.copySlice]
 rw[za6,e]
 exact zdK _
theorem zhn (C:Cx) (b c:UInt8) (q:PS):za6 C {data:=#[b,c]} 2 0 q=bd (zd C 4 {data:=#[b]} q) (zd C 4 {data:=#[c]}):=by
 have e:({data:=#[b,c]}:ByteArray).extract 0 (0+1)={data:=#[b]}:=by simp[ByteArray.extract,ByteArray.copySlice]
 have h:({data:=#[b,c]}:ByteArray).extract (0+1) (0+1+1)={data:=#[c]}:=by simp[ByteArray.extract,ByteArray.copySlice]
 rw[za6,e]
 refine zZ fun a _=>?_
 rw[za6,h]
 exact zdK _
theorem zkB (C:Cx) (b c d:UInt8) (q:PS):za6 C {data:=#[b,c,d]} 3 0 q=bd (zd C 4 {data:=#[b]} q) fun a=>bd (zd C 4 {data:=#[c]} a) (zd C 4 {data:=#[d]}):=by
 have e:({data:=#[b,c,d]}:ByteArray).extract 0 (0+1)={data:=#[b]}:=by simp[ByteArray.extract,ByteArray.copySlice]
 have h:({data:=#[b,c,d]}:ByteArray).extract (0+1) (0+1+1)={data:=#[c]}:=by simp[ByteArray.extract,ByteArray.copySlice]
 have j:({data:=#[b,c,d]}:ByteArray).extract (0+1+1) (0+1+1+1)={data:=#[d]}:=by simp[ByteArray.extract,ByteArray.copySlice]
 rw[za6,e]
 refine zZ fun a _=>?_
 rw[za6,h]
 refine zZ fun a _=>?_
 rw[za6,j]
 exact zdK _
theorem zkC (C:Cx) (z n j o:Nat) (S:Sv) (q:PS) (s:ByteArray) (f:PS→PR) (w:World) (h:IM C z n j o S q w) (D:za6 C s s.size 0 q=f q) (A:s.size≤100):
  Calls Tryz.prog 153 #[.pointer (some ⟨o,0,none⟩),.string s] w (zN C z n j o (f q) id (fun _=>.tuple #[]) S w):=by
 rw[←D]
 exact zfO C z n j o S q s w h A
theorem zbQ (C:Cx) (z n j o:Nat) (S:Sv) (q:PS) (b:UInt8) (w:World) (h:IM C z n j o S q w):
  Calls Tryz.prog 153 #[.pointer (some ⟨o,0,none⟩),.string {data:=#[b]}] w (zN C z n j o (zd C 4 {data:=#[b]} q) id (fun _=>.tuple #[]) S w):=
 zkC C z n j o S q {data:=#[b]} (zd C 4 {data:=#[b]}) w h (zhm C b q) (by show 1≤100;omega)
structure Six (w:World) (b:Nat) (v0 v1 v2 v3 v4 v5:Value):Prop where
 c0:w.cell? ⟨b,0,none⟩=some v0
 c1:w.cell? ⟨b,1,none⟩=some v1
 c2:w.cell? ⟨b,2,none⟩=some v2
 c3:w.cell? ⟨b,3,none⟩=some v3
 c4:w.cell? ⟨b,4,none⟩=some v4
 c5:w.cell? ⟨b,5,none⟩=some v5
 fz: ∀i,w.frozen? ⟨b,i,none⟩=false
theorem zu {w:World} {b:Nat} {t:TypeId} {n j o q z A:Value} (h:w.heap[b]? =some (.cells #[n,j,o,q,z,A] t (0,0))):Six w b n j o q z A:=by
 constructor<;>simp[World.cell?,World.frozen?,h]
theorem IS.kept {C:Cx} {H n j A b:Nat} {S D:Sv} {q:PS} {w z:World} {o:Obj} (h:IM C H n j A S q w) (s:IS A S (w.alloc o) D z) (E:b=w.heap.size):z.heap[b]? =some o:=by
 subst E
 refine (s.block _ (by rw[zj];omega) (fun g=>?_) (by have:=h.lt;omega)).trans (heap_alloc_new w _)
 have:=(h.mem.own.has g).2
 omega
theorem IS.from {j:Nat} {S n:Sv} {w h:World} {o:Obj} (s:IS j S (w.alloc o) n h):IS j S w n h:=(IS.below ((Below.refl _ _).alloc (Nat.le_refl _) _)).trans s
theorem IS.free {C:Cx} {E n j A:Nat} {S z:Sv} {q:PS} {w D:World} {o:Obj} (h:IM C E n j A S q w) (s:IS A S (w.alloc o) z D): ¬z.has w.heap.size:=by
 intro g
 rcases s.sub _ g with k|k
 ·have:=(h.mem.own.has k).2
  omega
 ·rw[zj] at k
  omega
def zaW (C:Cx) (x:Ex) (call:Int) (q:PS):PR:=if isT C q.pos 4 zm then bd (zd C 4 zay (adv q)) (zM C ⟨call,x.num,x.name,x.field,x.l,x.r⟩) else zM C x q
theorem zeu (C:Cx) (I o n z:Nat) (S:Sv) (q:PS) (x:Ex) (j:Int) (w:World) (h:IM C I o n z S q w) (hp:0<q.pos):
  Calls Tryz.prog 207 #[.pointer (some ⟨z,0,none⟩),exV x,.int .i64 j] w (zN C I o n z (zaW C x j q) id (fun q'=>.int .i64 ((q'.ex.length:Int)-1)) S w):=by
 have D:=zc h
 clear h
 cases hi:isT C q.pos 4 zm with
 |false=>
  have U:Hid (zaW C x j q=zM C x q):=by show _=_;rw[zaW,hi];rfl
  unfold exV
  go_enter Tryz.func207,Tryz.ntmps207
  go_wp2_with fail
  refine (zH C I o n z S q 4 zm _ (D.out.alloc _) (by decide)).mono ?_
  rintro e w1 ⟨rfl,m,s⟩
  rw[hi] at m ⊢
  have L:=zc m
  have Z:Hid (IS z S w S w1):=s.from
  have ae:Hid (w1.heap[w.heap.size]? =some (.cells #[.int .i64 x.kind,.int .i64 x.num,.string x.name,.string x.field,.int .i64 x.l,.int .i64 x.r] 108 (0,0))):=IS.kept D.out s rfl
  obtain⟨b0,b1,b2,b3,b4,b5,bf⟩:=zu ae.out
  clear m s
  go_wp2_with fail
  refine (zdJ C I o n z S q x _ L.out hp).mono ?_
  cases A:zM C x q with
  |error p=>
   rintro e J ⟨rfl,V⟩
   have N:Hid (Below n w J):=(D.out.back Z.out).trans V
   have H:Hid (zaW C x j q= .error p):=U.out.trans A
   unfold Pan
   go_wp2
   refine⟨rfl,?_⟩
   rw[H.out]
   exact⟨rfl,N.out⟩
  |ok a2=>
   rintro e J ⟨rfl,M,m,s⟩
   have K:=zc m
   have ag:Hid (IS z S w M J):=Z.out.trans s
   clear m s
   have H:=zc (U.out.trans A)
   go_wp2
   go_ret
   rw[H.out]
   exact⟨rfl,M,K.out,ag.out⟩
 |true=>
  have U:Hid (zaW C x j q=bd (zd C 4 zay (adv q)) (zM C ⟨j,x.num,x.name,x.field,x.l,x.r⟩)):=by show _=_;rw[zaW,hi];rfl
  unfold exV
  go_enter Tryz.func207,Tryz.ntmps207
  go_wp2_with fail
  refine (zH C I o n z S q 4 zm _ (D.out.alloc _) (by decide)).mono ?_
  rintro e w1 ⟨rfl,m,s⟩
  rw[hi] at m ⊢
  have L:=zc m
  have O:=zc s
  clear m s
  go_wp2_with fail
  refine (zbQ C I o n z S (adv q) 41 _ L.out).mono ?_
  cases A:zd C 4 zay (adv q) with
  |error p=>
   rintro e J ⟨rfl,V⟩
   have N:Hid (Below n w J):=(D.out.back O.out.from).trans V
   have H:Hid (zaW C x j q= .error p):=bdE U.out A
   unfold Pan
   go_wp2
   refine⟨rfl,?_⟩
   rw[H.out]
   exact⟨rfl,N.out⟩
  |ok a2=>
   rintro e J ⟨rfl,M,m,s⟩
   have K:=zc m
   have E:Hid (IS z S (w.alloc (.cells #[.int .i64 x.kind,.int .i64 x.num,.string x.name,.string x.field,.int .i64 x.l,.int .i64 x.r] 108)) M J):=O.out.trans s
   have aa:Hid (J.heap[w.heap.size]? =some (.cells #[.int .i64 x.kind,.int .i64 x.num,.string x.name,.string x.field,.int .i64 x.l,.int .i64 x.r] 108 (0,0))):=IS.kept D.out E.out rfl
   have af:Hid (a2=adv (adv q)):=(zb0 A).1
   have ab:Hid (¬M.has w.heap.size):=IS.free D.out E.out
   have ah:z<w.heap.size:=D.out.lt
   have ai:I<w.heap.size:=(zak D.out.mem.tok).1
   clear m s
   have Y:=zc (bdO U.out A)
   obtain⟨b0,b1,b2,b3,b4,b5,bf⟩:=zu aa.out
   go_wp2_with fail
   refine (zdJ C I o n z M a2 ⟨j,x.num,x.name,x.field,x.l,x.r⟩ _ (K.out.set (by omega) (by omega) ab.out _ _) (by rw[af.out];show 0<q.pos+1+1;omega)).mono ?_
   cases X:zM C ⟨j,x.num,x.name,x.field,x.l,x.r⟩ a2 with
   |error p=>
    rintro e w3 ⟨rfl,V⟩
    have N:Hid (Below n w w3):=(D.out.back (E.out.from.new (Nat.le_refl _) _ _)).trans V
    have H:Hid (zaW C x j q= .error p):=Y.out.trans X
    unfold Pan
    go_wp2
    refine⟨rfl,?_⟩
    rw[H.out]
    exact⟨rfl,N.out⟩
   |ok a3=>
    rintro e w3 ⟨rfl,S3,m,s⟩
    have ac:=zc m
    have ad:Hid (IS z S w S3 w3):=(E.out.from.new (Nat.le_refl _) _ _).trans s
    clear m s
    have H:=zc (Y.out.trans X)
    go_wp2
    go_ret
    rw[H.out]
    exact⟨rfl,S3,ac.out,ad.out⟩
def exI (q:PS):Value:=.int .i64 ((q.ex.length:Int)-1)
def zev (C:Cx) (gt cap base gp m:Nat):Prop:=∀(d:Nat) (S:Sv) (q:PS) (w:World),C.ts.length-q.pos<m→d≤20→IM C gt cap base gp S q w→
 Calls Tryz.prog 183 #[.pointer (some ⟨gp,0,none⟩),.int .i64 d] w (zN C gt cap base gp (pE C .sum d q) id exI S w)
theorem zho (C:Cx) (n:ByteArray) (q:PS):zbq C n q=zaW C ⟨2,0,n,sNone,0,0⟩ 3 q:=by
 unfold zbq zaW
 cases h:isT C q.pos 4 zm with
 |true=>rw[zb9 h];rfl
 |false=>rfl
theorem zkD (C:Cx) (n f:ByteArray) (q:PS):zbz C n f q=zaW C ⟨4,0,n,f,0,0⟩ 5 q:=by
 unfold zbz zaW
 cases h:isT C q.pos 4 zm with
 |true=>rw[zb9 h];rfl
 |false=>rfl
theorem zkE {x y:ByteArray} (h:(x.toList==y.toList)=true):x=y:=by
 rw[beq_iff_eq,Lib.toList_data,Lib.toList_data] at h
 cases x
 cases y
 simp only at h
 rw[Array.toList_inj.1 h]
theorem zfT {C:Cx} {i:Nat} {k:Int} {x:ByteArray} (h:isT C i k x=true):(ze C i).text=x:=by
 simp only[isT,Bool.and_eq_true] at h
 exact zkE h.2
theorem zfb {C:Cx} {i:Nat} {k:Int} {x:ByteArray} (h:isT C i k x=true):((ze C i).kind==k)=true:=by
 simp only[isT,Bool.and_eq_true] at h
 exact h.1
theorem zkF {C:Cx} {d:Nat} {q:PS} (h:((ze C q.pos).kind==2)=true):pE C .part d q=zM C ⟨1,(ze C q.pos).num,sNone,sNone,0,0⟩ (adv q):=by rw[zbv,h];rfl
theorem zkG {C:Cx} {d:Nat} {q:PS} (h:((ze C q.pos).kind==2)=false) (j:isT C q.pos 4 zm=true) (n:20≤d):pE C .part d q= .error (zq C q.pos):=by rw[zbv,h,j,if_neg (by decide),if_pos rfl,if_pos n]
theorem zkH {C:Cx} {d:Nat} {q:PS} (h:((ze C q.pos).kind==2)=false) (j:isT C q.pos 4 zm=true) (n: ¬20≤d):pE C .part d q=bd (pE C .sum (d+1) (adv q)) (zd C 4 zay):=by rw[zbv,h,j,if_neg (by decide),if_pos rfl,if_neg n]
theorem zkI {C:Cx} {d:Nat} {q:PS} (h:((ze C q.pos).kind==2)=false) (n:isT C q.pos 4 zm=false) (o:C.scr=true) (j:isT C q.pos 1 za4=true):pE C .part d q=zaW C ⟨2,0,za4,sNone,0,0⟩ 3 (adv q):=by
 rw[zbv,h,n,o,j,if_neg (by decide),if_neg (by decide),if_pos (by decide),zho]
theorem zhp {C:Cx} {d:Nat} {q:PS} (h:((ze C q.pos).kind==2)=false) (j:isT C q.pos 4 zm=false) (n:(C.scr&&isT C q.pos 1 za4)=false):
  pE C .part d q=bd (zh C false q) fun x=>if isT C x.1.pos 4 cPoint then bd (zh C true (adv x.1)) fun y=>zaW C ⟨4,0,x.2,y.2,0,0⟩ 5 y.1 else zaW C ⟨2,0,x.2,sNone,0,0⟩ 3 x.1:=by
 rw[zbv,h,j,n,if_neg (by decide),if_neg (by decide),if_neg (by decide)]
 simp only[zho,zkD]
theorem zkJ (C:Cx) (z n j o d:Nat) (S:Sv) (q:PS) (w:World) (h:IM C z n j o S q w) (Y:((ze C q.pos).kind==2)=true):
  Calls Tryz.prog 206 #[.pointer (some ⟨o,0,none⟩),.int .i64 d] w (zN C z n j o (pE C .part d q) id exI S w):=by
 have K:=zc h
 have ab:=zc1
 have aa:=zco
 have ac:=zdF
 clear h
 have X:=zc (zkF (d:=d) Y)
 go_enter Tryz.func206,Tryz.ntmps206
 go_wp2_with fail
 refine (zbk C z n j o S q _ K.out).mono ?_
 rintro e V ⟨rfl,A⟩
 unfold tkV
 have M:Hid (IM C z n j o S q V):=K.out.later A
 have O:Hid (IS o S w S V):=IS.below A
 clear A
 go_wp2_with fail
 refine (zdi C z n j o S q 2 _ M.out Y (by decide)).mono ?_
 rintro e w2 ⟨rfl,m,s⟩
 have L:=zc m
 have E:Hid (IS o S w S w2):=O.out.trans s
 clear m s
 unfold tkV
 go_wp2_with fail
 refine (zdJ C z n j o S (adv q) ⟨1,(ze C q.pos).num,sNone,sNone,0,0⟩ _ L.out (by rw[zw];omega)).mono ?_
 cases D:zM C ⟨1,(ze C q.pos).num,sNone,sNone,0,0⟩ (adv q) with
 |error p=>
  rintro e H ⟨rfl,A⟩
  have Z:Hid (Below j w H):=(K.out.back E.out).trans A
  have HX:Hid (pE C .part d q= .error p):=X.out.trans D
  unfold Pan
  go_wp2
  refine⟨rfl,?_⟩
  rw[HX.out]
  exact⟨rfl,Z.out⟩
 |ok a3=>
  rintro e H ⟨rfl,U,m,s⟩
  have I:=zc m
  have J:Hid (IS o S w U H):=E.out.trans s
  clear m s
  have N:=zc (X.out.trans D)
  go_wp2
  go_ret
  rw[N.out]
  exact⟨rfl,U,I.out,J.out⟩
theorem zkK (C:Cx) (z n j o d:Nat) (S:Sv) (q:PS) (w:World) (h:IM C z n j o S q w) (Z:((ze C q.pos).kind==2)=false) (L:isT C q.pos 4 zm=true) (V:20≤d):
  Calls Tryz.prog 206 #[.pointer (some ⟨o,0,none⟩),.int .i64 d] w (zN C z n j o (pE C .part d q) id exI S w):=by
 have E:=zc h
 have U:=zc1
 have O:=zco
 have ab:=zdF
 clear h
 have X:=zc (zkG (d:=d) Z L V)
 have aa:(20:Int)≤(d:Int):=by omega
 go_enter Tryz.func206,Tryz.ntmps206
 go_wp2_with fail
 refine (zbk C z n j o S q _ E.out).mono ?_
 rintro e K ⟨rfl,D⟩
 unfold tkV
 have H:Hid (IM C z n j o S q K):=E.out.later D
 have I:Hid (IS o S w S K):=IS.below D
 clear D
 go_wp2_with fail
 refine (zH C z n j o S q 4 zm _ H.out (by decide)).mono ?_
 rintro e w2 ⟨rfl,m,s⟩
 rw[L] at m ⊢
 have A:=zc m
 have J:Hid (IS o S w S w2):=I.out.trans s
 clear m s
 go_wp2_with fail
 refine (zdI C z n j o S (adv q) d 20 _ A.out (by omega) (by rw[zw];omega)).mono ?_
 rintro e M ⟨rfl,D⟩
 have N:Hid (Below j w M):=(E.out.back J.out).trans (D.mono A.out.mem.base)
 have Y:Hid (pE C .part d q= .error (zq C q.pos)):=X.out
 unfold Pan
 go_wp2
 refine⟨rfl,?_⟩
 rw[Y.out]
 exact⟨rfl,N.out⟩
theorem zkL (C:Cx) (A n j o m d:Nat) (S:Sv) (q:PS) (w:World) (h:IM C A n j o S q w) (hk:((ze C q.pos).kind==2)=false) (Z:isT C q.pos 4 zm=true) (hd:d<20) (hS:zev C A n j o m) (hm:C.ts.length-q.pos≤m):
  Calls Tryz.prog 206 #[.pointer (some ⟨o,0,none⟩),.int .i64 d] w (zN C A n j o (pE C .part d q) id exI S w):=by
 have M:=zc h
 have af:=zc1
 have ae:=zco
 have ai:=zdF
 clear h
 have HY:=zc (zkH (d:=d) hk Z (by omega))
 have ah: ¬(20:Int)≤(d:Int):=by omega
 have ag:=zaz Z (by decide)
 obtain⟨E,I⟩: ∃E:Nat,E=d+1:=⟨_,rfl⟩
 have ed:(d:Int)+1=(E:Int):=by omega
 rw[←I] at HY
 have Y:E≤20:=by omega
 clear I
 go_enter Tryz.func206,Tryz.ntmps206
 go_wp2_with fail
 refine (zbk C A n j o S q _ M.out).mono ?_
 rintro e w1 ⟨rfl,z⟩
 unfold tkV
 have aa:Hid (IM C A n j o S q w1):=M.out.later z
 have ac:Hid (IS o S w S w1):=IS.below z
 clear z
 go_wp2_with fail
 refine (zH C A n j o S q 4 zm _ aa.out (by decide)).mono ?_
 rintro e w2 ⟨rfl,m,s⟩
 rw[Z] at m ⊢
 have X:=zc m
 have L:Hid (IS o S w S w2):=ac.out.trans s
 clear m s
 go_wp2_with fail
 refine (zdj o d 20 _ (by omega)).mono ?_
 rintro e w' ⟨rfl,hw⟩
 rw[hw]
 clear hw w'
 go_wp2_with fail
 refine (hS E S (adv q) _ (by rw[zw];omega) Y X.out).mono ?_
 cases J:pE C .sum E (adv q) with
 |error p=>
  rintro e O ⟨rfl,z⟩
  have U:Hid (Below j w O):=(M.out.back L.out).trans z
  have HX:Hid (pE C .part d q= .error p):=bdE HY.out J
  unfold Pan
  go_wp2
  refine⟨rfl,?_⟩
  rw[HX.out]
  exact⟨rfl,U.out⟩
 |ok a3=>
  rintro e O ⟨rfl,S3,m,s⟩
  have V:=zc m
  have H:Hid (IS o S w S3 O):=L.out.trans s
  clear m s
  have K:=zc (bdO HY.out J)
  unfold exI
  go_wp2_with fail
  refine (zbQ C A n j o S3 a3 41 _ V.out).mono ?_
  cases D:zd C 4 zay a3 with
  |error p=>
   rintro e w4 ⟨rfl,z⟩
   have U:Hid (Below j w w4):=(M.out.back H.out).trans z
   have HX:Hid (pE C .part d q= .error p):=K.out.trans D
   unfold Pan
   go_wp2
   refine⟨rfl,?_⟩
   rw[HX.out]
   exact⟨rfl,U.out⟩
  |ok a4=>
   rintro e w4 ⟨rfl,S4,m,s⟩
   have ab:=zc m
   have ad:Hid (IS o S w S4 w4):=H.out.trans s
   clear m s
   have N:=zc (K.out.trans D)
   have HP:Hid (a4=adv a3):=(zb0 D).1
   go_wp2
   go_ret
   rw[N.out]
   exact⟨by rw[HP.out];rfl,S4,ab.out,ad.out⟩
theorem zkM (C:Cx) (A n j o d:Nat) (S:Sv) (q:PS) (w:World) (h:IM C A n j o S q w) (hk:((ze C q.pos).kind==2)=false) (h1:isT C q.pos 4 zm=false) (h2:C.scr=true) (I:isT C q.pos 1 za4=true):
  Calls Tryz.prog 206 #[.pointer (some ⟨o,0,none⟩),.int .i64 d] w (zN C A n j o (pE C .part d q) id exI S w):=by
 have L:=zc h
 have ab:=zc1
 have aa:=zco
 have ac:=zdF
 clear h
 have HY:=zc (zkI (d:=d) hk h1 h2 I)
 go_enter Tryz.func206,Tryz.ntmps206
 go_wp2_with fail
 refine (zbk C A n j o S q _ L.out).mono ?_
 rintro e w1 ⟨rfl,z⟩
 unfold tkV
 have N:Hid (IM C A n j o S q w1):=L.out.later z
 have X:Hid (IS o S w S w1):=IS.below z
 clear z
 go_wp2_with fail
 refine (zH C A n j o S q 4 zm _ N.out (by decide)).mono ?_
 rintro e w2 ⟨rfl,m,s⟩
 rw[h1] at m ⊢
 have D:=zc m
 have Y:Hid (IS o S w S w2):=X.out.trans s
 clear m s
 obtain⟨_,_,_,c3,_,_,_,_,_,_,cf⟩:=zaa D.out.cells
 rw[h2] at c3
 go_wp2_with fail
 refine (zbI C A n j o S q 1 za4 _ D.out).mono ?_
 rintro e w3 ⟨rfl,z⟩
 rw[I]
 have J:Hid (IM C A n j o S q w3):=D.out.later z
 have K:Hid (IS o S w S w3):=(Y.out.trans (IS.below z))
 clear z
 go_wp2_with fail
 refine (zdi C A n j o S q 1 _ J.out (zfb I) (by decide)).mono ?_
 rintro e w4 ⟨rfl,m,s⟩
 have U:=zc m
 have E:Hid (IS o S w S w4):=K.out.trans s
 clear m s
 unfold tkV
 rw[zfT I]
 go_wp2_with fail
 refine (zeu C A n j o S (adv q) ⟨2,0,za4,sNone,0,0⟩ 3 _ U.out (by rw[zw];omega)).mono ?_
 cases H:zaW C ⟨2,0,za4,sNone,0,0⟩ 3 (adv q) with
 |error p=>
  rintro e O ⟨rfl,z⟩
  have HB:Hid (Below j w O):=(L.out.back E.out).trans z
  have HX:Hid (pE C .part d q= .error p):=HY.out.trans H
  unfold Pan
  go_wp2
  refine⟨rfl,?_⟩
  rw[HX.out]
  exact⟨rfl,HB.out⟩
 |ok a5=>
  rintro e O ⟨rfl,S5,m,s⟩
  have Z:=zc m
  have V:Hid (IS o S w S5 O):=E.out.trans s
  clear m s
  have M:=zc (HY.out.trans H)
  go_wp2
  go_ret
  rw[M.out]
  exact⟨rfl,S5,Z.out,V.out⟩
theorem zkN (C:Cx) (D n j o d:Nat) (S:Sv) (q:PS) (w:World) (h:IM C D n j o S q w) (hk:((ze C q.pos).kind==2)=false) (h1:isT C q.pos 4 zm=false) (h2:C.scr=true) (h3:isT C q.pos 1 za4=false):
  Calls Tryz.prog 206 #[.pointer (some ⟨o,0,none⟩),.int .i64 d] w (zN C D n j o (pE C .part d q) id exI S w):=by
 have Y:=zc h
 have an:=zc1
 have am:=zco
 have ao:=zdF
 clear h
 have HY:=zc (zhp (d:=d) hk h1 (by rw[h2,h3];rfl))
 go_enter Tryz.func206,Tryz.ntmps206
 go_wp2_with fail
 refine (zbk C D n j o S q _ Y.out).mono ?_
 rintro e w1 ⟨rfl,z⟩
 unfold tkV
 have ag:Hid (IM C D n j o S q w1):=Y.out.later z
 have ah:Hid (IS o S w S w1):=IS.below z
 clear z
 go_wp2_with fail
 refine (zH C D n j o S q 4 zm _ ag.out (by decide)).mono ?_
 rintro e w2 ⟨rfl,m,s⟩
 rw[h1] at m ⊢
 have N:=zc m
 have al:Hid (IS o S w S w2):=ah.out.trans s
 clear m s
 obtain⟨_,_,_,c3,_,_,_,_,_,_,cf⟩:=zaa N.out.cells
 rw[h2] at c3
 go_wp2_with fail
 refine (zbI C D n j o S q 1 za4 _ N.out).mono ?_
 rintro e w3 ⟨rfl,z⟩
 rw[h3]
 have af:Hid (IM C D n j o S q w3):=N.out.later z
 have ab:Hid (IS o S w S w3):=(al.out.trans (IS.below z))
 clear z
 go_wp2_with fail
 refine (zcM C D n j o S q _ af.out).mono ?_
 cases X:zh C false q with
 |error p=>
  rintro e w4 ⟨rfl,z⟩
  have K:Hid (Below j w w4):=(Y.out.back ab.out).trans z
  have O:Hid (pE C .part d q= .error p):=bdE HY.out X
  unfold Pan
  go_wp2
  refine⟨rfl,?_⟩
  rw[O.out]
  exact⟨rfl,K.out⟩
 |ok E=>
  rintro e w4 ⟨rfl,M,m,s⟩
  have ac:=zc m
  have ae:Hid (IS o S w M w4):=ab.out.trans s
  clear m s
  have Z:=zc (bdO HY.out X)
  have ad:0<E.1.pos:=by rw[(zbe X).1];exact Nat.succ_pos _
  cases hd:isT C E.1.pos 4 cPoint with
  |true=>
   have HZ:=zc (Z.out.trans (if_pos hd))
   go_wp2_with fail
   refine (zH C D n j o M (E.1) 4 cPoint _ ac.out (by decide)).mono ?_
   rintro e w5 ⟨rfl,m,s⟩
   rw[hd] at m ⊢
   have V:=zc m
   have H:Hid (IS o S w M w5):=ae.out.trans s
   clear m s
   go_wp2_with fail
   refine (zep C D n j o M (adv (E.1)) _ V.out).mono ?_
   cases A:zh C true (adv (E.1)) with
   |error p=>
    rintro e L ⟨rfl,z⟩
    have K:Hid (Below j w L):=(Y.out.back H.out).trans z
    have O:Hid (pE C .part d q= .error p):=bdE HZ.out A
    unfold Pan
    go_wp2
    refine⟨rfl,?_⟩
    rw[O.out]
    exact⟨rfl,K.out⟩
   |ok a6=>
    rintro e L ⟨rfl,S6,m,s⟩
    have U:=zc m
    have I:Hid (IS o S w S6 L):=H.out.trans s
    clear m s
    have J:=zc (bdO HZ.out A)
    go_wp2_with fail
    refine (zeu C D n j o S6 (a6.1) ⟨4,0,E.2,a6.2,0,0⟩ 5 _ U.out (by rw[(zbe A).1];exact Nat.succ_pos _)).mono ?_
    cases aa:zaW C ⟨4,0,E.2,a6.2,0,0⟩ 5 (a6.1) with
    |error p=>
     rintro e w7 ⟨rfl,z⟩
     have K:Hid (Below j w w7):=(Y.out.back I.out).trans z
     have O:Hid (pE C .part d q= .error p):=J.out.trans aa
     unfold Pan
     go_wp2
     refine⟨rfl,?_⟩
     rw[O.out]
     exact⟨rfl,K.out⟩
    |ok a7=>
     rintro e w7 ⟨rfl,S7,m,s⟩
     have ak:=zc m
     have ai:Hid (IS o S w S7 w7):=I.out.trans s
     clear m s
     have aj:=zc (J.out.trans aa)
     go_wp2
     go_ret
     rw[aj.out]
     exact⟨rfl,S7,ak.out,ai.out⟩
  |false=>
   have HZ:=zc (Z.out.trans (if_neg (by rw[hd];decide)))
   go_wp2_with fail
   refine (zH C D n j o M (E.1) 4 cPoint _ ac.out (by decide)).mono ?_
   rintro e w5 ⟨rfl,m,s⟩
   rw[hd] at m ⊢
   have V:=zc m
   have H:Hid (IS o S w M w5):=ae.out.trans s
   clear m s
   go_wp2_with fail
   refine (zeu C D n j o M (E.1) ⟨2,0,E.2,sNone,0,0⟩ 3 _ V.out ad).mono ?_
   cases A:zaW C ⟨2,0,E.2,sNone,0,0⟩ 3 (E.1) with
   |error p=>
    rintro e L ⟨rfl,z⟩
    have K:Hid (Below j w L):=(Y.out.back H.out).trans z
    have O:Hid (pE C .part d q= .error p):=HZ.out.trans A
    unfold Pan
    go_wp2
    refine⟨rfl,?_⟩
    rw[O.out]
    exact⟨rfl,K.out⟩
   |ok a6=>
    rintro e L ⟨rfl,S6,m,s⟩
    have U:=zc m
    have I:Hid (IS o S w S6 L):=H.out.trans s
    clear m s
    have J:=zc (HZ.out.trans A)
    go_wp2
    go_ret
    rw[J.out]
    exact⟨rfl,S6,U.out,I.out⟩
theorem zkO (C:Cx) (E n j o d:Nat) (S:Sv) (q:PS) (w:World) (h:IM C E n j o S q w) (hk:((ze C q.pos).kind==2)=false) (h1:isT C q.pos 4 zm=false) (h2:C.scr=false):
  Calls Tryz.prog 206 #[.pointer (some ⟨o,0,none⟩),.int .i64 d] w (zN C E n j o (pE C .part d q) id exI S w):=by
 have X:=zc h
 have al:=zc1
 have ak:=zco
 have am:=zdF
 clear h
 have HY:=zc (zhp (d:=d) hk h1 (by rw[h2];rfl))
 go_enter Tryz.func206,Tryz.ntmps206
 go_wp2_with fail
 refine (zbk C E n j o S q _ X.out).mono ?_
 rintro e w1 ⟨rfl,D⟩
 unfold tkV
 have ah:Hid (IM C E n j o S q w1):=X.out.later D
 have ai:Hid (IS o S w S w1):=IS.below D
 clear D
 go_wp2_with fail
 refine (zH C E n j o S q 4 zm _ ah.out (by decide)).mono ?_
 rintro e w2 ⟨rfl,m,s⟩
 rw[h1] at m ⊢
 have ab:=zc m
 have ae:Hid (IS o S w S w2):=ai.out.trans s
 clear m s
 obtain⟨_,_,_,c3,_,_,_,_,_,_,cf⟩:=zaa ab.out.cells
 rw[h2] at c3
 go_wp2_with fail
 refine (zcM C E n j o S q _ ab.out).mono ?_
 cases M:zh C false q with
 |error p=>
  rintro e w3 ⟨rfl,D⟩
  have K:Hid (Below j w w3):=(X.out.back ae.out).trans D
  have O:Hid (pE C .part d q= .error p):=bdE HY.out M
  unfold Pan
  go_wp2
  refine⟨rfl,?_⟩
  rw[O.out]
  exact⟨rfl,K.out⟩
 |ok A=>
  rintro e w3 ⟨rfl,L,m,s⟩
  have Z:=zc m
  have aa:Hid (IS o S w L w3):=ae.out.trans s
  clear m s
  have ad:=zc (bdO HY.out M)
  have ac:0<A.1.pos:=by rw[(zbe M).1];exact Nat.succ_pos _
  cases hd:isT C A.1.pos 4 cPoint with
  |true=>
   have HZ:=zc (ad.out.trans (if_pos hd))
   go_wp2_with fail
   refine (zH C E n j o L (A.1) 4 cPoint _ Z.out (by decide)).mono ?_
   rintro e w4 ⟨rfl,m,s⟩
   rw[hd] at m ⊢
   have U:=zc m
   have H:Hid (IS o S w L w4):=aa.out.trans s
   clear m s
   go_wp2_with fail
   refine (zep C E n j o L (adv (A.1)) _ U.out).mono ?_
   cases z:zh C true (adv (A.1)) with
   |error p=>
    rintro e N ⟨rfl,D⟩
    have K:Hid (Below j w N):=(X.out.back H.out).trans D
    have O:Hid (pE C .part d q= .error p):=bdE HZ.out z
    unfold Pan
    go_wp2
    refine⟨rfl,?_⟩
    rw[O.out]
    exact⟨rfl,K.out⟩
   |ok a5=>
    rintro e N ⟨rfl,S5,m,s⟩
    have V:=zc m
    have J:Hid (IS o S w S5 N):=H.out.trans s
    clear m s
    have I:=zc (bdO HZ.out z)
    go_wp2_with fail
    refine (zeu C E n j o S5 (a5.1) ⟨4,0,A.2,a5.2,0,0⟩ 5 _ V.out (by rw[(zbe z).1];exact Nat.succ_pos _)).mono ?_
    cases Y:zaW C ⟨4,0,A.2,a5.2,0,0⟩ 5 (a5.1) with
    |error p=>
     rintro e w6 ⟨rfl,D⟩
     have K:Hid (Below j w w6):=(X.out.back J.out).trans D
     have O:Hid (pE C .part d q= .error p):=I.out.trans Y
     unfold Pan
     go_wp2
     refine⟨rfl,?_⟩
     rw[O.out]
     exact⟨rfl,K.out⟩
    |ok a6=>
     rintro e w6 ⟨rfl,S6,m,s⟩
     have aj:=zc m
     have af:Hid (IS o S w S6 w6):=J.out.trans s
     clear m s
     have ag:=zc (I.out.trans Y)
     go_wp2
     go_ret
     rw[ag.out]
     exact⟨rfl,S6,aj.out,af.out⟩
  |false=>
   have HZ:=zc (ad.out.trans (if_neg (by rw[hd];decide)))
   go_wp2_with fail
   refine (zH C E n j o L (A.1) 4 cPoint _ Z.out (by decide)).mono ?_
   rintro e w4 ⟨rfl,m,s⟩
   rw[hd] at m ⊢
   have U:=zc m
   have H:Hid (IS o S w L w4):=aa.out.trans s
   clear m s
   go_wp2_with fail
   refine (zeu C E n j o L (A.1) ⟨2,0,A.2,sNone,0,0⟩ 3 _ U.out ac).mono ?_
   cases z:zaW C ⟨2,0,A.2,sNone,0,0⟩ 3 (A.1) with
   |error p=>
    rintro e N ⟨rfl,D⟩
    have K:Hid (Below j w N):=(X.out.back H.out).trans D
    have O:Hid (pE C .part d q= .error p):=HZ.out.trans z
    unfold Pan
    go_wp2
    refine⟨rfl,?_⟩
    rw[O.out]
    exact⟨rfl,K.out⟩
   |ok a5=>
    rintro e N ⟨rfl,S5,m,s⟩
    have V:=zc m
    have J:Hid (IS o S w S5 N):=H.out.trans s
    clear m s
    have I:=zc (HZ.out.trans z)
    go_wp2
    go_ret
    rw[I.out]
    exact⟨rfl,S5,V.out,J.out⟩
theorem zhq (C:Cx) (z n j o m d:Nat) (S:Sv) (q:PS) (w:World) (h:IM C z n j o S q w) (L:d≤20) (K:zev C z n j o m) (J:C.ts.length-q.pos≤m):
  Calls Tryz.prog 206 #[.pointer (some ⟨o,0,none⟩),.int .i64 d] w (zN C z n j o (pE C .part d q) id exI S w):=by
 cases A:((ze C q.pos).kind==2) with
 |true=>exact zkJ C z n j o d S q w h A
 |false=>
  cases D:isT C q.pos 4 zm with
  |true=>
   by_cases E:20≤d
   ·exact zkK C z n j o d S q w h A D E
   ·exact zkL C z n j o m d S q w h A D (by omega) K J
  |false=>
   cases H:C.scr with
   |true=>
    cases I:isT C q.pos 1 za4 with
    |true=>exact zkM C z n j o d S q w h A D H I
    |false=>exact zkN C z n j o d S q w h A D H I
   |false=>exact zkO C z n j o d S q w h A D H
theorem zkP {C:Cx} {d:Nat} {q:PS} (h:isT C q.pos 4 zv=false):pE C .prodT d q= .ok q:=by rw[zeJ,if_neg (by rw[h];decide)]
theorem zkQ {C:Cx} {d:Nat} {q:PS} (h:isT C q.pos 4 zv=true):pE C .prodT d q=bd (pE C .part d (adv q)) fun a=>bd (zM C ⟨8,0,sNone,sNone,(q.ex.length:Int)-1,(a.ex.length:Int)-1⟩ a) (pE C .prodT d):=by rw[zeJ,if_pos h,zK]
theorem zkR {C:Cx} {d:Nat} {q:PS} (h:isT C q.pos 4 zaT=false) (j:isT C q.pos 4 zbN=false):pE C .sumT d q= .ok q:=by rw[zeg,if_neg (by rw[h,j];decide)]
theorem zkS {C:Cx} {d:Nat} {q:PS} (h:isT C q.pos 4 zaT=true):pE C .sumT d q=bd (pE C .prod d (adv q)) fun a=>bd (zM C ⟨7,0,sNone,sNone,(q.ex.length:Int)-1,(a.ex.length:Int)-1⟩ a) (pE C .sumT d):=by
 rw[zeg,if_pos (by rw[h];exact Bool.or_true _),zK,zcH,if_pos h]
theorem zkT {C:Cx} {d:Nat} {q:PS} (h:isT C q.pos 4 zaT=false) (j:isT C q.pos 4 zbN=true):pE C .sumT d q=bd (pE C .prod d (adv q)) fun a=>bd (zM C ⟨6,0,sNone,sNone,(q.ex.length:Int)-1,(a.ex.length:Int)-1⟩ a) (pE C .sumT d):=by
 rw[zeg,if_pos (by rw[j];rfl),zK,zcH,if_neg (by rw[h];decide)]
theorem zfU (C:Cx) (D n j o m d:Nat) (S:Sv) (q:PS) (w:World) (h:IM C D n j o S q w) (hd:d≤20) (hS:zev C D n j o m) (hm:C.ts.length-q.pos≤m):
  Calls Tryz.prog 201 #[.pointer (some ⟨o,0,none⟩),.int .i64 d] w (zN C D n j o (pE C .prod d q) id exI S w):=by
 have HH:=zc h
 have HY:=zc (zgI C d q)
 clear h
 go_enter Tryz.func201,Tryz.ntmps201
 go_wp2_with fail
 refine (zhq C D n j o m d S q _ HH.out hd hS hm).mono ?_
 cases J:pE C .part d q with
 |error p=>
  rintro e w1 ⟨rfl,Y⟩
  have M:Hid (Below j w w1):=(HH.out.back (IS.refl _ _ _)).trans Y
  have Z:Hid (pE C .prod d q= .error p):=bdE HY.out J
  unfold Pan
  go_wp2
  refine⟨rfl,?_⟩
  rw[Z.out]
  exact⟨rfl,M.out⟩
 |ok a1=>
  rintro e w1 ⟨rfl,S1,m,s⟩
  have ae:=zc m
  have ag:=zc s
  clear m s
  have ad:=zc (bdO HY.out J)
  unfold exI
  have ak:=zaP J
  go_wp2
  go_loopg [5] (C.ts.length+1) (fun k l wr=>∃(A:Sv) (z:PS),l=exI z∧pE C .prod d q=pE C .prodT d z∧C.ts.length-z.pos<k∧C.ts.length-z.pos≤m∧IM C D n j o A z wr∧IS o S w A wr)
  case atStart=>exact⟨S1,a1,rfl,ad.out,by omega,by omega,ae.out,ag.out⟩
  case round=>
   obtain⟨A,z,rfl,hy,hk,al,m',s'⟩:=hrel
   have X:=zc hy
   have O:Hid (IM C D n j o A z wr):=m'
   have U:Hid (IS o S w A wr):=s'
   clear hy m' s'
   unfold exI
   cases hi:isT C z.pos 4 zv with
   |false=>
    have HZ:=zc (X.out.trans (zkP hi))
    go_wp2_with fail
    refine (zH C D n j o A z 4 zv _ O.out (by decide)).mono ?_
    rintro e w2 ⟨rfl,m,s⟩
    rw[hi] at m ⊢
    have H:=zc m
    have E:Hid (IS o S w A w2):=U.out.trans s
    clear m s
    go_wp2
    go_ret
    rw[HZ.out]
    exact⟨rfl,A,H.out,E.out⟩
   |true=>
    have aj:=zaz hi (by decide)
    have HZ:=zc (X.out.trans (zkQ hi))
    go_wp2_with fail
    refine (zH C D n j o A z 4 zv _ O.out (by decide)).mono ?_
    rintro e w2 ⟨rfl,m,s⟩
    rw[hi] at m ⊢
    have H:=zc m
    have E:Hid (IS o S w A w2):=U.out.trans s
    clear m s
    go_wp2_with fail
    refine (zhq C D n j o m d A (adv z) _ H.out hd hS (by rw[zw];omega)).mono ?_
    cases I:pE C .part d (adv z) with
    |error p=>
     rintro e w3 ⟨rfl,Y⟩
     have M:Hid (Below j w w3):=(HH.out.back E.out).trans Y
     have Z:Hid (pE C .prod d q= .error p):=bdE HZ.out I
     unfold Pan
     go_wp2
     refine⟨rfl,?_⟩
     rw[Z.out]
     exact⟨rfl,M.out⟩
    |ok L=>
     rintro e w3 ⟨rfl,S3,m,s⟩
     have ac:=zc m
     have N:Hid (IS o S w S3 w3):=E.out.trans s
     clear m s
     have aa:=zc (bdO HZ.out I)
     unfold exI
     have V:=zaP I
     rw[zw] at V
     have ai:0<L.pos:=by omega
     go_wp2_with fail
     refine (zdJ C D n j o S3 L ⟨8,0,sNone,sNone,(z.ex.length:Int)-1,(L.ex.length:Int)-1⟩ _ ac.out ai).mono ?_
     cases K:zM C ⟨8,0,sNone,sNone,(z.ex.length:Int)-1,(L.ex.length:Int)-1⟩ L with
     |error p=>
      rintro e w4 ⟨rfl,Y⟩
      have M:Hid (Below j w w4):=(HH.out.back N.out).trans Y
      have Z:Hid (pE C .prod d q= .error p):=bdE aa.out K
      unfold Pan
      go_wp2
      refine⟨rfl,?_⟩
      rw[Z.out]
      exact⟨rfl,M.out⟩
     |ok a4=>
      rintro e w4 ⟨rfl,S4,m,s⟩
      have af:=zc m
      have ah:Hid (IS o S w S4 w4):=N.out.trans s
      clear m s
      have ab:=zc (bdO aa.out K)
      have HP:Hid (a4.pos=L.pos):=by show _=_;rw[(zb1 K).1]
      go_wp2
      go_roundg (gk-1)
      case rel=>exact⟨S4,a4,rfl,ab.out,by have:=HP.out;omega,by have:=HP.out;omega,af.out,ah.out⟩
      case measure=>omega
theorem zkU (C:Cx) (E n j o m d:Nat) (S:Sv) (q:PS) (w:World) (h:IM C E n j o S q w) (hd:d≤20) (hS:zev C E n j o m) (hm:C.ts.length-q.pos≤m):
  Calls Tryz.prog 183 #[.pointer (some ⟨o,0,none⟩),.int .i64 d] w (zN C E n j o (pE C .sum d q) id exI S w):=by
 have HH:=zc h
 have HY:=zc (zgH C d q)
 clear h
 go_enter Tryz.func183,Tryz.ntmps183
 go_wp2_with fail
 refine (zfU C E n j o m d S q _ HH.out hd hS hm).mono ?_
 cases ad:pE C .prod d q with
 |error p=>
  rintro e w1 ⟨rfl,A⟩
  have V:Hid (Below j w w1):=(HH.out.back (IS.refl _ _ _)).trans A
  have Y:Hid (pE C .sum d q= .error p):=bdE HY.out ad
  unfold Pan
  go_wp2
  refine⟨rfl,?_⟩
  rw[Y.out]
  exact⟨rfl,V.out⟩
 |ok a1=>
  rintro e w1 ⟨rfl,S1,m,s⟩
  have ao:=zc m
  have an:=zc s
  clear m s
  have ak:=zc (bdO HY.out ad)
  unfold exI
  have ar:=zaP ad
  go_wp2
  go_loopg [5] (C.ts.length+1) (fun k l wr=>∃(D:Sv) (z:PS),l=exI z∧pE C .sum d q=pE C .sumT d z∧C.ts.length-z.pos<k∧C.ts.length-z.pos≤m∧IM C E n j o D z wr∧IS o S w D wr)
  case atStart=>exact⟨S1,a1,rfl,ak.out,by omega,by omega,ao.out,an.out⟩
  case round=>
   obtain⟨D,z,rfl,hy,hk,au,m',s'⟩:=hrel
   have aa:=zc hy
   have I:Hid (IM C E n j o D z wr):=m'
   have ag:Hid (IS o S w D wr):=s'
   clear hy m' s'
   unfold exI
   have aq:=I.out.mem.few
   cases hi:isT C z.pos 4 zaT with
   |true=>
    have ac:=zaz hi (by decide)
    have HZ:=zc (aa.out.trans (zkS hi))
    go_wp2_with fail
    refine (zbI C E n j o D z 4 zaT _ I.out).mono ?_
    rintro e U ⟨rfl,A⟩
    rw[hi]
    have H:Hid (IM C E n j o D z U):=I.out.later A
    have M:Hid (IS o S w D U):=(ag.out.trans (IS.below A))
    clear A
    obtain⟨c0,c1,c2,c3,c4,c5,c6,c7,c8,c9,cf⟩:=zaa H.out.cells
    go_wp2_with fail
    have K:Hid (IM C E n j o D (adv z) (U.setCell ⟨o,1,none⟩ (.int .i64 ((z.pos:Int)+1)))):=H.out.adv ac
    have L:Hid (IS o S w D (U.setCell ⟨o,1,none⟩ (.int .i64 ((z.pos:Int)+1)))):=M.out.set _ _
    refine (zfU C E n j o m d D (adv z) _ K.out hd hS (by rw[zw];omega)).mono ?_
    cases ai:pE C .prod d (adv z) with
    |error p=>
     rintro e w4 ⟨rfl,A⟩
     have V:Hid (Below j w w4):=(HH.out.back L.out).trans A
     have Y:Hid (pE C .sum d q= .error p):=bdE HZ.out ai
     unfold Pan
     go_wp2
     refine⟨rfl,?_⟩
     rw[Y.out]
     exact⟨rfl,V.out⟩
    |ok a4=>
     rintro e w4 ⟨rfl,S4,m,s⟩
     have ah:=zc m
     have N:Hid (IS o S w S4 w4):=L.out.trans s
     clear m s
     have aj:=zc (bdO HZ.out ai)
     unfold exI
     have O:=zaP ai
     rw[zw] at O
     have ab:0<a4.pos:=by omega
     go_wp2_with fail
     refine (zdJ C E n j o S4 a4 ⟨7,0,sNone,sNone,(z.ex.length:Int)-1,(a4.ex.length:Int)-1⟩ _ ah.out ab).mono ?_
     cases J:zM C ⟨7,0,sNone,sNone,(z.ex.length:Int)-1,(a4.ex.length:Int)-1⟩ a4 with
     |error p=>
      rintro e w5 ⟨rfl,A⟩
      have V:Hid (Below j w w5):=(HH.out.back N.out).trans A
      have Y:Hid (pE C .sum d q= .error p):=bdE aj.out J
      unfold Pan
      go_wp2
      refine⟨rfl,?_⟩
      rw[Y.out]
      exact⟨rfl,V.out⟩
     |ok a5=>
      rintro e w5 ⟨rfl,S5,m,s⟩
      have ae:=zc m
      have X:Hid (IS o S w S5 w5):=N.out.trans s
      clear m s
      have Z:=zc (bdO aj.out J)
      have HP:Hid (a5.pos=a4.pos):=by show _=_;rw[(zb1 J).1]
      go_wp2
      go_roundg (gk-1)
      case rel=>exact⟨S5,a5,rfl,Z.out,by have:=HP.out;omega,by have:=HP.out;omega,ae.out,X.out⟩
      case measure=>omega
   |false=>
    cases hj:isT C z.pos 4 zbN with
    |true=>
     have ac:=zaz hj (by decide)
     have HZ:=zc (aa.out.trans (zkT hi hj))
     go_wp2_with fail
     refine (zbI C E n j o D z 4 zaT _ I.out).mono ?_
     rintro e U ⟨rfl,A⟩
     rw[hi]
     have H:Hid (IM C E n j o D z U):=I.out.later A
     have M:Hid (IS o S w D U):=(ag.out.trans (IS.below A))
     clear A
     go_wp2_with fail
     refine (zbI C E n j o D z 4 zbN _ H.out).mono ?_
     rintro e w3 ⟨rfl,A⟩
     rw[hj]
     have K:Hid (IM C E n j o D z w3):=H.out.later A
     have L:Hid (IS o S w D w3):=(M.out.trans (IS.below A))
     clear A
     obtain⟨c0,c1,c2,c3,c4,c5,c6,c7,c8,c9,cf⟩:=zaa K.out.cells
     go_wp2_with fail
     have ah:Hid (IM C E n j o D (adv z) (w3.setCell ⟨o,1,none⟩ (.int .i64 ((z.pos:Int)+1)))):=K.out.adv ac
     have N:Hid (IS o S w D (w3.setCell ⟨o,1,none⟩ (.int .i64 ((z.pos:Int)+1)))):=L.out.set _ _
     refine (zfU C E n j o m d D (adv z) _ ah.out hd hS (by rw[zw];omega)).mono ?_
     cases J:pE C .prod d (adv z) with
     |error p=>
      rintro e w5 ⟨rfl,A⟩
      have V:Hid (Below j w w5):=(HH.out.back N.out).trans A
      have Y:Hid (pE C .sum d q= .error p):=bdE HZ.out J
      unfold Pan
      go_wp2
      refine⟨rfl,?_⟩
      rw[Y.out]
      exact⟨rfl,V.out⟩
     |ok a5=>
      rintro e w5 ⟨rfl,S5,m,s⟩
      have ae:=zc m
      have X:Hid (IS o S w S5 w5):=N.out.trans s
      clear m s
      have Z:=zc (bdO HZ.out J)
      unfold exI
      have O:=zaP J
      rw[zw] at O
      have ab:0<a5.pos:=by omega
      go_wp2_with fail
      refine (zdJ C E n j o S5 a5 ⟨6,0,sNone,sNone,(z.ex.length:Int)-1,(a5.ex.length:Int)-1⟩ _ ae.out ab).mono ?_
      cases af:zM C ⟨6,0,sNone,sNone,(z.ex.length:Int)-1,(a5.ex.length:Int)-1⟩ a5 with
      |error p=>
       rintro e w6 ⟨rfl,A⟩
       have V:Hid (Below j w w6):=(HH.out.back X.out).trans A
       have Y:Hid (pE C .sum d q= .error p):=bdE Z.out af
       unfold Pan
       go_wp2
       refine⟨rfl,?_⟩
       rw[Y.out]
       exact⟨rfl,V.out⟩
      |ok a6=>
       rintro e w6 ⟨rfl,S6,m,s⟩
       have al:=zc m
       have am:Hid (IS o S w S6 w6):=X.out.trans s
       clear m s
       have ap:=zc (bdO Z.out af)
       have HP:Hid (a6.pos=a5.pos):=by show _=_;rw[(zb1 af).1]
       go_wp2
       go_roundg (gk-1)
       case rel=>exact⟨S6,a6,rfl,ap.out,by have:=HP.out;omega,by have:=HP.out;omega,al.out,am.out⟩
       case measure=>omega
    |false=>
     have HZ:=zc (aa.out.trans (zkR hi hj))
     go_wp2_with fail
     refine (zbI C E n j o D z 4 zaT _ I.out).mono ?_
     rintro e U ⟨rfl,A⟩
     rw[hi]
     have H:Hid (IM C E n j o D z U):=I.out.later A
     have M:Hid (IS o S w D U):=(ag.out.trans (IS.below A))
     clear A
     go_wp2_with fail
     refine (zbI C E n j o D z 4 zbN _ H.out).mono ?_
     rintro e w3 ⟨rfl,A⟩
     rw[hj]
     have K:Hid (IM C E n j o D z w3):=H.out.later A
     have L:Hid (IS o S w D w3):=(M.out.trans (IS.below A))
     clear A
     go_wp2
     go_ret
     rw[HZ.out]
     exact⟨rfl,D,K.out,L.out⟩
theorem zkV (C:Cx) (A n j z m:Nat):zev C A n j z m:=by
 induction m with
 |zero=>intro d S q w o;omega
 |succ m D=>intro d S q w o E h;exact zkU C A n j z m d S q w h E D (by omega)
theorem zkW (C:Cx) (z n j o d:Nat) (S:Sv) (q:PS) (w:World) (h:IM C z n j o S q w) (A:d≤20):
  Calls Tryz.prog 183 #[.pointer (some ⟨o,0,none⟩),.int .i64 d] w (zN C z n j o (pE C .sum d q) id exI S w):=zkV C z n j o _ d S q w (Nat.lt_succ_self _) A h
theorem zhr {C:Cx} {s:ByteArray} (n:Nat): ∀{k:Nat} {q b:PS},za6 C s n k q= .ok b→b={q with pos:=q.pos+n}:=by
 induction n with
 |zero=>intro k q b h;cases h;rfl
 |succ n w=>
  intro k q b h
  rw[za6] at h
  obtain⟨a,o,j⟩:=zi h
  rw[w j,(zb0 o).1]
  show ({q with pos:=q.pos+1+n}:PS)=_
  congr 1
  omega
theorem zkX (x:Sm): ∀u∈smL x,u.oneCell'=true:=by
 intro u h
 simp[smL] at h
 rcases h with rfl|rfl|rfl<;>rfl
def stmtI (C:Cx) (k:Int) (n s:ByteArray) (q:PS):PR:=bd (pE C .sum 0 q) fun a=>bd (za6 C s s.size 0 a) fun b=>zX C k n b
theorem zdo (C:Cx) (gt A j D:Nat) (S:Sv) (q:PS) (E:Int) (n s:ByteArray) (w:World) (h:IM C gt A j D S q w) (hs:s.size≤100) (h0:0<s.size):
  Calls Tryz.prog 154 #[.pointer (some ⟨D,0,none⟩),.int .i64 E,.string n,.string s] w (zN C gt A j D (stmtI C E n s q) id (fun _=>.tuple #[]) S w):=by
 obtain⟨i0,hi,ai,aj,af⟩:=info_parts Tryz.infoStmt
 have HH:=zc h
 have HY:=zc (stmtI.eq_1 C E n s q)
 clear h
 go_enter Tryz.func154,Tryz.ntmps154
 go_wp2_with fail
 refine (zkW C gt A j D 0 S q _ HH.out (by omega)).mono ?_
 cases aa:pE C .sum 0 q with
 |error p=>
  rintro e w1 ⟨rfl,hb⟩
  have M:Hid (Below j w w1):=(HH.out.back (IS.refl _ _ _)).trans hb
  have V:Hid (stmtI C E n s q= .error p):=bdE HY.out aa
  unfold Pan
  go_wp2
  refine⟨rfl,?_⟩
  rw[V.out]
  exact⟨rfl,M.out⟩
 |ok a1=>
  rintro e w1 ⟨rfl,S1,m,s⟩
  have ak:=zc m
  have Y:=zc s
  clear m s
  have U:=zc (bdO HY.out aa)
  unfold exI
  go_wp2_with fail
  refine (zfO C gt A j D S1 a1 s _ ak.out hs).mono ?_
  cases K:za6 C s s.size 0 a1 with
  |error p=>
   rintro e Z ⟨rfl,hb⟩
   have M:Hid (Below j w Z):=(HH.out.back Y.out).trans hb
   have V:Hid (stmtI C E n s q= .error p):=bdE U.out K
   unfold Pan
   go_wp2
   refine⟨rfl,?_⟩
   rw[V.out]
   exact⟨rfl,M.out⟩
  |ok z=>
   rintro e Z ⟨rfl,S2,m,s⟩
   have o:=zc m
   have ae:Hid (IS D S w S2 Z):=Y.out.trans s
   clear m s
   have ad:=zc (bdO U.out K)
   have L:=zhr _ K
   have X:0<z.pos:=by rw[L];show 0<a1.pos+s.size;omega
   have HE:Hid (z.ex=a1.ex):=by show _=_;rw[L]
   clear L
   have am:=o.out.mem.inv.st
   obtain⟨c0,c1,c2,c3,c4,c5,c6,c7,c8,c9,cf⟩:=zaa o.out.cells
   go_wp2_with fail
   by_cases hn:z.st.length<80
   ·have HZ:=zc (ad.out.trans (show zX C E n z=_ from if_neg (by omega)))
    refine (zdj D z.st.length 80 _ (by omega)).mono ?_
    rintro e w' ⟨rfl,hw⟩
    rw[hw]
    clear hw w'
    have HN:Hid (some D≠S2.st.blk):=fun e=>o.out.free (.inr (.inr (.inr (.inl e.symm))))
    have al:=o.out.lt
    have H:=fun J=>(o.out.mem.own.st.alloc J)
    have ab:=fun J=>(o.out.alloc J).mem.base
    have O:=fun J=>(o.out.alloc J).lt
    have N:=fun J=>(o.out.alloc J).cells
    go_wp2_with (at_builtin;refine zcl _ rfl _ _ 25 rfl j 106 i0 _ 3 32 Tryz.underlying25 hi ai aj af rfl (by decide) (by decide) S2.st z.st.length _ (by rfl) (H _) Z.heap.size (smL ⟨E,n,(a1.ex.length:Int)-1⟩) (by rfl) (by exact heap_alloc_new Z _) rfl (zkX _) (by omega) (ab _) ?_;intro r' wz hr I ac;have g2:=(I.block D (O _) HN.out).trans (N _);obtain⟨d0,d1,d2,d3,d4,d5,d6,d7,d8,d9,df⟩:=zaa g2;have HR:Hid (OwnR wz j 106 3 r' (z.st.length+1) _):=hr;have ah:Hid (World.grownBy _ wz _):=I;have ag:Hid (_∨_):=ac;clear hr I ac g2 c0 c1 c2 c3 c4 c5 c6 c7 c8 c9 cf H ab O N)
    go_wp2
    go_end0
    obtain⟨m',s'⟩:=o.out.grow_st ((Below.refl _ _).alloc (Nat.le_refl _) _) ah.out HR.out ag.out hn
    rw[HZ.out]
    rw[←HE.out] at m'
    exact⟨rfl,_,m',ae.out.trans s'⟩
   ·have HZ:Hid (stmtI C E n s q= .error (zq C (z.pos-1))):=ad.out.trans (if_pos (by omega))
    refine (zdI C gt A j D S2 z z.st.length 80 _ o.out (by omega) X).mono ?_
    rintro e wz ⟨rfl,hb⟩
    have M:Hid (Below j w wz):=(HH.out.back ae.out).trans (hb.mono o.out.mem.base)
    have V:Hid (stmtI C E n s q= .error (zq C (z.pos-1))):=HZ.out
    unfold Pan
    go_wp2
    refine⟨rfl,?_⟩
    rw[V.out]
    exact⟨rfl,M.out⟩
def letJ (C:Cx) (k:Int) (q:PS):PR:=bd (zh C false q) fun a=>bd (zd C 4 cEq a.1) fun b=>stmtI C k a.2 cSemi b
def fnI (C:Cx) (q:PS):PR:=bd (zh C false q) fun a=>bd (za6 C cCall cCall.size 0 a.1) fun b=>bd (zd C 1 zd6 b) fun c=>stmtI C 2 a.2 cSemiRight c
def printI (C:Cx) (q:PS):PR:=bd (zd C 4 zm q) fun a=>stmtI C 4 sNone cShutSemi a
theorem zfV (C:Cx) (J n j o:Nat) (S:Sv) (q:PS) (w:World) (h:IM C J n j o S q w):
  Calls Tryz.prog 144 #[.pointer (some ⟨o,0,none⟩)] w (zN C J n j o (letJ C 1 q) id (fun _=>.tuple #[]) S w):=by
 have O:=zc h
 have HY:=zc (letJ.eq_1 C 1 q)
 clear h
 go_enter Tryz.func144,Tryz.ntmps144
 go_wp2_with fail
 refine (zcM C J n j o S q _ O.out).mono ?_
 cases I:zh C false q with
 |error p=>
  rintro e w1 ⟨rfl,D⟩
  have z:Hid (Below j w w1):=(O.out.back (IS.refl _ _ _)).trans D
  have H:Hid (letJ C 1 q= .error p):=bdE HY.out I
  unfold Pan
  go_wp2
  refine⟨rfl,?_⟩
  rw[H.out]
  exact⟨rfl,z.out⟩
 |ok U=>
  rintro e w1 ⟨rfl,S1,m,s⟩
  have aa:=zc m
  have L:=zc s
  clear m s
  have A:=zc (bdO HY.out I)
  go_wp2_with fail
  refine (zbQ C J n j o S1 (U.1) 61 _ aa.out).mono ?_
  cases M:zd C 4 cEq (U.1) with
  |error p=>
   rintro e w2 ⟨rfl,D⟩
   have z:Hid (Below j w w2):=(O.out.back L.out).trans D
   have H:Hid (letJ C 1 q= .error p):=bdE A.out M
   unfold Pan
   go_wp2
   refine⟨rfl,?_⟩
   rw[H.out]
   exact⟨rfl,z.out⟩
  |ok a2=>
   rintro e w2 ⟨rfl,S2,m,s⟩
   have Z:=zc m
   have N:Hid (IS o S w S2 w2):=L.out.trans s
   clear m s
   have K:=zc (bdO A.out M)
   go_wp2_with fail
   refine (zdo C J n j o S2 a2 1 U.2 cSemi _ Z.out (by decide) (by decide)).mono ?_
   cases E:stmtI C 1 U.2 cSemi a2 with
   |error p=>
    rintro e V ⟨rfl,D⟩
    have z:Hid (Below j w V):=(O.out.back N.out).trans D
    have H:Hid (letJ C 1 q= .error p):=K.out.trans E
    unfold Pan
    go_wp2
    refine⟨rfl,?_⟩
    rw[H.out]
    exact⟨rfl,z.out⟩
   |ok a3=>
    rintro e V ⟨rfl,S3,m,s⟩
    have X:=zc m
    have Y:Hid (IS o S w S3 V):=N.out.trans s
    clear m s
    have ab:=zc (K.out.trans E)
    go_wp2
    go_end0
    rw[ab.out]
    exact⟨rfl,S3,X.out,Y.out⟩
theorem zhs (C:Cx) (J n j o:Nat) (S:Sv) (q:PS) (w:World) (h:IM C J n j o S q w):
  Calls Tryz.prog 90 #[.pointer (some ⟨o,0,none⟩)] w (zN C J n j o (letJ C 3 q) id (fun _=>.tuple #[]) S w):=by
 have O:=zc h
 have HY:=zc (letJ.eq_1 C 3 q)
 clear h
 go_enter Tryz.func90,Tryz.ntmps90
 go_wp2_with fail
 refine (zcM C J n j o S q _ O.out).mono ?_
 cases I:zh C false q with
 |error p=>
  rintro e w1 ⟨rfl,D⟩
  have z:Hid (Below j w w1):=(O.out.back (IS.refl _ _ _)).trans D
  have H:Hid (letJ C 3 q= .error p):=bdE HY.out I
  unfold Pan
  go_wp2
  refine⟨rfl,?_⟩
  rw[H.out]
  exact⟨rfl,z.out⟩
 |ok U=>
  rintro e w1 ⟨rfl,S1,m,s⟩
  have aa:=zc m
  have L:=zc s
  clear m s
  have A:=zc (bdO HY.out I)
  go_wp2_with fail
  refine (zbQ C J n j o S1 (U.1) 61 _ aa.out).mono ?_
  cases M:zd C 4 cEq (U.1) with
  |error p=>
   rintro e w2 ⟨rfl,D⟩
   have z:Hid (Below j w w2):=(O.out.back L.out).trans D
   have H:Hid (letJ C 3 q= .error p):=bdE A.out M
   unfold Pan
   go_wp2
   refine⟨rfl,?_⟩
   rw[H.out]
   exact⟨rfl,z.out⟩
  |ok a2=>
   rintro e w2 ⟨rfl,S2,m,s⟩
   have Z:=zc m
   have N:Hid (IS o S w S2 w2):=L.out.trans s
   clear m s
   have K:=zc (bdO A.out M)
   go_wp2_with fail
   refine (zdo C J n j o S2 a2 3 U.2 cSemi _ Z.out (by decide) (by decide)).mono ?_
   cases E:stmtI C 3 U.2 cSemi a2 with
   |error p=>
    rintro e V ⟨rfl,D⟩
    have z:Hid (Below j w V):=(O.out.back N.out).trans D
    have H:Hid (letJ C 3 q= .error p):=K.out.trans E
    unfold Pan
    go_wp2
    refine⟨rfl,?_⟩
    rw[H.out]
    exact⟨rfl,z.out⟩
   |ok a3=>
    rintro e V ⟨rfl,S3,m,s⟩
    have X:=zc m
    have Y:Hid (IS o S w S3 V):=N.out.trans s
    clear m s
    have ab:=zc (K.out.trans E)
    go_wp2
    go_end0
    rw[ab.out]
    exact⟨rfl,S3,X.out,Y.out⟩
theorem zfW (C:Cx) (E n j o:Nat) (S:Sv) (q:PS) (w:World) (h:IM C E n j o S q w):
  Calls Tryz.prog 145 #[.pointer (some ⟨o,0,none⟩)] w (zN C E n j o (fnI C q) id (fun _=>.tuple #[]) S w):=by
 have I:=zc h
 have HY:=zc (fnI.eq_1 C q)
 clear h
 go_enter Tryz.func145,Tryz.ntmps145
 go_wp2_with fail
 refine (zcM C E n j o S q _ I.out).mono ?_
 cases L:zh C false q with
 |error p=>
  rintro e w1 ⟨rfl,A⟩
  have z:Hid (Below j w w1):=(I.out.back (IS.refl _ _ _)).trans A
  have D:Hid (fnI C q= .error p):=bdE HY.out L
  unfold Pan
  go_wp2
  refine⟨rfl,?_⟩
  rw[D.out]
  exact⟨rfl,z.out⟩
 |ok Y=>
  rintro e w1 ⟨rfl,S1,m,s⟩
  have ac:=zc m
  have N:=zc s
  clear m s
  have J:=zc (bdO HY.out L)
  go_wp2_with fail
  refine (zfO C E n j o S1 (Y.1) cCall _ ac.out (by decide)).mono ?_
  cases U:za6 C cCall cCall.size 0 (Y.1) with
  |error p=>
   rintro e w2 ⟨rfl,A⟩
   have z:Hid (Below j w w2):=(I.out.back N.out).trans A
   have D:Hid (fnI C q= .error p):=bdE J.out U
   unfold Pan
   go_wp2
   refine⟨rfl,?_⟩
   rw[D.out]
   exact⟨rfl,z.out⟩
  |ok a2=>
   rintro e w2 ⟨rfl,S2,m,s⟩
   have ab:=zc m
   have V:Hid (IS o S w S2 w2):=N.out.trans s
   clear m s
   have M:=zc (bdO J.out U)
   go_wp2_with fail
   refine (zdH C E n j o S2 a2 zd6 _ ab.out).mono ?_
   cases K:zd C 1 zd6 a2 with
   |error p=>
    rintro e w3 ⟨rfl,A⟩
    have z:Hid (Below j w w3):=(I.out.back V.out).trans A
    have D:Hid (fnI C q= .error p):=bdE M.out K
    unfold Pan
    go_wp2
    refine⟨rfl,?_⟩
    rw[D.out]
    exact⟨rfl,z.out⟩
   |ok a3=>
    rintro e w3 ⟨rfl,S3,m,s⟩
    have aa:=zc m
    have H:Hid (IS o S w S3 w3):=V.out.trans s
    clear m s
    have O:=zc (bdO M.out K)
    go_wp2_with fail
    refine (zdo C E n j o S3 a3 2 Y.2 cSemiRight _ aa.out (by decide) (by decide)).mono ?_
    cases X:stmtI C 2 Y.2 cSemiRight a3 with
    |error p=>
     rintro e w4 ⟨rfl,A⟩
     have z:Hid (Below j w w4):=(I.out.back H.out).trans A
     have D:Hid (fnI C q= .error p):=O.out.trans X
     unfold Pan
     go_wp2
     refine⟨rfl,?_⟩
     rw[D.out]
     exact⟨rfl,z.out⟩
    |ok a4=>
     rintro e w4 ⟨rfl,S4,m,s⟩
     have ad:=zc m
     have ae:Hid (IS o S w S4 w4):=H.out.trans s
     clear m s
     have Z:=zc (O.out.trans X)
     go_wp2
     go_end0
     rw[Z.out]
     exact⟨rfl,S4,ad.out,ae.out⟩
theorem zht (C:Cx) (H n j o:Nat) (S:Sv) (q:PS) (w:World) (h:IM C H n j o S q w):
  Calls Tryz.prog 146 #[.pointer (some ⟨o,0,none⟩)] w (zN C H n j o (printI C q) id (fun _=>.tuple #[]) S w):=by
 have J:=zc h
 have Y:=zc (printI.eq_1 C q)
 clear h
 go_enter Tryz.func146,Tryz.ntmps146
 go_wp2_with fail
 refine (zbQ C H n j o S q 40 _ J.out).mono ?_
 cases A:zd C 4 zm q with
 |error p=>
  rintro e X ⟨rfl,L⟩
  have I:Hid (Below j w X):=(J.out.back (IS.refl _ _ _)).trans L
  have N:Hid (printI C q= .error p):=bdE Y.out A
  unfold Pan
  go_wp2
  refine⟨rfl,?_⟩
  rw[N.out]
  exact⟨rfl,I.out⟩
 |ok Z=>
  rintro e X ⟨rfl,S1,m,s⟩
  have M:=zc m
  have D:=zc s
  clear m s
  have z:=zc (bdO Y.out A)
  go_wp2_with fail
  refine (zdo C H n j o S1 Z 4 sNone cShutSemi _ M.out (by decide) (by decide)).mono ?_
  cases E:stmtI C 4 sNone cShutSemi Z with
  |error p=>
   rintro e U ⟨rfl,L⟩
   have I:Hid (Below j w U):=(J.out.back D.out).trans L
   have N:Hid (printI C q= .error p):=z.out.trans E
   unfold Pan
   go_wp2
   refine⟨rfl,?_⟩
   rw[N.out]
   exact⟨rfl,I.out⟩
  |ok a2=>
   rintro e U ⟨rfl,S2,m,s⟩
   have K:=zc m
   have V:Hid (IS o S w S2 U):=D.out.trans s
   clear m s
   have O:=zc (z.out.trans E)
   go_wp2
   go_end0
   rw[O.out]
   exact⟨rfl,S2,K.out,V.out⟩
theorem zhu (C:Cx) (z n j o:Nat) (S:Sv) (q:PS) (w:World) (h:IM C z n j o S q w):
  Calls Tryz.prog 147 #[.pointer (some ⟨o,0,none⟩)] w (zN C z n j o (stmtI C 5 sNone cSemi q) id (fun _=>.tuple #[]) S w):=by
 have I:=zc h
 clear h
 go_enter Tryz.func147,Tryz.ntmps147
 go_wp2_with fail
 refine (zdo C z n j o S q 5 sNone cSemi _ I.out (by decide) (by decide)).mono ?_
 cases A:stmtI C 5 sNone cSemi q with
 |error p=>
  rintro e E ⟨rfl,H⟩
  unfold Pan
  go_wp2
  refine⟨rfl,?_⟩
  rw[A]
  exact⟨rfl,H⟩
 |ok a=>
  rintro e E ⟨rfl,J,m,s⟩
  have K:=zc m
  have D:=zc s
  clear m s
  go_wp2
  go_end0
  rw[A]
  exact⟨rfl,J,K.out,D.out⟩
theorem zkY (C:Cx) (z n j o:Nat) (S:Sv) (q:PS) (w:World) (h:IM C z n j o S q w):
  Calls Tryz.prog 148 #[.pointer (some ⟨o,0,none⟩)] w (zN C z n j o (stmtI C 6 sNone cSemi q) id (fun _=>.tuple #[]) S w):=by
 have I:=zc h
 clear h
 go_enter Tryz.func148,Tryz.ntmps148
 go_wp2_with fail
 refine (zdo C z n j o S q 6 sNone cSemi _ I.out (by decide) (by decide)).mono ?_
 cases A:stmtI C 6 sNone cSemi q with
 |error p=>
  rintro e E ⟨rfl,H⟩
  unfold Pan
  go_wp2
  refine⟨rfl,?_⟩
  rw[A]
  exact⟨rfl,H⟩
 |ok a=>
  rintro e E ⟨rfl,J,m,s⟩
  have K:=zc m
  have D:=zc s
  clear m s
  go_wp2
  go_end0
  rw[A]
  exact⟨rfl,J,K.out,D.out⟩
def zcg (C:Cx) (i:Nat):ByteArray:=if (ze C i).kind==1 then (ze C i).text else sNone
theorem zhv (C:Cx) (D n j z:Nat) (S:Sv) (q:PS) (w:World) (h:IM C D n j z S q w):
  Calls Tryz.prog 89 #[.pointer (some ⟨z,0,none⟩)] w fun e I=>e= .returned (.string (zcg C q.pos))∧Below w.heap.size w I:=by
 have H:=zc h
 clear h
 cases E:((ze C q.pos).kind==1) with
 |true=>
  have A:Hid (zcg C q.pos=(ze C q.pos).text):=by show _=_;rw[zcg,E];rfl
  go_enter Tryz.func89,Tryz.ntmps89
  go_wp2_with fail
  refine (zbk C D n j z S q _ H.out).mono ?_
  rintro e J ⟨rfl,o⟩
  unfold tkV
  go_wp2
  go_ret
  rw[A.out]
  exact⟨rfl,o.alloc o.size _⟩
 |false=>
  have A:Hid (zcg C q.pos=sNone):=by show _=_;rw[zcg,E];rfl
  go_enter Tryz.func89,Tryz.ntmps89
  go_wp2_with fail
  refine (zbk C D n j z S q _ H.out).mono ?_
  rintro e J ⟨rfl,o⟩
  unfold tkV
  go_wp2
  go_ret
  rw[A.out]
  exact⟨rfl,o.alloc o.size _⟩
theorem OwnR.stmtName {w:World} {j:Nat} {r:Rw} {l:List Sm} {x:Sm} (h:OwnR w j 106 3 r (l++[x]).length ((l++[x]).flatMap smL)): ∃g,r.a=some ⟨g,0,none⟩∧w.cell? ⟨g,l.length*3+1,none⟩=some (.string x.name):=by
 rcases h.2 with ⟨_,D⟩|⟨g,A,E,n,_⟩
 ·simp at D
 ·simp only[Value.slice.injEq] at n
  have o:=h
  unfold OwnR at o
  rw[n.1,n.2.2] at o
  refine⟨g,n.1,?_⟩
  rw[World.ownsRow.cellAt o _ (by simp;omega)]
  have z: ∀l:List Sm,(l.flatMap smL).length=l.length*3:=by
   intro l
   induction l with
   |nil=>rfl
   |cons y l q=>simp[List.flatMap_cons,smL,q] at q ⊢;omega
  rw[List.flatMap_append,List.getElem?_append_right (by rw[z];omega),z]
  simp[smL]
theorem zkZ (C:Cx) (I n j A:Nat) (S:Sv) (q:PS) (l:List Sm) (x:Sm) (w:World) (h:IM C I n j A S q w) (O:q.st=l++[x]) (J:x.name.size≤281474976710656) (hp:0<q.pos):
  Calls Tryz.prog 179 #[.pointer (some ⟨A,0,none⟩)] w (zN C I n j A (zn C ⟨1,x.name,x.name,sNone⟩ q) id (fun _=>.tuple #[]) S w):=by
 have Z:=zc h
 obtain⟨_,_,_,_,_,_,_,E,_,_,_⟩:=zaa h.cells
 have K:=h.mem.own.st
 rw[O] at K E
 obtain⟨g,hg,hc⟩:=K.stmtName
 have H:=h.mem.inv.st
 rw[O] at H
 have D:(l++[x]).length=l.length+1:=by simp
 rw[D] at E H
 rw[hg] at E
 have C7:=zc E
 have CN:=zc hc
 have e1:((l.length+1:Nat):Int)-1=(l.length:Int):=by omega
 have e2:(l.length:Int)+1-1=(l.length:Int):=by omega
 have ab:IntKind.i64.wrap (l.length:Int)=(l.length:Int):=IntWalk.i64_in _ ⟨by omega,by omega⟩
 have aa:(l.length:Int)<((l.length+1:Nat):Int):=by omega
 have V:(l.length:Int)<(l.length:Int)+1:=by omega
 have X: ∀d Y,Calls Tryz.prog 85 #[.string x.name] (grow (redrawn w d) Y) fun e L=>e= .returned (.string x.name)∧∃p:Regrown,L=grow (redrawn w p.d) p.os:=fun d Y=>Calls.regrown_of (zhl _ _ J)
 clear h E hc K hg O
 go_enter Tryz.func179,Tryz.ntmps179
 go_wp2_with fail
 have k7:=cell_regrown C7.out
 have kN:=cell_regrown CN.out
 refine wp_region_quiet_below (by kernel_rfl) (by kernel_rfl) ?_
 repeat (go_big_quiet_step (exact X _ _))
 refine wpQuiet_nil ?_
 intro w1 M
 obtain⟨⟨dq,ac⟩,o⟩:=M
 have z:Hid (Below w.heap.size w w1):=by show Below _ _ _;rw[o];exact below_regrown _ _ _
 clear o k7 kN X C7 CN
 have N:Hid (IM C I n j A S q w1):=Z.out.later z.out
 go_wp2_with fail
 refine (zet C I n j A S q ⟨1,x.name,x.name,sNone⟩ _ N.out hp).mono ?_
 cases hn:zn C ⟨1,x.name,x.name,sNone⟩ q with
 |error p=>
  rintro e U ⟨rfl,hb⟩
  have HB:Hid (Below j w U):=(z.out.mono Z.out.mem.base).trans hb
  unfold Pan
  go_wp2
  refine⟨rfl,?_⟩
  rw[hn]
  exact⟨rfl,HB.out⟩
 |ok a=>
  rintro e U ⟨rfl,S1,m,s⟩
  have HM:=zc m
  have HS:Hid (IS A S w S1 U):=(IS.below z.out).trans s
  clear m s
  go_wp2
  go_end0
  rw[hn]
  exact⟨rfl,S1,HM.out,HS.out⟩
def Fr (e:TypeId) (size:Nat) (w:World) (b:Nat) (r:Rw) (n:Nat) (xs:List Value) (S:Sv):Prop:=OwnR w b e size r n xs∧∀k,r.blk=some k→¬S.has k
theorem Fr.ngp {C:Cx} {D o j z size b n:Nat} {S:Sv} {q:PS} {w:World} {e:TypeId} {r:Rw} {xs:List Value} (f:Fr e size w b r n xs S) (h:IM C D o j z S q w) (E:e≠59) {k:Nat} (A:r.blk=some k):k≠z:=by
 rintro rfl
 obtain⟨_,_,c,g⟩:=f.1.typed A
 rw[h.cells] at g
 simp only[Option.some.injEq,Obj.cells.injEq] at g
 exact E g.2.1.symm
theorem Fr.ngt {C:Cx} {z o j E size b n:Nat} {S:Sv} {q:PS} {w:World} {e:TypeId} {r:Rw} {xs:List Value} (f:Fr e size w b r n xs S) (h:IM C z o j E S q w) (H:e≠111) {k:Nat} (D:r.blk=some k):k≠z:=by
 rintro rfl
 obtain⟨_,_,c,g⟩:=f.1.typed D
 obtain⟨I,A⟩:=zeN h.mem.tok
 rw[A] at g
 simp only[Option.some.injEq,Obj.cells.injEq] at g
 exact H g.2.1.symm
theorem Fr.step {C:Cx} {I o j E size b n:Nat} {S A:Sv} {q:PS} {w z:World} {e:TypeId} {r:Rw} {xs:List Value} (f:Fr e size w b r n xs S) (h:IM C I o j E S q w) (J:e≠59) (s:IS E S w A z):Fr e size z b r n xs A:=by
 refine⟨f.1.keep fun k g=>s.block k (f.1.typed g).2.1 (f.2 k g) (f.ngp h J g),fun k g H=>?_⟩
 rcases s.sub k H with D|D
 ·exact f.2 k g D
 ·have:=(f.1.typed g).2.1
  omega
theorem Fr.low {size b h n:Nat} {S:Sv} {w:World} {e:TypeId} {r:Rw} {xs:List Value} (f:Fr e size w b r n xs S) (j:h≤b):Fr e size w h r n xs S:=⟨f.1.low j,f.2⟩
theorem Fr.later {size b n:Nat} {S:Sv} {w h:World} {e:TypeId} {r:Rw} {xs:List Value} (f:Fr e size w b r n xs S) (j:Below w.heap.size w h):Fr e size h b r n xs S:=⟨f.1.keep fun k g=>j.block k (f.1.typed g).2.1,f.2⟩
theorem IM.aside {C:Cx} {w n j o:Nat} {S:Sv} {q:PS} {W D:World} {b:Option Nat} (h:IM C w n j o S q W) (z:W.grownBy D b) (A: ∀k,b=some k→¬S.has k∧k≠o∧k≠w):IM C w n j o S q D:=by
 refine⟨⟨h.mem.own.keep fun k g=>z.block k (h.mem.own.has g).2 fun e=>(A k e.symm).1 g,h.mem.inv,zbs h.mem.tok (z.block w (zak h.mem.tok).1 fun e=>(A w e.symm).2.2 rfl),h.mem.few,Nat.le_trans h.mem.base z.size⟩,(z.block o h.lt fun e=>(A o e.symm).2.1 rfl).trans h.cells,h.ge⟩
theorem IS.aside {q:Nat} {S z:Sv} {w W o:World} {b:Option Nat} (s:IS q S w z W) (h:W.grownBy o b) (D: ∀k,b=some k→w.heap.size≤k):IS q S w z o:=
 ⟨h.os.trans s.os,h.tape.trans s.tape,h.output.trans s.output,Nat.le_trans s.size h.size,fun k n A j=>(h.block k (Nat.lt_of_lt_of_le n s.size) fun e=>by have:=D k e.symm;omega).trans (s.block k n A j),s.sub⟩
theorem Fr.grown {size b n:Nat} {S:Sv} {W E:World} {e:TypeId} {r o:Rw} {xs H:List Value} {C:Cx} {J A j I:Nat} {q:PS} (f:Fr e size W b r n xs S) (h:IM C J A j I S q W) (K:OwnR E b e size o (n+1) H) (z:o.blk=r.blk∨o.blk=some W.heap.size):Fr e size E b o (n+1) H S:=by
 refine⟨K,fun k g D=>?_⟩
 rcases z with w|w
 ·exact f.2 k (w.symm.trans g) D
 ·have L:W.heap.size=k:=Option.some.inj (w.symm.trans g)
  have:=(h.mem.own.has D).2
  omega
theorem zla {α:Type} (f:α→List Value) (m:Nat) (h: ∀x,(f x).length=m) (l:List α):(l.flatMap f).length=l.length*m:=by
 induction l with
 |nil=>simp
 |cons y l j=>rw[List.flatMap_cons,List.length_append,h,j,List.length_cons,Nat.succ_mul];omega
theorem zlb {α:Type} (f:α→List Value) (m:Nat) (n: ∀x,(f x).length=m): ∀(l:List α) (j i:Nat) (x:α),l[j]? =some x→i<m→(l.flatMap f)[j*m+i]? =(f x)[i]?:=by
 intro l
 induction l with
 |nil=>intro j i x h;simp at h
 |cons y l q=>
  intro j i x h o
  rw[List.flatMap_cons]
  match j with
  |0=>
   simp only[List.getElem?_cons_zero,Option.some.injEq] at h
   subst h
   rw[Nat.zero_mul,Nat.zero_add,List.getElem?_append_left (by rw[n];exact o)]
  |j+1=>
   simp only[List.getElem?_cons_succ] at h
   rw[List.getElem?_append_right (by rw[n,Nat.succ_mul];omega),n,←q j i x h o]
   congr 1
   rw[Nat.succ_mul]
   omega
theorem OwnR.elem {α:Type} {f:α→List Value} {m:Nat} (J: ∀x,(f x).length=m) {w:World} {n:Nat} {e:TypeId} {r:Rw} {l:List α} (h:OwnR w n e m r l.length (l.flatMap f)) {j:Nat} {x:α} (A:l[j]? =some x): ∃g,r.a=some ⟨g,0,none⟩∧∀i,i<m→w.cell? ⟨g,j*m+i,none⟩=(f x)[i]?:=by
 have z:j<l.length:=(List.getElem?_eq_some_iff.1 A).1
 rcases h.2 with ⟨_,K⟩|⟨g,D,E,o,_⟩
 ·omega
 ·simp only[Value.slice.injEq] at o
  have q:=h
  unfold OwnR at q
  rw[o.1,o.2.2] at q
  refine⟨g,o.1,fun i H=>?_⟩
  have I:j*m+i<l.length*m:=by
   have:=Nat.mul_le_mul_right m z
   rw[Nat.succ_mul] at this
   omega
  rw[World.ownsRow.cellAt q _ I]
  exact zlb f m J l j i x A H
structure OwnMd (w:World) (base:Nat) (S:Sv) (m:Md):Prop where
 rq:OwnR w base 9 1 S.rq m.rq.length (m.rq.map .string)
 im:OwnR w base 100 3 S.im m.im.length (m.im.flatMap imL)
 ep:OwnR w base 102 4 S.ep m.ep.length (m.ep.flatMap epL)
 st:OwnR w base 106 3 S.st m.st.length (m.st.flatMap smL)
 ex:OwnR w base 108 6 S.ex m.ex.length (m.ex.flatMap exL)
theorem OwnMod.md {w:World} {j:Nat} {S:Sv} {q:PS} (h:OwnMod w j S q):OwnMd w j S (zdA q):=⟨h.rq,h.im,h.ep,h.st,h.ex⟩
theorem OwnMd.later {w o:World} {j:Nat} {S:Sv} {m:Md} (h:OwnMd w j S m) (n:Below w.heap.size w o):OwnMd o j S m:=
 ⟨h.rq.keep fun k g=>n.block k (h.rq.typed g).2.1,h.im.keep fun k g=>n.block k (h.im.typed g).2.1,h.ep.keep fun k g=>n.block k (h.ep.typed g).2.1,h.st.keep fun k g=>n.block k (h.st.typed g).2.1,h.ex.keep fun k g=>n.block k (h.ex.typed g).2.1⟩
theorem OwnMd.alloc {w:World} {j:Nat} {S:Sv} {m:Md} (h:OwnMd w j S m) (o:Obj):OwnMd (w.alloc o) j S m:=h.later ((Below.refl _ _).alloc (Nat.le_refl _) _)
def zt (S:Sv) (m:Md):Value:=.agg #[.slice S.rq.a m.rq.length S.rq.cap,.slice S.im.a m.im.length S.im.cap,.slice S.ep.a m.ep.length S.ep.cap,.slice S.st.a m.st.length S.st.cap,.slice S.ex.a m.ex.length S.ex.cap]
theorem OwnMd.expr {w:World} {n:Nat} {S:Sv} {m:Md} (h:OwnMd w n S m) {i:Nat} (q:i<m.ex.length): ∃g,S.ex.a=some ⟨g,0,none⟩∧g<w.heap.size∧w.cell? ⟨g,i*6,none⟩=some (.int .i64 (m.ex.getD i zf).kind)∧w.cell? ⟨g,i*6+1,none⟩=some (.int .i64 (m.ex.getD i zf).num)∧w.cell? ⟨g,i*6+2,none⟩=some (.string (m.ex.getD i zf).name)∧w.cell? ⟨g,i*6+3,none⟩=some (.string (m.ex.getD i zf).field)∧w.cell? ⟨g,i*6+4,none⟩=some (.int .i64 (m.ex.getD i zf).l)∧w.cell? ⟨g,i*6+5,none⟩=some (.int .i64 (m.ex.getD i zf).r):=by
 obtain⟨g,o,j⟩:=OwnR.elem (f:=exL) (m:=6) (fun _=>rfl) h.ex (List.getElem?_eq_getElem q)
 rw[zdf q]
 exact⟨g,o,(h.ex.typed (by rw[Rw.blk,o];rfl)).2.1,j 0 (by omega),j 1 (by omega),j 2 (by omega),j 3 (by omega),j 4 (by omega),j 5 (by omega)⟩
def zbR (P:Prop) (e:Ending):Prop:=∃b,e= .returned (.bool b)∧(b=true↔P)
theorem zaX {α:Type} {l:List α} {j:Nat} (h:j<l.length): ∃x,l[j]? =some x:=⟨_,List.getElem?_eq_getElem h⟩
theorem zc5 {α:Type} {n o:List α} {j:Nat} {x:α} (h:n.take j=o.take j) (q:n[j]? =some x) (z:o[j]? =some x):n.take (j+1)=o.take (j+1):=by
 obtain⟨a,rfl⟩:=List.getElem?_eq_some_iff.1 q
 obtain⟨b,w⟩:=List.getElem?_eq_some_iff.1 z
 rw[List.take_succ_eq_append_getElem a,List.take_succ_eq_append_getElem b,h,w]
theorem zc6 {α:Type} {j n:List α} (o:j.length=n.length) (h:j.take j.length=n.take j.length):j=n:=by
 rw[List.take_length,o,List.take_length] at h
 exact h
theorem zew {a b:ByteArray} (h:(a.toList==b.toList)=true):a=b:=(zj5 a b).1 h
def zfX (x y:ByteArray):Bool:=x.toList==y.toList
theorem zfc {x y:ByteArray}:zfX x y=true↔x=y:=⟨fun h=>zew h,fun h=>by rw[h];exact beq_self_eq_true _⟩
theorem zlc (q A:Option Addr) (j n D z:Nat) (w:World) (h:(j:Int)≠(n:Int)):Calls Tryz.prog 104 #[.slice q j D,.slice A n z] w fun e o=>e= .returned (.bool false)∧Below w.heap.size w o:=by
 go_enter Tryz.func104,Tryz.ntmps104
 go_wp2
 go_ret
 exact⟨rfl,Below.refl _ _⟩
theorem zld (j n:Option Addr) (q o:Nat) (w:World):Calls Tryz.prog 104 #[.slice j 0 q,.slice n 0 o] w fun e h=>e= .returned (.bool true)∧Below w.heap.size w h:=by
 go_enter Tryz.func104,Tryz.ntmps104
 go_wp2
 go_loopg [13] 1 (fun k i wr=>k=1∧i= .int .i64 0∧wr=w)
 case atStart=>exact⟨rfl,rfl,rfl⟩
 case round=>
  obtain⟨rfl,rfl,rfl⟩:=hrel
  go_wp2
  go_ret
  exact⟨rfl,Below.refl _ _⟩
theorem zle (b1 b2 L X:Nat) (N r2:Rw) (h q:List ByteArray) (w:World) (H:OwnR w b1 9 1 N h.length (h.flatMap (fun x=>[Value.string x]))) (I:OwnR w b2 9 1 r2 q.length (q.flatMap (fun x=>[Value.string x]))) (e1:N.a=some ⟨L,0,none⟩) (e2:r2.a=some ⟨X,0,none⟩) (hl:h.length=q.length) (U:h.length≤4294967296):
  Calls Tryz.prog 104 #[.slice (some ⟨L,0,none⟩) h.length N.cap,.slice (some ⟨X,0,none⟩) h.length r2.cap] w fun e w'=>zbR (h=q) e∧Below w.heap.size w w':=by
 have H1:=zc H
 have H2:=zc I
 have E1:=zc e1
 have E2:=zc e2
 have HL:=zc hl
 clear H I e1 e2 hl
 go_enter Tryz.func104,Tryz.ntmps104
 go_wp2
 go_loopg [13] h.length (fun k i wr=>∃j:Nat,i= .int .i64 j∧j+k=h.length∧h.take j=q.take j∧Below w.heap.size w wr)
 case atStart=>exact⟨0,rfl,by omega,rfl,Below.refl _ _⟩
 case round=>
  obtain⟨j,rfl,hj,ht,U⟩:=hrel
  have A:=zc U
  have HT:=zc ht
  clear U ht
  by_cases J:j<h.length
  ·have D:(j:Int)<(h.length:Int):=by omega
   obtain⟨x,Z⟩:=zaX J
   obtain⟨y,M⟩:=zaX (show j<q.length by rw[←HL.out];exact J)
   obtain⟨V,ga,H⟩:=OwnR.elem (f:=(fun x=>[Value.string x])) (m:=1) (fun _=>rfl) (H1.out.keep fun k g=>A.out.block k (H1.out.typed g).2.1) Z
   obtain rfl:V=L:=by have:=ga.symm.trans E1.out;simpa using this
   obtain⟨V,gb,I⟩:=OwnR.elem (f:=(fun x=>[Value.string x])) (m:=1) (fun _=>rfl) (H2.out.keep fun k g=>A.out.block k (H2.out.typed g).2.1) M
   obtain rfl:V=X:=by have:=gb.symm.trans E2.out;simpa using this
   have C0:=zc (H 0 (by omega))
   have D0:=zc (I 0 (by omega))
   have HX:=zc Z
   have HY:=zc M
   clear H I ga gb Z M
   obtain⟨K,z⟩: ∃K,K=j+1:=⟨_,rfl⟩
   have ej:(j:Int)+1=(K:Int):=by omega
   have HJ:=zc z
   clear z
   obtain⟨b,n⟩: ∃b,zfX x y=b:=⟨_,rfl⟩
   have aa:(x.toList==y.toList)=b:=n
   go_wp2
   have k0:=cell_regrown C0.out
   have m0:=cell_regrown D0.out
   simp only[Nat.add_zero,Nat.mul_one] at k0 m0
   refine wp_region_quiet_below (by kernel_rfl) (by kernel_rfl) ?_
   repeat (go_big_quiet_step (fail))
   refine wpQuiet_nil ?_
   intro w2 O
   obtain⟨⟨dq,Y⟩,o⟩:=O
   have E:Hid (Below w.heap.size w w2):=by show Below _ _ _;rw[o];exact A.out.trans ((below_regrown wr dq Y).mono A.out.size)
   clear o k0 m0 C0 D0
   cases b with
   |true=>
    go_wp2
    go_roundg (gk-1)
    case rel=>exact⟨K,rfl,by have:=HJ.out;omega,by rw[HJ.out];have e:=zfc.1 n;exact zc5 HT.out HX.out (by rw[e];exact HY.out),E.out⟩
    case measure=>omega
   |false=>
    go_wp2
    go_ret
    exact⟨⟨false,rfl,⟨fun k=>(by cases k),fun k=>(by have e:=HX.out;rw[k,HY.out] at e;cases e;rw[zfc.2 rfl] at n;cases n)⟩⟩,E.out⟩
  ·have D: ¬(j:Int)<(h.length:Int):=by omega
   obtain rfl:j=h.length:=by omega
   go_wp2
   go_ret
   exact⟨⟨true,rfl,⟨fun _=>zc6 HL.out HT.out,fun _=>rfl⟩⟩,A.out⟩
theorem zlf (E b2:Nat) (q z:Rw) (h j:List ByteArray) (w:World) (H:OwnR w E 9 1 q h.length (h.flatMap (fun x=>[Value.string x]))) (J:OwnR w b2 9 1 z j.length (j.flatMap (fun x=>[Value.string x]))) (M:h.length≤4294967296):
  Calls Tryz.prog 104 #[.slice q.a h.length q.cap,.slice z.a j.length z.cap] w fun e A=>zbR (h=j) e∧Below w.heap.size w A:=by
 by_cases n:h.length=j.length
 ·rw[←n]
  by_cases o:h.length=0
  ·rw[o]
   refine (zld _ _ _ _ w).mono ?_
   rintro e A ⟨rfl,D⟩
   exact⟨⟨true,rfl,⟨fun _=>(by rw[List.eq_nil_of_length_eq_zero o,List.eq_nil_of_length_eq_zero (n.symm.trans o)]),fun _=>rfl⟩⟩,D⟩
  ·rcases H.nil_or with ⟨_,_,e⟩|⟨N,K⟩
   ·exact absurd e o
   ·rcases J.nil_or with ⟨_,_,e⟩|⟨L,I⟩
    ·exact absurd (n.trans e) o
    ·rw[K,I]
     exact zle E b2 N L q z h j w H J K I n M
 ·refine (zlc _ _ _ _ _ _ w (by omega)).mono ?_
  rintro e A ⟨rfl,D⟩
  exact⟨⟨false,rfl,⟨fun k=>(by cases k),fun k=>absurd (by rw[k]) n⟩⟩,D⟩
def zc7 (x y:Im):Bool:=x.spec.toList==y.spec.toList&&x.first.toList==y.first.toList&&x.loc.toList==y.loc.toList
theorem zfd {x y:Im}:zc7 x y=true↔x=y:=by
 constructor
 ·intro h
  unfold zc7 at h
  simp only[Bool.and_eq_true] at h
  obtain⟨⟨j,n⟩,o⟩:=h
  cases x
  cases y
  simp only at j n o
  congr 1<;>first|(apply zew;assumption)|(apply eq_of_beq;assumption)
 ·intro h
  rw[h]
  simp[zc7]
theorem zlg (q A:Option Addr) (j n D z:Nat) (w:World) (h:(j:Int)≠(n:Int)):Calls Tryz.prog 105 #[.slice q j D,.slice A n z] w fun e o=>e= .returned (.bool false)∧Below w.heap.size w o:=by
 go_enter Tryz.func105,Tryz.ntmps105
 go_wp2
 go_ret
 exact⟨rfl,Below.refl _ _⟩
theorem zlh (j n:Option Addr) (q o:Nat) (w:World):Calls Tryz.prog 105 #[.slice j 0 q,.slice n 0 o] w fun e h=>e= .returned (.bool true)∧Below w.heap.size w h:=by
 go_enter Tryz.func105,Tryz.ntmps105
 go_wp2
 go_loopg [13] 1 (fun k i wr=>k=1∧i= .int .i64 0∧wr=w)
 case atStart=>exact⟨rfl,rfl,rfl⟩
 case round=>
  obtain⟨rfl,rfl,rfl⟩:=hrel
  go_wp2
  go_ret
  exact⟨rfl,Below.refl _ _⟩
theorem zli (O: ∀(x y:Im) (W:World),Sem.run Tryz.prog (binOp .neq 100 (.agg #[.string x.spec,.string x.first,.string x.loc]) (.agg #[.string y.spec,.string y.first,.string y.loc])) W= .ok (.bool (!zc7 x y)) W) (M: ∀(H:BinOp) (a b:Operand) (x y:Im) (W:World),Sem.run Tryz.prog (eqGuard H 100 a b (.agg #[.string x.spec,.string x.first,.string x.loc]) (.agg #[.string y.spec,.string y.first,.string y.loc])) W= .ok () W) (b1 b2 N g2:Nat) (V r2:Rw) (h A:List Im) (w:World) (q:OwnR w b1 100 3 V h.length (h.flatMap imL)) (z:OwnR w b2 100 3 r2 A.length (A.flatMap imL)) (e1:V.a=some ⟨N,0,none⟩) (e2:r2.a=some ⟨g2,0,none⟩) (hl:h.length=A.length) (Y:h.length≤4294967296):
  Calls Tryz.prog 105 #[.slice (some ⟨N,0,none⟩) h.length V.cap,.slice (some ⟨g2,0,none⟩) h.length r2.cap] w fun e w'=>zbR (h=A) e∧Below w.heap.size w w':=by
 have H1:=zc q
 have H2:=zc z
 have E1:=zc e1
 have E2:=zc e2
 have HL:=zc hl
 clear q z e1 e2 hl
 go_enter Tryz.func105,Tryz.ntmps105
 go_wp2
 go_loopg [13] h.length (fun k i wr=>∃j:Nat,i= .int .i64 j∧j+k=h.length∧h.take j=A.take j∧Below w.heap.size w wr)
 case atStart=>exact⟨0,rfl,by omega,rfl,Below.refl _ _⟩
 case round=>
  obtain⟨j,rfl,hj,ht,Y⟩:=hrel
  have E:=zc Y
  have HT:=zc ht
  clear Y ht
  by_cases K:j<h.length
  ·have J:(j:Int)<(h.length:Int):=by omega
   obtain⟨x,hx⟩:=zaX K
   obtain⟨y,U⟩:=zaX (show j<A.length by rw[←HL.out];exact K)
   obtain⟨Z,ga,q⟩:=OwnR.elem (f:=imL) (m:=3) (fun _=>rfl) (H1.out.keep fun k g=>E.out.block k (H1.out.typed g).2.1) hx
   obtain rfl:Z=N:=by have:=ga.symm.trans E1.out;simpa using this
   obtain⟨Z,gb,z⟩:=OwnR.elem (f:=imL) (m:=3) (fun _=>rfl) (H2.out.keep fun k g=>E.out.block k (H2.out.typed g).2.1) U
   obtain rfl:Z=g2:=by have:=gb.symm.trans E2.out;simpa using this
   have C0:=zc (q 0 (by omega))
   have D0:=zc (z 0 (by omega))
   have C1:=zc (q 1 (by omega))
   have D1:=zc (z 1 (by omega))
   have C2:=zc (q 2 (by omega))
   have D2:=zc (z 2 (by omega))
   have HX:=zc hx
   have HY:=zc U
   clear q z ga gb hx U
   obtain⟨L,D⟩: ∃L,L=j+1:=⟨_,rfl⟩
   have ej:(j:Int)+1=(L:Int):=by omega
   have HJ:=zc D
   clear D
   obtain⟨b,n⟩: ∃b,zc7 x y=b:=⟨_,rfl⟩
   have ab: ∀W:World,Sem.run Tryz.prog (binOp .neq 100 (.agg #[.string x.spec,.string x.first,.string x.loc]) (.agg #[.string y.spec,.string y.first,.string y.loc])) W= .ok (.bool !b) W:=fun W=>by rw[O,n]
   have ac: ∀(H:BinOp) (a b:Operand) (W:World),Sem.run Tryz.prog (eqGuard H 100 a b (.agg #[.string x.spec,.string x.first,.string x.loc]) (.agg #[.string y.spec,.string y.first,.string y.loc])) W= .ok () W:=fun H a b W=>M H a b x y W
   go_wp2
   have k0:=cell_regrown C0.out
   have m0:=cell_regrown D0.out
   have k1:=cell_regrown C1.out
   have m1:=cell_regrown D1.out
   have k2:=cell_regrown C2.out
   have m2:=cell_regrown D2.out
   simp only[Nat.add_zero] at k0 m0
   refine wp_region_quiet_below (by kernel_rfl) (by kernel_rfl) ?_
   repeat (go_big_quiet_step (fail))
   refine wpQuiet_nil ?_
   intro w2 X
   obtain⟨⟨dq,aa⟩,o⟩:=X
   have I:Hid (Below w.heap.size w w2):=by show Below _ _ _;rw[o];exact E.out.trans ((below_regrown wr dq aa).mono E.out.size)
   clear o k0 m0 C0 D0 k1 m1 C1 D1 k2 m2 C2 D2
   cases b with
   |true=>
    go_wp2
    go_roundg (gk-1)
    case rel=>exact⟨L,rfl,by have:=HJ.out;omega,by rw[HJ.out];have e:=zfd.1 n;exact zc5 HT.out HX.out (by rw[e];exact HY.out),I.out⟩
    case measure=>omega
   |false=>
    go_wp2
    go_ret
    exact⟨⟨false,rfl,⟨fun k=>(by cases k),fun k=>(by have e:=HX.out;rw[k,HY.out] at e;cases e;rw[zfd.2 rfl] at n;cases n)⟩⟩,I.out⟩
  ·have J: ¬(j:Int)<(h.length:Int):=by omega
   obtain rfl:j=h.length:=by omega
   go_wp2
   go_ret
   exact⟨⟨true,rfl,⟨fun _=>zc6 HL.out HT.out,fun _=>rfl⟩⟩,E.out⟩
theorem zlj (D: ∀(x y:Im) (W:World),Sem.run Tryz.prog (binOp .neq 100 (.agg #[.string x.spec,.string x.first,.string x.loc]) (.agg #[.string y.spec,.string y.first,.string y.loc])) W= .ok (.bool (!zc7 x y)) W) (A: ∀(O:BinOp) (a b:Operand) (x y:Im) (W:World),Sem.run Tryz.prog (eqGuard O 100 a b (.agg #[.string x.spec,.string x.first,.string x.loc]) (.agg #[.string y.spec,.string y.first,.string y.loc])) W= .ok () W) (L b2:Nat) (q z:Rw) (h j:List Im) (w:World) (J:OwnR w L 100 3 q h.length (h.flatMap imL)) (K:OwnR w b2 100 3 z j.length (j.flatMap imL)) (U:h.length≤4294967296):
  Calls Tryz.prog 105 #[.slice q.a h.length q.cap,.slice z.a j.length z.cap] w fun e E=>zbR (h=j) e∧Below w.heap.size w E:=by
 by_cases o:h.length=j.length
 ·rw[←o]
  by_cases n:h.length=0
  ·rw[n]
   refine (zlh _ _ _ _ w).mono ?_
   rintro e E ⟨rfl,H⟩
   exact⟨⟨true,rfl,⟨fun _=>(by rw[List.eq_nil_of_length_eq_zero n,List.eq_nil_of_length_eq_zero (o.symm.trans n)]),fun _=>rfl⟩⟩,H⟩
  ·rcases J.nil_or with ⟨_,_,e⟩|⟨N,I⟩
   ·exact absurd e n
   ·rcases K.nil_or with ⟨_,_,e⟩|⟨V,M⟩
    ·exact absurd (o.trans e) n
    ·rw[I,M]
     exact zli D A L b2 N V q z h j w J K I M o U
 ·refine (zlg _ _ _ _ _ _ w (by omega)).mono ?_
  rintro e E ⟨rfl,H⟩
  exact⟨⟨false,rfl,⟨fun k=>(by cases k),fun k=>absurd (by rw[k]) o⟩⟩,H⟩
def zc8 (x y:Ep):Bool:=x.kind==y.kind&&x.name.toList==y.name.toList&&x.loc.toList==y.loc.toList&&x.spec.toList==y.spec.toList
theorem zfe {x y:Ep}:zc8 x y=true↔x=y:=by
 constructor
 ·intro h
  unfold zc8 at h
  simp only[Bool.and_eq_true] at h
  obtain⟨⟨⟨n,o⟩,q⟩,j⟩:=h
  cases x
  cases y
  simp only at n o q j
  congr 1<;>first|(apply zew;assumption)|(apply eq_of_beq;assumption)
 ·intro h
  rw[h]
  simp[zc8]
theorem zlk (q A:Option Addr) (j n D z:Nat) (w:World) (h:(j:Int)≠(n:Int)):Calls Tryz.prog 106 #[.slice q j D,.slice A n z] w fun e o=>e= .returned (.bool false)∧Below w.heap.size w o:=by
 go_enter Tryz.func106,Tryz.ntmps106
 go_wp2
 go_ret
 exact⟨rfl,Below.refl _ _⟩
theorem zll (j n:Option Addr) (q o:Nat) (w:World):Calls Tryz.prog 106 #[.slice j 0 q,.slice n 0 o] w fun e h=>e= .returned (.bool true)∧Below w.heap.size w h:=by
 go_enter Tryz.func106,Tryz.ntmps106
 go_wp2
 go_loopg [13] 1 (fun k i wr=>k=1∧i= .int .i64 0∧wr=w)
 case atStart=>exact⟨rfl,rfl,rfl⟩
 case round=>
  obtain⟨rfl,rfl,rfl⟩:=hrel
  go_wp2
  go_ret
  exact⟨rfl,Below.refl _ _⟩
theorem zlm (O: ∀(x y:Ep) (W:World),Sem.run Tryz.prog (binOp .neq 102 (.agg #[.int .i64 x.kind,.string x.name,.string x.loc,.string x.spec]) (.agg #[.int .i64 y.kind,.string y.name,.string y.loc,.string y.spec])) W= .ok (.bool (!zc8 x y)) W) (M: ∀(H:BinOp) (a b:Operand) (x y:Ep) (W:World),Sem.run Tryz.prog (eqGuard H 102 a b (.agg #[.int .i64 x.kind,.string x.name,.string x.loc,.string x.spec]) (.agg #[.int .i64 y.kind,.string y.name,.string y.loc,.string y.spec])) W= .ok () W) (b1 b2 N g2:Nat) (V r2:Rw) (h A:List Ep) (w:World) (q:OwnR w b1 102 4 V h.length (h.flatMap epL)) (z:OwnR w b2 102 4 r2 A.length (A.flatMap epL)) (e1:V.a=some ⟨N,0,none⟩) (e2:r2.a=some ⟨g2,0,none⟩) (hl:h.length=A.length) (Y:h.length≤4294967296):
  Calls Tryz.prog 106 #[.slice (some ⟨N,0,none⟩) h.length V.cap,.slice (some ⟨g2,0,none⟩) h.length r2.cap] w fun e w'=>zbR (h=A) e∧Below w.heap.size w w':=by
 have H1:=zc q
 have H2:=zc z
 have E1:=zc e1
 have E2:=zc e2
 have HL:=zc hl
 clear q z e1 e2 hl
 go_enter Tryz.func106,Tryz.ntmps106
 go_wp2
 go_loopg [13] h.length (fun k i wr=>∃j:Nat,i= .int .i64 j∧j+k=h.length∧h.take j=A.take j∧Below w.heap.size w wr)
 case atStart=>exact⟨0,rfl,by omega,rfl,Below.refl _ _⟩
 case round=>
  obtain⟨j,rfl,hj,ht,Y⟩:=hrel
  have E:=zc Y
  have HT:=zc ht
  clear Y ht
  by_cases K:j<h.length
  ·have J:(j:Int)<(h.length:Int):=by omega
   obtain⟨x,hx⟩:=zaX K
   obtain⟨y,U⟩:=zaX (show j<A.length by rw[←HL.out];exact K)
   obtain⟨Z,ga,q⟩:=OwnR.elem (f:=epL) (m:=4) (fun _=>rfl) (H1.out.keep fun k g=>E.out.block k (H1.out.typed g).2.1) hx
   obtain rfl:Z=N:=by have:=ga.symm.trans E1.out;simpa using this
   obtain⟨Z,gb,z⟩:=OwnR.elem (f:=epL) (m:=4) (fun _=>rfl) (H2.out.keep fun k g=>E.out.block k (H2.out.typed g).2.1) U
   obtain rfl:Z=g2:=by have:=gb.symm.trans E2.out;simpa using this
   have C0:=zc (q 0 (by omega))
   have D0:=zc (z 0 (by omega))
   have C1:=zc (q 1 (by omega))
   have D1:=zc (z 1 (by omega))
   have C2:=zc (q 2 (by omega))
   have D2:=zc (z 2 (by omega))
   have C3:=zc (q 3 (by omega))
   have D3:=zc (z 3 (by omega))
   have HX:=zc hx
   have HY:=zc U
   clear q z ga gb hx U
   obtain⟨L,D⟩: ∃L,L=j+1:=⟨_,rfl⟩
   have ej:(j:Int)+1=(L:Int):=by omega
   have HJ:=zc D
   clear D
   obtain⟨b,n⟩: ∃b,zc8 x y=b:=⟨_,rfl⟩
   have ab: ∀W:World,Sem.run Tryz.prog (binOp .neq 102 (.agg #[.int .i64 x.kind,.string x.name,.string x.loc,.string x.spec]) (.agg #[.int .i64 y.kind,.string y.name,.string y.loc,.string y.spec])) W= .ok (.bool !b) W:=fun W=>by rw[O,n]
   have ac: ∀(H:BinOp) (a b:Operand) (W:World),Sem.run Tryz.prog (eqGuard H 102 a b (.agg #[.int .i64 x.kind,.string x.name,.string x.loc,.string x.spec]) (.agg #[.int .i64 y.kind,.string y.name,.string y.loc,.string y.spec])) W= .ok () W:=fun H a b W=>M H a b x y W
   go_wp2
   have k0:=cell_regrown C0.out
   have m0:=cell_regrown D0.out
   have k1:=cell_regrown C1.out
   have m1:=cell_regrown D1.out
   have k2:=cell_regrown C2.out
   have m2:=cell_regrown D2.out
   have k3:=cell_regrown C3.out
   have m3:=cell_regrown D3.out
   simp only[Nat.add_zero] at k0 m0
   refine wp_region_quiet_below (by kernel_rfl) (by kernel_rfl) ?_
   repeat (go_big_quiet_step (fail))
   refine wpQuiet_nil ?_
   intro w2 X
   obtain⟨⟨dq,aa⟩,o⟩:=X
   have I:Hid (Below w.heap.size w w2):=by show Below _ _ _;rw[o];exact E.out.trans ((below_regrown wr dq aa).mono E.out.size)
   clear o k0 m0 C0 D0 k1 m1 C1 D1 k2 m2 C2 D2 k3 m3 C3 D3
   cases b with
   |true=>
    go_wp2
    go_roundg (gk-1)
    case rel=>exact⟨L,rfl,by have:=HJ.out;omega,by rw[HJ.out];have e:=zfe.1 n;exact zc5 HT.out HX.out (by rw[e];exact HY.out),I.out⟩
    case measure=>omega
   |false=>
    go_wp2
    go_ret
    exact⟨⟨false,rfl,⟨fun k=>(by cases k),fun k=>(by have e:=HX.out;rw[k,HY.out] at e;cases e;rw[zfe.2 rfl] at n;cases n)⟩⟩,I.out⟩
  ·have J: ¬(j:Int)<(h.length:Int):=by omega
   obtain rfl:j=h.length:=by omega
   go_wp2
   go_ret
   exact⟨⟨true,rfl,⟨fun _=>zc6 HL.out HT.out,fun _=>rfl⟩⟩,E.out⟩
theorem zln (D: ∀(x y:Ep) (W:World),Sem.run Tryz.prog (binOp .neq 102 (.agg #[.int .i64 x.kind,.string x.name,.string x.loc,.string x.spec]) (.agg #[.int .i64 y.kind,.string y.name,.string y.loc,.string y.spec])) W= .ok (.bool (!zc8 x y)) W) (A: ∀(O:BinOp) (a b:Operand) (x y:Ep) (W:World),Sem.run Tryz.prog (eqGuard O 102 a b (.agg #[.int .i64 x.kind,.string x.name,.string x.loc,.string x.spec]) (.agg #[.int .i64 y.kind,.string y.name,.string y.loc,.string y.spec])) W= .ok () W) (L b2:Nat) (q z:Rw) (h j:List Ep) (w:World) (J:OwnR w L 102 4 q h.length (h.flatMap epL)) (K:OwnR w b2 102 4 z j.length (j.flatMap epL)) (U:h.length≤4294967296):
  Calls Tryz.prog 106 #[.slice q.a h.length q.cap,.slice z.a j.length z.cap] w fun e E=>zbR (h=j) e∧Below w.heap.size w E:=by
 by_cases o:h.length=j.length
 ·rw[←o]
  by_cases n:h.length=0
  ·rw[n]
   refine (zll _ _ _ _ w).mono ?_
   rintro e E ⟨rfl,H⟩
   exact⟨⟨true,rfl,⟨fun _=>(by rw[List.eq_nil_of_length_eq_zero n,List.eq_nil_of_length_eq_zero (o.symm.trans n)]),fun _=>rfl⟩⟩,H⟩
  ·rcases J.nil_or with ⟨_,_,e⟩|⟨N,I⟩
   ·exact absurd e n
   ·rcases K.nil_or with ⟨_,_,e⟩|⟨V,M⟩
    ·exact absurd (o.trans e) n
    ·rw[I,M]
     exact zlm D A L b2 N V q z h j w J K I M o U
 ·refine (zlk _ _ _ _ _ _ w (by omega)).mono ?_
  rintro e E ⟨rfl,H⟩
  exact⟨⟨false,rfl,⟨fun k=>(by cases k),fun k=>absurd (by rw[k]) o⟩⟩,H⟩
def zc9 (x y:Sm):Bool:=x.kind==y.kind&&x.name.toList==y.name.toList&&x.expr==y.expr
theorem zff {x y:Sm}:zc9 x y=true↔x=y:=by
 constructor
 ·intro h
  unfold zc9 at h
  simp only[Bool.and_eq_true] at h
  obtain⟨⟨j,n⟩,o⟩:=h
  cases x
  cases y
  simp only at j n o
  congr 1<;>first|(apply zew;assumption)|(apply eq_of_beq;assumption)
 ·intro h
  rw[h]
  simp[zc9]
theorem zlo (q A:Option Addr) (j n D z:Nat) (w:World) (h:(j:Int)≠(n:Int)):Calls Tryz.prog 107 #[.slice q j D,.slice A n z] w fun e o=>e= .returned (.bool false)∧Below w.heap.size w o:=by
 go_enter Tryz.func107,Tryz.ntmps107
 go_wp2
 go_ret
 exact⟨rfl,Below.refl _ _⟩
theorem zlp (j n:Option Addr) (q o:Nat) (w:World):Calls Tryz.prog 107 #[.slice j 0 q,.slice n 0 o] w fun e h=>e= .returned (.bool true)∧Below w.heap.size w h:=by
 go_enter Tryz.func107,Tryz.ntmps107
 go_wp2
 go_loopg [13] 1 (fun k i wr=>k=1∧i= .int .i64 0∧wr=w)
 case atStart=>exact⟨rfl,rfl,rfl⟩
 case round=>
  obtain⟨rfl,rfl,rfl⟩:=hrel
  go_wp2
  go_ret
  exact⟨rfl,Below.refl _ _⟩
theorem zlq (O: ∀(x y:Sm) (W:World),Sem.run Tryz.prog (binOp .neq 106 (.agg #[.int .i64 x.kind,.string x.name,.int .i64 x.expr]) (.agg #[.int .i64 y.kind,.string y.name,.int .i64 y.expr])) W= .ok (.bool (!zc9 x y)) W) (M: ∀(H:BinOp) (a b:Operand) (x y:Sm) (W:World),Sem.run Tryz.prog (eqGuard H 106 a b (.agg #[.int .i64 x.kind,.string x.name,.int .i64 x.expr]) (.agg #[.int .i64 y.kind,.string y.name,.int .i64 y.expr])) W= .ok () W) (b1 b2 N g2:Nat) (V r2:Rw) (h A:List Sm) (w:World) (q:OwnR w b1 106 3 V h.length (h.flatMap smL)) (z:OwnR w b2 106 3 r2 A.length (A.flatMap smL)) (e1:V.a=some ⟨N,0,none⟩) (e2:r2.a=some ⟨g2,0,none⟩) (hl:h.length=A.length) (Y:h.length≤4294967296):
  Calls Tryz.prog 107 #[.slice (some ⟨N,0,none⟩) h.length V.cap,.slice (some ⟨g2,0,none⟩) h.length r2.cap] w fun e w'=>zbR (h=A) e∧Below w.heap.size w w':=by
 have H1:=zc q
 have H2:=zc z
 have E1:=zc e1
 have E2:=zc e2
 have HL:=zc hl
 clear q z e1 e2 hl
 go_enter Tryz.func107,Tryz.ntmps107
 go_wp2
 go_loopg [13] h.length (fun k i wr=>∃j:Nat,i= .int .i64 j∧j+k=h.length∧h.take j=A.take j∧Below w.heap.size w wr)
 case atStart=>exact⟨0,rfl,by omega,rfl,Below.refl _ _⟩
 case round=>
  obtain⟨j,rfl,hj,ht,Y⟩:=hrel
  have E:=zc Y
  have HT:=zc ht
  clear Y ht
  by_cases K:j<h.length
  ·have J:(j:Int)<(h.length:Int):=by omega
   obtain⟨x,hx⟩:=zaX K
   obtain⟨y,U⟩:=zaX (show j<A.length by rw[←HL.out];exact K)
   obtain⟨Z,ga,q⟩:=OwnR.elem (f:=smL) (m:=3) (fun _=>rfl) (H1.out.keep fun k g=>E.out.block k (H1.out.typed g).2.1) hx
   obtain rfl:Z=N:=by have:=ga.symm.trans E1.out;simpa using this
   obtain⟨Z,gb,z⟩:=OwnR.elem (f:=smL) (m:=3) (fun _=>rfl) (H2.out.keep fun k g=>E.out.block k (H2.out.typed g).2.1) U
   obtain rfl:Z=g2:=by have:=gb.symm.trans E2.out;simpa using this
   have C0:=zc (q 0 (by omega))
   have D0:=zc (z 0 (by omega))
   have C1:=zc (q 1 (by omega))
   have D1:=zc (z 1 (by omega))
   have C2:=zc (q 2 (by omega))
   have D2:=zc (z 2 (by omega))
   have HX:=zc hx
   have HY:=zc U
   clear q z ga gb hx U
   obtain⟨L,D⟩: ∃L,L=j+1:=⟨_,rfl⟩
   have ej:(j:Int)+1=(L:Int):=by omega
   have HJ:=zc D
   clear D
   obtain⟨b,n⟩: ∃b,zc9 x y=b:=⟨_,rfl⟩
   have ab: ∀W:World,Sem.run Tryz.prog (binOp .neq 106 (.agg #[.int .i64 x.kind,.string x.name,.int .i64 x.expr]) (.agg #[.int .i64 y.kind,.string y.name,.int .i64 y.expr])) W= .ok (.bool !b) W:=fun W=>by rw[O,n]
   have ac: ∀(H:BinOp) (a b:Operand) (W:World),Sem.run Tryz.prog (eqGuard H 106 a b (.agg #[.int .i64 x.kind,.string x.name,.int .i64 x.expr]) (.agg #[.int .i64 y.kind,.string y.name,.int .i64 y.expr])) W= .ok () W:=fun H a b W=>M H a b x y W
   go_wp2
   have k0:=cell_regrown C0.out
   have m0:=cell_regrown D0.out
   have k1:=cell_regrown C1.out
   have m1:=cell_regrown D1.out
   have k2:=cell_regrown C2.out
   have m2:=cell_regrown D2.out
   simp only[Nat.add_zero] at k0 m0
   refine wp_region_quiet_below (by kernel_rfl) (by kernel_rfl) ?_
   repeat (go_big_quiet_step (fail))
   refine wpQuiet_nil ?_
   intro w2 X
   obtain⟨⟨dq,aa⟩,o⟩:=X
   have I:Hid (Below w.heap.size w w2):=by show Below _ _ _;rw[o];exact E.out.trans ((below_regrown wr dq aa).mono E.out.size)
   clear o k0 m0 C0 D0 k1 m1 C1 D1 k2 m2 C2 D2
   cases b with
   |true=>
    go_wp2
    go_roundg (gk-1)
    case rel=>exact⟨L,rfl,by have:=HJ.out;omega,by rw[HJ.out];have e:=zff.1 n;exact zc5 HT.out HX.out (by rw[e];exact HY.out),I.out⟩
    case measure=>omega
   |false=>
    go_wp2
    go_ret
    exact⟨⟨false,rfl,⟨fun k=>(by cases k),fun k=>(by have e:=HX.out;rw[k,HY.out] at e;cases e;rw[zff.2 rfl] at n;cases n)⟩⟩,I.out⟩
  ·have J: ¬(j:Int)<(h.length:Int):=by omega
   obtain rfl:j=h.length:=by omega
   go_wp2
   go_ret
   exact⟨⟨true,rfl,⟨fun _=>zc6 HL.out HT.out,fun _=>rfl⟩⟩,E.out⟩
theorem zlr (D: ∀(x y:Sm) (W:World),Sem.run Tryz.prog (binOp .neq 106 (.agg #[.int .i64 x.kind,.string x.name,.int .i64 x.expr]) (.agg #[.int .i64 y.kind,.string y.name,.int .i64 y.expr])) W= .ok (.bool (!zc9 x y)) W) (A: ∀(O:BinOp) (a b:Operand) (x y:Sm) (W:World),Sem.run Tryz.prog (eqGuard O 106 a b (.agg #[.int .i64 x.kind,.string x.name,.int .i64 x.expr]) (.agg #[.int .i64 y.kind,.string y.name,.int .i64 y.expr])) W= .ok () W) (L b2:Nat) (q z:Rw) (h j:List Sm) (w:World) (J:OwnR w L 106 3 q h.length (h.flatMap smL)) (K:OwnR w b2 106 3 z j.length (j.flatMap smL)) (U:h.length≤4294967296):
  Calls Tryz.prog 107 #[.slice q.a h.length q.cap,.slice z.a j.length z.cap] w fun e E=>zbR (h=j) e∧Below w.heap.size w E:=by
 by_cases o:h.length=j.length
 ·rw[←o]
  by_cases n:h.length=0
  ·rw[n]
   refine (zlp _ _ _ _ w).mono ?_
   rintro e E ⟨rfl,H⟩
   exact⟨⟨true,rfl,⟨fun _=>(by rw[List.eq_nil_of_length_eq_zero n,List.eq_nil_of_length_eq_zero (o.symm.trans n)]),fun _=>rfl⟩⟩,H⟩
  ·rcases J.nil_or with ⟨_,_,e⟩|⟨N,I⟩
   ·exact absurd e n
   ·rcases K.nil_or with ⟨_,_,e⟩|⟨V,M⟩
    ·exact absurd (o.trans e) n
    ·rw[I,M]
     exact zlq D A L b2 N V q z h j w J K I M o U
 ·refine (zlo _ _ _ _ _ _ w (by omega)).mono ?_
  rintro e E ⟨rfl,H⟩
  exact⟨⟨false,rfl,⟨fun k=>(by cases k),fun k=>absurd (by rw[k]) o⟩⟩,H⟩
def zcA (x y:Ex):Bool:=x.kind==y.kind&&x.num==y.num&&x.name.toList==y.name.toList&&x.field.toList==y.field.toList&&x.l==y.l&&x.r==y.r
theorem zfg {x y:Ex}:zcA x y=true↔x=y:=by
 constructor
 ·intro h
  unfold zcA at h
  simp only[Bool.and_eq_true] at h
  obtain⟨⟨⟨⟨⟨q,n⟩,z⟩,o⟩,j⟩,w⟩:=h
  cases x
  cases y
  simp only at q n z o j w
  congr 1<;>first|(apply zew;assumption)|(apply eq_of_beq;assumption)
 ·intro h
  rw[h]
  simp[zcA]
theorem zls (q A:Option Addr) (j n D z:Nat) (w:World) (h:(j:Int)≠(n:Int)):Calls Tryz.prog 108 #[.slice q j D,.slice A n z] w fun e o=>e= .returned (.bool false)∧Below w.heap.size w o:=by
 go_enter Tryz.func108,Tryz.ntmps108
 go_wp2
 go_ret
 exact⟨rfl,Below.refl _ _⟩
theorem zlt (j n:Option Addr) (q o:Nat) (w:World):Calls Tryz.prog 108 #[.slice j 0 q,.slice n 0 o] w fun e h=>e= .returned (.bool true)∧Below w.heap.size w h:=by
 go_enter Tryz.func108,Tryz.ntmps108
 go_wp2
 go_loopg [13] 1 (fun k i wr=>k=1∧i= .int .i64 0∧wr=w)
 case atStart=>exact⟨rfl,rfl,rfl⟩
 case round=>
  obtain⟨rfl,rfl,rfl⟩:=hrel
  go_wp2
  go_ret
  exact⟨rfl,Below.refl _ _⟩
theorem zlu (O: ∀(x y:Ex) (W:World),Sem.run Tryz.prog (binOp .neq 108 (.agg #[.int .i64 x.kind,.int .i64 x.num,.string x.name,.string x.field,.int .i64 x.l,.int .i64 x.r]) (.agg #[.int .i64 y.kind,.int .i64 y.num,.string y.name,.string y.field,.int .i64 y.l,.int .i64 y.r])) W= .ok (.bool (!zcA x y)) W) (M: ∀(H:BinOp) (a b:Operand) (x y:Ex) (W:World),Sem.run Tryz.prog (eqGuard H 108 a b (.agg #[.int .i64 x.kind,.int .i64 x.num,.string x.name,.string x.field,.int .i64 x.l,.int .i64 x.r]) (.agg #[.int .i64 y.kind,.int .i64 y.num,.string y.name,.string y.field,.int .i64 y.l,.int .i64 y.r])) W= .ok () W) (b1 b2 N g2:Nat) (V r2:Rw) (h A:List Ex) (w:World) (n:OwnR w b1 108 6 V h.length (h.flatMap exL)) (o:OwnR w b2 108 6 r2 A.length (A.flatMap exL)) (e1:V.a=some ⟨N,0,none⟩) (e2:r2.a=some ⟨g2,0,none⟩) (hl:h.length=A.length) (Y:h.length≤4294967296):
  Calls Tryz.prog 108 #[.slice (some ⟨N,0,none⟩) h.length V.cap,.slice (some ⟨g2,0,none⟩) h.length r2.cap] w fun e w'=>zbR (h=A) e∧Below w.heap.size w w':=by
 have H1:=zc n
 have H2:=zc o
 have E1:=zc e1
 have E2:=zc e2
 have HL:=zc hl
 clear n o e1 e2 hl
 go_enter Tryz.func108,Tryz.ntmps108
 go_wp2
 go_loopg [13] h.length (fun k i wr=>∃j:Nat,i= .int .i64 j∧j+k=h.length∧h.take j=A.take j∧Below w.heap.size w wr)
 case atStart=>exact⟨0,rfl,by omega,rfl,Below.refl _ _⟩
 case round=>
  obtain⟨j,rfl,hj,ht,Y⟩:=hrel
  have E:=zc Y
  have HT:=zc ht
  clear Y ht
  by_cases K:j<h.length
  ·have J:(j:Int)<(h.length:Int):=by omega
   obtain⟨x,hx⟩:=zaX K
   obtain⟨y,U⟩:=zaX (show j<A.length by rw[←HL.out];exact K)
   obtain⟨Z,ga,n⟩:=OwnR.elem (f:=exL) (m:=6) (fun _=>rfl) (H1.out.keep fun k g=>E.out.block k (H1.out.typed g).2.1) hx
   obtain rfl:Z=N:=by have:=ga.symm.trans E1.out;simpa using this
   obtain⟨Z,gb,o⟩:=OwnR.elem (f:=exL) (m:=6) (fun _=>rfl) (H2.out.keep fun k g=>E.out.block k (H2.out.typed g).2.1) U
   obtain rfl:Z=g2:=by have:=gb.symm.trans E2.out;simpa using this
   have C0:=zc (n 0 (by omega))
   have D0:=zc (o 0 (by omega))
   have C1:=zc (n 1 (by omega))
   have D1:=zc (o 1 (by omega))
   have C2:=zc (n 2 (by omega))
   have D2:=zc (o 2 (by omega))
   have C3:=zc (n 3 (by omega))
   have D3:=zc (o 3 (by omega))
   have C4:=zc (n 4 (by omega))
   have D4:=zc (o 4 (by omega))
   have C5:=zc (n 5 (by omega))
   have D5:=zc (o 5 (by omega))
   have HX:=zc hx
   have HY:=zc U
   clear n o ga gb hx U
   obtain⟨L,D⟩: ∃L,L=j+1:=⟨_,rfl⟩
   have ej:(j:Int)+1=(L:Int):=by omega
   have HJ:=zc D
   clear D
   obtain⟨b,q⟩: ∃b,zcA x y=b:=⟨_,rfl⟩
   have ab: ∀W:World,Sem.run Tryz.prog (binOp .neq 108 (.agg #[.int .i64 x.kind,.int .i64 x.num,.string x.name,.string x.field,.int .i64 x.l,.int .i64 x.r]) (.agg #[.int .i64 y.kind,.int .i64 y.num,.string y.name,.string y.field,.int .i64 y.l,.int .i64 y.r])) W= .ok (.bool !b) W:=fun W=>by rw[O,q]
   have ac: ∀(H:BinOp) (a b:Operand) (W:World),Sem.run Tryz.prog (eqGuard H 108 a b (.agg #[.int .i64 x.kind,.int .i64 x.num,.string x.name,.string x.field,.int .i64 x.l,.int .i64 x.r]) (.agg #[.int .i64 y.kind,.int .i64 y.num,.string y.name,.string y.field,.int .i64 y.l,.int .i64 y.r])) W= .ok () W:=fun H a b W=>M H a b x y W
   go_wp2
   have k0:=cell_regrown C0.out
   have m0:=cell_regrown D0.out
   have k1:=cell_regrown C1.out
   have m1:=cell_regrown D1.out
   have k2:=cell_regrown C2.out
   have m2:=cell_regrown D2.out
   have k3:=cell_regrown C3.out
   have m3:=cell_regrown D3.out
   have k4:=cell_regrown C4.out
   have m4:=cell_regrown D4.out
   have k5:=cell_regrown C5.out
   have m5:=cell_regrown D5.out
   simp only[Nat.add_zero] at k0 m0
   refine wp_region_quiet_below (by kernel_rfl) (by kernel_rfl) ?_
   repeat (go_big_quiet_step (fail))
   refine wpQuiet_nil ?_
   intro w2 X
   obtain⟨⟨dq,aa⟩,z⟩:=X
   have I:Hid (Below w.heap.size w w2):=by show Below _ _ _;rw[z];exact E.out.trans ((below_regrown wr dq aa).mono E.out.size)
   clear z k0 m0 C0 D0 k1 m1 C1 D1 k2 m2 C2 D2 k3 m3 C3 D3 k4 m4 C4 D4 k5 m5 C5 D5
   cases b with
   |true=>
    go_wp2
    go_roundg (gk-1)
    case rel=>exact⟨L,rfl,by have:=HJ.out;omega,by rw[HJ.out];have e:=zfg.1 q;exact zc5 HT.out HX.out (by rw[e];exact HY.out),I.out⟩
    case measure=>omega
   |false=>
    go_wp2
    go_ret
    exact⟨⟨false,rfl,⟨fun k=>(by cases k),fun k=>(by have e:=HX.out;rw[k,HY.out] at e;cases e;rw[zfg.2 rfl] at q;cases q)⟩⟩,I.out⟩
  ·have J: ¬(j:Int)<(h.length:Int):=by omega
   obtain rfl:j=h.length:=by omega
   go_wp2
   go_ret
   exact⟨⟨true,rfl,⟨fun _=>zc6 HL.out HT.out,fun _=>rfl⟩⟩,E.out⟩
theorem zlv (D: ∀(x y:Ex) (W:World),Sem.run Tryz.prog (binOp .neq 108 (.agg #[.int .i64 x.kind,.int .i64 x.num,.string x.name,.string x.field,.int .i64 x.l,.int .i64 x.r]) (.agg #[.int .i64 y.kind,.int .i64 y.num,.string y.name,.string y.field,.int .i64 y.l,.int .i64 y.r])) W= .ok (.bool (!zcA x y)) W) (A: ∀(O:BinOp) (a b:Operand) (x y:Ex) (W:World),Sem.run Tryz.prog (eqGuard O 108 a b (.agg #[.int .i64 x.kind,.int .i64 x.num,.string x.name,.string x.field,.int .i64 x.l,.int .i64 x.r]) (.agg #[.int .i64 y.kind,.int .i64 y.num,.string y.name,.string y.field,.int .i64 y.l,.int .i64 y.r])) W= .ok () W) (L b2:Nat) (q z:Rw) (h j:List Ex) (w:World) (J:OwnR w L 108 6 q h.length (h.flatMap exL)) (K:OwnR w b2 108 6 z j.length (j.flatMap exL)) (U:h.length≤4294967296):
  Calls Tryz.prog 108 #[.slice q.a h.length q.cap,.slice z.a j.length z.cap] w fun e E=>zbR (h=j) e∧Below w.heap.size w E:=by
 by_cases o:h.length=j.length
 ·rw[←o]
  by_cases n:h.length=0
  ·rw[n]
   refine (zlt _ _ _ _ w).mono ?_
   rintro e E ⟨rfl,H⟩
   exact⟨⟨true,rfl,⟨fun _=>(by rw[List.eq_nil_of_length_eq_zero n,List.eq_nil_of_length_eq_zero (o.symm.trans n)]),fun _=>rfl⟩⟩,H⟩
  ·rcases J.nil_or with ⟨_,_,e⟩|⟨N,I⟩
   ·exact absurd e n
   ·rcases K.nil_or with ⟨_,_,e⟩|⟨V,M⟩
    ·exact absurd (o.trans e) n
    ·rw[I,M]
     exact zlu D A L b2 N V q z h j w J K I M o U
 ·refine (zls _ _ _ _ _ _ w (by omega)).mono ?_
  rintro e E ⟨rfl,H⟩
  exact⟨⟨false,rfl,⟨fun k=>(by cases k),fun k=>absurd (by rw[k]) o⟩⟩,H⟩
end Go.Proofs.YticdggnnpjachaaGreat
