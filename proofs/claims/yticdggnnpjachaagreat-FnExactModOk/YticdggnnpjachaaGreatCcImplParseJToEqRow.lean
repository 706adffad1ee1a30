/-
  What slices.Index and slices.Contains answer over a row of texts,and strings.Clone: the walks.
  What request of impl's parser answers: the walks.
  What nameOrCall of impl's parser answers: the walk.
  What part of impl's parser answers: the walk.
  What product and sum of impl's parser answer: the walks.
  What statement of impl's parser answers: the walk.
  What the small items of impl's parser,itemWord and exportLast answer: the walks.
  Rows beside impl's parser: lists of names under way. No program is spoken of but for the numbers of its types.
  A program in memory,of any size. No program is spoken of but for the numbers of its types.
  What slices.Equal answers of rows of the call's own,the model's != handed in: the walks.
-/
import Derived.Test.YticdggnnpjachaaGreatCcImplParseHToImplParseI
import Derived.Test.YticdggnnpjachaaGreatCcShelf
namespace Go.Proofs.YticdggnnpjachaaGreat
set_option maxRecDepth 100000
set_option maxHeartbeats 6400000
open Go.RowKit Go.PlainAid Go.Sort
theorem zhl (s:ByteArray) (w:World) (h:s.size≤281474976710656):
  Calls Tryz.prog 85 #[.string s] w fun e j=>e= .returned (.string s)∧Below w.heap.size w j:=by
 go_enter Tryz.func85,Tryz.ntmps85
 go_wp2_with fail
 refine (Tryz.stringslite_Clone _ _ h).mono ?_
 rintro e o ⟨rfl,n⟩
 go_wp2
 go_ret
 exact⟨rfl,n⟩
theorem OwnR.text {w:World} {o n:Nat} {r:Rw} {l:List ByteArray} (h:OwnR w o 9 1 r n (l.map .string)) {j:Nat} (H:j<n): ∃g,r.a=some ⟨g,0,none⟩∧w.cell? ⟨g,j,none⟩=some (.string (l.getD j sNone)):=by
 rcases h.2 with ⟨_,E⟩|⟨g,D,A,q,_⟩
 ·omega
 ·simp only[Value.slice.injEq] at q
  have z:=h
  unfold OwnR at z
  rw[q.1,q.2.2] at z
  have I:l.length=n:=by have:=h.1;simpa using this
  refine⟨g,q.1,?_⟩
  rw[World.ownsRow.cellAt z j (by omega)]
  simp only[List.getElem?_map,List.getD]
  rw[List.getElem?_eq_getElem (by omega)]
  rfl
theorem zk5 {l:List ByteArray} {x:ByteArray} {j:Nat} (h:j<l.length):zaO (l.drop j) x=((l.getD j sNone).toList==x.toList||zaO (l.drop (j+1)) x):=by
 rw[List.drop_eq_getElem_cons h]
 simp only[zaO,List.any_cons,List.getD,List.getElem?_eq_getElem h,Option.getD_some]
theorem zk6 (z g:Nat) (r:Rw) (l:List ByteArray) (x:ByteArray) (w:World) (h:OwnR w z 9 1 r l.length (l.map .string)) (Z:l.length≤1000000) (L:r.a=some ⟨g,0,none⟩):
  Calls Tryz.prog 204 #[.slice (some ⟨g,0,none⟩) l.length r.cap,.string x] w fun e V=>(∃v:Int,e= .returned (.int .i64 v)∧decide (0≤v)=zaO l x)∧V=w:=by
 have U:=zc h
 have J:=zc L
 clear h L
 go_enter Tryz.func204,Tryz.ntmps204
 go_wp2
 go_loopg [8] (l.length+1) (fun k i wr=>∃j:Nat,i= .int .i64 j∧j+k=l.length+1∧zaO (l.drop j) x=zaO l x∧wr=w)
 case atStart=>exact⟨0,rfl,by omega,by simp,rfl⟩
 case round=>
  obtain⟨j,rfl,hj,M,rfl⟩:=hrel
  have K:=zc M
  clear M
  by_cases A:j<l.length
  ·have o:(j:Int)<(l.length:Int):=by omega
   obtain⟨O,q,X⟩:=U.out.text A
   have Y:O=g:=by have:=q.symm.trans J.out;simpa using this
   subst Y
   clear q
   obtain⟨E,n⟩: ∃E,E=j+1:=⟨_,rfl⟩
   have ej:(j:Int)+1=(E:Int):=by omega
   have N:=zc n
   clear n
   have H:Hid (zaO (l.drop j) x=((l.getD j sNone).toList==x.toList||zaO (l.drop (j+1)) x)):=zk5 A
   generalize l.getD j sNone=y at X H
   cases D:(x.toList==y.toList) with
   |true=>
    go_wp2
    go_ret
    refine⟨⟨_,rfl,?_⟩,rfl⟩
    have I:(y.toList==x.toList)=true:=by rw[beq_iff_eq] at D ⊢;exact D.symm
    rw[←K.out,H.out,I]
    simp
   |false=>
    go_wp2
    go_roundg (gk-1)
    case rel=>
     have I:(y.toList==x.toList)=false:=by
      rw[beq_eq_false_iff_ne] at D ⊢;exact fun e=>D e.symm
     refine⟨E,rfl,by have:=N.out;omega,?_,rfl⟩
     rw[←K.out,H.out,I,N.out]
     simp
    case measure=>omega
  ·have o: ¬(j:Int)<(l.length:Int):=by omega
   go_wp2
   go_ret
   refine⟨⟨_,rfl,?_⟩,rfl⟩
   rw[←K.out,List.drop_eq_nil_of_le (by omega)]
   rfl
theorem zk7 (x:ByteArray) (w:World):
  Calls Tryz.prog 204 #[.slice none 0 0,.string x] w fun e h=>e= .returned (.int .i64 (-1))∧h=w:=by
 go_enter Tryz.func204,Tryz.ntmps204
 go_wp2
 go_loopg [8] 1 (fun k i wr=>k=1∧i= .int .i64 0∧wr=w)
 case atStart=>exact⟨rfl,rfl,rfl⟩
 case round=>
  obtain⟨rfl,rfl,rfl⟩:=hrel
  go_wp2
  go_ret
  exact⟨rfl,rfl⟩
theorem zk8 (j:Nat) (r:Rw) (l:List ByteArray) (x:ByteArray) (w:World) (h:OwnR w j 9 1 r l.length (l.map .string)) (D:l.length≤1000000):
  Calls Tryz.prog 204 #[.slice r.a l.length r.cap,.string x] w fun e q=>(∃v:Int,e= .returned (.int .i64 v)∧decide (0≤v)=zaO l x)∧q=w:=by
 rcases h.nil_or with ⟨z,A,o⟩|⟨g,n⟩
 ·rw[z,A,o]
  refine (zk7 x w).mono ?_
  rintro e E ⟨rfl,rfl⟩
  have:l=[]:=List.length_eq_zero_iff.1 o
  subst this
  exact⟨⟨_,rfl,rfl⟩,rfl⟩
 ·rw[n]
  exact zk6 j g r l x w h D n
theorem zfS (j:Nat) (r:Rw) (l:List ByteArray) (x:ByteArray) (w:World) (h:OwnR w j 9 1 r l.length (l.map .string)) (A:l.length≤1000000):
  Calls Tryz.prog 194 #[.slice r.a l.length r.cap,.string x] w fun e o=>e= .returned (.bool (zaO l x))∧o=w:=by
 have z:=zc h
 clear h
 go_enter Tryz.func194,Tryz.ntmps194
 go_wp2_with fail
 refine (zk8 j r l x _ z.out A).mono ?_
 rintro e D ⟨⟨v,rfl,n⟩,rfl⟩
 have q:=zc n
 clear n
 go_wp2
 go_ret
 exact⟨zl q.out,rfl⟩
theorem Tryz.infoText:(Tryz.prog.info? 9).map (fun i=>(i.zero,i.size,i.bytes))=some (some (.string {data:=#[]}),1,16):=by kernel_rfl
def zaV (C:Cx):Prop:=∀i,(ze C i).text.size≤281474976710656
theorem zk9 (x:ByteArray): ∀u∈[Value.string x],u.oneCell'=true:=by
 intro u h
 simp at h
 rw[h]
 rfl
theorem zkA (C:Cx) (N o j n:Nat) (S:Sv) (q:PS) (w:World) (h:IM C N o j n S q w) (hC:zaV C) (hk:((ze C q.pos).kind==3)=true) (hs:zaO q.rq (ze C q.pos).text=false) (hn:q.rq.length<40):
  Calls Tryz.prog 172 #[.pointer (some ⟨n,0,none⟩)] w fun e w'=>e= .returned (.string (ze C q.pos).text)∧∃S',IM C N o j n S' {adv q with rq:=q.rq++[(ze C q.pos).text]} w'∧IS n S w S' w':=by
 obtain⟨i0,hi,V,aa,X⟩:=info_parts Tryz.infoText
 have HH:=zc h
 have ae:=zco
 have K:=hC q.pos
 clear h
 go_enter Tryz.func172,Tryz.ntmps172
 go_wp2_with fail
 refine (zdi C N o j n S q 3 _ HH.out hk (by decide)).mono ?_
 rintro e O ⟨rfl,m1,s1⟩
 have M:=zc m1
 have ac:=zc s1
 clear m1 s1
 unfold tkV
 obtain⟨c0,c1,c2,c3,c4,c5,c6,c7,c8,c9,cf⟩:=zaa M.out.cells
 rw[show (adv q).rq=q.rq from rfl] at c4
 generalize H:(ze C q.pos).text=tx at hs K ⊢
 have Z:=zc H
 clear H
 go_wp2_with fail
 refine (zfS j S.rq q.rq tx _ M.out.mem.own.rq (by omega)).mono ?_
 rintro e A ⟨rfl,I⟩
 rw[hs,I]
 clear I A
 go_wp2_with fail
 refine (zdj n q.rq.length 40 _ (by omega)).mono ?_
 rintro e A ⟨rfl,I⟩
 rw[I]
 clear I A
 have HN:Hid (some n≠S.rq.blk):=fun e=>M.out.free (.inl e.symm)
 go_wp2_with fail
 go_region_law (first|(refine zeq rfl (.tmp 28) (.tmp 31) 22 rfl j 9 i0 _ 1 16 Tryz.underlying22 hi V aa X rfl (by decide) (by decide) S.rq q.rq.length (q.rq.map .string) (by rfl) (by exact z.out.mem.own.rq.alloc _) L.heap.size [.string tx] (by rfl) (by exact heap_alloc_new L _) rfl (zk9 tx) (by omega) (by exact (z.out.alloc _).mem.base) ?_;intro r' w2 hr E J;have g2:=(E.block n (by exact (z.out.alloc _).lt) HN.out).trans (by exact (z.out.alloc _).cells);obtain⟨d0,d1,d2,d3,d4,d5,d6,d7,d8,d9,df⟩:=zaa g2)|(go_simp;go_wp2_with (go_at_call 85;refine (zhl _ _ K).mono ?_;rintro e L ⟨rfl,D⟩;have z:Hid (IM C N o j n S (adv q) L):=M.out.drew.later D;have ab:Hid (Below O.heap.size O L):=(Below.refl O.heap.size O).drew.trans D;obtain⟨e0,e1,e2,e3,e4,e5,e6,e7,e8,e9,ef⟩:=zaa z.out.cells;rw[show (adv q).rq=q.rq from rfl] at e4;have ad:=z.out.lt;clear D)))
 all_goals
  have HR:=zc hr
  have Y:=zc E
  have U:=zc J
  clear hr E J g2 c0 c1 c2 c3 c4 c5 c6 c7 c8 c9 cf e0 e1 e2 e3 e4 e5 e6 e7 e8 e9 ef
  go_wp2
  go_ret
  obtain⟨m',s'⟩:=z.out.grow_rq (x:=tx) ((Below.refl _ _).alloc (Nat.le_refl _) _) Y.out HR.out U.out hn
  rw[Z.out]
  exact⟨rfl,_,m',ac.out.trans (s'.grownI ab.out)⟩
theorem zfa (C:Cx) (D n j o:Nat) (S:Sv) (q:PS) (w:World) (h:IM C D n j o S q w) (hC:zaV C):
  Calls Tryz.prog 172 #[.pointer (some ⟨o,0,none⟩)] w (zN C D n j o (zG C q) (·.1) (fun a=>.string a.2) S w):=by
 cases z:((ze C q.pos).kind==3) with
 |false=>
  have I:=zc h
  have N:Hid (zG C q= .error (zq C q.pos)):=by show _=_;rw[zG,z];rfl
  clear h
  go_enter Tryz.func172,Tryz.ntmps172
  go_wp2_with fail
  refine (zhj C D n j o S q 3 _ I.out z).mono ?_
  rintro e U ⟨rfl,O⟩
  have Y:Hid (Below j w U):=O.mono I.out.mem.base
  clear O
  unfold Pan
  go_wp2
  refine⟨rfl,?_⟩
  rw[N.out]
  exact⟨rfl,Y.out⟩
 |true=>
  cases L:zaO q.rq (ze C q.pos).text with
  |true=>
   have I:=zc h
   have N:Hid (zG C q= .ok (adv q,(ze C q.pos).text)):=by show _=_;rw[zG,z,L];rfl
   have X:=zco
   have V:=h.mem.inv.rq
   clear h
   go_enter Tryz.func172,Tryz.ntmps172
   go_wp2_with fail
   refine (zdi C D n j o S q 3 _ I.out z (by decide)).mono ?_
   rintro e U ⟨rfl,E,H⟩
   have A:=zc E
   have K:=zc H
   clear E H
   unfold tkV
   obtain⟨c0,c1,c2,c3,Z,c5,c6,c7,c8,c9,cf⟩:=zaa A.out.cells
   rw[show (adv q).rq=q.rq from rfl] at Z
   go_wp2_with fail
   refine (zfS j S.rq q.rq (ze C q.pos).text _ A.out.mem.own.rq (by omega)).mono ?_
   rintro e J ⟨rfl,M⟩
   rw[L,M]
   clear M J
   go_wp2
   go_ret
   rw[N.out]
   exact⟨rfl,S,A.out,K.out⟩
  |false=>
   by_cases hn:q.rq.length<40
   ·refine (zkA C D n j o S q w h hC z L hn).mono ?_
    rintro e U ⟨rfl,S1,E,H⟩
    rw[zG,z,L,if_pos rfl,if_neg (by decide),if_neg (by omega)]
    exact⟨rfl,S1,E,H⟩
   ·have I:Hid (IM C D n j o S q w):=h
    have N:Hid (zG C q= .error (zq C q.pos)):=by show _=_;rw[zG,z,L,if_pos rfl,if_neg (by decide),if_pos (by omega)]
    have X:=zco
    have V:=h.mem.inv.rq
    clear h
    go_enter Tryz.func172,Tryz.ntmps172
    go_wp2_with fail
    refine (zdi C D n j o S q 3 _ I.out z (by decide)).mono ?_
    rintro e U ⟨rfl,E,H⟩
    have A:=zc E
    have K:=zc H
    clear E H
    unfold tkV
    obtain⟨c0,c1,c2,c3,Z,c5,c6,c7,c8,c9,cf⟩:=zaa A.out.cells
    rw[show (adv q).rq=q.rq from rfl] at Z
    go_wp2_with fail
    refine (zfS j S.rq q.rq (ze C q.pos).text _ A.out.mem.own.rq (by omega)).mono ?_
    rintro e J ⟨rfl,M⟩
    rw[L,M]
    clear M J
    go_wp2_with fail
    refine (zdI C D n j o S (adv q) q.rq.length 40 _ A.out (by omega) (by rw[zw];omega)).mono ?_
    rintro e w2 ⟨rfl,O⟩
    have Y:Hid (Below j w w2):=(I.out.back K.out).trans (O.mono A.out.mem.base)
    clear O
    unfold Pan
    go_wp2
    refine⟨rfl,?_⟩
    rw[N.out]
    exact⟨rfl,Y.out⟩
theorem bdO {α β:Type} {Y:Except Nat β} {x:Except Nat α} {f:α→Except Nat β} {a:α} (h:Y=bd x f) (j:x= .ok a):Y=f a:=by rw[h,j];rfl
theorem bdE {α β:Type} {Y:Except Nat β} {x:Except Nat α} {f:α→Except Nat β} {p:Nat} (h:Y=bd x f) (j:x= .error p):Y= .error p:=by rw[h,j];rfl
theorem zdK {α:Type} (x:Except Nat α):bd x .ok=x:=by cases x<;>rfl
abbrev cCall:ByteArray:={data:=#[40,41,123]}
abbrev cShutSemi:ByteArray:={data:=#[41,59]}
abbrev cSemiRight:ByteArray:={data:=#[59,125]}
theorem zhm (C:Cx) (b:UInt8) (q:PS):za6 C {data:=#[b]} 1 0 q=zd C 4 {data:=#[b]} q:=by
 have e:({data:=#[b]}:ByteArray).extract 0 (0+1)={data:=#[b]}:=by simp[ByteArray.extract,ByteArray.copySlice]
 rw[za6,e]
 exact zdK _
theorem zhn (C:Cx) (b c:UInt8) (q:PS):za6 C {data:=#[b,c]} 2 0 q=bd (zd C 4 {data:=#[b]} q) (zd C 4 {data:=#[c]}):=by
 have e:({data:=#[b,c]}:ByteArray).extract 0 (0+1)={data:=#[b]}:=by simp[ByteArray.extract,ByteArray.copySlice]
 have h:({data:=#[b,c]}:ByteArray).extract (0+1) (0+1+1)={data:=#[c]}:=by simp[ByteArray.extract,ByteArray.copySlice]
 rw[za6,e]
 refine zZ fun a _=>?_
 rw[za6,h]
 exact zdK _
theorem zkB (C:Cx) (b c d:UInt8) (q:PS):za6 C {data:=#[b,c,d]} 3 0 q=bd (zd C 4 {data:=#[b]} q) fun a=>bd (zd C 4 {data:=#[c]} a) (zd C 4 {data:=#[d]}):=by
 have e:({data:=#[b,c,d]}:ByteArray).extract 0 (0+1)={data:=#[b]}:=by simp[ByteArray.extract,ByteArray.copySlice]
 have j:({data:=#[b,c,d]}:ByteArray).extract (0+1) (0+1+1)={data:=#[c]}:=by simp[ByteArray.extract,ByteArray.copySlice]
 have h:({data:=#[b,c,d]}:ByteArray).extract (0+1+1) (0+1+1+1)={data:=#[d]}:=by simp[ByteArray.extract,ByteArray.copySlice]
 rw[za6,e]
 refine zZ fun a _=>?_
 rw[za6,j]
 refine zZ fun a _=>?_
 rw[za6,h]
 exact zdK _
theorem zkC (C:Cx) (z n j o:Nat) (S:Sv) (q:PS) (s:ByteArray) (f:PS→PR) (w:World) (h:IM C z n j o S q w) (D:za6 C s s.size 0 q=f q) (A:s.size≤100):
  Calls Tryz.prog 153 #[.pointer (some ⟨o,0,none⟩),.string s] w (zN C z n j o (f q) id (fun _=>.tuple #[]) S w):=by
 rw[←D]
 exact zfO C z n j o S q s w h A
theorem zbQ (C:Cx) (z n j o:Nat) (S:Sv) (q:PS) (b:UInt8) (w:World) (h:IM C z n j o S q w):
  Calls Tryz.prog 153 #[.pointer (some ⟨o,0,none⟩),.string {data:=#[b]}] w (zN C z n j o (zd C 4 {data:=#[b]} q) id (fun _=>.tuple #[]) S w):=
 zkC C z n j o S q {data:=#[b]} (zd C 4 {data:=#[b]}) w h (zhm C b q) (by show 1≤100;omega)
structure Six (w:World) (b:Nat) (v0 v1 v2 v3 v4 v5:Value):Prop where
 c0:w.cell? ⟨b,0,none⟩=some v0
 c1:w.cell? ⟨b,1,none⟩=some v1
 c2:w.cell? ⟨b,2,none⟩=some v2
 c3:w.cell? ⟨b,3,none⟩=some v3
 c4:w.cell? ⟨b,4,none⟩=some v4
 c5:w.cell? ⟨b,5,none⟩=some v5
 fz: ∀i,w.frozen? ⟨b,i,none⟩=false
theorem zu {w:World} {b:Nat} {t:TypeId} {z n o q A j:Value} (h:w.heap[b]? =some (.cells #[z,n,o,q,A,j] t (0,0))):Six w b z n o q A j:=by
 constructor<;>simp[World.cell?,World.frozen?,h]
theorem IS.kept {C:Cx} {H n j A b:Nat} {S E:Sv} {q:PS} {w z:World} {o:Obj} (h:IM C H n j A S q w) (s:IS A S (w.alloc o) E z) (D:b=w.heap.size):z.heap[b]? =some o:=by
 subst D
 refine (s.block _ (by rw[zj];omega) (fun g=>?_) (by have:=h.lt;omega)).trans (heap_alloc_new w _)
 have:=(h.mem.own.has g).2
 omega
theorem IS.from {h:Nat} {S j:Sv} {w n:World} {o:Obj} (s:IS h S (w.alloc o) j n):IS h S w j n:=(IS.below ((Below.refl _ _).alloc (Nat.le_refl _) _)).trans s
theorem IS.free {C:Cx} {E n j A:Nat} {S z:Sv} {q:PS} {w D:World} {o:Obj} (h:IM C E n j A S q w) (s:IS A S (w.alloc o) z D): ¬z.has w.heap.size:=by
 intro g
 rcases s.sub _ g with k|k
 ·have:=(h.mem.own.has k).2
  omega
 ·rw[zj] at k
  omega
def zaW (C:Cx) (x:Ex) (call:Int) (q:PS):PR:=if isT C q.pos 4 zm then bd (zd C 4 zay (adv q)) (zM C ⟨call,x.num,x.name,x.field,x.l,x.r⟩) else zM C x q
theorem zeu (C:Cx) (J o j A:Nat) (S:Sv) (q:PS) (x:Ex) (n:Int) (w:World) (h:IM C J o j A S q w) (hp:0<q.pos):
  Calls Tryz.prog 207 #[.pointer (some ⟨A,0,none⟩),exV x,.int .i64 n] w (zN C J o j A (zaW C x n q) id (fun q'=>.int .i64 ((q'.ex.length:Int)-1)) S w):=by
 have D:=zc h
 clear h
 cases hi:isT C q.pos 4 zm with
 |false=>
  have Y:Hid (zaW C x n q=zM C x q):=by show _=_;rw[zaW,hi];rfl
  unfold exV
  go_enter Tryz.func207,Tryz.ntmps207
  go_wp2_with fail
  refine (zH C J o j A S q 4 zm _ (D.out.alloc _) (by decide)).mono ?_
  rintro e w1 ⟨rfl,m,s⟩
  rw[hi] at m ⊢
  have L:=zc m
  have O:Hid (IS A S w S w1):=s.from
  have ac:Hid (w1.heap[w.heap.size]? =some (.cells #[.int .i64 x.kind,.int .i64 x.num,.string x.name,.string x.field,.int .i64 x.l,.int .i64 x.r] 108 (0,0))):=IS.kept D.out s rfl
  obtain⟨b0,b1,b2,b3,b4,b5,bf⟩:=zu ac.out
  clear m s
  go_wp2_with fail
  refine (zdJ C J o j A S q x _ L.out hp).mono ?_
  cases z:zM C x q with
  |error p=>
   rintro e I ⟨rfl,Z⟩
   have V:Hid (Below j w I):=(D.out.back O.out).trans Z
   have E:Hid (zaW C x n q= .error p):=Y.out.trans z
   unfold Pan
   go_wp2
   refine⟨rfl,?_⟩
   rw[E.out]
   exact⟨rfl,V.out⟩
  |ok a2=>
   rintro e I ⟨rfl,M,m,s⟩
   have K:=zc m
   have ae:Hid (IS A S w M I):=O.out.trans s
   clear m s
   have E:=zc (Y.out.trans z)
   go_wp2
   go_ret
   rw[E.out]
   exact⟨rfl,M,K.out,ae.out⟩
 |true=>
  have Y:Hid (zaW C x n q=bd (zd C 4 zay (adv q)) (zM C ⟨n,x.num,x.name,x.field,x.l,x.r⟩)):=by show _=_;rw[zaW,hi];rfl
  unfold exV
  go_enter Tryz.func207,Tryz.ntmps207
  go_wp2_with fail
  refine (zH C J o j A S q 4 zm _ (D.out.alloc _) (by decide)).mono ?_
  rintro e w1 ⟨rfl,m,s⟩
  rw[hi] at m ⊢
  have L:=zc m
  have U:=zc s
  clear m s
  go_wp2_with fail
  refine (zbQ C J o j A S (adv q) 41 _ L.out).mono ?_
  cases z:zd C 4 zay (adv q) with
  |error p=>
   rintro e I ⟨rfl,Z⟩
   have V:Hid (Below j w I):=(D.out.back U.out.from).trans Z
   have E:Hid (zaW C x n q= .error p):=bdE Y.out z
   unfold Pan
   go_wp2
   refine⟨rfl,?_⟩
   rw[E.out]
   exact⟨rfl,V.out⟩
  |ok a2=>
   rintro e I ⟨rfl,M,m,s⟩
   have K:=zc m
   have H:Hid (IS A S (w.alloc (.cells #[.int .i64 x.kind,.int .i64 x.num,.string x.name,.string x.field,.int .i64 x.l,.int .i64 x.r] 108)) M I):=U.out.trans s
   have aa:Hid (I.heap[w.heap.size]? =some (.cells #[.int .i64 x.kind,.int .i64 x.num,.string x.name,.string x.field,.int .i64 x.l,.int .i64 x.r] 108 (0,0))):=IS.kept D.out H.out rfl
   have ad:Hid (a2=adv (adv q)):=(zb0 z).1
   have ag:Hid (¬M.has w.heap.size):=IS.free D.out H.out
   have ai:A<w.heap.size:=D.out.lt
   have ah:J<w.heap.size:=(zak D.out.mem.tok).1
   clear m s
   have X:=zc (bdO Y.out z)
   obtain⟨b0,b1,b2,b3,b4,b5,bf⟩:=zu aa.out
   go_wp2_with fail
   refine (zdJ C J o j A M a2 ⟨n,x.num,x.name,x.field,x.l,x.r⟩ _ (K.out.set (by omega) (by omega) ag.out _ _) (by rw[ad.out];show 0<q.pos+1+1;omega)).mono ?_
   cases N:zM C ⟨n,x.num,x.name,x.field,x.l,x.r⟩ a2 with
   |error p=>
    rintro e w3 ⟨rfl,Z⟩
    have V:Hid (Below j w w3):=(D.out.back (H.out.from.new (Nat.le_refl _) _ _)).trans Z
    have E:Hid (zaW C x n q= .error p):=X.out.trans N
    unfold Pan
    go_wp2
    refine⟨rfl,?_⟩
    rw[E.out]
    exact⟨rfl,V.out⟩
   |ok a3=>
    rintro e w3 ⟨rfl,S3,m,s⟩
    have ab:=zc m
    have af:Hid (IS A S w S3 w3):=(H.out.from.new (Nat.le_refl _) _ _).trans s
    clear m s
    have E:=zc (X.out.trans N)
    go_wp2
    go_ret
    rw[E.out]
    exact⟨rfl,S3,ab.out,af.out⟩
def exI (q:PS):Value:=.int .i64 ((q.ex.length:Int)-1)
def zev (C:Cx) (gt cap base gp m:Nat):Prop:=∀(d:Nat) (S:Sv) (q:PS) (w:World),C.ts.length-q.pos<m→d≤20→IM C gt cap base gp S q w→
 Calls Tryz.prog 183 #[.pointer (some ⟨gp,0,none⟩),.int .i64 d] w (zN C gt cap base gp (pE C .sum d q) id exI S w)
theorem zho (C:Cx) (n:ByteArray) (q:PS):zbq C n q=zaW C ⟨2,0,n,sNone,0,0⟩ 3 q:=by
 unfold zbq zaW
 cases h:isT C q.pos 4 zm with
 |true=>rw[zb9 h];rfl
 |false=>rfl
theorem zkD (C:Cx) (n f:ByteArray) (q:PS):zbz C n f q=zaW C ⟨4,0,n,f,0,0⟩ 5 q:=by
 unfold zbz zaW
 cases h:isT C q.pos 4 zm with
 |true=>rw[zb9 h];rfl
 |false=>rfl
theorem zkE {x y:ByteArray} (h:(x.toList==y.toList)=true):x=y:=by
 rw[beq_iff_eq,Lib.toList_data,Lib.toList_data] at h
 cases x
 cases y
 simp only at h
 rw[Array.toList_inj.1 h]
theorem zfT {C:Cx} {i:Nat} {k:Int} {x:ByteArray} (h:isT C i k x=true):(ze C i).text=x:=by
 simp only[isT,Bool.and_eq_true] at h
 exact zkE h.2
theorem zfb {C:Cx} {i:Nat} {k:Int} {x:ByteArray} (h:isT C i k x=true):((ze C i).kind==k)=true:=by
 simp only[isT,Bool.and_eq_true] at h
 exact h.1
theorem zkF {C:Cx} {d:Nat} {q:PS} (h:((ze C q.pos).kind==2)=true):pE C .part d q=zM C ⟨1,(ze C q.pos).num,sNone,sNone,0,0⟩ (adv q):=by rw[zbv,h];rfl
theorem zkG {C:Cx} {d:Nat} {q:PS} (h:((ze C q.pos).kind==2)=false) (n:isT C q.pos 4 zm=true) (j:20≤d):pE C .part d q= .error (zq C q.pos):=by rw[zbv,h,n,if_neg (by decide),if_pos rfl,if_pos j]
theorem zkH {C:Cx} {d:Nat} {q:PS} (h:((ze C q.pos).kind==2)=false) (n:isT C q.pos 4 zm=true) (j: ¬20≤d):pE C .part d q=bd (pE C .sum (d+1) (adv q)) (zd C 4 zay):=by rw[zbv,h,n,if_neg (by decide),if_pos rfl,if_neg j]
theorem zkI {C:Cx} {d:Nat} {q:PS} (h:((ze C q.pos).kind==2)=false) (j:isT C q.pos 4 zm=false) (n:C.scr=true) (o:isT C q.pos 1 za4=true):pE C .part d q=zaW C ⟨2,0,za4,sNone,0,0⟩ 3 (adv q):=by
 rw[zbv,h,j,n,o,if_neg (by decide),if_neg (by decide),if_pos (by decide),zho]
theorem zhp {C:Cx} {d:Nat} {q:PS} (h:((ze C q.pos).kind==2)=false) (j:isT C q.pos 4 zm=false) (n:(C.scr&&isT C q.pos 1 za4)=false):
  pE C .part d q=bd (zh C false q) fun x=>if isT C x.1.pos 4 cPoint then bd (zh C true (adv x.1)) fun y=>zaW C ⟨4,0,x.2,y.2,0,0⟩ 5 y.1 else zaW C ⟨2,0,x.2,sNone,0,0⟩ 3 x.1:=by
 rw[zbv,h,j,n,if_neg (by decide),if_neg (by decide),if_neg (by decide)]
 simp only[zho,zkD]
theorem zkJ (C:Cx) (z n j o d:Nat) (S:Sv) (q:PS) (w:World) (h:IM C z n j o S q w) (U:((ze C q.pos).kind==2)=true):
  Calls Tryz.prog 206 #[.pointer (some ⟨o,0,none⟩),.int .i64 d] w (zN C z n j o (pE C .part d q) id exI S w):=by
 have M:=zc h
 have ab:=zc1
 have aa:=zco
 have ac:=zdF
 clear h
 have X:=zc (zkF (d:=d) U)
 go_enter Tryz.func206,Tryz.ntmps206
 go_wp2_with fail
 refine (zbk C z n j o S q _ M.out).mono ?_
 rintro e V ⟨rfl,D⟩
 unfold tkV
 have L:Hid (IM C z n j o S q V):=M.out.later D
 have O:Hid (IS o S w S V):=IS.below D
 clear D
 go_wp2_with fail
 refine (zdi C z n j o S q 2 _ L.out U (by decide)).mono ?_
 rintro e w2 ⟨rfl,m,s⟩
 have K:=zc m
 have E:Hid (IS o S w S w2):=O.out.trans s
 clear m s
 unfold tkV
 go_wp2_with fail
 refine (zdJ C z n j o S (adv q) ⟨1,(ze C q.pos).num,sNone,sNone,0,0⟩ _ K.out (by rw[zw];omega)).mono ?_
 cases A:zM C ⟨1,(ze C q.pos).num,sNone,sNone,0,0⟩ (adv q) with
 |error p=>
  rintro e I ⟨rfl,D⟩
  have HB:Hid (Below j w I):=(M.out.back E.out).trans D
  have Z:Hid (pE C .part d q= .error p):=X.out.trans A
  unfold Pan
  go_wp2
  refine⟨rfl,?_⟩
  rw[Z.out]
  exact⟨rfl,HB.out⟩
 |ok a3=>
  rintro e I ⟨rfl,Y,m,s⟩
  have H:=zc m
  have N:Hid (IS o S w Y I):=E.out.trans s
  clear m s
  have J:=zc (X.out.trans A)
  go_wp2
  go_ret
  rw[J.out]
  exact⟨rfl,Y,H.out,N.out⟩
theorem zkK (C:Cx) (z n j o d:Nat) (S:Sv) (q:PS) (w:World) (h:IM C z n j o S q w) (N:((ze C q.pos).kind==2)=false) (L:isT C q.pos 4 zm=true) (M:20≤d):
  Calls Tryz.prog 206 #[.pointer (some ⟨o,0,none⟩),.int .i64 d] w (zN C z n j o (pE C .part d q) id exI S w):=by
 have H:=zc h
 have Y:=zc1
 have X:=zco
 have Z:=zdF
 clear h
 have HY:=zc (zkG (d:=d) N L M)
 have O:(20:Int)≤(d:Int):=by omega
 go_enter Tryz.func206,Tryz.ntmps206
 go_wp2_with fail
 refine (zbk C z n j o S q _ H.out).mono ?_
 rintro e K ⟨rfl,D⟩
 unfold tkV
 have E:Hid (IM C z n j o S q K):=H.out.later D
 have J:Hid (IS o S w S K):=IS.below D
 clear D
 go_wp2_with fail
 refine (zH C z n j o S q 4 zm _ E.out (by decide)).mono ?_
 rintro e w2 ⟨rfl,m,s⟩
 rw[L] at m ⊢
 have A:=zc m
 have I:Hid (IS o S w S w2):=J.out.trans s
 clear m s
 go_wp2_with fail
 refine (zdI C z n j o S (adv q) d 20 _ A.out (by omega) (by rw[zw];omega)).mono ?_
 rintro e V ⟨rfl,D⟩
 have HB:Hid (Below j w V):=(H.out.back I.out).trans (D.mono A.out.mem.base)
 have U:Hid (pE C .part d q= .error (zq C q.pos)):=HY.out
 unfold Pan
 go_wp2
 refine⟨rfl,?_⟩
 rw[U.out]
 exact⟨rfl,HB.out⟩
theorem zkL (C:Cx) (D n j o m d:Nat) (S:Sv) (q:PS) (w:World) (h:IM C D n j o S q w) (hk:((ze C q.pos).kind==2)=false) (h1:isT C q.pos 4 zm=true) (hd:d<20) (hS:zev C D n j o m) (hm:C.ts.length-q.pos≤m):
  Calls Tryz.prog 206 #[.pointer (some ⟨o,0,none⟩),.int .i64 d] w (zN C D n j o (pE C .part d q) id exI S w):=by
 have M:=zc h
 have ah:=zc1
 have ag:=zco
 have ai:=zdF
 clear h
 have HY:=zc (zkH (d:=d) hk h1 (by omega))
 have af: ¬(20:Int)≤(d:Int):=by omega
 have aj:=zaz h1 (by decide)
 obtain⟨E,H⟩: ∃E:Nat,E=d+1:=⟨_,rfl⟩
 have ed:(d:Int)+1=(E:Int):=by omega
 rw[←H] at HY
 have ac:E≤20:=by omega
 clear H
 go_enter Tryz.func206,Tryz.ntmps206
 go_wp2_with fail
 refine (zbk C D n j o S q _ M.out).mono ?_
 rintro e w1 ⟨rfl,A⟩
 unfold tkV
 have aa:Hid (IM C D n j o S q w1):=M.out.later A
 have ae:Hid (IS o S w S w1):=IS.below A
 clear A
 go_wp2_with fail
 refine (zH C D n j o S q 4 zm _ aa.out (by decide)).mono ?_
 rintro e w2 ⟨rfl,m,s⟩
 rw[h1] at m ⊢
 have Y:=zc m
 have K:Hid (IS o S w S w2):=ae.out.trans s
 clear m s
 go_wp2_with fail
 refine (zdj o d 20 _ (by omega)).mono ?_
 rintro e w' ⟨rfl,hw⟩
 rw[hw]
 clear hw w'
 go_wp2_with fail
 refine (hS E S (adv q) _ (by rw[zw];omega) ac Y.out).mono ?_
 cases I:pE C .sum E (adv q) with
 |error p=>
  rintro e V ⟨rfl,A⟩
  have Z:Hid (Below j w V):=(M.out.back K.out).trans A
  have U:Hid (pE C .part d q= .error p):=bdE HY.out I
  unfold Pan
  go_wp2
  refine⟨rfl,?_⟩
  rw[U.out]
  exact⟨rfl,Z.out⟩
 |ok O=>
  rintro e V ⟨rfl,S3,m,s⟩
  have N:=zc m
  have L:Hid (IS o S w S3 V):=K.out.trans s
  clear m s
  have J:=zc (bdO HY.out I)
  unfold exI
  go_wp2_with fail
  refine (zbQ C D n j o S3 O 41 _ N.out).mono ?_
  cases z:zd C 4 zay O with
  |error p=>
   rintro e w4 ⟨rfl,A⟩
   have Z:Hid (Below j w w4):=(M.out.back L.out).trans A
   have U:Hid (pE C .part d q= .error p):=J.out.trans z
   unfold Pan
   go_wp2
   refine⟨rfl,?_⟩
   rw[U.out]
   exact⟨rfl,Z.out⟩
  |ok a4=>
   rintro e w4 ⟨rfl,S4,m,s⟩
   have ad:=zc m
   have ab:Hid (IS o S w S4 w4):=L.out.trans s
   clear m s
   have X:=zc (J.out.trans z)
   have HP:Hid (a4=adv O):=(zb0 z).1
   go_wp2
   go_ret
   rw[X.out]
   exact⟨by rw[HP.out];rfl,S4,ad.out,ab.out⟩
theorem zkM (C:Cx) (z n j o d:Nat) (S:Sv) (q:PS) (w:World) (h:IM C z n j o S q w) (hk:((ze C q.pos).kind==2)=false) (h1:isT C q.pos 4 zm=false) (h2:C.scr=true) (I:isT C q.pos 1 za4=true):
  Calls Tryz.prog 206 #[.pointer (some ⟨o,0,none⟩),.int .i64 d] w (zN C z n j o (pE C .part d q) id exI S w):=by
 have O:=zc h
 have ab:=zc1
 have aa:=zco
 have ac:=zdF
 clear h
 have HY:=zc (zkI (d:=d) hk h1 h2 I)
 go_enter Tryz.func206,Tryz.ntmps206
 go_wp2_with fail
 refine (zbk C z n j o S q _ O.out).mono ?_
 rintro e w1 ⟨rfl,A⟩
 unfold tkV
 have M:Hid (IM C z n j o S q w1):=O.out.later A
 have Z:Hid (IS o S w S w1):=IS.below A
 clear A
 go_wp2_with fail
 refine (zH C z n j o S q 4 zm _ M.out (by decide)).mono ?_
 rintro e w2 ⟨rfl,m,s⟩
 rw[h1] at m ⊢
 have D:=zc m
 have V:Hid (IS o S w S w2):=Z.out.trans s
 clear m s
 obtain⟨_,_,_,c3,_,_,_,_,_,_,cf⟩:=zaa D.out.cells
 rw[h2] at c3
 go_wp2_with fail
 refine (zbI C z n j o S q 1 za4 _ D.out).mono ?_
 rintro e w3 ⟨rfl,A⟩
 rw[I]
 have K:Hid (IM C z n j o S q w3):=D.out.later A
 have Y:Hid (IS o S w S w3):=(V.out.trans (IS.below A))
 clear A
 go_wp2_with fail
 refine (zdi C z n j o S q 1 _ K.out (zfb I) (by decide)).mono ?_
 rintro e w4 ⟨rfl,m,s⟩
 have U:=zc m
 have E:Hid (IS o S w S w4):=Y.out.trans s
 clear m s
 unfold tkV
 rw[zfT I]
 go_wp2_with fail
 refine (zeu C z n j o S (adv q) ⟨2,0,za4,sNone,0,0⟩ 3 _ U.out (by rw[zw];omega)).mono ?_
 cases H:zaW C ⟨2,0,za4,sNone,0,0⟩ 3 (adv q) with
 |error p=>
  rintro e N ⟨rfl,A⟩
  have HB:Hid (Below j w N):=(O.out.back E.out).trans A
  have HX:Hid (pE C .part d q= .error p):=HY.out.trans H
  unfold Pan
  go_wp2
  refine⟨rfl,?_⟩
  rw[HX.out]
  exact⟨rfl,HB.out⟩
 |ok a5=>
  rintro e N ⟨rfl,S5,m,s⟩
  have L:=zc m
  have J:Hid (IS o S w S5 N):=E.out.trans s
  clear m s
  have X:=zc (HY.out.trans H)
  go_wp2
  go_ret
  rw[X.out]
  exact⟨rfl,S5,L.out,J.out⟩
theorem zkN (C:Cx) (A n j o d:Nat) (S:Sv) (q:PS) (w:World) (h:IM C A n j o S q w) (hk:((ze C q.pos).kind==2)=false) (h1:isT C q.pos 4 zm=false) (h2:C.scr=true) (h3:isT C q.pos 1 za4=false):
  Calls Tryz.prog 206 #[.pointer (some ⟨o,0,none⟩),.int .i64 d] w (zN C A n j o (pE C .part d q) id exI S w):=by
 have Y:=zc h
 have an:=zc1
 have am:=zco
 have ao:=zdF
 clear h
 have HY:=zc (zhp (d:=d) hk h1 (by rw[h2,h3];rfl))
 go_enter Tryz.func206,Tryz.ntmps206
 go_wp2_with fail
 refine (zbk C A n j o S q _ Y.out).mono ?_
 rintro e w1 ⟨rfl,z⟩
 unfold tkV
 have ag:Hid (IM C A n j o S q w1):=Y.out.later z
 have al:Hid (IS o S w S w1):=IS.below z
 clear z
 go_wp2_with fail
 refine (zH C A n j o S q 4 zm _ ag.out (by decide)).mono ?_
 rintro e w2 ⟨rfl,m,s⟩
 rw[h1] at m ⊢
 have L:=zc m
 have aj:Hid (IS o S w S w2):=al.out.trans s
 clear m s
 obtain⟨_,_,_,c3,_,_,_,_,_,_,cf⟩:=zaa L.out.cells
 rw[h2] at c3
 go_wp2_with fail
 refine (zbI C A n j o S q 1 za4 _ L.out).mono ?_
 rintro e w3 ⟨rfl,z⟩
 rw[h3]
 have af:Hid (IM C A n j o S q w3):=L.out.later z
 have ae:Hid (IS o S w S w3):=(aj.out.trans (IS.below z))
 clear z
 go_wp2_with fail
 refine (zcM C A n j o S q _ af.out).mono ?_
 cases U:zh C false q with
 |error p=>
  rintro e w4 ⟨rfl,z⟩
  have N:Hid (Below j w w4):=(Y.out.back ae.out).trans z
  have K:Hid (pE C .part d q= .error p):=bdE HY.out U
  unfold Pan
  go_wp2
  refine⟨rfl,?_⟩
  rw[K.out]
  exact⟨rfl,N.out⟩
 |ok E=>
  rintro e w4 ⟨rfl,X,m,s⟩
  have ad:=zc m
  have ac:Hid (IS o S w X w4):=ae.out.trans s
  clear m s
  have aa:=zc (bdO HY.out U)
  have Z:0<E.1.pos:=by rw[(zbe U).1];exact Nat.succ_pos _
  cases hd:isT C E.1.pos 4 cPoint with
  |true=>
   have HZ:=zc (aa.out.trans (if_pos hd))
   go_wp2_with fail
   refine (zH C A n j o X (E.1) 4 cPoint _ ad.out (by decide)).mono ?_
   rintro e w5 ⟨rfl,m,s⟩
   rw[hd] at m ⊢
   have M:=zc m
   have H:Hid (IS o S w X w5):=ac.out.trans s
   clear m s
   go_wp2_with fail
   refine (zep C A n j o X (adv (E.1)) _ M.out).mono ?_
   cases D:zh C true (adv (E.1)) with
   |error p=>
    rintro e V ⟨rfl,z⟩
    have N:Hid (Below j w V):=(Y.out.back H.out).trans z
    have K:Hid (pE C .part d q= .error p):=bdE HZ.out D
    unfold Pan
    go_wp2
    refine⟨rfl,?_⟩
    rw[K.out]
    exact⟨rfl,N.out⟩
   |ok a6=>
    rintro e V ⟨rfl,S6,m,s⟩
    have O:=zc m
    have J:Hid (IS o S w S6 V):=H.out.trans s
    clear m s
    have I:=zc (bdO HZ.out D)
    go_wp2_with fail
    refine (zeu C A n j o S6 (a6.1) ⟨4,0,E.2,a6.2,0,0⟩ 5 _ O.out (by rw[(zbe D).1];exact Nat.succ_pos _)).mono ?_
    cases ab:zaW C ⟨4,0,E.2,a6.2,0,0⟩ 5 (a6.1) with
    |error p=>
     rintro e w7 ⟨rfl,z⟩
     have N:Hid (Below j w w7):=(Y.out.back J.out).trans z
     have K:Hid (pE C .part d q= .error p):=I.out.trans ab
     unfold Pan
     go_wp2
     refine⟨rfl,?_⟩
     rw[K.out]
     exact⟨rfl,N.out⟩
    |ok a7=>
     rintro e w7 ⟨rfl,S7,m,s⟩
     have ak:=zc m
     have ai:Hid (IS o S w S7 w7):=J.out.trans s
     clear m s
     have ah:=zc (I.out.trans ab)
     go_wp2
     go_ret
     rw[ah.out]
     exact⟨rfl,S7,ak.out,ai.out⟩
  |false=>
   have HZ:=zc (aa.out.trans (if_neg (by rw[hd];decide)))
   go_wp2_with fail
   refine (zH C A n j o X (E.1) 4 cPoint _ ad.out (by decide)).mono ?_
   rintro e w5 ⟨rfl,m,s⟩
   rw[hd] at m ⊢
   have M:=zc m
   have H:Hid (IS o S w X w5):=ac.out.trans s
   clear m s
   go_wp2_with fail
   refine (zeu C A n j o X (E.1) ⟨2,0,E.2,sNone,0,0⟩ 3 _ M.out Z).mono ?_
   cases D:zaW C ⟨2,0,E.2,sNone,0,0⟩ 3 (E.1) with
   |error p=>
    rintro e V ⟨rfl,z⟩
    have N:Hid (Below j w V):=(Y.out.back H.out).trans z
    have K:Hid (pE C .part d q= .error p):=HZ.out.trans D
    unfold Pan
    go_wp2
    refine⟨rfl,?_⟩
    rw[K.out]
    exact⟨rfl,N.out⟩
   |ok a6=>
    rintro e V ⟨rfl,S6,m,s⟩
    have O:=zc m
    have J:Hid (IS o S w S6 V):=H.out.trans s
    clear m s
    have I:=zc (HZ.out.trans D)
    go_wp2
    go_ret
    rw[I.out]
    exact⟨rfl,S6,O.out,J.out⟩
theorem zkO (C:Cx) (D n j o d:Nat) (S:Sv) (q:PS) (w:World) (h:IM C D n j o S q w) (hk:((ze C q.pos).kind==2)=false) (h1:isT C q.pos 4 zm=false) (h2:C.scr=false):
  Calls Tryz.prog 206 #[.pointer (some ⟨o,0,none⟩),.int .i64 d] w (zN C D n j o (pE C .part d q) id exI S w):=by
 have X:=zc h
 have al:=zc1
 have ak:=zco
 have am:=zdF
 clear h
 have HY:=zc (zhp (d:=d) hk h1 (by rw[h2];rfl))
 go_enter Tryz.func206,Tryz.ntmps206
 go_wp2_with fail
 refine (zbk C D n j o S q _ X.out).mono ?_
 rintro e w1 ⟨rfl,H⟩
 unfold tkV
 have af:Hid (IM C D n j o S q w1):=X.out.later H
 have aj:Hid (IS o S w S w1):=IS.below H
 clear H
 go_wp2_with fail
 refine (zH C D n j o S q 4 zm _ af.out (by decide)).mono ?_
 rintro e w2 ⟨rfl,m,s⟩
 rw[h1] at m ⊢
 have ab:=zc m
 have ad:Hid (IS o S w S w2):=aj.out.trans s
 clear m s
 obtain⟨_,_,_,c3,_,_,_,_,_,_,cf⟩:=zaa ab.out.cells
 rw[h2] at c3
 go_wp2_with fail
 refine (zcM C D n j o S q _ ab.out).mono ?_
 cases K:zh C false q with
 |error p=>
  rintro e w3 ⟨rfl,H⟩
  have V:Hid (Below j w w3):=(X.out.back ad.out).trans H
  have L:Hid (pE C .part d q= .error p):=bdE HY.out K
  unfold Pan
  go_wp2
  refine⟨rfl,?_⟩
  rw[L.out]
  exact⟨rfl,V.out⟩
 |ok A=>
  rintro e w3 ⟨rfl,U,m,s⟩
  have Z:=zc m
  have ae:Hid (IS o S w U w3):=ad.out.trans s
  clear m s
  have aa:=zc (bdO HY.out K)
  have Y:0<A.1.pos:=by rw[(zbe K).1];exact Nat.succ_pos _
  cases hd:isT C A.1.pos 4 cPoint with
  |true=>
   have HZ:=zc (aa.out.trans (if_pos hd))
   go_wp2_with fail
   refine (zH C D n j o U (A.1) 4 cPoint _ Z.out (by decide)).mono ?_
   rintro e w4 ⟨rfl,m,s⟩
   rw[hd] at m ⊢
   have O:=zc m
   have E:Hid (IS o S w U w4):=ae.out.trans s
   clear m s
   go_wp2_with fail
   refine (zep C D n j o U (adv (A.1)) _ O.out).mono ?_
   cases z:zh C true (adv (A.1)) with
   |error p=>
    rintro e N ⟨rfl,H⟩
    have V:Hid (Below j w N):=(X.out.back E.out).trans H
    have L:Hid (pE C .part d q= .error p):=bdE HZ.out z
    unfold Pan
    go_wp2
    refine⟨rfl,?_⟩
    rw[L.out]
    exact⟨rfl,V.out⟩
   |ok a5=>
    rintro e N ⟨rfl,S5,m,s⟩
    have M:=zc m
    have I:Hid (IS o S w S5 N):=E.out.trans s
    clear m s
    have J:=zc (bdO HZ.out z)
    go_wp2_with fail
    refine (zeu C D n j o S5 (a5.1) ⟨4,0,A.2,a5.2,0,0⟩ 5 _ M.out (by rw[(zbe z).1];exact Nat.succ_pos _)).mono ?_
    cases ac:zaW C ⟨4,0,A.2,a5.2,0,0⟩ 5 (a5.1) with
    |error p=>
     rintro e w6 ⟨rfl,H⟩
     have V:Hid (Below j w w6):=(X.out.back I.out).trans H
     have L:Hid (pE C .part d q= .error p):=J.out.trans ac
     unfold Pan
     go_wp2
     refine⟨rfl,?_⟩
     rw[L.out]
     exact⟨rfl,V.out⟩
    |ok a6=>
     rintro e w6 ⟨rfl,S6,m,s⟩
     have ag:=zc m
     have ai:Hid (IS o S w S6 w6):=I.out.trans s
     clear m s
     have ah:=zc (J.out.trans ac)
     go_wp2
     go_ret
     rw[ah.out]
     exact⟨rfl,S6,ag.out,ai.out⟩
  |false=>
   have HZ:=zc (aa.out.trans (if_neg (by rw[hd];decide)))
   go_wp2_with fail
   refine (zH C D n j o U (A.1) 4 cPoint _ Z.out (by decide)).mono ?_
   rintro e w4 ⟨rfl,m,s⟩
   rw[hd] at m ⊢
   have O:=zc m
   have E:Hid (IS o S w U w4):=ae.out.trans s
   clear m s
   go_wp2_with fail
   refine (zeu C D n j o U (A.1) ⟨2,0,A.2,sNone,0,0⟩ 3 _ O.out Y).mono ?_
   cases z:zaW C ⟨2,0,A.2,sNone,0,0⟩ 3 (A.1) with
   |error p=>
    rintro e N ⟨rfl,H⟩
    have V:Hid (Below j w N):=(X.out.back E.out).trans H
    have L:Hid (pE C .part d q= .error p):=HZ.out.trans z
    unfold Pan
    go_wp2
    refine⟨rfl,?_⟩
    rw[L.out]
    exact⟨rfl,V.out⟩
   |ok a5=>
    rintro e N ⟨rfl,S5,m,s⟩
    have M:=zc m
    have I:Hid (IS o S w S5 N):=E.out.trans s
    clear m s
    have J:=zc (HZ.out.trans z)
    go_wp2
    go_ret
    rw[J.out]
    exact⟨rfl,S5,M.out,I.out⟩
theorem zhq (C:Cx) (z n j o m d:Nat) (S:Sv) (q:PS) (w:World) (h:IM C z n j o S q w) (L:d≤20) (K:zev C z n j o m) (J:C.ts.length-q.pos≤m):
  Calls Tryz.prog 206 #[.pointer (some ⟨o,0,none⟩),.int .i64 d] w (zN C z n j o (pE C .part d q) id exI S w):=by
 cases A:((ze C q.pos).kind==2) with
 |true=>exact zkJ C z n j o d S q w h A
 |false=>
  cases D:isT C q.pos 4 zm with
  |true=>
   by_cases H:20≤d
   ·exact zkK C z n j o d S q w h A D H
   ·exact zkL C z n j o m d S q w h A D (by omega) K J
  |false=>
   cases E:C.scr with
   |true=>
    cases I:isT C q.pos 1 za4 with
    |true=>exact zkM C z n j o d S q w h A D E I
    |false=>exact zkN C z n j o d S q w h A D E I
   |false=>exact zkO C z n j o d S q w h A D E
theorem zkP {C:Cx} {d:Nat} {q:PS} (h:isT C q.pos 4 zv=false):pE C .prodT d q= .ok q:=by rw[zeJ,if_neg (by rw[h];decide)]
theorem zkQ {C:Cx} {d:Nat} {q:PS} (h:isT C q.pos 4 zv=true):pE C .prodT d q=bd (pE C .part d (adv q)) fun a=>bd (zM C ⟨8,0,sNone,sNone,(q.ex.length:Int)-1,(a.ex.length:Int)-1⟩ a) (pE C .prodT d):=by rw[zeJ,if_pos h,zK]
theorem zkR {C:Cx} {d:Nat} {q:PS} (h:isT C q.pos 4 zaT=false) (j:isT C q.pos 4 zbN=false):pE C .sumT d q= .ok q:=by rw[zeg,if_neg (by rw[h,j];decide)]
theorem zkS {C:Cx} {d:Nat} {q:PS} (h:isT C q.pos 4 zaT=true):pE C .sumT d q=bd (pE C .prod d (adv q)) fun a=>bd (zM C ⟨7,0,sNone,sNone,(q.ex.length:Int)-1,(a.ex.length:Int)-1⟩ a) (pE C .sumT d):=by
 rw[zeg,if_pos (by rw[h];exact Bool.or_true _),zK,zcH,if_pos h]
theorem zkT {C:Cx} {d:Nat} {q:PS} (h:isT C q.pos 4 zaT=false) (j:isT C q.pos 4 zbN=true):pE C .sumT d q=bd (pE C .prod d (adv q)) fun a=>bd (zM C ⟨6,0,sNone,sNone,(q.ex.length:Int)-1,(a.ex.length:Int)-1⟩ a) (pE C .sumT d):=by
 rw[zeg,if_pos (by rw[j];rfl),zK,zcH,if_neg (by rw[h];decide)]
theorem zfU (C:Cx) (D n j o m d:Nat) (S:Sv) (q:PS) (w:World) (h:IM C D n j o S q w) (hd:d≤20) (hS:zev C D n j o m) (hm:C.ts.length-q.pos≤m):
  Calls Tryz.prog 201 #[.pointer (some ⟨o,0,none⟩),.int .i64 d] w (zN C D n j o (pE C .prod d q) id exI S w):=by
 have HH:=zc h
 have HY:=zc (zgI C d q)
 clear h
 go_enter Tryz.func201,Tryz.ntmps201
 go_wp2_with fail
 refine (zhq C D n j o m d S q _ HH.out hd hS hm).mono ?_
 cases H:pE C .part d q with
 |error p=>
  rintro e w1 ⟨rfl,Z⟩
  have Y:Hid (Below j w w1):=(HH.out.back (IS.refl _ _ _)).trans Z
  have N:Hid (pE C .prod d q= .error p):=bdE HY.out H
  unfold Pan
  go_wp2
  refine⟨rfl,?_⟩
  rw[N.out]
  exact⟨rfl,Y.out⟩
 |ok a1=>
  rintro e w1 ⟨rfl,S1,m,s⟩
  have af:=zc m
  have ae:=zc s
  clear m s
  have ai:=zc (bdO HY.out H)
  unfold exI
  have ak:=zaP H
  go_wp2
  go_loopg [5] (C.ts.length+1) (fun k l wr=>∃(A:Sv) (z:PS),l=exI z∧pE C .prod d q=pE C .prodT d z∧C.ts.length-z.pos<k∧C.ts.length-z.pos≤m∧IM C D n j o A z wr∧IS o S w A wr)
  case atStart=>exact⟨S1,a1,rfl,ai.out,by omega,by omega,af.out,ae.out⟩
  case round=>
   obtain⟨A,z,rfl,hy,hk,al,m',s'⟩:=hrel
   have X:=zc hy
   have ab:Hid (IM C D n j o A z wr):=m'
   have M:Hid (IS o S w A wr):=s'
   clear hy m' s'
   unfold exI
   cases V:isT C z.pos 4 zv with
   |false=>
    have HZ:=zc (X.out.trans (zkP V))
    go_wp2_with fail
    refine (zH C D n j o A z 4 zv _ ab.out (by decide)).mono ?_
    rintro e w2 ⟨rfl,m,s⟩
    rw[V] at m ⊢
    have J:=zc m
    have E:Hid (IS o S w A w2):=M.out.trans s
    clear m s
    go_wp2
    go_ret
    rw[HZ.out]
    exact⟨rfl,A,J.out,E.out⟩
   |true=>
    have am:=zaz V (by decide)
    have HZ:=zc (X.out.trans (zkQ V))
    go_wp2_with fail
    refine (zH C D n j o A z 4 zv _ ab.out (by decide)).mono ?_
    rintro e w2 ⟨rfl,m,s⟩
    rw[V] at m ⊢
    have J:=zc m
    have E:Hid (IS o S w A w2):=M.out.trans s
    clear m s
    go_wp2_with fail
    refine (zhq C D n j o m d A (adv z) _ J.out hd hS (by rw[zw];omega)).mono ?_
    cases I:pE C .part d (adv z) with
    |error p=>
     rintro e w3 ⟨rfl,Z⟩
     have Y:Hid (Below j w w3):=(HH.out.back E.out).trans Z
     have N:Hid (pE C .prod d q= .error p):=bdE HZ.out I
     unfold Pan
     go_wp2
     refine⟨rfl,?_⟩
     rw[N.out]
     exact⟨rfl,Y.out⟩
    |ok L=>
     rintro e w3 ⟨rfl,S3,m,s⟩
     have ac:=zc m
     have aa:Hid (IS o S w S3 w3):=E.out.trans s
     clear m s
     have O:=zc (bdO HZ.out I)
     unfold exI
     have U:=zaP I
     rw[zw] at U
     have aj:0<L.pos:=by omega
     go_wp2_with fail
     refine (zdJ C D n j o S3 L ⟨8,0,sNone,sNone,(z.ex.length:Int)-1,(L.ex.length:Int)-1⟩ _ ac.out aj).mono ?_
     cases K:zM C ⟨8,0,sNone,sNone,(z.ex.length:Int)-1,(L.ex.length:Int)-1⟩ L with
     |error p=>
      rintro e w4 ⟨rfl,Z⟩
      have Y:Hid (Below j w w4):=(HH.out.back aa.out).trans Z
      have N:Hid (pE C .prod d q= .error p):=bdE O.out K
      unfold Pan
      go_wp2
      refine⟨rfl,?_⟩
      rw[N.out]
      exact⟨rfl,Y.out⟩
     |ok a4=>
      rintro e w4 ⟨rfl,S4,m,s⟩
      have ah:=zc m
      have ag:Hid (IS o S w S4 w4):=aa.out.trans s
      clear m s
      have ad:=zc (bdO O.out K)
      have HP:Hid (a4.pos=L.pos):=by show _=_;rw[(zb1 K).1]
      go_wp2
      go_roundg (gk-1)
      case rel=>exact⟨S4,a4,rfl,ad.out,by have:=HP.out;omega,by have:=HP.out;omega,ah.out,ag.out⟩
      case measure=>omega
theorem zkU (C:Cx) (E n j o m d:Nat) (S:Sv) (q:PS) (w:World) (h:IM C E n j o S q w) (hd:d≤20) (hS:zev C E n j o m) (hm:C.ts.length-q.pos≤m):
  Calls Tryz.prog 183 #[.pointer (some ⟨o,0,none⟩),.int .i64 d] w (zN C E n j o (pE C .sum d q) id exI S w):=by
 have HH:=zc h
 have HY:=zc (zgH C d q)
 clear h
 go_enter Tryz.func183,Tryz.ntmps183
 go_wp2_with fail
 refine (zfU C E n j o m d S q _ HH.out hd hS hm).mono ?_
 cases ad:pE C .prod d q with
 |error p=>
  rintro e w1 ⟨rfl,A⟩
  have Z:Hid (Below j w w1):=(HH.out.back (IS.refl _ _ _)).trans A
  have HX:Hid (pE C .sum d q= .error p):=bdE HY.out ad
  unfold Pan
  go_wp2
  refine⟨rfl,?_⟩
  rw[HX.out]
  exact⟨rfl,Z.out⟩
 |ok a1=>
  rintro e w1 ⟨rfl,S1,m,s⟩
  have ao:=zc m
  have an:=zc s
  clear m s
  have ak:=zc (bdO HY.out ad)
  unfold exI
  have ar:=zaP ad
  go_wp2
  go_loopg [5] (C.ts.length+1) (fun k l wr=>∃(D:Sv) (z:PS),l=exI z∧pE C .sum d q=pE C .sumT d z∧C.ts.length-z.pos<k∧C.ts.length-z.pos≤m∧IM C E n j o D z wr∧IS o S w D wr)
  case atStart=>exact⟨S1,a1,rfl,ak.out,by omega,by omega,ao.out,an.out⟩
  case round=>
   obtain⟨D,z,rfl,hy,hk,au,m',s'⟩:=hrel
   have ae:=zc hy
   have J:Hid (IM C E n j o D z wr):=m'
   have ag:Hid (IS o S w D wr):=s'
   clear hy m' s'
   unfold exI
   have aq:=J.out.mem.few
   cases hi:isT C z.pos 4 zaT with
   |true=>
    have af:=zaz hi (by decide)
    have HZ:=zc (ae.out.trans (zkS hi))
    go_wp2_with fail
    refine (zbI C E n j o D z 4 zaT _ J.out).mono ?_
    rintro e U ⟨rfl,A⟩
    rw[hi]
    have H:Hid (IM C E n j o D z U):=J.out.later A
    have O:Hid (IS o S w D U):=(ag.out.trans (IS.below A))
    clear A
    obtain⟨c0,c1,c2,c3,c4,c5,c6,c7,c8,c9,cf⟩:=zaa H.out.cells
    go_wp2_with fail
    have L:Hid (IM C E n j o D (adv z) (U.setCell ⟨o,1,none⟩ (.int .i64 ((z.pos:Int)+1)))):=H.out.adv af
    have K:Hid (IS o S w D (U.setCell ⟨o,1,none⟩ (.int .i64 ((z.pos:Int)+1)))):=O.out.set _ _
    refine (zfU C E n j o m d D (adv z) _ L.out hd hS (by rw[zw];omega)).mono ?_
    cases aa:pE C .prod d (adv z) with
    |error p=>
     rintro e w4 ⟨rfl,A⟩
     have Z:Hid (Below j w w4):=(HH.out.back K.out).trans A
     have HX:Hid (pE C .sum d q= .error p):=bdE HZ.out aa
     unfold Pan
     go_wp2
     refine⟨rfl,?_⟩
     rw[HX.out]
     exact⟨rfl,Z.out⟩
    |ok a4=>
     rintro e w4 ⟨rfl,S4,m,s⟩
     have ai:=zc m
     have N:Hid (IS o S w S4 w4):=K.out.trans s
     clear m s
     have aj:=zc (bdO HZ.out aa)
     unfold exI
     have M:=zaP aa
     rw[zw] at M
     have ac:0<a4.pos:=by omega
     go_wp2_with fail
     refine (zdJ C E n j o S4 a4 ⟨7,0,sNone,sNone,(z.ex.length:Int)-1,(a4.ex.length:Int)-1⟩ _ ai.out ac).mono ?_
     cases I:zM C ⟨7,0,sNone,sNone,(z.ex.length:Int)-1,(a4.ex.length:Int)-1⟩ a4 with
     |error p=>
      rintro e w5 ⟨rfl,A⟩
      have Z:Hid (Below j w w5):=(HH.out.back N.out).trans A
      have HX:Hid (pE C .sum d q= .error p):=bdE aj.out I
      unfold Pan
      go_wp2
      refine⟨rfl,?_⟩
      rw[HX.out]
      exact⟨rfl,Z.out⟩
     |ok Y=>
      rintro e w5 ⟨rfl,S5,m,s⟩
      have ah:=zc m
      have V:Hid (IS o S w S5 w5):=N.out.trans s
      clear m s
      have X:=zc (bdO aj.out I)
      have HP:Hid (Y.pos=a4.pos):=by show _=_;rw[(zb1 I).1]
      go_wp2
      go_roundg (gk-1)
      case rel=>exact⟨S5,Y,rfl,X.out,by have:=HP.out;omega,by have:=HP.out;omega,ah.out,V.out⟩
      case measure=>omega
   |false=>
    cases hj:isT C z.pos 4 zbN with
    |true=>
     have af:=zaz hj (by decide)
     have HZ:=zc (ae.out.trans (zkT hi hj))
     go_wp2_with fail
     refine (zbI C E n j o D z 4 zaT _ J.out).mono ?_
     rintro e U ⟨rfl,A⟩
     rw[hi]
     have H:Hid (IM C E n j o D z U):=J.out.later A
     have O:Hid (IS o S w D U):=(ag.out.trans (IS.below A))
     clear A
     go_wp2_with fail
     refine (zbI C E n j o D z 4 zbN _ H.out).mono ?_
     rintro e w3 ⟨rfl,A⟩
     rw[hj]
     have L:Hid (IM C E n j o D z w3):=H.out.later A
     have K:Hid (IS o S w D w3):=(O.out.trans (IS.below A))
     clear A
     obtain⟨c0,c1,c2,c3,c4,c5,c6,c7,c8,c9,cf⟩:=zaa L.out.cells
     go_wp2_with fail
     have ai:Hid (IM C E n j o D (adv z) (w3.setCell ⟨o,1,none⟩ (.int .i64 ((z.pos:Int)+1)))):=L.out.adv af
     have N:Hid (IS o S w D (w3.setCell ⟨o,1,none⟩ (.int .i64 ((z.pos:Int)+1)))):=K.out.set _ _
     refine (zfU C E n j o m d D (adv z) _ ai.out hd hS (by rw[zw];omega)).mono ?_
     cases I:pE C .prod d (adv z) with
     |error p=>
      rintro e w5 ⟨rfl,A⟩
      have Z:Hid (Below j w w5):=(HH.out.back N.out).trans A
      have HX:Hid (pE C .sum d q= .error p):=bdE HZ.out I
      unfold Pan
      go_wp2
      refine⟨rfl,?_⟩
      rw[HX.out]
      exact⟨rfl,Z.out⟩
     |ok Y=>
      rintro e w5 ⟨rfl,S5,m,s⟩
      have ah:=zc m
      have V:Hid (IS o S w S5 w5):=N.out.trans s
      clear m s
      have X:=zc (bdO HZ.out I)
      unfold exI
      have M:=zaP I
      rw[zw] at M
      have ac:0<Y.pos:=by omega
      go_wp2_with fail
      refine (zdJ C E n j o S5 Y ⟨6,0,sNone,sNone,(z.ex.length:Int)-1,(Y.ex.length:Int)-1⟩ _ ah.out ac).mono ?_
      cases ab:zM C ⟨6,0,sNone,sNone,(z.ex.length:Int)-1,(Y.ex.length:Int)-1⟩ Y with
      |error p=>
       rintro e w6 ⟨rfl,A⟩
       have Z:Hid (Below j w w6):=(HH.out.back V.out).trans A
       have HX:Hid (pE C .sum d q= .error p):=bdE X.out ab
       unfold Pan
       go_wp2
       refine⟨rfl,?_⟩
       rw[HX.out]
       exact⟨rfl,Z.out⟩
      |ok a6=>
       rintro e w6 ⟨rfl,S6,m,s⟩
       have ap:=zc m
       have am:Hid (IS o S w S6 w6):=V.out.trans s
       clear m s
       have al:=zc (bdO X.out ab)
       have HP:Hid (a6.pos=Y.pos):=by show _=_;rw[(zb1 ab).1]
       go_wp2
       go_roundg (gk-1)
       case rel=>exact⟨S6,a6,rfl,al.out,by have:=HP.out;omega,by have:=HP.out;omega,ap.out,am.out⟩
       case measure=>omega
    |false=>
     have HZ:=zc (ae.out.trans (zkR hi hj))
     go_wp2_with fail
     refine (zbI C E n j o D z 4 zaT _ J.out).mono ?_
     rintro e U ⟨rfl,A⟩
     rw[hi]
     have H:Hid (IM C E n j o D z U):=J.out.later A
     have O:Hid (IS o S w D U):=(ag.out.trans (IS.below A))
     clear A
     go_wp2_with fail
     refine (zbI C E n j o D z 4 zbN _ H.out).mono ?_
     rintro e w3 ⟨rfl,A⟩
     rw[hj]
     have L:Hid (IM C E n j o D z w3):=H.out.later A
     have K:Hid (IS o S w D w3):=(O.out.trans (IS.below A))
     clear A
     go_wp2
     go_ret
     rw[HZ.out]
     exact⟨rfl,D,L.out,K.out⟩
theorem zkV (C:Cx) (A n j z m:Nat):zev C A n j z m:=by
 induction m with
 |zero=>intro d S q w o;omega
 |succ m D=>intro d S q w o E h;exact zkU C A n j z m d S q w h E D (by omega)
theorem zkW (C:Cx) (z n j o d:Nat) (S:Sv) (q:PS) (w:World) (h:IM C z n j o S q w) (A:d≤20):
  Calls Tryz.prog 183 #[.pointer (some ⟨o,0,none⟩),.int .i64 d] w (zN C z n j o (pE C .sum d q) id exI S w):=zkV C z n j o _ d S q w (Nat.lt_succ_self _) A h
theorem zhr {C:Cx} {s:ByteArray} (n:Nat): ∀{k:Nat} {q b:PS},za6 C s n k q= .ok b→b={q with pos:=q.pos+n}:=by
 induction n with
 |zero=>intro k q b h;cases h;rfl
 |succ n o=>
  intro k q b h
  rw[za6] at h
  obtain⟨a,j,w⟩:=zi h
  rw[o w,(zb0 j).1]
  show ({q with pos:=q.pos+1+n}:PS)=_
  congr 1
  omega
theorem zkX (x:Sm): ∀u∈smL x,u.oneCell'=true:=by
 intro u h
 simp[smL] at h
 rcases h with rfl|rfl|rfl<;>rfl
def stmtI (C:Cx) (k:Int) (n s:ByteArray) (q:PS):PR:=bd (pE C .sum 0 q) fun a=>bd (za6 C s s.size 0 a) fun b=>zX C k n b
theorem zdo (C:Cx) (gt z j D:Nat) (S:Sv) (q:PS) (E:Int) (n s:ByteArray) (w:World) (h:IM C gt z j D S q w) (hs:s.size≤100) (h0:0<s.size):
  Calls Tryz.prog 154 #[.pointer (some ⟨D,0,none⟩),.int .i64 E,.string n,.string s] w (zN C gt z j D (stmtI C E n s q) id (fun _=>.tuple #[]) S w):=by
 obtain⟨i0,hi,af,aj,ag⟩:=info_parts Tryz.infoStmt
 have HH:=zc h
 have HY:=zc (stmtI.eq_1 C E n s q)
 clear h
 go_enter Tryz.func154,Tryz.ntmps154
 go_wp2_with fail
 refine (zkW C gt z j D 0 S q _ HH.out (by omega)).mono ?_
 cases X:pE C .sum 0 q with
 |error p=>
  rintro e w1 ⟨rfl,hb⟩
  have V:Hid (Below j w w1):=(HH.out.back (IS.refl _ _ _)).trans hb
  have HX:Hid (stmtI C E n s q= .error p):=bdE HY.out X
  unfold Pan
  go_wp2
  refine⟨rfl,?_⟩
  rw[HX.out]
  exact⟨rfl,V.out⟩
 |ok a1=>
  rintro e w1 ⟨rfl,S1,m,s⟩
  have ai:=zc m
  have ad:=zc s
  clear m s
  have M:=zc (bdO HY.out X)
  unfold exI
  go_wp2_with fail
  refine (zfO C gt z j D S1 a1 s _ ai.out hs).mono ?_
  cases J:za6 C s s.size 0 a1 with
  |error p=>
   rintro e O ⟨rfl,hb⟩
   have V:Hid (Below j w O):=(HH.out.back ad.out).trans hb
   have HX:Hid (stmtI C E n s q= .error p):=bdE M.out J
   unfold Pan
   go_wp2
   refine⟨rfl,?_⟩
   rw[HX.out]
   exact⟨rfl,V.out⟩
  |ok A=>
   rintro e O ⟨rfl,S2,m,s⟩
   have o:=zc m
   have ab:Hid (IS D S w S2 O):=ad.out.trans s
   clear m s
   have Z:=zc (bdO M.out J)
   have I:=zhr _ J
   have N:0<A.pos:=by rw[I];show 0<a1.pos+s.size;omega
   have HE:Hid (A.ex=a1.ex):=by show _=_;rw[I]
   clear I
   have al:=o.out.mem.inv.st
   obtain⟨c0,c1,c2,c3,c4,c5,c6,c7,c8,c9,cf⟩:=zaa o.out.cells
   go_wp2_with fail
   by_cases hn:A.st.length<80
   ·have HZ:=zc (Z.out.trans (show zX C E n A=_ from if_neg (by omega)))
    refine (zdj D A.st.length 80 _ (by omega)).mono ?_
    rintro e w' ⟨rfl,hw⟩
    rw[hw]
    clear hw w'
    have HN:Hid (some D≠S2.st.blk):=fun e=>o.out.free (.inr (.inr (.inr (.inl e.symm))))
    have ak:=o.out.lt
    have H:=fun K=>(o.out.mem.own.st.alloc K)
    have Y:=fun K=>(o.out.alloc K).mem.base
    have ac:=fun K=>(o.out.alloc K).lt
    have aa:=fun K=>(o.out.alloc K).cells
    go_wp2_with (at_builtin;refine zcl _ rfl _ _ 25 rfl j 106 i0 _ 3 32 Tryz.underlying25 hi af aj ag rfl (by decide) (by decide) S2.st A.st.length _ (by rfl) (H _) O.heap.size (smL ⟨E,n,(a1.ex.length:Int)-1⟩) (by rfl) (by exact heap_alloc_new O _) rfl (zkX _) (by omega) (Y _) ?_;intro r' wz hr L U;have g2:=(L.block D (ac _) HN.out).trans (aa _);obtain⟨d0,d1,d2,d3,d4,d5,d6,d7,d8,d9,df⟩:=zaa g2;have HR:Hid (OwnR wz j 106 3 r' (A.st.length+1) _):=hr;have ah:Hid (World.grownBy _ wz _):=L;have ae:Hid (_∨_):=U;clear hr L U g2 c0 c1 c2 c3 c4 c5 c6 c7 c8 c9 cf H Y ac aa)
    go_wp2
    go_end0
    obtain⟨m',s'⟩:=o.out.grow_st ((Below.refl _ _).alloc (Nat.le_refl _) _) ah.out HR.out ae.out hn
    rw[HZ.out]
    rw[←HE.out] at m'
    exact⟨rfl,_,m',ab.out.trans s'⟩
   ·have HZ:Hid (stmtI C E n s q= .error (zq C (A.pos-1))):=Z.out.trans (if_pos (by omega))
    refine (zdI C gt z j D S2 A A.st.length 80 _ o.out (by omega) N).mono ?_
    rintro e wz ⟨rfl,hb⟩
    have V:Hid (Below j w wz):=(HH.out.back ab.out).trans (hb.mono o.out.mem.base)
    have HX:Hid (stmtI C E n s q= .error (zq C (A.pos-1))):=HZ.out
    unfold Pan
    go_wp2
    refine⟨rfl,?_⟩
    rw[HX.out]
    exact⟨rfl,V.out⟩
def letJ (C:Cx) (k:Int) (q:PS):PR:=bd (zh C false q) fun a=>bd (zd C 4 cEq a.1) fun b=>stmtI C k a.2 cSemi b
def fnI (C:Cx) (q:PS):PR:=bd (zh C false q) fun a=>bd (za6 C cCall cCall.size 0 a.1) fun b=>bd (zd C 1 zd6 b) fun c=>stmtI C 2 a.2 cSemiRight c
def printI (C:Cx) (q:PS):PR:=bd (zd C 4 zm q) fun a=>stmtI C 4 sNone cShutSemi a
theorem zfV (C:Cx) (A n j o:Nat) (S:Sv) (q:PS) (w:World) (h:IM C A n j o S q w):
  Calls Tryz.prog 144 #[.pointer (some ⟨o,0,none⟩)] w (zN C A n j o (letJ C 1 q) id (fun _=>.tuple #[]) S w):=by
 have U:=zc h
 have HY:=zc (letJ.eq_1 C 1 q)
 clear h
 go_enter Tryz.func144,Tryz.ntmps144
 go_wp2_with fail
 refine (zcM C A n j o S q _ U.out).mono ?_
 cases z:zh C false q with
 |error p=>
  rintro e w1 ⟨rfl,K⟩
  have I:Hid (Below j w w1):=(U.out.back (IS.refl _ _ _)).trans K
  have E:Hid (letJ C 1 q= .error p):=bdE HY.out z
  unfold Pan
  go_wp2
  refine⟨rfl,?_⟩
  rw[E.out]
  exact⟨rfl,I.out⟩
 |ok O=>
  rintro e w1 ⟨rfl,S1,m,s⟩
  have aa:=zc m
  have N:=zc s
  clear m s
  have L:=zc (bdO HY.out z)
  go_wp2_with fail
  refine (zbQ C A n j o S1 (O.1) 61 _ aa.out).mono ?_
  cases H:zd C 4 cEq (O.1) with
  |error p=>
   rintro e w2 ⟨rfl,K⟩
   have I:Hid (Below j w w2):=(U.out.back N.out).trans K
   have E:Hid (letJ C 1 q= .error p):=bdE L.out H
   unfold Pan
   go_wp2
   refine⟨rfl,?_⟩
   rw[E.out]
   exact⟨rfl,I.out⟩
  |ok a2=>
   rintro e w2 ⟨rfl,S2,m,s⟩
   have Z:=zc m
   have M:Hid (IS o S w S2 w2):=N.out.trans s
   clear m s
   have J:=zc (bdO L.out H)
   go_wp2_with fail
   refine (zdo C A n j o S2 a2 1 O.2 cSemi _ Z.out (by decide) (by decide)).mono ?_
   cases D:stmtI C 1 O.2 cSemi a2 with
   |error p=>
    rintro e X ⟨rfl,K⟩
    have I:Hid (Below j w X):=(U.out.back M.out).trans K
    have E:Hid (letJ C 1 q= .error p):=J.out.trans D
    unfold Pan
    go_wp2
    refine⟨rfl,?_⟩
    rw[E.out]
    exact⟨rfl,I.out⟩
   |ok a3=>
    rintro e X ⟨rfl,S3,m,s⟩
    have V:=zc m
    have ab:Hid (IS o S w S3 X):=M.out.trans s
    clear m s
    have Y:=zc (J.out.trans D)
    go_wp2
    go_end0
    rw[Y.out]
    exact⟨rfl,S3,V.out,ab.out⟩
theorem zhs (C:Cx) (A n j o:Nat) (S:Sv) (q:PS) (w:World) (h:IM C A n j o S q w):
  Calls Tryz.prog 90 #[.pointer (some ⟨o,0,none⟩)] w (zN C A n j o (letJ C 3 q) id (fun _=>.tuple #[]) S w):=by
 have U:=zc h
 have HY:=zc (letJ.eq_1 C 3 q)
 clear h
 go_enter Tryz.func90,Tryz.ntmps90
 go_wp2_with fail
 refine (zcM C A n j o S q _ U.out).mono ?_
 cases z:zh C false q with
 |error p=>
  rintro e w1 ⟨rfl,K⟩
  have I:Hid (Below j w w1):=(U.out.back (IS.refl _ _ _)).trans K
  have E:Hid (letJ C 3 q= .error p):=bdE HY.out z
  unfold Pan
  go_wp2
  refine⟨rfl,?_⟩
  rw[E.out]
  exact⟨rfl,I.out⟩
 |ok O=>
  rintro e w1 ⟨rfl,S1,m,s⟩
  have aa:=zc m
  have N:=zc s
  clear m s
  have L:=zc (bdO HY.out z)
  go_wp2_with fail
  refine (zbQ C A n j o S1 (O.1) 61 _ aa.out).mono ?_
  cases H:zd C 4 cEq (O.1) with
  |error p=>
   rintro e w2 ⟨rfl,K⟩
   have I:Hid (Below j w w2):=(U.out.back N.out).trans K
   have E:Hid (letJ C 3 q= .error p):=bdE L.out H
   unfold Pan
   go_wp2
   refine⟨rfl,?_⟩
   rw[E.out]
   exact⟨rfl,I.out⟩
  |ok a2=>
   rintro e w2 ⟨rfl,S2,m,s⟩
   have Z:=zc m
   have M:Hid (IS o S w S2 w2):=N.out.trans s
   clear m s
   have J:=zc (bdO L.out H)
   go_wp2_with fail
   refine (zdo C A n j o S2 a2 3 O.2 cSemi _ Z.out (by decide) (by decide)).mono ?_
   cases D:stmtI C 3 O.2 cSemi a2 with
   |error p=>
    rintro e X ⟨rfl,K⟩
    have I:Hid (Below j w X):=(U.out.back M.out).trans K
    have E:Hid (letJ C 3 q= .error p):=J.out.trans D
    unfold Pan
    go_wp2
    refine⟨rfl,?_⟩
    rw[E.out]
    exact⟨rfl,I.out⟩
   |ok a3=>
    rintro e X ⟨rfl,S3,m,s⟩
    have V:=zc m
    have ab:Hid (IS o S w S3 X):=M.out.trans s
    clear m s
    have Y:=zc (J.out.trans D)
    go_wp2
    go_end0
    rw[Y.out]
    exact⟨rfl,S3,V.out,ab.out⟩
theorem zfW (C:Cx) (E n j o:Nat) (S:Sv) (q:PS) (w:World) (h:IM C E n j o S q w):
  Calls Tryz.prog 145 #[.pointer (some ⟨o,0,none⟩)] w (zN C E n j o (fnI C q) id (fun _=>.tuple #[]) S w):=by
 have M:=zc h
 have HY:=zc (fnI.eq_1 C q)
 clear h
 go_enter Tryz.func145,Tryz.ntmps145
 go_wp2_with fail
 refine (zcM C E n j o S q _ M.out).mono ?_
 cases H:zh C false q with
 |error p=>
  rintro e w1 ⟨rfl,D⟩
  have A:Hid (Below j w w1):=(M.out.back (IS.refl _ _ _)).trans D
  have z:Hid (fnI C q= .error p):=bdE HY.out H
  unfold Pan
  go_wp2
  refine⟨rfl,?_⟩
  rw[z.out]
  exact⟨rfl,A.out⟩
 |ok Y=>
  rintro e w1 ⟨rfl,S1,m,s⟩
  have ac:=zc m
  have X:=zc s
  clear m s
  have O:=zc (bdO HY.out H)
  go_wp2_with fail
  refine (zfO C E n j o S1 (Y.1) cCall _ ac.out (by decide)).mono ?_
  cases K:za6 C cCall cCall.size 0 (Y.1) with
  |error p=>
   rintro e w2 ⟨rfl,D⟩
   have A:Hid (Below j w w2):=(M.out.back X.out).trans D
   have z:Hid (fnI C q= .error p):=bdE O.out K
   unfold Pan
   go_wp2
   refine⟨rfl,?_⟩
   rw[z.out]
   exact⟨rfl,A.out⟩
  |ok a2=>
   rintro e w2 ⟨rfl,S2,m,s⟩
   have ab:=zc m
   have U:Hid (IS o S w S2 w2):=X.out.trans s
   clear m s
   have L:=zc (bdO O.out K)
   go_wp2_with fail
   refine (zdH C E n j o S2 a2 zd6 _ ab.out).mono ?_
   cases I:zd C 1 zd6 a2 with
   |error p=>
    rintro e w3 ⟨rfl,D⟩
    have A:Hid (Below j w w3):=(M.out.back U.out).trans D
    have z:Hid (fnI C q= .error p):=bdE L.out I
    unfold Pan
    go_wp2
    refine⟨rfl,?_⟩
    rw[z.out]
    exact⟨rfl,A.out⟩
   |ok a3=>
    rintro e w3 ⟨rfl,S3,m,s⟩
    have Z:=zc m
    have V:Hid (IS o S w S3 w3):=U.out.trans s
    clear m s
    have J:=zc (bdO L.out I)
    go_wp2_with fail
    refine (zdo C E n j o S3 a3 2 Y.2 cSemiRight _ Z.out (by decide) (by decide)).mono ?_
    cases N:stmtI C 2 Y.2 cSemiRight a3 with
    |error p=>
     rintro e w4 ⟨rfl,D⟩
     have A:Hid (Below j w w4):=(M.out.back V.out).trans D
     have z:Hid (fnI C q= .error p):=J.out.trans N
     unfold Pan
     go_wp2
     refine⟨rfl,?_⟩
     rw[z.out]
     exact⟨rfl,A.out⟩
    |ok a4=>
     rintro e w4 ⟨rfl,S4,m,s⟩
     have ae:=zc m
     have ad:Hid (IS o S w S4 w4):=V.out.trans s
     clear m s
     have aa:=zc (J.out.trans N)
     go_wp2
     go_end0
     rw[aa.out]
     exact⟨rfl,S4,ae.out,ad.out⟩
theorem zht (C:Cx) (H n j o:Nat) (S:Sv) (q:PS) (w:World) (h:IM C H n j o S q w):
  Calls Tryz.prog 146 #[.pointer (some ⟨o,0,none⟩)] w (zN C H n j o (printI C q) id (fun _=>.tuple #[]) S w):=by
 have N:=zc h
 have Z:=zc (printI.eq_1 C q)
 clear h
 go_enter Tryz.func146,Tryz.ntmps146
 go_wp2_with fail
 refine (zbQ C H n j o S q 40 _ N.out).mono ?_
 cases z:zd C 4 zm q with
 |error p=>
  rintro e X ⟨rfl,U⟩
  have K:Hid (Below j w X):=(N.out.back (IS.refl _ _ _)).trans U
  have I:Hid (printI C q= .error p):=bdE Z.out z
  unfold Pan
  go_wp2
  refine⟨rfl,?_⟩
  rw[I.out]
  exact⟨rfl,K.out⟩
 |ok Y=>
  rintro e X ⟨rfl,S1,m,s⟩
  have L:=zc m
  have E:=zc s
  clear m s
  have D:=zc (bdO Z.out z)
  go_wp2_with fail
  refine (zdo C H n j o S1 Y 4 sNone cShutSemi _ L.out (by decide) (by decide)).mono ?_
  cases A:stmtI C 4 sNone cShutSemi Y with
  |error p=>
   rintro e O ⟨rfl,U⟩
   have K:Hid (Below j w O):=(N.out.back E.out).trans U
   have I:Hid (printI C q= .error p):=D.out.trans A
   unfold Pan
   go_wp2
   refine⟨rfl,?_⟩
   rw[I.out]
   exact⟨rfl,K.out⟩
  |ok a2=>
   rintro e O ⟨rfl,S2,m,s⟩
   have J:=zc m
   have V:Hid (IS o S w S2 O):=E.out.trans s
   clear m s
   have M:=zc (D.out.trans A)
   go_wp2
   go_end0
   rw[M.out]
   exact⟨rfl,S2,J.out,V.out⟩
theorem zhu (C:Cx) (z n j o:Nat) (S:Sv) (q:PS) (w:World) (h:IM C z n j o S q w):
  Calls Tryz.prog 147 #[.pointer (some ⟨o,0,none⟩)] w (zN C z n j o (stmtI C 5 sNone cSemi q) id (fun _=>.tuple #[]) S w):=by
 have J:=zc h
 clear h
 go_enter Tryz.func147,Tryz.ntmps147
 go_wp2_with fail
 refine (zdo C z n j o S q 5 sNone cSemi _ J.out (by decide) (by decide)).mono ?_
 cases A:stmtI C 5 sNone cSemi q with
 |error p=>
  rintro e E ⟨rfl,H⟩
  unfold Pan
  go_wp2
  refine⟨rfl,?_⟩
  rw[A]
  exact⟨rfl,H⟩
 |ok a=>
  rintro e E ⟨rfl,I,m,s⟩
  have D:=zc m
  have K:=zc s
  clear m s
  go_wp2
  go_end0
  rw[A]
  exact⟨rfl,I,D.out,K.out⟩
theorem zkY (C:Cx) (z n j o:Nat) (S:Sv) (q:PS) (w:World) (h:IM C z n j o S q w):
  Calls Tryz.prog 148 #[.pointer (some ⟨o,0,none⟩)] w (zN C z n j o (stmtI C 6 sNone cSemi q) id (fun _=>.tuple #[]) S w):=by
 have J:=zc h
 clear h
 go_enter Tryz.func148,Tryz.ntmps148
 go_wp2_with fail
 refine (zdo C z n j o S q 6 sNone cSemi _ J.out (by decide) (by decide)).mono ?_
 cases A:stmtI C 6 sNone cSemi q with
 |error p=>
  rintro e E ⟨rfl,H⟩
  unfold Pan
  go_wp2
  refine⟨rfl,?_⟩
  rw[A]
  exact⟨rfl,H⟩
 |ok a=>
  rintro e E ⟨rfl,I,m,s⟩
  have D:=zc m
  have K:=zc s
  clear m s
  go_wp2
  go_end0
  rw[A]
  exact⟨rfl,I,D.out,K.out⟩
def zcg (C:Cx) (i:Nat):ByteArray:=if (ze C i).kind==1 then (ze C i).text else sNone
theorem zhv (C:Cx) (D n j z:Nat) (S:Sv) (q:PS) (w:World) (h:IM C D n j z S q w):
  Calls Tryz.prog 89 #[.pointer (some ⟨z,0,none⟩)] w fun e J=>e= .returned (.string (zcg C q.pos))∧Below w.heap.size w J:=by
 have E:=zc h
 clear h
 cases H:((ze C q.pos).kind==1) with
 |true=>
  have A:Hid (zcg C q.pos=(ze C q.pos).text):=by show _=_;rw[zcg,H];rfl
  go_enter Tryz.func89,Tryz.ntmps89
  go_wp2_with fail
  refine (zbk C D n j z S q _ E.out).mono ?_
  rintro e I ⟨rfl,o⟩
  unfold tkV
  go_wp2
  go_ret
  rw[A.out]
  exact⟨rfl,o.alloc o.size _⟩
 |false=>
  have A:Hid (zcg C q.pos=sNone):=by show _=_;rw[zcg,H];rfl
  go_enter Tryz.func89,Tryz.ntmps89
  go_wp2_with fail
  refine (zbk C D n j z S q _ E.out).mono ?_
  rintro e I ⟨rfl,o⟩
  unfold tkV
  go_wp2
  go_ret
  rw[A.out]
  exact⟨rfl,o.alloc o.size _⟩
theorem OwnR.stmtName {w:World} {j:Nat} {r:Rw} {l:List Sm} {x:Sm} (h:OwnR w j 106 3 r (l++[x]).length ((l++[x]).flatMap smL)): ∃g,r.a=some ⟨g,0,none⟩∧w.cell? ⟨g,l.length*3+1,none⟩=some (.string x.name):=by
 rcases h.2 with ⟨_,A⟩|⟨g,E,D,n,_⟩
 ·simp at A
 ·simp only[Value.slice.injEq] at n
  have o:=h
  unfold OwnR at o
  rw[n.1,n.2.2] at o
  refine⟨g,n.1,?_⟩
  rw[World.ownsRow.cellAt o _ (by simp;omega)]
  have z: ∀l:List Sm,(l.flatMap smL).length=l.length*3:=by
   intro l
   induction l with
   |nil=>rfl
   |cons y l q=>simp[List.flatMap_cons,smL,q] at q ⊢;omega
  rw[List.flatMap_append,List.getElem?_append_right (by rw[z];omega),z]
  simp[smL]
theorem zkZ (C:Cx) (I n j A:Nat) (S:Sv) (q:PS) (l:List Sm) (x:Sm) (w:World) (h:IM C I n j A S q w) (M:q.st=l++[x]) (K:x.name.size≤281474976710656) (hp:0<q.pos):
  Calls Tryz.prog 179 #[.pointer (some ⟨A,0,none⟩)] w (zN C I n j A (zn C ⟨1,x.name,x.name,sNone⟩ q) id (fun _=>.tuple #[]) S w):=by
 have HH:=zc h
 obtain⟨_,_,_,_,_,_,_,E,_,_,_⟩:=zaa h.cells
 have U:=h.mem.own.st
 rw[M] at U E
 obtain⟨g,V,hc⟩:=U.stmtName
 have D:=h.mem.inv.st
 rw[M] at D
 have H:(l++[x]).length=l.length+1:=by simp
 rw[H] at E D
 rw[V] at E
 have C7:=zc E
 have CN:=zc hc
 have e1:((l.length+1:Nat):Int)-1=(l.length:Int):=by omega
 have e2:(l.length:Int)+1-1=(l.length:Int):=by omega
 have ab:IntKind.i64.wrap (l.length:Int)=(l.length:Int):=IntWalk.i64_in _ ⟨by omega,by omega⟩
 have X:(l.length:Int)<((l.length+1:Nat):Int):=by omega
 have aa:(l.length:Int)<(l.length:Int)+1:=by omega
 have cC: ∀d os,Calls Tryz.prog 85 #[.string x.name] (grow (redrawn w d) os) fun e J=>e= .returned (.string x.name)∧∃p:Regrown,J=grow (redrawn w p.d) p.os:=fun d os=>Calls.regrown_of (zhl _ _ K)
 clear h E hc U V M
 go_enter Tryz.func179,Tryz.ntmps179
 go_wp2_with fail
 have k7:=cell_regrown C7.out
 have kN:=cell_regrown CN.out
 refine wp_region_quiet_below (by kernel_rfl) (by kernel_rfl) ?_
 repeat (go_big_quiet_step (exact cC _ _))
 refine wpQuiet_nil ?_
 intro Z L
 obtain⟨⟨dq,ac⟩,o⟩:=L
 have z:Hid (Below w.heap.size w Z):=by show Below _ _ _;rw[o];exact below_regrown _ _ _
 clear o k7 kN cC C7 CN
 have N:Hid (IM C I n j A S q Z):=HH.out.later z.out
 go_wp2_with fail
 refine (zet C I n j A S q ⟨1,x.name,x.name,sNone⟩ _ N.out hp).mono ?_
 cases hn:zn C ⟨1,x.name,x.name,sNone⟩ q with
 |error p=>
  rintro e O ⟨rfl,hb⟩
  have HB:Hid (Below j w O):=(z.out.mono HH.out.mem.base).trans hb
  unfold Pan
  go_wp2
  refine⟨rfl,?_⟩
  rw[hn]
  exact⟨rfl,HB.out⟩
 |ok a=>
  rintro e O ⟨rfl,Y,m,s⟩
  have HM:=zc m
  have HS:Hid (IS A S w Y O):=(IS.below z.out).trans s
  clear m s
  go_wp2
  go_end0
  rw[hn]
  exact⟨rfl,Y,HM.out,HS.out⟩
def Fr (e:TypeId) (size:Nat) (w:World) (b:Nat) (r:Rw) (n:Nat) (xs:List Value) (S:Sv):Prop:=OwnR w b e size r n xs∧∀k,r.blk=some k→¬S.has k
theorem Fr.ngp {C:Cx} {E o j z size b n:Nat} {S:Sv} {q:PS} {w:World} {e:TypeId} {r:Rw} {xs:List Value} (f:Fr e size w b r n xs S) (h:IM C E o j z S q w) (A:e≠59) {k:Nat} (D:r.blk=some k):k≠z:=by
 rintro rfl
 obtain⟨_,_,c,g⟩:=f.1.typed D
 rw[h.cells] at g
 simp only[Option.some.injEq,Obj.cells.injEq] at g
 exact A g.2.1.symm
theorem Fr.ngt {C:Cx} {z o j E size b n:Nat} {S:Sv} {q:PS} {w:World} {e:TypeId} {r:Rw} {xs:List Value} (f:Fr e size w b r n xs S) (h:IM C z o j E S q w) (A:e≠111) {k:Nat} (H:r.blk=some k):k≠z:=by
 rintro rfl
 obtain⟨_,_,c,g⟩:=f.1.typed H
 obtain⟨I,D⟩:=zeN h.mem.tok
 rw[D] at g
 simp only[Option.some.injEq,Obj.cells.injEq] at g
 exact A g.2.1.symm
theorem Fr.step {C:Cx} {J o j E size b n:Nat} {S D:Sv} {q:PS} {w z:World} {e:TypeId} {r:Rw} {xs:List Value} (f:Fr e size w b r n xs S) (h:IM C J o j E S q w) (H:e≠59) (s:IS E S w D z):Fr e size z b r n xs D:=by
 refine⟨f.1.keep fun k g=>s.block k (f.1.typed g).2.1 (f.2 k g) (f.ngp h H g),fun k g I=>?_⟩
 rcases s.sub k I with A|A
 ·exact f.2 k g A
 ·have:=(f.1.typed g).2.1
  omega
theorem Fr.low {size b h n:Nat} {S:Sv} {w:World} {e:TypeId} {r:Rw} {xs:List Value} (f:Fr e size w b r n xs S) (j:h≤b):Fr e size w h r n xs S:=⟨f.1.low j,f.2⟩
theorem Fr.later {size b n:Nat} {S:Sv} {w h:World} {e:TypeId} {r:Rw} {xs:List Value} (f:Fr e size w b r n xs S) (j:Below w.heap.size w h):Fr e size h b r n xs S:=⟨f.1.keep fun k g=>j.block k (f.1.typed g).2.1,f.2⟩
theorem IM.aside {C:Cx} {o w j n:Nat} {S:Sv} {q:PS} {W D:World} {b:Option Nat} (h:IM C o w j n S q W) (z:W.grownBy D b) (A: ∀k,b=some k→¬S.has k∧k≠n∧k≠o):IM C o w j n S q D:=by
 refine⟨⟨h.mem.own.keep fun k g=>z.block k (h.mem.own.has g).2 fun e=>(A k e.symm).1 g,h.mem.inv,zbs h.mem.tok (z.block o (zak h.mem.tok).1 fun e=>(A o e.symm).2.2 rfl),h.mem.few,Nat.le_trans h.mem.base z.size⟩,(z.block n h.lt fun e=>(A n e.symm).2.1 rfl).trans h.cells,h.ge⟩
theorem IS.aside {q:Nat} {S o:Sv} {w W n:World} {b:Option Nat} (s:IS q S w o W) (h:W.grownBy n b) (A: ∀k,b=some k→w.heap.size≤k):IS q S w o n:=
 ⟨h.os.trans s.os,h.tape.trans s.tape,h.output.trans s.output,Nat.le_trans s.size h.size,fun k z D j=>(h.block k (Nat.lt_of_lt_of_le z s.size) fun e=>by have:=A k e.symm;omega).trans (s.block k z D j),s.sub⟩
theorem Fr.grown {size b n:Nat} {S:Sv} {W D:World} {e:TypeId} {r o:Rw} {xs E:List Value} {C:Cx} {J A j I:Nat} {q:PS} (f:Fr e size W b r n xs S) (h:IM C J A j I S q W) (K:OwnR D b e size o (n+1) E) (z:o.blk=r.blk∨o.blk=some W.heap.size):Fr e size D b o (n+1) E S:=by
 refine⟨K,fun k g H=>?_⟩
 rcases z with w|w
 ·exact f.2 k (w.symm.trans g) H
 ·have L:W.heap.size=k:=Option.some.inj (w.symm.trans g)
  have:=(h.mem.own.has H).2
  omega
theorem zla {α:Type} (f:α→List Value) (m:Nat) (j: ∀x,(f x).length=m) (l:List α):(l.flatMap f).length=l.length*m:=by
 induction l with
 |nil=>simp
 |cons y l h=>rw[List.flatMap_cons,List.length_append,j,h,List.length_cons,Nat.succ_mul];omega
theorem zlb {α:Type} (f:α→List Value) (m:Nat) (n: ∀x,(f x).length=m): ∀(l:List α) (j i:Nat) (x:α),l[j]? =some x→i<m→(l.flatMap f)[j*m+i]? =(f x)[i]?:=by
 intro l
 induction l with
 |nil=>intro j i x h;simp at h
 |cons y l q=>
  intro j i x h o
  rw[List.flatMap_cons]
  match j with
  |0=>
   simp only[List.getElem?_cons_zero,Option.some.injEq] at h
   subst h
   rw[Nat.zero_mul,Nat.zero_add,List.getElem?_append_left (by rw[n];exact o)]
  |j+1=>
   simp only[List.getElem?_cons_succ] at h
   rw[List.getElem?_append_right (by rw[n,Nat.succ_mul];omega),n,←q j i x h o]
   congr 1
   rw[Nat.succ_mul]
   omega
theorem OwnR.elem {α:Type} {f:α→List Value} {m:Nat} (I: ∀x,(f x).length=m) {w:World} {n:Nat} {e:TypeId} {r:Rw} {l:List α} (h:OwnR w n e m r l.length (l.flatMap f)) {j:Nat} {x:α} (A:l[j]? =some x): ∃g,r.a=some ⟨g,0,none⟩∧∀i,i<m→w.cell? ⟨g,j*m+i,none⟩=(f x)[i]?:=by
 have q:j<l.length:=(List.getElem?_eq_some_iff.1 A).1
 rcases h.2 with ⟨_,K⟩|⟨g,J,H,o,_⟩
 ·omega
 ·simp only[Value.slice.injEq] at o
  have z:=h
  unfold OwnR at z
  rw[o.1,o.2.2] at z
  refine⟨g,o.1,fun i E=>?_⟩
  have D:j*m+i<l.length*m:=by
   have:=Nat.mul_le_mul_right m q
   rw[Nat.succ_mul] at this
   omega
  rw[World.ownsRow.cellAt z _ D]
  exact zlb f m I l j i x A E
structure OwnMd (w:World) (base:Nat) (S:Sv) (m:Md):Prop where
 rq:OwnR w base 9 1 S.rq m.rq.length (m.rq.map .string)
 im:OwnR w base 100 3 S.im m.im.length (m.im.flatMap imL)
 ep:OwnR w base 102 4 S.ep m.ep.length (m.ep.flatMap epL)
 st:OwnR w base 106 3 S.st m.st.length (m.st.flatMap smL)
 ex:OwnR w base 108 6 S.ex m.ex.length (m.ex.flatMap exL)
theorem OwnMod.md {w:World} {j:Nat} {S:Sv} {q:PS} (h:OwnMod w j S q):OwnMd w j S (zdA q):=⟨h.rq,h.im,h.ep,h.st,h.ex⟩
theorem OwnMd.later {w o:World} {j:Nat} {S:Sv} {m:Md} (h:OwnMd w j S m) (n:Below w.heap.size w o):OwnMd o j S m:=
 ⟨h.rq.keep fun k g=>n.block k (h.rq.typed g).2.1,h.im.keep fun k g=>n.block k (h.im.typed g).2.1,h.ep.keep fun k g=>n.block k (h.ep.typed g).2.1,h.st.keep fun k g=>n.block k (h.st.typed g).2.1,h.ex.keep fun k g=>n.block k (h.ex.typed g).2.1⟩
theorem OwnMd.alloc {w:World} {j:Nat} {S:Sv} {m:Md} (h:OwnMd w j S m) (o:Obj):OwnMd (w.alloc o) j S m:=h.later ((Below.refl _ _).alloc (Nat.le_refl _) _)
def zt (S:Sv) (m:Md):Value:=.agg #[.slice S.rq.a m.rq.length S.rq.cap,.slice S.im.a m.im.length S.im.cap,.slice S.ep.a m.ep.length S.ep.cap,.slice S.st.a m.st.length S.st.cap,.slice S.ex.a m.ex.length S.ex.cap]
theorem OwnMd.expr {w:World} {n:Nat} {S:Sv} {m:Md} (h:OwnMd w n S m) {i:Nat} (q:i<m.ex.length): ∃g,S.ex.a=some ⟨g,0,none⟩∧g<w.heap.size∧w.cell? ⟨g,i*6,none⟩=some (.int .i64 (m.ex.getD i zf).kind)∧w.cell? ⟨g,i*6+1,none⟩=some (.int .i64 (m.ex.getD i zf).num)∧w.cell? ⟨g,i*6+2,none⟩=some (.string (m.ex.getD i zf).name)∧w.cell? ⟨g,i*6+3,none⟩=some (.string (m.ex.getD i zf).field)∧w.cell? ⟨g,i*6+4,none⟩=some (.int .i64 (m.ex.getD i zf).l)∧w.cell? ⟨g,i*6+5,none⟩=some (.int .i64 (m.ex.getD i zf).r):=by
 obtain⟨g,o,j⟩:=OwnR.elem (f:=exL) (m:=6) (fun _=>rfl) h.ex (List.getElem?_eq_getElem q)
 rw[zdf q]
 exact⟨g,o,(h.ex.typed (by rw[Rw.blk,o];rfl)).2.1,j 0 (by omega),j 1 (by omega),j 2 (by omega),j 3 (by omega),j 4 (by omega),j 5 (by omega)⟩
def zbR (P:Prop) (e:Ending):Prop:=∃b,e= .returned (.bool b)∧(b=true↔P)
theorem zaX {α:Type} {l:List α} {j:Nat} (h:j<l.length): ∃x,l[j]? =some x:=⟨_,List.getElem?_eq_getElem h⟩
theorem zc5 {α:Type} {n o:List α} {j:Nat} {x:α} (h:n.take j=o.take j) (w:n[j]? =some x) (z:o[j]? =some x):n.take (j+1)=o.take (j+1):=by
 obtain⟨a,rfl⟩:=List.getElem?_eq_some_iff.1 w
 obtain⟨b,q⟩:=List.getElem?_eq_some_iff.1 z
 rw[List.take_succ_eq_append_getElem a,List.take_succ_eq_append_getElem b,h,q]
theorem zc6 {α:Type} {j n:List α} (o:j.length=n.length) (h:j.take j.length=n.take j.length):j=n:=by
 rw[List.take_length,o,List.take_length] at h
 exact h
theorem zew {a b:ByteArray} (h:(a.toList==b.toList)=true):a=b:=(zj5 a b).1 h
def zfX (x y:ByteArray):Bool:=x.toList==y.toList
theorem zfc {x y:ByteArray}:zfX x y=true↔x=y:=⟨fun h=>zew h,fun h=>by rw[h];exact beq_self_eq_true _⟩
theorem zlc (z o:Option Addr) (n j D A:Nat) (w:World) (h:(n:Int)≠(j:Int)):Calls Tryz.prog 104 #[.slice z n D,.slice o j A] w fun e q=>e= .returned (.bool false)∧Below w.heap.size w q:=by
 go_enter Tryz.func104,Tryz.ntmps104
 go_wp2
 go_ret
 exact⟨rfl,Below.refl _ _⟩
theorem zld (n h:Option Addr) (q o:Nat) (w:World):Calls Tryz.prog 104 #[.slice n 0 q,.slice h 0 o] w fun e j=>e= .returned (.bool true)∧Below w.heap.size w j:=by
 go_enter Tryz.func104,Tryz.ntmps104
 go_wp2
 go_loopg [13] 1 (fun k i wr=>k=1∧i= .int .i64 0∧wr=w)
 case atStart=>exact⟨rfl,rfl,rfl⟩
 case round=>
  obtain⟨rfl,rfl,rfl⟩:=hrel
  go_wp2
  go_ret
  exact⟨rfl,Below.refl _ _⟩
theorem zle (b1 b2 V Y:Nat) (L U:Rw) (h q:List ByteArray) (w:World) (I:OwnR w b1 9 1 L h.length (h.flatMap (fun x=>[Value.string x]))) (D:OwnR w b2 9 1 U q.length (q.flatMap (fun x=>[Value.string x]))) (e1:L.a=some ⟨V,0,none⟩) (e2:U.a=some ⟨Y,0,none⟩) (hl:h.length=q.length) (Z:h.length≤4294967296):
  Calls Tryz.prog 104 #[.slice (some ⟨V,0,none⟩) h.length L.cap,.slice (some ⟨Y,0,none⟩) h.length U.cap] w fun e w'=>zbR (h=q) e∧Below w.heap.size w w':=by
 have H1:=zc I
 have H2:=zc D
 have E1:=zc e1
 have E2:=zc e2
 have HL:=zc hl
 clear I D e1 e2 hl
 go_enter Tryz.func104,Tryz.ntmps104
 go_wp2
 go_loopg [13] h.length (fun k i wr=>∃j:Nat,i= .int .i64 j∧j+k=h.length∧h.take j=q.take j∧Below w.heap.size w wr)
 case atStart=>exact⟨0,rfl,by omega,rfl,Below.refl _ _⟩
 case round=>
  obtain⟨j,rfl,hj,ht,Z⟩:=hrel
  have E:=zc Z
  have HT:=zc ht
  clear Z ht
  by_cases J:j<h.length
  ·have z:(j:Int)<(h.length:Int):=by omega
   obtain⟨x,O⟩:=zaX J
   obtain⟨y,X⟩:=zaX (show j<q.length by rw[←HL.out];exact J)
   obtain⟨M,ga,I⟩:=OwnR.elem (f:=(fun x=>[Value.string x])) (m:=1) (fun _=>rfl) (H1.out.keep fun k g=>E.out.block k (H1.out.typed g).2.1) O
   obtain rfl:M=V:=by have:=ga.symm.trans E1.out;simpa using this
   obtain⟨M,gb,D⟩:=OwnR.elem (f:=(fun x=>[Value.string x])) (m:=1) (fun _=>rfl) (H2.out.keep fun k g=>E.out.block k (H2.out.typed g).2.1) X
   obtain rfl:M=Y:=by have:=gb.symm.trans E2.out;simpa using this
   have C0:=zc (I 0 (by omega))
   have D0:=zc (D 0 (by omega))
   have HX:=zc O
   have HY:=zc X
   clear I D ga gb O X
   obtain⟨K,A⟩: ∃K,K=j+1:=⟨_,rfl⟩
   have ej:(j:Int)+1=(K:Int):=by omega
   have HJ:=zc A
   clear A
   obtain⟨b,n⟩: ∃b,zfX x y=b:=⟨_,rfl⟩
   have ab:(x.toList==y.toList)=b:=n
   go_wp2
   have k0:=cell_regrown C0.out
   have m0:=cell_regrown D0.out
   simp only[Nat.add_zero,Nat.mul_one] at k0 m0
   refine wp_region_quiet_below (by kernel_rfl) (by kernel_rfl) ?_
   repeat (go_big_quiet_step (fail))
   refine wpQuiet_nil ?_
   intro w2 N
   obtain⟨⟨dq,aa⟩,o⟩:=N
   have H:Hid (Below w.heap.size w w2):=by show Below _ _ _;rw[o];exact E.out.trans ((below_regrown wr dq aa).mono E.out.size)
   clear o k0 m0 C0 D0
   cases b with
   |true=>
    go_wp2
    go_roundg (gk-1)
    case rel=>exact⟨K,rfl,by have:=HJ.out;omega,by rw[HJ.out];have e:=zfc.1 n;exact zc5 HT.out HX.out (by rw[e];exact HY.out),H.out⟩
    case measure=>omega
   |false=>
    go_wp2
    go_ret
    exact⟨⟨false,rfl,⟨fun k=>(by cases k),fun k=>(by have e:=HX.out;rw[k,HY.out] at e;cases e;rw[zfc.2 rfl] at n;cases n)⟩⟩,H.out⟩
  ·have z: ¬(j:Int)<(h.length:Int):=by omega
   obtain rfl:j=h.length:=by omega
   go_wp2
   go_ret
   exact⟨⟨true,rfl,⟨fun _=>zc6 HL.out HT.out,fun _=>rfl⟩⟩,E.out⟩
theorem zlf (I b2:Nat) (q z:Rw) (h j:List ByteArray) (w:World) (H:OwnR w I 9 1 q h.length (h.flatMap (fun x=>[Value.string x]))) (K:OwnR w b2 9 1 z j.length (j.flatMap (fun x=>[Value.string x]))) (L:h.length≤4294967296):
  Calls Tryz.prog 104 #[.slice q.a h.length q.cap,.slice z.a j.length z.cap] w fun e D=>zbR (h=j) e∧Below w.heap.size w D:=by
 by_cases o:h.length=j.length
 ·rw[←o]
  by_cases n:h.length=0
  ·rw[n]
   refine (zld _ _ _ _ w).mono ?_
   rintro e D ⟨rfl,A⟩
   exact⟨⟨true,rfl,⟨fun _=>(by rw[List.eq_nil_of_length_eq_zero n,List.eq_nil_of_length_eq_zero (o.symm.trans n)]),fun _=>rfl⟩⟩,A⟩
  ·rcases H.nil_or with ⟨_,_,e⟩|⟨N,E⟩
   ·exact absurd e n
   ·rcases K.nil_or with ⟨_,_,e⟩|⟨M,J⟩
    ·exact absurd (o.trans e) n
    ·rw[E,J]
     exact zle I b2 N M q z h j w H K E J o L
 ·refine (zlc _ _ _ _ _ _ w (by omega)).mono ?_
  rintro e D ⟨rfl,A⟩
  exact⟨⟨false,rfl,⟨fun k=>(by cases k),fun k=>absurd (by rw[k]) o⟩⟩,A⟩
def zc7 (x y:Im):Bool:=x.spec.toList==y.spec.toList&&x.first.toList==y.first.toList&&x.loc.toList==y.loc.toList
theorem zfd {x y:Im}:zc7 x y=true↔x=y:=by
 constructor
 ·intro h
  unfold zc7 at h
  simp only[Bool.and_eq_true] at h
  obtain⟨⟨o,j⟩,n⟩:=h
  cases x
  cases y
  simp only at o j n
  congr 1<;>first|(apply zew;assumption)|(apply eq_of_beq;assumption)
 ·intro h
  rw[h]
  simp[zc7]
theorem zlg (z o:Option Addr) (n j D A:Nat) (w:World) (h:(n:Int)≠(j:Int)):Calls Tryz.prog 105 #[.slice z n D,.slice o j A] w fun e q=>e= .returned (.bool false)∧Below w.heap.size w q:=by
 go_enter Tryz.func105,Tryz.ntmps105
 go_wp2
 go_ret
 exact⟨rfl,Below.refl _ _⟩
theorem zlh (n h:Option Addr) (q o:Nat) (w:World):Calls Tryz.prog 105 #[.slice n 0 q,.slice h 0 o] w fun e j=>e= .returned (.bool true)∧Below w.heap.size w j:=by
 go_enter Tryz.func105,Tryz.ntmps105
 go_wp2
 go_loopg [13] 1 (fun k i wr=>k=1∧i= .int .i64 0∧wr=w)
 case atStart=>exact⟨rfl,rfl,rfl⟩
 case round=>
  obtain⟨rfl,rfl,rfl⟩:=hrel
  go_wp2
  go_ret
  exact⟨rfl,Below.refl _ _⟩
theorem zli (V: ∀(x y:Im) (W:World),Sem.run Tryz.prog (binOp .neq 100 (.agg #[.string x.spec,.string x.first,.string x.loc]) (.agg #[.string y.spec,.string y.first,.string y.loc])) W= .ok (.bool (!zc7 x y)) W) (aa: ∀(J:BinOp) (a b:Operand) (x y:Im) (W:World),Sem.run Tryz.prog (eqGuard J 100 a b (.agg #[.string x.spec,.string x.first,.string x.loc]) (.agg #[.string y.spec,.string y.first,.string y.loc])) W= .ok () W) (b1 b2 Z g2:Nat) (M Y:Rw) (h A:List Im) (w:World) (z:OwnR w b1 100 3 M h.length (h.flatMap imL)) (q:OwnR w b2 100 3 Y A.length (A.flatMap imL)) (e1:M.a=some ⟨Z,0,none⟩) (e2:Y.a=some ⟨g2,0,none⟩) (hl:h.length=A.length) (hb:h.length≤4294967296):
  Calls Tryz.prog 105 #[.slice (some ⟨Z,0,none⟩) h.length M.cap,.slice (some ⟨g2,0,none⟩) h.length Y.cap] w fun e w'=>zbR (h=A) e∧Below w.heap.size w w':=by
 have H1:=zc z
 have H2:=zc q
 have E1:=zc e1
 have E2:=zc e2
 have HL:=zc hl
 clear z q e1 e2 hl
 go_enter Tryz.func105,Tryz.ntmps105
 go_wp2
 go_loopg [13] h.length (fun k i wr=>∃j:Nat,i= .int .i64 j∧j+k=h.length∧h.take j=A.take j∧Below w.heap.size w wr)
 case atStart=>exact⟨0,rfl,by omega,rfl,Below.refl _ _⟩
 case round=>
  obtain⟨j,rfl,hj,ht,hb⟩:=hrel
  have H:=zc hb
  have HT:=zc ht
  clear hb ht
  by_cases K:j<h.length
  ·have E:(j:Int)<(h.length:Int):=by omega
   obtain⟨x,X⟩:=zaX K
   obtain⟨y,hy⟩:=zaX (show j<A.length by rw[←HL.out];exact K)
   obtain⟨N,ga,z⟩:=OwnR.elem (f:=imL) (m:=3) (fun _=>rfl) (H1.out.keep fun k g=>H.out.block k (H1.out.typed g).2.1) X
   obtain rfl:N=Z:=by have:=ga.symm.trans E1.out;simpa using this
   obtain⟨N,gb,q⟩:=OwnR.elem (f:=imL) (m:=3) (fun _=>rfl) (H2.out.keep fun k g=>H.out.block k (H2.out.typed g).2.1) hy
   obtain rfl:N=g2:=by have:=gb.symm.trans E2.out;simpa using this
   have C0:=zc (z 0 (by omega))
   have D0:=zc (q 0 (by omega))
   have C1:=zc (z 1 (by omega))
   have D1:=zc (q 1 (by omega))
   have C2:=zc (z 2 (by omega))
   have D2:=zc (q 2 (by omega))
   have HX:=zc X
   have HY:=zc hy
   clear z q ga gb X hy
   obtain⟨L,D⟩: ∃L,L=j+1:=⟨_,rfl⟩
   have ej:(j:Int)+1=(L:Int):=by omega
   have HJ:=zc D
   clear D
   obtain⟨b,n⟩: ∃b,zc7 x y=b:=⟨_,rfl⟩
   have ab: ∀W:World,Sem.run Tryz.prog (binOp .neq 100 (.agg #[.string x.spec,.string x.first,.string x.loc]) (.agg #[.string y.spec,.string y.first,.string y.loc])) W= .ok (.bool !b) W:=fun W=>by rw[V,n]
   have ac: ∀(J:BinOp) (a b:Operand) (W:World),Sem.run Tryz.prog (eqGuard J 100 a b (.agg #[.string x.spec,.string x.first,.string x.loc]) (.agg #[.string y.spec,.string y.first,.string y.loc])) W= .ok () W:=fun J a b W=>aa J a b x y W
   go_wp2
   have k0:=cell_regrown C0.out
   have m0:=cell_regrown D0.out
   have k1:=cell_regrown C1.out
   have m1:=cell_regrown D1.out
   have k2:=cell_regrown C2.out
   have m2:=cell_regrown D2.out
   simp only[Nat.add_zero] at k0 m0
   refine wp_region_quiet_below (by kernel_rfl) (by kernel_rfl) ?_
   repeat (go_big_quiet_step (fail))
   refine wpQuiet_nil ?_
   intro w2 U
   obtain⟨⟨dq,O⟩,o⟩:=U
   have I:Hid (Below w.heap.size w w2):=by show Below _ _ _;rw[o];exact H.out.trans ((below_regrown wr dq O).mono H.out.size)
   clear o k0 m0 C0 D0 k1 m1 C1 D1 k2 m2 C2 D2
   cases b with
   |true=>
    go_wp2
    go_roundg (gk-1)
    case rel=>exact⟨L,rfl,by have:=HJ.out;omega,by rw[HJ.out];have e:=zfd.1 n;exact zc5 HT.out HX.out (by rw[e];exact HY.out),I.out⟩
    case measure=>omega
   |false=>
    go_wp2
    go_ret
    exact⟨⟨false,rfl,⟨fun k=>(by cases k),fun k=>(by have e:=HX.out;rw[k,HY.out] at e;cases e;rw[zfd.2 rfl] at n;cases n)⟩⟩,I.out⟩
  ·have E: ¬(j:Int)<(h.length:Int):=by omega
   obtain rfl:j=h.length:=by omega
   go_wp2
   go_ret
   exact⟨⟨true,rfl,⟨fun _=>zc6 HL.out HT.out,fun _=>rfl⟩⟩,H.out⟩
theorem zlj (A: ∀(x y:Im) (W:World),Sem.run Tryz.prog (binOp .neq 100 (.agg #[.string x.spec,.string x.first,.string x.loc]) (.agg #[.string y.spec,.string y.first,.string y.loc])) W= .ok (.bool (!zc7 x y)) W) (H: ∀(U:BinOp) (a b:Operand) (x y:Im) (W:World),Sem.run Tryz.prog (eqGuard U 100 a b (.agg #[.string x.spec,.string x.first,.string x.loc]) (.agg #[.string y.spec,.string y.first,.string y.loc])) W= .ok () W) (J b2:Nat) (q z:Rw) (h j:List Im) (w:World) (M:OwnR w J 100 3 q h.length (h.flatMap imL)) (L:OwnR w b2 100 3 z j.length (j.flatMap imL)) (V:h.length≤4294967296):
  Calls Tryz.prog 105 #[.slice q.a h.length q.cap,.slice z.a j.length z.cap] w fun e E=>zbR (h=j) e∧Below w.heap.size w E:=by
 by_cases n:h.length=j.length
 ·rw[←n]
  by_cases o:h.length=0
  ·rw[o]
   refine (zlh _ _ _ _ w).mono ?_
   rintro e E ⟨rfl,D⟩
   exact⟨⟨true,rfl,⟨fun _=>(by rw[List.eq_nil_of_length_eq_zero o,List.eq_nil_of_length_eq_zero (n.symm.trans o)]),fun _=>rfl⟩⟩,D⟩
  ·rcases M.nil_or with ⟨_,_,e⟩|⟨N,I⟩
   ·exact absurd e o
   ·rcases L.nil_or with ⟨_,_,e⟩|⟨O,K⟩
    ·exact absurd (n.trans e) o
    ·rw[I,K]
     exact zli A H J b2 N O q z h j w M L I K n V
 ·refine (zlg _ _ _ _ _ _ w (by omega)).mono ?_
  rintro e E ⟨rfl,D⟩
  exact⟨⟨false,rfl,⟨fun k=>(by cases k),fun k=>absurd (by rw[k]) n⟩⟩,D⟩
def zc8 (x y:Ep):Bool:=x.kind==y.kind&&x.name.toList==y.name.toList&&x.loc.toList==y.loc.toList&&x.spec.toList==y.spec.toList
theorem zfe {x y:Ep}:zc8 x y=true↔x=y:=by
 constructor
 ·intro h
  unfold zc8 at h
  simp only[Bool.and_eq_true] at h
  obtain⟨⟨⟨q,j⟩,n⟩,o⟩:=h
  cases x
  cases y
  simp only at q j n o
  congr 1<;>first|(apply zew;assumption)|(apply eq_of_beq;assumption)
 ·intro h
  rw[h]
  simp[zc8]
theorem zlk (z o:Option Addr) (n j D A:Nat) (w:World) (h:(n:Int)≠(j:Int)):Calls Tryz.prog 106 #[.slice z n D,.slice o j A] w fun e q=>e= .returned (.bool false)∧Below w.heap.size w q:=by
 go_enter Tryz.func106,Tryz.ntmps106
 go_wp2
 go_ret
 exact⟨rfl,Below.refl _ _⟩
theorem zll (n h:Option Addr) (q o:Nat) (w:World):Calls Tryz.prog 106 #[.slice n 0 q,.slice h 0 o] w fun e j=>e= .returned (.bool true)∧Below w.heap.size w j:=by
 go_enter Tryz.func106,Tryz.ntmps106
 go_wp2
 go_loopg [13] 1 (fun k i wr=>k=1∧i= .int .i64 0∧wr=w)
 case atStart=>exact⟨rfl,rfl,rfl⟩
 case round=>
  obtain⟨rfl,rfl,rfl⟩:=hrel
  go_wp2
  go_ret
  exact⟨rfl,Below.refl _ _⟩
theorem zlm (V: ∀(x y:Ep) (W:World),Sem.run Tryz.prog (binOp .neq 102 (.agg #[.int .i64 x.kind,.string x.name,.string x.loc,.string x.spec]) (.agg #[.int .i64 y.kind,.string y.name,.string y.loc,.string y.spec])) W= .ok (.bool (!zc8 x y)) W) (aa: ∀(J:BinOp) (a b:Operand) (x y:Ep) (W:World),Sem.run Tryz.prog (eqGuard J 102 a b (.agg #[.int .i64 x.kind,.string x.name,.string x.loc,.string x.spec]) (.agg #[.int .i64 y.kind,.string y.name,.string y.loc,.string y.spec])) W= .ok () W) (b1 b2 Z g2:Nat) (M Y:Rw) (h A:List Ep) (w:World) (q:OwnR w b1 102 4 M h.length (h.flatMap epL)) (o:OwnR w b2 102 4 Y A.length (A.flatMap epL)) (e1:M.a=some ⟨Z,0,none⟩) (e2:Y.a=some ⟨g2,0,none⟩) (hl:h.length=A.length) (hb:h.length≤4294967296):
  Calls Tryz.prog 106 #[.slice (some ⟨Z,0,none⟩) h.length M.cap,.slice (some ⟨g2,0,none⟩) h.length Y.cap] w fun e w'=>zbR (h=A) e∧Below w.heap.size w w':=by
 have H1:=zc q
 have H2:=zc o
 have E1:=zc e1
 have E2:=zc e2
 have HL:=zc hl
 clear q o e1 e2 hl
 go_enter Tryz.func106,Tryz.ntmps106
 go_wp2
 go_loopg [13] h.length (fun k i wr=>∃j:Nat,i= .int .i64 j∧j+k=h.length∧h.take j=A.take j∧Below w.heap.size w wr)
 case atStart=>exact⟨0,rfl,by omega,rfl,Below.refl _ _⟩
 case round=>
  obtain⟨j,rfl,hj,ht,hb⟩:=hrel
  have H:=zc hb
  have HT:=zc ht
  clear hb ht
  by_cases K:j<h.length
  ·have E:(j:Int)<(h.length:Int):=by omega
   obtain⟨x,X⟩:=zaX K
   obtain⟨y,hy⟩:=zaX (show j<A.length by rw[←HL.out];exact K)
   obtain⟨N,ga,q⟩:=OwnR.elem (f:=epL) (m:=4) (fun _=>rfl) (H1.out.keep fun k g=>H.out.block k (H1.out.typed g).2.1) X
   obtain rfl:N=Z:=by have:=ga.symm.trans E1.out;simpa using this
   obtain⟨N,gb,o⟩:=OwnR.elem (f:=epL) (m:=4) (fun _=>rfl) (H2.out.keep fun k g=>H.out.block k (H2.out.typed g).2.1) hy
   obtain rfl:N=g2:=by have:=gb.symm.trans E2.out;simpa using this
   have C0:=zc (q 0 (by omega))
   have D0:=zc (o 0 (by omega))
   have C1:=zc (q 1 (by omega))
   have D1:=zc (o 1 (by omega))
   have C2:=zc (q 2 (by omega))
   have D2:=zc (o 2 (by omega))
   have C3:=zc (q 3 (by omega))
   have D3:=zc (o 3 (by omega))
   have HX:=zc X
   have HY:=zc hy
   clear q o ga gb X hy
   obtain⟨L,D⟩: ∃L,L=j+1:=⟨_,rfl⟩
   have ej:(j:Int)+1=(L:Int):=by omega
   have HJ:=zc D
   clear D
   obtain⟨b,n⟩: ∃b,zc8 x y=b:=⟨_,rfl⟩
   have ab: ∀W:World,Sem.run Tryz.prog (binOp .neq 102 (.agg #[.int .i64 x.kind,.string x.name,.string x.loc,.string x.spec]) (.agg #[.int .i64 y.kind,.string y.name,.string y.loc,.string y.spec])) W= .ok (.bool !b) W:=fun W=>by rw[V,n]
   have ac: ∀(J:BinOp) (a b:Operand) (W:World),Sem.run Tryz.prog (eqGuard J 102 a b (.agg #[.int .i64 x.kind,.string x.name,.string x.loc,.string x.spec]) (.agg #[.int .i64 y.kind,.string y.name,.string y.loc,.string y.spec])) W= .ok () W:=fun J a b W=>aa J a b x y W
   go_wp2
   have k0:=cell_regrown C0.out
   have m0:=cell_regrown D0.out
   have k1:=cell_regrown C1.out
   have m1:=cell_regrown D1.out
   have k2:=cell_regrown C2.out
   have m2:=cell_regrown D2.out
   have k3:=cell_regrown C3.out
   have m3:=cell_regrown D3.out
   simp only[Nat.add_zero] at k0 m0
   refine wp_region_quiet_below (by kernel_rfl) (by kernel_rfl) ?_
   repeat (go_big_quiet_step (fail))
   refine wpQuiet_nil ?_
   intro w2 U
   obtain⟨⟨dq,O⟩,z⟩:=U
   have I:Hid (Below w.heap.size w w2):=by show Below _ _ _;rw[z];exact H.out.trans ((below_regrown wr dq O).mono H.out.size)
   clear z k0 m0 C0 D0 k1 m1 C1 D1 k2 m2 C2 D2 k3 m3 C3 D3
   cases b with
   |true=>
    go_wp2
    go_roundg (gk-1)
    case rel=>exact⟨L,rfl,by have:=HJ.out;omega,by rw[HJ.out];have e:=zfe.1 n;exact zc5 HT.out HX.out (by rw[e];exact HY.out),I.out⟩
    case measure=>omega
   |false=>
    go_wp2
    go_ret
    exact⟨⟨false,rfl,⟨fun k=>(by cases k),fun k=>(by have e:=HX.out;rw[k,HY.out] at e;cases e;rw[zfe.2 rfl] at n;cases n)⟩⟩,I.out⟩
  ·have E: ¬(j:Int)<(h.length:Int):=by omega
   obtain rfl:j=h.length:=by omega
   go_wp2
   go_ret
   exact⟨⟨true,rfl,⟨fun _=>zc6 HL.out HT.out,fun _=>rfl⟩⟩,H.out⟩
theorem zln (A: ∀(x y:Ep) (W:World),Sem.run Tryz.prog (binOp .neq 102 (.agg #[.int .i64 x.kind,.string x.name,.string x.loc,.string x.spec]) (.agg #[.int .i64 y.kind,.string y.name,.string y.loc,.string y.spec])) W= .ok (.bool (!zc8 x y)) W) (H: ∀(U:BinOp) (a b:Operand) (x y:Ep) (W:World),Sem.run Tryz.prog (eqGuard U 102 a b (.agg #[.int .i64 x.kind,.string x.name,.string x.loc,.string x.spec]) (.agg #[.int .i64 y.kind,.string y.name,.string y.loc,.string y.spec])) W= .ok () W) (J b2:Nat) (q z:Rw) (h j:List Ep) (w:World) (M:OwnR w J 102 4 q h.length (h.flatMap epL)) (L:OwnR w b2 102 4 z j.length (j.flatMap epL)) (V:h.length≤4294967296):
  Calls Tryz.prog 106 #[.slice q.a h.length q.cap,.slice z.a j.length z.cap] w fun e E=>zbR (h=j) e∧Below w.heap.size w E:=by
 by_cases n:h.length=j.length
 ·rw[←n]
  by_cases o:h.length=0
  ·rw[o]
   refine (zll _ _ _ _ w).mono ?_
   rintro e E ⟨rfl,D⟩
   exact⟨⟨true,rfl,⟨fun _=>(by rw[List.eq_nil_of_length_eq_zero o,List.eq_nil_of_length_eq_zero (n.symm.trans o)]),fun _=>rfl⟩⟩,D⟩
  ·rcases M.nil_or with ⟨_,_,e⟩|⟨N,I⟩
   ·exact absurd e o
   ·rcases L.nil_or with ⟨_,_,e⟩|⟨O,K⟩
    ·exact absurd (n.trans e) o
    ·rw[I,K]
     exact zlm A H J b2 N O q z h j w M L I K n V
 ·refine (zlk _ _ _ _ _ _ w (by omega)).mono ?_
  rintro e E ⟨rfl,D⟩
  exact⟨⟨false,rfl,⟨fun k=>(by cases k),fun k=>absurd (by rw[k]) n⟩⟩,D⟩
def zc9 (x y:Sm):Bool:=x.kind==y.kind&&x.name.toList==y.name.toList&&x.expr==y.expr
theorem zff {x y:Sm}:zc9 x y=true↔x=y:=by
 constructor
 ·intro h
  unfold zc9 at h
  simp only[Bool.and_eq_true] at h
  obtain⟨⟨o,j⟩,n⟩:=h
  cases x
  cases y
  simp only at o j n
  congr 1<;>first|(apply zew;assumption)|(apply eq_of_beq;assumption)
 ·intro h
  rw[h]
  simp[zc9]
theorem zlo (z o:Option Addr) (n j D A:Nat) (w:World) (h:(n:Int)≠(j:Int)):Calls Tryz.prog 107 #[.slice z n D,.slice o j A] w fun e q=>e= .returned (.bool false)∧Below w.heap.size w q:=by
 go_enter Tryz.func107,Tryz.ntmps107
 go_wp2
 go_ret
 exact⟨rfl,Below.refl _ _⟩
theorem zlp (n h:Option Addr) (q o:Nat) (w:World):Calls Tryz.prog 107 #[.slice n 0 q,.slice h 0 o] w fun e j=>e= .returned (.bool true)∧Below w.heap.size w j:=by
 go_enter Tryz.func107,Tryz.ntmps107
 go_wp2
 go_loopg [13] 1 (fun k i wr=>k=1∧i= .int .i64 0∧wr=w)
 case atStart=>exact⟨rfl,rfl,rfl⟩
 case round=>
  obtain⟨rfl,rfl,rfl⟩:=hrel
  go_wp2
  go_ret
  exact⟨rfl,Below.refl _ _⟩
theorem zlq (V: ∀(x y:Sm) (W:World),Sem.run Tryz.prog (binOp .neq 106 (.agg #[.int .i64 x.kind,.string x.name,.int .i64 x.expr]) (.agg #[.int .i64 y.kind,.string y.name,.int .i64 y.expr])) W= .ok (.bool (!zc9 x y)) W) (aa: ∀(J:BinOp) (a b:Operand) (x y:Sm) (W:World),Sem.run Tryz.prog (eqGuard J 106 a b (.agg #[.int .i64 x.kind,.string x.name,.int .i64 x.expr]) (.agg #[.int .i64 y.kind,.string y.name,.int .i64 y.expr])) W= .ok () W) (b1 b2 Z g2:Nat) (M Y:Rw) (h A:List Sm) (w:World) (z:OwnR w b1 106 3 M h.length (h.flatMap smL)) (q:OwnR w b2 106 3 Y A.length (A.flatMap smL)) (e1:M.a=some ⟨Z,0,none⟩) (e2:Y.a=some ⟨g2,0,none⟩) (hl:h.length=A.length) (hb:h.length≤4294967296):
  Calls Tryz.prog 107 #[.slice (some ⟨Z,0,none⟩) h.length M.cap,.slice (some ⟨g2,0,none⟩) h.length Y.cap] w fun e w'=>zbR (h=A) e∧Below w.heap.size w w':=by
 have H1:=zc z
 have H2:=zc q
 have E1:=zc e1
 have E2:=zc e2
 have HL:=zc hl
 clear z q e1 e2 hl
 go_enter Tryz.func107,Tryz.ntmps107
 go_wp2
 go_loopg [13] h.length (fun k i wr=>∃j:Nat,i= .int .i64 j∧j+k=h.length∧h.take j=A.take j∧Below w.heap.size w wr)
 case atStart=>exact⟨0,rfl,by omega,rfl,Below.refl _ _⟩
 case round=>
  obtain⟨j,rfl,hj,ht,hb⟩:=hrel
  have H:=zc hb
  have HT:=zc ht
  clear hb ht
  by_cases K:j<h.length
  ·have E:(j:Int)<(h.length:Int):=by omega
   obtain⟨x,X⟩:=zaX K
   obtain⟨y,hy⟩:=zaX (show j<A.length by rw[←HL.out];exact K)
   obtain⟨N,ga,z⟩:=OwnR.elem (f:=smL) (m:=3) (fun _=>rfl) (H1.out.keep fun k g=>H.out.block k (H1.out.typed g).2.1) X
   obtain rfl:N=Z:=by have:=ga.symm.trans E1.out;simpa using this
   obtain⟨N,gb,q⟩:=OwnR.elem (f:=smL) (m:=3) (fun _=>rfl) (H2.out.keep fun k g=>H.out.block k (H2.out.typed g).2.1) hy
   obtain rfl:N=g2:=by have:=gb.symm.trans E2.out;simpa using this
   have C0:=zc (z 0 (by omega))
   have D0:=zc (q 0 (by omega))
   have C1:=zc (z 1 (by omega))
   have D1:=zc (q 1 (by omega))
   have C2:=zc (z 2 (by omega))
   have D2:=zc (q 2 (by omega))
   have HX:=zc X
   have HY:=zc hy
   clear z q ga gb X hy
   obtain⟨L,D⟩: ∃L,L=j+1:=⟨_,rfl⟩
   have ej:(j:Int)+1=(L:Int):=by omega
   have HJ:=zc D
   clear D
   obtain⟨b,n⟩: ∃b,zc9 x y=b:=⟨_,rfl⟩
   have ab: ∀W:World,Sem.run Tryz.prog (binOp .neq 106 (.agg #[.int .i64 x.kind,.string x.name,.int .i64 x.expr]) (.agg #[.int .i64 y.kind,.string y.name,.int .i64 y.expr])) W= .ok (.bool !b) W:=fun W=>by rw[V,n]
   have ac: ∀(J:BinOp) (a b:Operand) (W:World),Sem.run Tryz.prog (eqGuard J 106 a b (.agg #[.int .i64 x.kind,.string x.name,.int .i64 x.expr]) (.agg #[.int .i64 y.kind,.string y.name,.int .i64 y.expr])) W= .ok () W:=fun J a b W=>aa J a b x y W
   go_wp2
   have k0:=cell_regrown C0.out
   have m0:=cell_regrown D0.out
   have k1:=cell_regrown C1.out
   have m1:=cell_regrown D1.out
   have k2:=cell_regrown C2.out
   have m2:=cell_regrown D2.out
   simp only[Nat.add_zero] at k0 m0
   refine wp_region_quiet_below (by kernel_rfl) (by kernel_rfl) ?_
   repeat (go_big_quiet_step (fail))
   refine wpQuiet_nil ?_
   intro w2 U
   obtain⟨⟨dq,O⟩,o⟩:=U
   have I:Hid (Below w.heap.size w w2):=by show Below _ _ _;rw[o];exact H.out.trans ((below_regrown wr dq O).mono H.out.size)
   clear o k0 m0 C0 D0 k1 m1 C1 D1 k2 m2 C2 D2
   cases b with
   |true=>
    go_wp2
    go_roundg (gk-1)
    case rel=>exact⟨L,rfl,by have:=HJ.out;omega,by rw[HJ.out];have e:=zff.1 n;exact zc5 HT.out HX.out (by rw[e];exact HY.out),I.out⟩
    case measure=>omega
   |false=>
    go_wp2
    go_ret
    exact⟨⟨false,rfl,⟨fun k=>(by cases k),fun k=>(by have e:=HX.out;rw[k,HY.out] at e;cases e;rw[zff.2 rfl] at n;cases n)⟩⟩,I.out⟩
  ·have E: ¬(j:Int)<(h.length:Int):=by omega
   obtain rfl:j=h.length:=by omega
   go_wp2
   go_ret
   exact⟨⟨true,rfl,⟨fun _=>zc6 HL.out HT.out,fun _=>rfl⟩⟩,H.out⟩
theorem zlr (A: ∀(x y:Sm) (W:World),Sem.run Tryz.prog (binOp .neq 106 (.agg #[.int .i64 x.kind,.string x.name,.int .i64 x.expr]) (.agg #[.int .i64 y.kind,.string y.name,.int .i64 y.expr])) W= .ok (.bool (!zc9 x y)) W) (H: ∀(U:BinOp) (a b:Operand) (x y:Sm) (W:World),Sem.run Tryz.prog (eqGuard U 106 a b (.agg #[.int .i64 x.kind,.string x.name,.int .i64 x.expr]) (.agg #[.int .i64 y.kind,.string y.name,.int .i64 y.expr])) W= .ok () W) (J b2:Nat) (q z:Rw) (h j:List Sm) (w:World) (M:OwnR w J 106 3 q h.length (h.flatMap smL)) (L:OwnR w b2 106 3 z j.length (j.flatMap smL)) (V:h.length≤4294967296):
  Calls Tryz.prog 107 #[.slice q.a h.length q.cap,.slice z.a j.length z.cap] w fun e E=>zbR (h=j) e∧Below w.heap.size w E:=by
 by_cases n:h.length=j.length
 ·rw[←n]
  by_cases o:h.length=0
  ·rw[o]
   refine (zlp _ _ _ _ w).mono ?_
   rintro e E ⟨rfl,D⟩
   exact⟨⟨true,rfl,⟨fun _=>(by rw[List.eq_nil_of_length_eq_zero o,List.eq_nil_of_length_eq_zero (n.symm.trans o)]),fun _=>rfl⟩⟩,D⟩
  ·rcases M.nil_or with ⟨_,_,e⟩|⟨N,I⟩
   ·exact absurd e o
   ·rcases L.nil_or with ⟨_,_,e⟩|⟨O,K⟩
    ·exact absurd (n.trans e) o
    ·rw[I,K]
     exact zlq A H J b2 N O q z h j w M L I K n V
 ·refine (zlo _ _ _ _ _ _ w (by omega)).mono ?_
  rintro e E ⟨rfl,D⟩
  exact⟨⟨false,rfl,⟨fun k=>(by cases k),fun k=>absurd (by rw[k]) n⟩⟩,D⟩
def zcA (x y:Ex):Bool:=x.kind==y.kind&&x.num==y.num&&x.name.toList==y.name.toList&&x.field.toList==y.field.toList&&x.l==y.l&&x.r==y.r
theorem zfg {x y:Ex}:zcA x y=true↔x=y:=by
 constructor
 ·intro h
  unfold zcA at h
  simp only[Bool.and_eq_true] at h
  obtain⟨⟨⟨⟨⟨j,w⟩,z⟩,n⟩,q⟩,o⟩:=h
  cases x
  cases y
  simp only at j w z n q o
  congr 1<;>first|(apply zew;assumption)|(apply eq_of_beq;assumption)
 ·intro h
  rw[h]
  simp[zcA]
theorem zls (z o:Option Addr) (n j D A:Nat) (w:World) (h:(n:Int)≠(j:Int)):Calls Tryz.prog 108 #[.slice z n D,.slice o j A] w fun e q=>e= .returned (.bool false)∧Below w.heap.size w q:=by
 go_enter Tryz.func108,Tryz.ntmps108
 go_wp2
 go_ret
 exact⟨rfl,Below.refl _ _⟩
theorem zlt (n h:Option Addr) (q o:Nat) (w:World):Calls Tryz.prog 108 #[.slice n 0 q,.slice h 0 o] w fun e j=>e= .returned (.bool true)∧Below w.heap.size w j:=by
 go_enter Tryz.func108,Tryz.ntmps108
 go_wp2
 go_loopg [13] 1 (fun k i wr=>k=1∧i= .int .i64 0∧wr=w)
 case atStart=>exact⟨rfl,rfl,rfl⟩
 case round=>
  obtain⟨rfl,rfl,rfl⟩:=hrel
  go_wp2
  go_ret
  exact⟨rfl,Below.refl _ _⟩
theorem zlu (V: ∀(x y:Ex) (W:World),Sem.run Tryz.prog (binOp .neq 108 (.agg #[.int .i64 x.kind,.int .i64 x.num,.string x.name,.string x.field,.int .i64 x.l,.int .i64 x.r]) (.agg #[.int .i64 y.kind,.int .i64 y.num,.string y.name,.string y.field,.int .i64 y.l,.int .i64 y.r])) W= .ok (.bool (!zcA x y)) W) (aa: ∀(J:BinOp) (a b:Operand) (x y:Ex) (W:World),Sem.run Tryz.prog (eqGuard J 108 a b (.agg #[.int .i64 x.kind,.int .i64 x.num,.string x.name,.string x.field,.int .i64 x.l,.int .i64 x.r]) (.agg #[.int .i64 y.kind,.int .i64 y.num,.string y.name,.string y.field,.int .i64 y.l,.int .i64 y.r])) W= .ok () W) (b1 b2 Z g2:Nat) (M Y:Rw) (h A:List Ex) (w:World) (o:OwnR w b1 108 6 M h.length (h.flatMap exL)) (n:OwnR w b2 108 6 Y A.length (A.flatMap exL)) (e1:M.a=some ⟨Z,0,none⟩) (e2:Y.a=some ⟨g2,0,none⟩) (hl:h.length=A.length) (hb:h.length≤4294967296):
  Calls Tryz.prog 108 #[.slice (some ⟨Z,0,none⟩) h.length M.cap,.slice (some ⟨g2,0,none⟩) h.length Y.cap] w fun e w'=>zbR (h=A) e∧Below w.heap.size w w':=by
 have H1:=zc o
 have H2:=zc n
 have E1:=zc e1
 have E2:=zc e2
 have HL:=zc hl
 clear o n e1 e2 hl
 go_enter Tryz.func108,Tryz.ntmps108
 go_wp2
 go_loopg [13] h.length (fun k i wr=>∃j:Nat,i= .int .i64 j∧j+k=h.length∧h.take j=A.take j∧Below w.heap.size w wr)
 case atStart=>exact⟨0,rfl,by omega,rfl,Below.refl _ _⟩
 case round=>
  obtain⟨j,rfl,hj,ht,hb⟩:=hrel
  have H:=zc hb
  have HT:=zc ht
  clear hb ht
  by_cases K:j<h.length
  ·have E:(j:Int)<(h.length:Int):=by omega
   obtain⟨x,X⟩:=zaX K
   obtain⟨y,hy⟩:=zaX (show j<A.length by rw[←HL.out];exact K)
   obtain⟨N,ga,o⟩:=OwnR.elem (f:=exL) (m:=6) (fun _=>rfl) (H1.out.keep fun k g=>H.out.block k (H1.out.typed g).2.1) X
   obtain rfl:N=Z:=by have:=ga.symm.trans E1.out;simpa using this
   obtain⟨N,gb,n⟩:=OwnR.elem (f:=exL) (m:=6) (fun _=>rfl) (H2.out.keep fun k g=>H.out.block k (H2.out.typed g).2.1) hy
   obtain rfl:N=g2:=by have:=gb.symm.trans E2.out;simpa using this
   have C0:=zc (o 0 (by omega))
   have D0:=zc (n 0 (by omega))
   have C1:=zc (o 1 (by omega))
   have D1:=zc (n 1 (by omega))
   have C2:=zc (o 2 (by omega))
   have D2:=zc (n 2 (by omega))
   have C3:=zc (o 3 (by omega))
   have D3:=zc (n 3 (by omega))
   have C4:=zc (o 4 (by omega))
   have D4:=zc (n 4 (by omega))
   have C5:=zc (o 5 (by omega))
   have D5:=zc (n 5 (by omega))
   have HX:=zc X
   have HY:=zc hy
   clear o n ga gb X hy
   obtain⟨L,D⟩: ∃L,L=j+1:=⟨_,rfl⟩
   have ej:(j:Int)+1=(L:Int):=by omega
   have HJ:=zc D
   clear D
   obtain⟨b,q⟩: ∃b,zcA x y=b:=⟨_,rfl⟩
   have ab: ∀W:World,Sem.run Tryz.prog (binOp .neq 108 (.agg #[.int .i64 x.kind,.int .i64 x.num,.string x.name,.string x.field,.int .i64 x.l,.int .i64 x.r]) (.agg #[.int .i64 y.kind,.int .i64 y.num,.string y.name,.string y.field,.int .i64 y.l,.int .i64 y.r])) W= .ok (.bool !b) W:=fun W=>by rw[V,q]
   have ac: ∀(J:BinOp) (a b:Operand) (W:World),Sem.run Tryz.prog (eqGuard J 108 a b (.agg #[.int .i64 x.kind,.int .i64 x.num,.string x.name,.string x.field,.int .i64 x.l,.int .i64 x.r]) (.agg #[.int .i64 y.kind,.int .i64 y.num,.string y.name,.string y.field,.int .i64 y.l,.int .i64 y.r])) W= .ok () W:=fun J a b W=>aa J a b x y W
   go_wp2
   have k0:=cell_regrown C0.out
   have m0:=cell_regrown D0.out
   have k1:=cell_regrown C1.out
   have m1:=cell_regrown D1.out
   have k2:=cell_regrown C2.out
   have m2:=cell_regrown D2.out
   have k3:=cell_regrown C3.out
   have m3:=cell_regrown D3.out
   have k4:=cell_regrown C4.out
   have m4:=cell_regrown D4.out
   have k5:=cell_regrown C5.out
   have m5:=cell_regrown D5.out
   simp only[Nat.add_zero] at k0 m0
   refine wp_region_quiet_below (by kernel_rfl) (by kernel_rfl) ?_
   repeat (go_big_quiet_step (fail))
   refine wpQuiet_nil ?_
   intro w2 U
   obtain⟨⟨dq,O⟩,z⟩:=U
   have I:Hid (Below w.heap.size w w2):=by show Below _ _ _;rw[z];exact H.out.trans ((below_regrown wr dq O).mono H.out.size)
   clear z k0 m0 C0 D0 k1 m1 C1 D1 k2 m2 C2 D2 k3 m3 C3 D3 k4 m4 C4 D4 k5 m5 C5 D5
   cases b with
   |true=>
    go_wp2
    go_roundg (gk-1)
    case rel=>exact⟨L,rfl,by have:=HJ.out;omega,by rw[HJ.out];have e:=zfg.1 q;exact zc5 HT.out HX.out (by rw[e];exact HY.out),I.out⟩
    case measure=>omega
   |false=>
    go_wp2
    go_ret
    exact⟨⟨false,rfl,⟨fun k=>(by cases k),fun k=>(by have e:=HX.out;rw[k,HY.out] at e;cases e;rw[zfg.2 rfl] at q;cases q)⟩⟩,I.out⟩
  ·have E: ¬(j:Int)<(h.length:Int):=by omega
   obtain rfl:j=h.length:=by omega
   go_wp2
   go_ret
   exact⟨⟨true,rfl,⟨fun _=>zc6 HL.out HT.out,fun _=>rfl⟩⟩,H.out⟩
theorem zlv (A: ∀(x y:Ex) (W:World),Sem.run Tryz.prog (binOp .neq 108 (.agg #[.int .i64 x.kind,.int .i64 x.num,.string x.name,.string x.field,.int .i64 x.l,.int .i64 x.r]) (.agg #[.int .i64 y.kind,.int .i64 y.num,.string y.name,.string y.field,.int .i64 y.l,.int .i64 y.r])) W= .ok (.bool (!zcA x y)) W) (H: ∀(U:BinOp) (a b:Operand) (x y:Ex) (W:World),Sem.run Tryz.prog (eqGuard U 108 a b (.agg #[.int .i64 x.kind,.int .i64 x.num,.string x.name,.string x.field,.int .i64 x.l,.int .i64 x.r]) (.agg #[.int .i64 y.kind,.int .i64 y.num,.string y.name,.string y.field,.int .i64 y.l,.int .i64 y.r])) W= .ok () W) (J b2:Nat) (q z:Rw) (h j:List Ex) (w:World) (M:OwnR w J 108 6 q h.length (h.flatMap exL)) (L:OwnR w b2 108 6 z j.length (j.flatMap exL)) (V:h.length≤4294967296):
  Calls Tryz.prog 108 #[.slice q.a h.length q.cap,.slice z.a j.length z.cap] w fun e E=>zbR (h=j) e∧Below w.heap.size w E:=by
 by_cases n:h.length=j.length
 ·rw[←n]
  by_cases o:h.length=0
  ·rw[o]
   refine (zlt _ _ _ _ w).mono ?_
   rintro e E ⟨rfl,D⟩
   exact⟨⟨true,rfl,⟨fun _=>(by rw[List.eq_nil_of_length_eq_zero o,List.eq_nil_of_length_eq_zero (n.symm.trans o)]),fun _=>rfl⟩⟩,D⟩
  ·rcases M.nil_or with ⟨_,_,e⟩|⟨N,I⟩
   ·exact absurd e o
   ·rcases L.nil_or with ⟨_,_,e⟩|⟨O,K⟩
    ·exact absurd (n.trans e) o
    ·rw[I,K]
     exact zlu A H J b2 N O q z h j w M L I K n V
 ·refine (zls _ _ _ _ _ _ w (by omega)).mono ?_
  rintro e E ⟨rfl,D⟩
  exact⟨⟨false,rfl,⟨fun k=>(by cases k),fun k=>absurd (by rw[k]) n⟩⟩,D⟩
end Go.Proofs.YticdggnnpjachaaGreat
