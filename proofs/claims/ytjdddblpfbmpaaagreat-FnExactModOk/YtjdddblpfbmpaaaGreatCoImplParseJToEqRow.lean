/-
  What slices.Index and slices.Contains answer over a row of texts,and strings.Clone: the walks.
  What request of impl's parser answers: the walks.
  What nameOrCall of impl's parser answers: the walk.
  What part of impl's parser answers: the walk.
  What product and sum of impl's parser answer: the walks.
  What statement of impl's parser answers: the walk.
  What the small items of impl's parser,itemWord and exportLast answer: the walks.
  Rows beside impl's parser: lists of names under way. No program is spoken of but for the numbers of its types.
  A program in memory,of any size. No program is spoken of but for the numbers of its types.
  The zero program in memory. No program is spoken of but for the numbers of its types.
  What slices.Equal answers of rows of the call's own,the model's != handed in: the walks.
-/
import Derived.Test.YtjdddblpfbmpaaaGreatCoImplParseHToImplParseI
import Derived.Test.YtjdddblpfbmpaaaGreatCoShelf
namespace Go.Proofs.YtjdddblpfbmpaaaGreat
set_option maxRecDepth 100000
set_option maxHeartbeats 6400000
open Go.RowKit Go.PlainAid Go.Sort
theorem zhi (s:ByteArray) (w:World) (h:s.size≤281474976710656):
  Calls Tryz.prog 68 #[.string s] w fun e j=>e= .returned (.string s)∧Below w.heap.size w j:=by
 go_enter Tryz.func68,Tryz.ntmps68
 go_wp2_with fail
 refine (Tryz.stringslite_Clone _ _ h).mono ?_
 rintro e q ⟨rfl,n⟩
 go_wp2
 go_ret
 exact⟨rfl,n⟩
theorem OwnR.text {w:World} {q n:Nat} {r:Rw} {l:List ByteArray} (h:OwnR w q 9 1 r n (l.map .string)) {j:Nat} (H:j<n): ∃g,r.a=some ⟨g,0,none⟩∧w.cell? ⟨g,j,none⟩=some (.string (l.getD j sNone)):=by
 rcases h.2 with ⟨_,J⟩|⟨g,E,D,z,_⟩
 ·omega
 ·simp only[Value.slice.injEq] at z
  have A:=h
  unfold OwnR at A
  rw[z.1,z.2.2] at A
  have I:l.length=n:=by have:=h.1;simpa using this
  refine⟨g,z.1,?_⟩
  rw[World.ownsRow.cellAt A j (by omega)]
  simp only[List.getElem?_map,List.getD]
  rw[List.getElem?_eq_getElem (by omega)]
  rfl
theorem zkA {l:List ByteArray} {x:ByteArray} {j:Nat} (h:j<l.length):zaL (l.drop j) x=((l.getD j sNone).toList==x.toList||zaL (l.drop (j+1)) x):=by
 rw[List.drop_eq_getElem_cons h]
 simp only[zaL,List.any_cons,List.getD,List.getElem?_eq_getElem h,Option.getD_some]
theorem zkB (z g:Nat) (r:Rw) (l:List ByteArray) (x:ByteArray) (w:World) (h:OwnR w z 9 1 r l.length (l.map .string)) (hl:l.length≤1000000) (N:r.a=some ⟨g,0,none⟩):
  Calls Tryz.prog 131 #[.slice (some ⟨g,0,none⟩) l.length r.cap,.string x] w fun e U=>(∃v:Int,e= .returned (.int .i64 v)∧decide (0≤v)=zaL l x)∧U=w:=by
 have Y:=zc h
 have J:=zc N
 clear h N
 go_enter Tryz.func131,Tryz.ntmps131
 go_wp2
 go_loopg [8] (l.length+1) (fun k i wr=>∃j:Nat,i= .int .i64 j∧j+k=l.length+1∧zaL (l.drop j) x=zaL l x∧wr=w)
 case atStart=>exact⟨0,rfl,by omega,by simp,rfl⟩
 case round=>
  obtain⟨j,rfl,hj,O,rfl⟩:=hrel
  have L:=zc O
  clear O
  by_cases n:j<l.length
  ·have D:(j:Int)<(l.length:Int):=by omega
   obtain⟨X,A,Z⟩:=Y.out.text n
   have V:X=g:=by have:=A.symm.trans J.out;simpa using this
   subst V
   clear A
   obtain⟨E,q⟩: ∃E,E=j+1:=⟨_,rfl⟩
   have ej:(j:Int)+1=(E:Int):=by omega
   have M:=zc q
   clear q
   have K:Hid (zaL (l.drop j) x=((l.getD j sNone).toList==x.toList||zaL (l.drop (j+1)) x)):=zkA n
   generalize l.getD j sNone=y at Z K
   cases H:(x.toList==y.toList) with
   |true=>
    go_wp2
    go_ret
    refine⟨⟨_,rfl,?_⟩,rfl⟩
    have I:(y.toList==x.toList)=true:=by rw[beq_iff_eq] at H ⊢;exact H.symm
    rw[←L.out,K.out,I]
    simp
   |false=>
    go_wp2
    go_roundg (gk-1)
    case rel=>
     have I:(y.toList==x.toList)=false:=by
      rw[beq_eq_false_iff_ne] at H ⊢;exact fun e=>H e.symm
     refine⟨E,rfl,by have:=M.out;omega,?_,rfl⟩
     rw[←L.out,K.out,I,M.out]
     simp
    case measure=>omega
  ·have D: ¬(j:Int)<(l.length:Int):=by omega
   go_wp2
   go_ret
   refine⟨⟨_,rfl,?_⟩,rfl⟩
   rw[←L.out,List.drop_eq_nil_of_le (by omega)]
   rfl
theorem zkC (x:ByteArray) (w:World):
  Calls Tryz.prog 131 #[.slice none 0 0,.string x] w fun e h=>e= .returned (.int .i64 (-1))∧h=w:=by
 go_enter Tryz.func131,Tryz.ntmps131
 go_wp2
 go_loopg [8] 1 (fun k i wr=>k=1∧i= .int .i64 0∧wr=w)
 case atStart=>exact⟨rfl,rfl,rfl⟩
 case round=>
  obtain⟨rfl,rfl,rfl⟩:=hrel
  go_wp2
  go_ret
  exact⟨rfl,rfl⟩
theorem zkD (j:Nat) (r:Rw) (l:List ByteArray) (x:ByteArray) (w:World) (h:OwnR w j 9 1 r l.length (l.map .string)) (D:l.length≤1000000):
  Calls Tryz.prog 131 #[.slice r.a l.length r.cap,.string x] w fun e A=>(∃v:Int,e= .returned (.int .i64 v)∧decide (0≤v)=zaL l x)∧A=w:=by
 rcases h.nil_or with ⟨z,E,n⟩|⟨g,q⟩
 ·rw[z,E,n]
  refine (zkC x w).mono ?_
  rintro e H ⟨rfl,rfl⟩
  have:l=[]:=List.length_eq_zero_iff.1 n
  subst this
  exact⟨⟨_,rfl,rfl⟩,rfl⟩
 ·rw[q]
  exact zkB j g r l x w h D q
theorem zfP (j:Nat) (r:Rw) (l:List ByteArray) (x:ByteArray) (w:World) (h:OwnR w j 9 1 r l.length (l.map .string)) (A:l.length≤1000000):
  Calls Tryz.prog 96 #[.slice r.a l.length r.cap,.string x] w fun e z=>e= .returned (.bool (zaL l x))∧z=w:=by
 have q:=zc h
 clear h
 go_enter Tryz.func96,Tryz.ntmps96
 go_wp2_with fail
 refine (zkD j r l x _ q.out A).mono ?_
 rintro e E ⟨⟨v,rfl,n⟩,rfl⟩
 have D:=zc n
 clear n
 go_wp2
 go_ret
 exact⟨zl D.out,rfl⟩
theorem Tryz.infoText:(Tryz.prog.info? 9).map (fun i=>(i.zero,i.size,i.bytes))=some (some (.string {data:=#[]}),1,16):=by kernel_rfl
def zaT (C:Cx):Prop:=∀i,(ze C i).text.size≤281474976710656
theorem zkE (x:ByteArray): ∀u∈[Value.string x],u.oneCell'=true:=by
 intro u h
 simp at h
 rw[h]
 rfl
theorem zkF (C:Cx) (O z j n:Nat) (S:Sv) (q:PS) (w:World) (h:IM C O z j n S q w) (hC:zaT C) (hk:((ze C q.pos).kind==3)=true) (hs:zaL q.rq (ze C q.pos).text=false) (hn:q.rq.length<40):
  Calls Tryz.prog 206 #[.pointer (some ⟨n,0,none⟩)] w fun e w'=>e= .returned (.string (ze C q.pos).text)∧∃S',IM C O z j n S' {adv q with rq:=q.rq++[(ze C q.pos).text]} w'∧IS n S w S' w':=by
 obtain⟨i0,hi,Y,ad,ac⟩:=info_parts Tryz.infoText
 have af:=zcl
 have J:=hC q.pos
 go_enter Tryz.func206,Tryz.ntmps206
 go_wp2_with fail
 refine (zdf C O z j n S q 3 _ h hk (by decide)).mono ?_
 rintro e U ⟨rfl,m1,s1⟩
 have M:=zc m1
 have V:=zc s1
 clear m1 s1
 unfold tkV
 obtain⟨c0,c1,c2,c3,c4,c5,c6,c7,c8,c9,cf⟩:=zY M.out.cells
 rw[show (adv q).rq=q.rq from rfl] at c4
 generalize I:(ze C q.pos).text=tx at hs J ⊢
 have X:=zc I
 clear I
 go_wp2_with fail
 refine (zfP j S.rq q.rq tx _ M.out.mem.own.rq (by omega)).mono ?_
 rintro e A ⟨rfl,K⟩
 rw[hs,K]
 clear K A
 go_wp2_with fail
 refine (zdg n q.rq.length 40 _ (by omega)).mono ?_
 rintro e A ⟨rfl,K⟩
 rw[K]
 clear K A
 have HN:Hid (some n≠S.rq.blk):=fun e=>M.out.free (.inl e.symm)
 go_wp2_with fail
 go_region_law (first|(refine zen rfl (.tmp 28) (.tmp 31) 22 rfl j 9 i0 _ 1 16 Tryz.underlying22 hi Y ad ac rfl (by decide) (by decide) S.rq q.rq.length (q.rq.map .string) (by rfl) (by exact E.out.mem.own.rq.alloc _) N.heap.size [.string tx] (by rfl) (by exact heap_alloc_new N _) rfl (zkE tx) (by omega) (by exact (E.out.alloc _).mem.base) ?_;intro r' w2 hr H L;have g2:=(H.block n (by exact (E.out.alloc _).lt) HN.out).trans (by exact (E.out.alloc _).cells);obtain⟨d0,d1,d2,d3,d4,d5,d6,d7,d8,d9,df⟩:=zY g2)|(go_simp;go_wp2_with (go_at_call 68;refine (zhi _ _ J).mono ?_;rintro e N ⟨rfl,D⟩;have E:Hid (IM C O z j n S (adv q) N):=M.out.drew.later D;have ab:Hid (Below U.heap.size U N):=(Below.refl U.heap.size U).drew.trans D;obtain⟨e0,e1,e2,e3,e4,e5,e6,e7,e8,e9,ef⟩:=zY E.out.cells;rw[show (adv q).rq=q.rq from rfl] at e4;have ae:=E.out.lt;clear D)))
 all_goals
  have HR:=zc hr
  have aa:=zc H
  have Z:=zc L
  clear hr H L g2 c0 c1 c2 c3 c4 c5 c6 c7 c8 c9 cf e0 e1 e2 e3 e4 e5 e6 e7 e8 e9 ef
  go_wp2
  go_ret
  obtain⟨m',s'⟩:=E.out.grow_rq (x:=tx) ((Below.refl _ _).alloc (Nat.le_refl _) _) aa.out HR.out Z.out hn
  rw[X.out]
  exact⟨rfl,_,m',V.out.trans (s'.grownI ab.out)⟩
theorem zeX (C:Cx) (E n j z:Nat) (S:Sv) (q:PS) (w:World) (h:IM C E n j z S q w) (hC:zaT C):
  Calls Tryz.prog 206 #[.pointer (some ⟨z,0,none⟩)] w (zM C E n j z (zG C q) (·.1) (fun a=>.string a.2) S w):=by
 cases A:((ze C q.pos).kind==3) with
 |false=>
  have K:=zc h
  have U:Hid (zG C q= .error (zp C q.pos)):=by show _=_;rw[zG,A];rfl
  clear h
  go_enter Tryz.func206,Tryz.ntmps206
  go_wp2_with fail
  refine (zhg C E n j z S q 3 _ K.out A).mono ?_
  rintro e V ⟨rfl,N⟩
  have X:=N.mono K.out.mem.base
  clear N
  unfold Pan
  go_wp2
  refine⟨rfl,?_⟩
  rw[U.out]
  exact⟨rfl,X⟩
 |true=>
  cases M:zaL q.rq (ze C q.pos).text with
  |true=>
   have K:=zc h
   have U:Hid (zG C q= .ok (adv q,(ze C q.pos).text)):=by show _=_;rw[zG,A,M];rfl
   have Z:=zcl
   have Y:=h.mem.inv.rq
   clear h
   go_enter Tryz.func206,Tryz.ntmps206
   go_wp2_with fail
   refine (zdf C E n j z S q 3 _ K.out A (by decide)).mono ?_
   rintro e V ⟨rfl,J,I⟩
   have D:=zc J
   have H:=zc I
   clear J I
   unfold tkV
   obtain⟨c0,c1,c2,c3,c4,c5,c6,c7,c8,c9,cf⟩:=zY D.out.cells
   rw[show (adv q).rq=q.rq from rfl] at c4
   go_wp2_with fail
   refine (zfP j S.rq q.rq (ze C q.pos).text _ D.out.mem.own.rq (by omega)).mono ?_
   rintro e L ⟨rfl,O⟩
   rw[M,O]
   clear O L
   go_wp2
   go_ret
   rw[U.out]
   exact⟨rfl,S,D.out,H.out⟩
  |false=>
   by_cases hn:q.rq.length<40
   ·refine (zkF C E n j z S q w h hC A M hn).mono ?_
    rintro e V ⟨rfl,S1,J,I⟩
    rw[zG,A,M,if_pos rfl,if_neg (by decide),if_neg (by omega)]
    exact⟨rfl,S1,J,I⟩
   ·have K:Hid (IM C E n j z S q w):=h
    have U:Hid (zG C q= .error (zp C q.pos)):=by show _=_;rw[zG,A,M,if_pos rfl,if_neg (by decide),if_pos (by omega)]
    have Z:=zcl
    have Y:=h.mem.inv.rq
    clear h
    go_enter Tryz.func206,Tryz.ntmps206
    go_wp2_with fail
    refine (zdf C E n j z S q 3 _ K.out A (by decide)).mono ?_
    rintro e V ⟨rfl,J,I⟩
    have D:=zc J
    have H:=zc I
    clear J I
    unfold tkV
    obtain⟨c0,c1,c2,c3,c4,c5,c6,c7,c8,c9,cf⟩:=zY D.out.cells
    rw[show (adv q).rq=q.rq from rfl] at c4
    go_wp2_with fail
    refine (zfP j S.rq q.rq (ze C q.pos).text _ D.out.mem.own.rq (by omega)).mono ?_
    rintro e L ⟨rfl,O⟩
    rw[M,O]
    clear O L
    go_wp2_with fail
    refine (zdF C E n j z S (adv q) q.rq.length 40 _ D.out (by omega) (by rw[zw];omega)).mono ?_
    rintro e w2 ⟨rfl,N⟩
    have X:=(K.out.back H.out).trans (N.mono D.out.mem.base)
    clear N
    unfold Pan
    go_wp2
    refine⟨rfl,?_⟩
    rw[U.out]
    exact⟨rfl,X⟩
theorem bdO {α β:Type} {Y:Except Nat β} {x:Except Nat α} {f:α→Except Nat β} {a:α} (h:Y=bd x f) (j:x= .ok a):Y=f a:=by rw[h,j];rfl
theorem bdE {α β:Type} {Y:Except Nat β} {x:Except Nat α} {f:α→Except Nat β} {p:Nat} (h:Y=bd x f) (j:x= .error p):Y= .error p:=by rw[h,j];rfl
theorem zdH {α:Type} (x:Except Nat α):bd x .ok=x:=by cases x<;>rfl
abbrev cCall:ByteArray:={data:=#[40,41,123]}
abbrev cShutSemi:ByteArray:={data:=#[41,59]}
abbrev cSemiRight:ByteArray:={data:=#[59,125]}
theorem zhj (C:Cx) (b:UInt8) (q:PS):za5 C {data:=#[b]} 1 0 q=zd C 4 {data:=#[b]} q:=by
 have e:({data:=#[b]}:ByteArray).extract 0 (0+1)={data:=#[b]}:=by simp[ByteArray.extract,ByteArray.copySlice]
 rw[za5,e]
 exact zdH _
theorem zhk (C:Cx) (b c:UInt8) (q:PS):za5 C {data:=#[b,c]} 2 0 q=bd (zd C 4 {data:=#[b]} q) (zd C 4 {data:=#[c]}):=by
 have e:({data:=#[b,c]}:ByteArray).extract 0 (0+1)={data:=#[b]}:=by simp[ByteArray.extract,ByteArray.copySlice]
 have h:({data:=#[b,c]}:ByteArray).extract (0+1) (0+1+1)={data:=#[c]}:=by simp[ByteArray.extract,ByteArray.copySlice]
 rw[za5,e]
 refine zX fun a _=>?_
 rw[za5,h]
 exact zdH _
theorem zkG (C:Cx) (b c d:UInt8) (q:PS):za5 C {data:=#[b,c,d]} 3 0 q=bd (zd C 4 {data:=#[b]} q) fun a=>bd (zd C 4 {data:=#[c]} a) (zd C 4 {data:=#[d]}):=by
 have e:({data:=#[b,c,d]}:ByteArray).extract 0 (0+1)={data:=#[b]}:=by simp[ByteArray.extract,ByteArray.copySlice]
 have j:({data:=#[b,c,d]}:ByteArray).extract (0+1) (0+1+1)={data:=#[c]}:=by simp[ByteArray.extract,ByteArray.copySlice]
 have h:({data:=#[b,c,d]}:ByteArray).extract (0+1+1) (0+1+1+1)={data:=#[d]}:=by simp[ByteArray.extract,ByteArray.copySlice]
 rw[za5,e]
 refine zX fun a _=>?_
 rw[za5,j]
 refine zX fun a _=>?_
 rw[za5,h]
 exact zdH _
theorem zkH (C:Cx) (A n j z:Nat) (S:Sv) (q:PS) (s:ByteArray) (f:PS→PR) (w:World) (h:IM C A n j z S q w) (D:za5 C s s.size 0 q=f q) (E:s.size≤100):
  Calls Tryz.prog 195 #[.pointer (some ⟨z,0,none⟩),.string s] w (zM C A n j z (f q) id (fun _=>.tuple #[]) S w):=by
 rw[←D]
 exact zfL C A n j z S q s w h E
theorem zbM (C:Cx) (A n j z:Nat) (S:Sv) (q:PS) (b:UInt8) (w:World) (h:IM C A n j z S q w):
  Calls Tryz.prog 195 #[.pointer (some ⟨z,0,none⟩),.string {data:=#[b]}] w (zM C A n j z (zd C 4 {data:=#[b]} q) id (fun _=>.tuple #[]) S w):=
 zkH C A n j z S q {data:=#[b]} (zd C 4 {data:=#[b]}) w h (zhj C b q) (by show 1≤100;omega)
structure Six (w:World) (b:Nat) (v0 v1 v2 v3 v4 v5:Value):Prop where
 c0:w.cell? ⟨b,0,none⟩=some v0
 c1:w.cell? ⟨b,1,none⟩=some v1
 c2:w.cell? ⟨b,2,none⟩=some v2
 c3:w.cell? ⟨b,3,none⟩=some v3
 c4:w.cell? ⟨b,4,none⟩=some v4
 c5:w.cell? ⟨b,5,none⟩=some v5
 fz: ∀i,w.frozen? ⟨b,i,none⟩=false
theorem zu {w:World} {b:Nat} {t:TypeId} {v0 v1 v2 v3 v4 j:Value} (h:w.heap[b]? =some (.cells #[v0,v1,v2,v3,v4,j] t (0,0))):Six w b v0 v1 v2 v3 v4 j:=by
 constructor<;>simp[World.cell?,World.frozen?,h]
theorem IS.kept {C:Cx} {H n j z b:Nat} {S D:Sv} {q:PS} {w A:World} {o:Obj} (h:IM C H n j z S q w) (s:IS z S (w.alloc o) D A) (E:b=w.heap.size):A.heap[b]? =some o:=by
 subst E
 refine (s.block _ (by rw[zk];omega) (fun g=>?_) (by have:=h.lt;omega)).trans (heap_alloc_new w _)
 have:=(h.mem.own.has g).2
 omega
theorem IS.from {n:Nat} {S h:Sv} {w j:World} {o:Obj} (s:IS n S (w.alloc o) h j):IS n S w h j:=(IS.below ((Below.refl _ _).alloc (Nat.le_refl _) _)).trans s
theorem IS.free {C:Cx} {E n j A:Nat} {S z:Sv} {q:PS} {w D:World} {o:Obj} (h:IM C E n j A S q w) (s:IS A S (w.alloc o) z D): ¬z.has w.heap.size:=by
 intro g
 rcases s.sub _ g with k|k
 ·have:=(h.mem.own.has k).2
  omega
 ·rw[zk] at k
  omega
def zaU (C:Cx) (x:Ex) (call:Int) (q:PS):PR:=if isT C q.pos 4 zm then bd (zd C 4 zaw (adv q)) (zL C ⟨call,x.num,x.name,x.field,x.l,x.r⟩) else zL C x q
theorem zer (C:Cx) (J z n E:Nat) (S:Sv) (q:PS) (x:Ex) (j:Int) (w:World) (h:IM C J z n E S q w) (hp:0<q.pos):
  Calls Tryz.prog 236 #[.pointer (some ⟨E,0,none⟩),exV x,.int .i64 j] w (zM C J z n E (zaU C x j q) id (fun q'=>.int .i64 ((q'.ex.length:Int)-1)) S w):=by
 cases Z:isT C q.pos 4 zm with
 |false=>
  have V:Hid (zaU C x j q=zL C x q):=by show _=_;rw[zaU,Z];rfl
  unfold exV
  go_enter Tryz.func236,Tryz.ntmps236
  go_wp2_with fail
  refine (zH C J z n E S q 4 zm _ (h.alloc _) (by decide)).mono ?_
  rintro e w1 ⟨rfl,D,s⟩
  rw[Z] at D ⊢
  have N:=s.from
  have ag:Hid (w1.heap[w.heap.size]? =some (.cells #[.int .i64 x.kind,.int .i64 x.num,.string x.name,.string x.field,.int .i64 x.l,.int .i64 x.r] 109 (0,0))):=IS.kept h s rfl
  obtain⟨b0,b1,b2,b3,b4,b5,bf⟩:=zu ag.out
  clear s
  go_wp2_with fail
  refine (zdG C J z n E S q x _ D hp).mono ?_
  cases A:zL C x q with
  |error p=>
   rintro e w2 ⟨rfl,L⟩
   have O:=(h.back N).trans L
   have I:Hid (zaU C x j q= .error p):=V.out.trans A
   unfold Pan
   go_wp2
   refine⟨rfl,?_⟩
   rw[I.out]
   exact⟨rfl,O⟩
  |ok a2=>
   rintro e w2 ⟨rfl,Y,K,s⟩
   have aa:=N.trans s
   clear s
   have I:=zc (V.out.trans A)
   go_wp2
   go_ret
   rw[I.out]
   exact⟨rfl,Y,K,aa⟩
 |true=>
  have V:Hid (zaU C x j q=bd (zd C 4 zaw (adv q)) (zL C ⟨j,x.num,x.name,x.field,x.l,x.r⟩)):=by show _=_;rw[zaU,Z];rfl
  unfold exV
  go_enter Tryz.func236,Tryz.ntmps236
  go_wp2_with fail
  refine (zH C J z n E S q 4 zm _ (h.alloc _) (by decide)).mono ?_
  rintro e w1 ⟨rfl,D,X⟩
  rw[Z] at D ⊢
  go_wp2_with fail
  refine (zbM C J z n E S (adv q) 41 _ D).mono ?_
  cases A:zd C 4 zaw (adv q) with
  |error p=>
   rintro e w2 ⟨rfl,L⟩
   have O:=(h.back X.from).trans L
   have I:Hid (zaU C x j q= .error p):=bdE V.out A
   unfold Pan
   go_wp2
   refine⟨rfl,?_⟩
   rw[I.out]
   exact⟨rfl,O⟩
  |ok a2=>
   rintro e w2 ⟨rfl,Y,K,s⟩
   have H:=X.trans s
   have ab:Hid (w2.heap[w.heap.size]? =some (.cells #[.int .i64 x.kind,.int .i64 x.num,.string x.name,.string x.field,.int .i64 x.l,.int .i64 x.r] 109 (0,0))):=IS.kept h H rfl
   have af:Hid (a2=adv (adv q)):=(zbx A).1
   have ad:Hid (¬Y.has w.heap.size):=IS.free h H
   have ai:E<w.heap.size:=h.lt
   have ah:J<w.heap.size:=(zaj h.mem.tok).1
   clear s
   have M:=zc (bdO V.out A)
   obtain⟨b0,b1,b2,b3,b4,b5,bf⟩:=zu ab.out
   go_wp2_with fail
   refine (zdG C J z n E Y a2 ⟨j,x.num,x.name,x.field,x.l,x.r⟩ _ (K.set (by omega) (by omega) ad.out _ _) (by rw[af.out];show 0<q.pos+1+1;omega)).mono ?_
   cases U:zL C ⟨j,x.num,x.name,x.field,x.l,x.r⟩ a2 with
   |error p=>
    rintro e w3 ⟨rfl,L⟩
    have O:Below n w w3:=(h.back (H.from.new (Nat.le_refl _) _ _)).trans L
    have I:Hid (zaU C x j q= .error p):=M.out.trans U
    unfold Pan
    go_wp2
    refine⟨rfl,?_⟩
    rw[I.out]
    exact⟨rfl,O⟩
   |ok a3=>
    rintro e w3 ⟨rfl,S3,ac,s⟩
    have ae:IS E S w S3 w3:=(H.from.new (Nat.le_refl _) _ _).trans s
    clear s
    have I:=zc (M.out.trans U)
    go_wp2
    go_ret
    rw[I.out]
    exact⟨rfl,S3,ac,ae⟩
def exI (q:PS):Value:=.int .i64 ((q.ex.length:Int)-1)
def zes (C:Cx) (gt cap base gp m:Nat):Prop:=∀(d:Nat) (S:Sv) (q:PS) (w:World),C.ts.length-q.pos<m→d≤20→IM C gt cap base gp S q w→
 Calls Tryz.prog 217 #[.pointer (some ⟨gp,0,none⟩),.int .i64 d] w (zM C gt cap base gp (pE C .sum d q) id exI S w)
theorem zhl (C:Cx) (n:ByteArray) (q:PS):zbm C n q=zaU C ⟨2,0,n,sNone,0,0⟩ 3 q:=by
 unfold zbm zaU
 cases h:isT C q.pos 4 zm with
 |true=>rw[zb5 h];rfl
 |false=>rfl
theorem zkI (C:Cx) (n f:ByteArray) (q:PS):zbw C n f q=zaU C ⟨4,0,n,f,0,0⟩ 5 q:=by
 unfold zbw zaU
 cases h:isT C q.pos 4 zm with
 |true=>rw[zb5 h];rfl
 |false=>rfl
theorem zkJ {x y:ByteArray} (h:(x.toList==y.toList)=true):x=y:=by
 rw[beq_iff_eq,Lib.toList_data,Lib.toList_data] at h
 cases x
 cases y
 simp only at h
 rw[Array.toList_inj.1 h]
theorem zfQ {C:Cx} {i:Nat} {k:Int} {x:ByteArray} (h:isT C i k x=true):(ze C i).text=x:=by
 simp only[isT,Bool.and_eq_true] at h
 exact zkJ h.2
theorem zeY {C:Cx} {i:Nat} {k:Int} {x:ByteArray} (h:isT C i k x=true):((ze C i).kind==k)=true:=by
 simp only[isT,Bool.and_eq_true] at h
 exact h.1
theorem zkK {C:Cx} {d:Nat} {q:PS} (h:((ze C q.pos).kind==2)=true):pE C .part d q=zL C ⟨1,(ze C q.pos).num,sNone,sNone,0,0⟩ (adv q):=by rw[zbs,h];rfl
theorem zkL {C:Cx} {d:Nat} {q:PS} (h:((ze C q.pos).kind==2)=false) (j:isT C q.pos 4 zm=true) (n:20≤d):pE C .part d q= .error (zp C q.pos):=by rw[zbs,h,j,if_neg (by decide),if_pos rfl,if_pos n]
theorem zkM {C:Cx} {d:Nat} {q:PS} (h:((ze C q.pos).kind==2)=false) (j:isT C q.pos 4 zm=true) (n: ¬20≤d):pE C .part d q=bd (pE C .sum (d+1) (adv q)) (zd C 4 zaw):=by rw[zbs,h,j,if_neg (by decide),if_pos rfl,if_neg n]
theorem zkN {C:Cx} {d:Nat} {q:PS} (h:((ze C q.pos).kind==2)=false) (j:isT C q.pos 4 zm=false) (n:C.scr=true) (w:isT C q.pos 1 za3=true):pE C .part d q=zaU C ⟨2,0,za3,sNone,0,0⟩ 3 (adv q):=by
 rw[zbs,h,j,n,w,if_neg (by decide),if_neg (by decide),if_pos (by decide),zhl]
theorem zhm {C:Cx} {d:Nat} {q:PS} (h:((ze C q.pos).kind==2)=false) (j:isT C q.pos 4 zm=false) (n:(C.scr&&isT C q.pos 1 za3)=false):
  pE C .part d q=bd (zh C false q) fun x=>if isT C x.1.pos 4 cPoint then bd (zh C true (adv x.1)) fun y=>zaU C ⟨4,0,x.2,y.2,0,0⟩ 5 y.1 else zaU C ⟨2,0,x.2,sNone,0,0⟩ 3 x.1:=by
 rw[zbs,h,j,n,if_neg (by decide),if_neg (by decide),if_neg (by decide)]
 simp only[zhl,zkI]
theorem zkO (C:Cx) (H n j z d:Nat) (S:Sv) (q:PS) (w:World) (h:IM C H n j z S q w) (O:((ze C q.pos).kind==2)=true):
  Calls Tryz.prog 235 #[.pointer (some ⟨z,0,none⟩),.int .i64 d] w (zM C H n j z (pE C .part d q) id exI S w):=by
 have Z:=zcy
 have ab:=zcl
 have aa:=zdC
 have U:=zc (zkK (d:=d) O)
 go_enter Tryz.func235,Tryz.ntmps235
 go_wp2_with fail
 refine (zbg C H n j z S q _ h).mono ?_
 rintro e V ⟨rfl,A⟩
 unfold tkV
 have N:=h.later A
 have J:IS z S w S V:=IS.below A
 clear A
 go_wp2_with fail
 refine (zdf C H n j z S q 2 _ N O (by decide)).mono ?_
 rintro e w2 ⟨rfl,I,s⟩
 have D:=J.trans s
 clear s
 unfold tkV
 go_wp2_with fail
 refine (zdG C H n j z S (adv q) ⟨1,(ze C q.pos).num,sNone,sNone,0,0⟩ _ I (by rw[zw];omega)).mono ?_
 cases E:zL C ⟨1,(ze C q.pos).num,sNone,sNone,0,0⟩ (adv q) with
 |error p=>
  rintro e X ⟨rfl,A⟩
  have Y:=(h.back D).trans A
  have HX:Hid (pE C .part d q= .error p):=U.out.trans E
  unfold Pan
  go_wp2
  refine⟨rfl,?_⟩
  rw[HX.out]
  exact⟨rfl,Y⟩
 |ok a3=>
  rintro e X ⟨rfl,S3,K,s⟩
  have M:=D.trans s
  clear s
  have L:=zc (U.out.trans E)
  go_wp2
  go_ret
  rw[L.out]
  exact⟨rfl,S3,K,M⟩
theorem zkP (C:Cx) (E n j A d:Nat) (S:Sv) (q:PS) (w:World) (h:IM C E n j A S q w) (N:((ze C q.pos).kind==2)=false) (K:isT C q.pos 4 zm=true) (L:20≤d):
  Calls Tryz.prog 235 #[.pointer (some ⟨A,0,none⟩),.int .i64 d] w (zM C E n j A (pE C .part d q) id exI S w):=by
 have U:=zcy
 have Z:=zcl
 have Y:=zdC
 have V:=zc (zkL (d:=d) N K L)
 have X:(20:Int)≤(d:Int):=by omega
 go_enter Tryz.func235,Tryz.ntmps235
 go_wp2_with fail
 refine (zbg C E n j A S q _ h).mono ?_
 rintro e M ⟨rfl,D⟩
 unfold tkV
 have J:=h.later D
 have H:IS A S w S M:=IS.below D
 clear D
 go_wp2_with fail
 refine (zH C E n j A S q 4 zm _ J (by decide)).mono ?_
 rintro e w2 ⟨rfl,z,s⟩
 rw[K] at z ⊢
 have I:=H.trans s
 clear s
 go_wp2_with fail
 refine (zdF C E n j A S (adv q) d 20 _ z (by omega) (by rw[zw];omega)).mono ?_
 rintro e w3 ⟨rfl,D⟩
 have O:=(h.back I).trans (D.mono z.mem.base)
 have HX:Hid (pE C .part d q= .error (zp C q.pos)):=V.out
 unfold Pan
 go_wp2
 refine⟨rfl,?_⟩
 rw[HX.out]
 exact⟨rfl,O⟩
theorem zkQ (C:Cx) (H n j z m d:Nat) (S:Sv) (q:PS) (w:World) (h:IM C H n j z S q w) (hk:((ze C q.pos).kind==2)=false) (Z:isT C q.pos 4 zm=true) (hd:d<20) (hS:zes C H n j z m) (hm:C.ts.length-q.pos≤m):
  Calls Tryz.prog 235 #[.pointer (some ⟨z,0,none⟩),.int .i64 d] w (zM C H n j z (pE C .part d q) id exI S w):=by
 have ae:=zcy
 have ah:=zcl
 have ag:=zdC
 have HY:=zc (zkM (d:=d) hk Z (by omega))
 have af: ¬(20:Int)≤(d:Int):=by omega
 have ad:=zax Z (by decide)
 obtain⟨E,L⟩: ∃E:Nat,E=d+1:=⟨_,rfl⟩
 have ed:(d:Int)+1=(E:Int):=by omega
 rw[←L] at HY
 have O:E≤20:=by omega
 clear L
 go_enter Tryz.func235,Tryz.ntmps235
 go_wp2_with fail
 refine (zbg C H n j z S q _ h).mono ?_
 rintro e w1 ⟨rfl,D⟩
 unfold tkV
 have ac:=h.later D
 have X:IS z S w S w1:=IS.below D
 clear D
 go_wp2_with fail
 refine (zH C H n j z S q 4 zm _ ac (by decide)).mono ?_
 rintro e w2 ⟨rfl,I,s⟩
 rw[Z] at I ⊢
 have J:=X.trans s
 clear s
 go_wp2_with fail
 refine (zdg z d 20 _ (by omega)).mono ?_
 rintro e w' ⟨rfl,hw⟩
 rw[hw]
 clear hw w'
 go_wp2_with fail
 refine (hS E S (adv q) _ (by rw[zw];omega) O I).mono ?_
 cases K:pE C .sum E (adv q) with
 |error p=>
  rintro e w3 ⟨rfl,D⟩
  have Y:=(h.back J).trans D
  have HX:Hid (pE C .part d q= .error p):=bdE HY.out K
  unfold Pan
  go_wp2
  refine⟨rfl,?_⟩
  rw[HX.out]
  exact⟨rfl,Y⟩
 |ok a3=>
  rintro e w3 ⟨rfl,S3,aa,s⟩
  have N:=J.trans s
  clear s
  have M:=zc (bdO HY.out K)
  unfold exI
  go_wp2_with fail
  refine (zbM C H n j z S3 a3 41 _ aa).mono ?_
  cases A:zd C 4 zaw a3 with
  |error p=>
   rintro e w4 ⟨rfl,D⟩
   have Y:=(h.back N).trans D
   have HX:Hid (pE C .part d q= .error p):=M.out.trans A
   unfold Pan
   go_wp2
   refine⟨rfl,?_⟩
   rw[HX.out]
   exact⟨rfl,Y⟩
  |ok a4=>
   rintro e w4 ⟨rfl,S4,V,s⟩
   have U:=N.trans s
   clear s
   have ab:=zc (M.out.trans A)
   have HP:Hid (a4=adv a3):=(zbx A).1
   go_wp2
   go_ret
   rw[ab.out]
   exact⟨by rw[HP.out];rfl,S4,V,U⟩
theorem zkR (C:Cx) (E n j A d:Nat) (S:Sv) (q:PS) (w:World) (h:IM C E n j A S q w) (hk:((ze C q.pos).kind==2)=false) (h1:isT C q.pos 4 zm=false) (Z:C.scr=true) (J:isT C q.pos 1 za3=true):
  Calls Tryz.prog 235 #[.pointer (some ⟨A,0,none⟩),.int .i64 d] w (zM C E n j A (pE C .part d q) id exI S w):=by
 have aa:=zcy
 have ac:=zcl
 have ab:=zdC
 have HY:=zc (zkN (d:=d) hk h1 Z J)
 go_enter Tryz.func235,Tryz.ntmps235
 go_wp2_with fail
 refine (zbg C E n j A S q _ h).mono ?_
 rintro e w1 ⟨rfl,z⟩
 unfold tkV
 have Y:=h.later z
 have M:IS A S w S w1:=IS.below z
 clear z
 go_wp2_with fail
 refine (zH C E n j A S q 4 zm _ Y (by decide)).mono ?_
 rintro e w2 ⟨rfl,m,s⟩
 rw[h1] at m ⊢
 have D:=zc m
 have N:=M.trans s
 clear m s
 obtain⟨_,_,_,c3,_,_,_,_,_,_,cf⟩:=zY D.out.cells
 rw[Z] at c3
 go_wp2_with fail
 refine (zbE C E n j A S q 1 za3 _ D.out).mono ?_
 rintro e w3 ⟨rfl,z⟩
 rw[J]
 have U:=D.out.later z
 have V:=(N.trans (IS.below z))
 clear z
 go_wp2_with fail
 refine (zdf C E n j A S q 1 _ U (zeY J) (by decide)).mono ?_
 rintro e w4 ⟨rfl,K,s⟩
 have I:=V.trans s
 clear s
 unfold tkV
 rw[zfQ J]
 go_wp2_with fail
 refine (zer C E n j A S (adv q) ⟨2,0,za3,sNone,0,0⟩ 3 _ K (by rw[zw];omega)).mono ?_
 cases H:zaU C ⟨2,0,za3,sNone,0,0⟩ 3 (adv q) with
 |error p=>
  rintro e w5 ⟨rfl,z⟩
  have HB:=(h.back I).trans z
  have HX:Hid (pE C .part d q= .error p):=HY.out.trans H
  unfold Pan
  go_wp2
  refine⟨rfl,?_⟩
  rw[HX.out]
  exact⟨rfl,HB⟩
 |ok a5=>
  rintro e w5 ⟨rfl,S5,L,s⟩
  have X:=I.trans s
  clear s
  have O:=zc (HY.out.trans H)
  go_wp2
  go_ret
  rw[O.out]
  exact⟨rfl,S5,L,X⟩
theorem zkS (C:Cx) (J n j A d:Nat) (S:Sv) (q:PS) (w:World) (h:IM C J n j A S q w) (hk:((ze C q.pos).kind==2)=false) (h1:isT C q.pos 4 zm=false) (h2:C.scr=true) (h3:isT C q.pos 1 za3=false):
  Calls Tryz.prog 235 #[.pointer (some ⟨A,0,none⟩),.int .i64 d] w (zM C J n j A (pE C .part d q) id exI S w):=by
 have ak:=zcy
 have am:=zcl
 have al:=zdC
 have HY:=zc (zhm (d:=d) hk h1 (by rw[h2,h3];rfl))
 go_enter Tryz.func235,Tryz.ntmps235
 go_wp2_with fail
 refine (zbg C J n j A S q _ h).mono ?_
 rintro e w1 ⟨rfl,z⟩
 unfold tkV
 have aj:=h.later z
 have af:IS A S w S w1:=IS.below z
 clear z
 go_wp2_with fail
 refine (zH C J n j A S q 4 zm _ aj (by decide)).mono ?_
 rintro e w2 ⟨rfl,m,s⟩
 rw[h1] at m ⊢
 have N:=zc m
 have ag:=af.trans s
 clear m s
 obtain⟨_,_,_,c3,_,_,_,_,_,_,cf⟩:=zY N.out.cells
 rw[h2] at c3
 go_wp2_with fail
 refine (zbE C J n j A S q 1 za3 _ N.out).mono ?_
 rintro e w3 ⟨rfl,z⟩
 rw[h3]
 have ah:=N.out.later z
 have aa:=(ag.trans (IS.below z))
 clear z
 go_wp2_with fail
 refine (zcL C J n j A S q _ ah).mono ?_
 cases M:zh C false q with
 |error p=>
  rintro e w4 ⟨rfl,z⟩
  have O:=(h.back aa).trans z
  have V:Hid (pE C .part d q= .error p):=bdE HY.out M
  unfold Pan
  go_wp2
  refine⟨rfl,?_⟩
  rw[V.out]
  exact⟨rfl,O⟩
 |ok E=>
  rintro e w4 ⟨rfl,S4,Y,s⟩
  have X:=aa.trans s
  clear s
  have ab:=zc (bdO HY.out M)
  have Z:0<E.1.pos:=by rw[(zbc M).1];exact Nat.succ_pos _
  cases hd:isT C E.1.pos 4 cPoint with
  |true=>
   have HZ:=zc (ab.out.trans (if_pos hd))
   go_wp2_with fail
   refine (zH C J n j A S4 (E.1) 4 cPoint _ Y (by decide)).mono ?_
   rintro e w5 ⟨rfl,H,s⟩
   rw[hd] at H ⊢
   have I:=X.trans s
   clear s
   go_wp2_with fail
   refine (zem C J n j A S4 (adv (E.1)) _ H).mono ?_
   cases D:zh C true (adv (E.1)) with
   |error p=>
    rintro e w6 ⟨rfl,z⟩
    have O:=(h.back I).trans z
    have V:Hid (pE C .part d q= .error p):=bdE HZ.out D
    unfold Pan
    go_wp2
    refine⟨rfl,?_⟩
    rw[V.out]
    exact⟨rfl,O⟩
   |ok a6=>
    rintro e w6 ⟨rfl,S6,U,s⟩
    have K:=I.trans s
    clear s
    have L:=zc (bdO HZ.out D)
    go_wp2_with fail
    refine (zer C J n j A S6 (a6.1) ⟨4,0,E.2,a6.2,0,0⟩ 5 _ U (by rw[(zbc D).1];exact Nat.succ_pos _)).mono ?_
    cases ac:zaU C ⟨4,0,E.2,a6.2,0,0⟩ 5 (a6.1) with
    |error p=>
     rintro e w7 ⟨rfl,z⟩
     have O:=(h.back K).trans z
     have V:Hid (pE C .part d q= .error p):=L.out.trans ac
     unfold Pan
     go_wp2
     refine⟨rfl,?_⟩
     rw[V.out]
     exact⟨rfl,O⟩
    |ok a7=>
     rintro e w7 ⟨rfl,S7,ae,s⟩
     have ai:=K.trans s
     clear s
     have ad:=zc (L.out.trans ac)
     go_wp2
     go_ret
     rw[ad.out]
     exact⟨rfl,S7,ae,ai⟩
  |false=>
   have HZ:=zc (ab.out.trans (if_neg (by rw[hd];decide)))
   go_wp2_with fail
   refine (zH C J n j A S4 (E.1) 4 cPoint _ Y (by decide)).mono ?_
   rintro e w5 ⟨rfl,H,s⟩
   rw[hd] at H ⊢
   have I:=X.trans s
   clear s
   go_wp2_with fail
   refine (zer C J n j A S4 (E.1) ⟨2,0,E.2,sNone,0,0⟩ 3 _ H Z).mono ?_
   cases D:zaU C ⟨2,0,E.2,sNone,0,0⟩ 3 (E.1) with
   |error p=>
    rintro e w6 ⟨rfl,z⟩
    have O:=(h.back I).trans z
    have V:Hid (pE C .part d q= .error p):=HZ.out.trans D
    unfold Pan
    go_wp2
    refine⟨rfl,?_⟩
    rw[V.out]
    exact⟨rfl,O⟩
   |ok a6=>
    rintro e w6 ⟨rfl,S6,U,s⟩
    have K:=I.trans s
    clear s
    have L:=zc (HZ.out.trans D)
    go_wp2
    go_ret
    rw[L.out]
    exact⟨rfl,S6,U,K⟩
theorem zkT (C:Cx) (J n j A d:Nat) (S:Sv) (q:PS) (w:World) (h:IM C J n j A S q w) (hk:((ze C q.pos).kind==2)=false) (h1:isT C q.pos 4 zm=false) (h2:C.scr=false):
  Calls Tryz.prog 235 #[.pointer (some ⟨A,0,none⟩),.int .i64 d] w (zM C J n j A (pE C .part d q) id exI S w):=by
 have ai:=zcy
 have ak:=zcl
 have aj:=zdC
 have HY:=zc (zhm (d:=d) hk h1 (by rw[h2];rfl))
 go_enter Tryz.func235,Tryz.ntmps235
 go_wp2_with fail
 refine (zbg C J n j A S q _ h).mono ?_
 rintro e w1 ⟨rfl,H⟩
 unfold tkV
 have ag:=h.later H
 have ad:IS A S w S w1:=IS.below H
 clear H
 go_wp2_with fail
 refine (zH C J n j A S q 4 zm _ ag (by decide)).mono ?_
 rintro e w2 ⟨rfl,m,s⟩
 rw[h1] at m ⊢
 have V:=zc m
 have X:=ad.trans s
 clear m s
 obtain⟨_,_,_,c3,_,_,_,_,_,_,cf⟩:=zY V.out.cells
 rw[h2] at c3
 go_wp2_with fail
 refine (zcL C J n j A S q _ V.out).mono ?_
 cases O:zh C false q with
 |error p=>
  rintro e w3 ⟨rfl,H⟩
  have N:=(h.back X).trans H
  have U:Hid (pE C .part d q= .error p):=bdE HY.out O
  unfold Pan
  go_wp2
  refine⟨rfl,?_⟩
  rw[U.out]
  exact⟨rfl,N⟩
 |ok D=>
  rintro e w3 ⟨rfl,S3,aa,s⟩
  have ac:=X.trans s
  clear s
  have ab:=zc (bdO HY.out O)
  have Y:0<D.1.pos:=by rw[(zbc O).1];exact Nat.succ_pos _
  cases hd:isT C D.1.pos 4 cPoint with
  |true=>
   have HZ:=zc (ab.out.trans (if_pos hd))
   go_wp2_with fail
   refine (zH C J n j A S3 (D.1) 4 cPoint _ aa (by decide)).mono ?_
   rintro e w4 ⟨rfl,I,s⟩
   rw[hd] at I ⊢
   have E:=ac.trans s
   clear s
   go_wp2_with fail
   refine (zem C J n j A S3 (adv (D.1)) _ I).mono ?_
   cases z:zh C true (adv (D.1)) with
   |error p=>
    rintro e w5 ⟨rfl,H⟩
    have N:=(h.back E).trans H
    have U:Hid (pE C .part d q= .error p):=bdE HZ.out z
    unfold Pan
    go_wp2
    refine⟨rfl,?_⟩
    rw[U.out]
    exact⟨rfl,N⟩
   |ok a5=>
    rintro e w5 ⟨rfl,S5,M,s⟩
    have L:=E.trans s
    clear s
    have K:=zc (bdO HZ.out z)
    go_wp2_with fail
    refine (zer C J n j A S5 (a5.1) ⟨4,0,D.2,a5.2,0,0⟩ 5 _ M (by rw[(zbc z).1];exact Nat.succ_pos _)).mono ?_
    cases Z:zaU C ⟨4,0,D.2,a5.2,0,0⟩ 5 (a5.1) with
    |error p=>
     rintro e w6 ⟨rfl,H⟩
     have N:=(h.back L).trans H
     have U:Hid (pE C .part d q= .error p):=K.out.trans Z
     unfold Pan
     go_wp2
     refine⟨rfl,?_⟩
     rw[U.out]
     exact⟨rfl,N⟩
    |ok a6=>
     rintro e w6 ⟨rfl,S6,ae,s⟩
     have af:=L.trans s
     clear s
     have ah:=zc (K.out.trans Z)
     go_wp2
     go_ret
     rw[ah.out]
     exact⟨rfl,S6,ae,af⟩
  |false=>
   have HZ:=zc (ab.out.trans (if_neg (by rw[hd];decide)))
   go_wp2_with fail
   refine (zH C J n j A S3 (D.1) 4 cPoint _ aa (by decide)).mono ?_
   rintro e w4 ⟨rfl,I,s⟩
   rw[hd] at I ⊢
   have E:=ac.trans s
   clear s
   go_wp2_with fail
   refine (zer C J n j A S3 (D.1) ⟨2,0,D.2,sNone,0,0⟩ 3 _ I Y).mono ?_
   cases z:zaU C ⟨2,0,D.2,sNone,0,0⟩ 3 (D.1) with
   |error p=>
    rintro e w5 ⟨rfl,H⟩
    have N:=(h.back E).trans H
    have U:Hid (pE C .part d q= .error p):=HZ.out.trans z
    unfold Pan
    go_wp2
    refine⟨rfl,?_⟩
    rw[U.out]
    exact⟨rfl,N⟩
   |ok a5=>
    rintro e w5 ⟨rfl,S5,M,s⟩
    have L:=E.trans s
    clear s
    have K:=zc (HZ.out.trans z)
    go_wp2
    go_ret
    rw[K.out]
    exact⟨rfl,S5,M,L⟩
theorem zhn (C:Cx) (A n j z m d:Nat) (S:Sv) (q:PS) (w:World) (h:IM C A n j z S q w) (M:d≤20) (L:zes C A n j z m) (K:C.ts.length-q.pos≤m):
  Calls Tryz.prog 235 #[.pointer (some ⟨z,0,none⟩),.int .i64 d] w (zM C A n j z (pE C .part d q) id exI S w):=by
 cases D:((ze C q.pos).kind==2) with
 |true=>exact zkO C A n j z d S q w h D
 |false=>
  cases E:isT C q.pos 4 zm with
  |true=>
   by_cases H:20≤d
   ·exact zkP C A n j z d S q w h D E H
   ·exact zkQ C A n j z m d S q w h D E (by omega) L K
  |false=>
   cases I:C.scr with
   |true=>
    cases J:isT C q.pos 1 za3 with
    |true=>exact zkR C A n j z d S q w h D E I J
    |false=>exact zkS C A n j z d S q w h D E I J
   |false=>exact zkT C A n j z d S q w h D E I
theorem zkU {C:Cx} {d:Nat} {q:PS} (h:isT C q.pos 4 zv=false):pE C .prodT d q= .ok q:=by rw[zeG,if_neg (by rw[h];decide)]
theorem zkV {C:Cx} {d:Nat} {q:PS} (h:isT C q.pos 4 zv=true):pE C .prodT d q=bd (pE C .part d (adv q)) fun a=>bd (zL C ⟨8,0,sNone,sNone,(q.ex.length:Int)-1,(a.ex.length:Int)-1⟩ a) (pE C .prodT d):=by rw[zeG,if_pos h,zJ]
theorem zkW {C:Cx} {d:Nat} {q:PS} (h:isT C q.pos 4 zaQ=false) (j:isT C q.pos 4 zbJ=false):pE C .sumT d q= .ok q:=by rw[zed,if_neg (by rw[h,j];decide)]
theorem zkX {C:Cx} {d:Nat} {q:PS} (h:isT C q.pos 4 zaQ=true):pE C .sumT d q=bd (pE C .prod d (adv q)) fun a=>bd (zL C ⟨7,0,sNone,sNone,(q.ex.length:Int)-1,(a.ex.length:Int)-1⟩ a) (pE C .sumT d):=by
 rw[zed,if_pos (by rw[h];exact Bool.or_true _),zJ,zcF,if_pos h]
theorem zkY {C:Cx} {d:Nat} {q:PS} (h:isT C q.pos 4 zaQ=false) (j:isT C q.pos 4 zbJ=true):pE C .sumT d q=bd (pE C .prod d (adv q)) fun a=>bd (zL C ⟨6,0,sNone,sNone,(q.ex.length:Int)-1,(a.ex.length:Int)-1⟩ a) (pE C .sumT d):=by
 rw[zed,if_pos (by rw[j];rfl),zJ,zcF,if_neg (by rw[h];decide)]
theorem zfR (C:Cx) (H n j D m d:Nat) (S:Sv) (q:PS) (w:World) (h:IM C H n j D S q w) (hd:d≤20) (hS:zes C H n j D m) (hm:C.ts.length-q.pos≤m):
  Calls Tryz.prog 231 #[.pointer (some ⟨D,0,none⟩),.int .i64 d] w (zM C H n j D (pE C .prod d q) id exI S w):=by
 have HY:=zc (zgF C d q)
 go_enter Tryz.func231,Tryz.ntmps231
 go_wp2_with fail
 refine (zhn C H n j D m d S q _ h hd hS hm).mono ?_
 cases J:pE C .part d q with
 |error p=>
  rintro e w1 ⟨rfl,O⟩
  have U:Below j w w1:=(h.back (IS.refl _ _ _)).trans O
  have HX:Hid (pE C .prod d q= .error p):=bdE HY.out J
  unfold Pan
  go_wp2
  refine⟨rfl,?_⟩
  rw[HX.out]
  exact⟨rfl,U⟩
 |ok a1=>
  rintro e w1 ⟨rfl,S1,ah,ad⟩
  have ai:=zc (bdO HY.out J)
  unfold exI
  have al:=zaM J
  go_wp2
  go_loopg [5] (C.ts.length+1) (fun k l wr=>∃(L:Sv) (z:PS),l=exI z∧pE C .prod d q=pE C .prodT d z∧C.ts.length-z.pos<k∧C.ts.length-z.pos≤m∧IM C H n j D L z wr∧IS D S w L wr)
  case atStart=>exact⟨S1,a1,rfl,ai.out,by omega,by omega,ah,ad⟩
  case round=>
   obtain⟨L,z,rfl,hy,hk,ak,m',s'⟩:=hrel
   have V:=zc hy
   have N:=m'
   have aa:=s'
   clear hy m' s'
   unfold exI
   cases hi:isT C z.pos 4 zv with
   |false=>
    have HZ:=zc (V.out.trans (zkU hi))
    go_wp2_with fail
    refine (zH C H n j D L z 4 zv _ N (by decide)).mono ?_
    rintro e w2 ⟨rfl,A,s⟩
    rw[hi] at A ⊢
    have E:=aa.trans s
    clear s
    go_wp2
    go_ret
    rw[HZ.out]
    exact⟨rfl,L,A,E⟩
   |true=>
    have aj:=zax hi (by decide)
    have HZ:=zc (V.out.trans (zkV hi))
    go_wp2_with fail
    refine (zH C H n j D L z 4 zv _ N (by decide)).mono ?_
    rintro e w2 ⟨rfl,A,s⟩
    rw[hi] at A ⊢
    have E:=aa.trans s
    clear s
    go_wp2_with fail
    refine (zhn C H n j D m d L (adv z) _ A hd hS (by rw[zw];omega)).mono ?_
    cases K:pE C .part d (adv z) with
    |error p=>
     rintro e w3 ⟨rfl,O⟩
     have U:=(h.back E).trans O
     have HX:Hid (pE C .prod d q= .error p):=bdE HZ.out K
     unfold Pan
     go_wp2
     refine⟨rfl,?_⟩
     rw[HX.out]
     exact⟨rfl,U⟩
    |ok M=>
     rintro e w3 ⟨rfl,S3,af,s⟩
     have Z:=E.trans s
     clear s
     have Y:=zc (bdO HZ.out K)
     unfold exI
     have X:=zaM K
     rw[zw] at X
     have ae:0<M.pos:=by omega
     go_wp2_with fail
     refine (zdG C H n j D S3 M ⟨8,0,sNone,sNone,(z.ex.length:Int)-1,(M.ex.length:Int)-1⟩ _ af ae).mono ?_
     cases I:zL C ⟨8,0,sNone,sNone,(z.ex.length:Int)-1,(M.ex.length:Int)-1⟩ M with
     |error p=>
      rintro e w4 ⟨rfl,O⟩
      have U:=(h.back Z).trans O
      have HX:Hid (pE C .prod d q= .error p):=bdE Y.out I
      unfold Pan
      go_wp2
      refine⟨rfl,?_⟩
      rw[HX.out]
      exact⟨rfl,U⟩
     |ok a4=>
      rintro e w4 ⟨rfl,S4,ac,s⟩
      have ab:=Z.trans s
      clear s
      have ag:=zc (bdO Y.out I)
      have HP:Hid (a4.pos=M.pos):=by show _=_;rw[(zby I).1]
      go_wp2
      go_roundg (gk-1)
      case rel=>exact⟨S4,a4,rfl,ag.out,by have:=HP.out;omega,by have:=HP.out;omega,ac,ab⟩
      case measure=>omega
theorem zkZ (C:Cx) (E n j D m d:Nat) (S:Sv) (q:PS) (w:World) (h:IM C E n j D S q w) (hd:d≤20) (hS:zes C E n j D m) (hm:C.ts.length-q.pos≤m):
  Calls Tryz.prog 217 #[.pointer (some ⟨D,0,none⟩),.int .i64 d] w (zM C E n j D (pE C .sum d q) id exI S w):=by
 have HY:=zc (zgE C d q)
 go_enter Tryz.func217,Tryz.ntmps217
 go_wp2_with fail
 refine (zfR C E n j D m d S q _ h hd hS hm).mono ?_
 cases ac:pE C .prod d q with
 |error p=>
  rintro e w1 ⟨rfl,A⟩
  have X:Below j w w1:=(h.back (IS.refl _ _ _)).trans A
  have HX:Hid (pE C .sum d q= .error p):=bdE HY.out ac
  unfold Pan
  go_wp2
  refine⟨rfl,?_⟩
  rw[HX.out]
  exact⟨rfl,X⟩
 |ok a1=>
  rintro e w1 ⟨rfl,S1,ao,ak⟩
  have al:=zc (bdO HY.out ac)
  unfold exI
  have au:=zaM ac
  go_wp2
  go_loopg [5] (C.ts.length+1) (fun k l wr=>∃(H:Sv) (z:PS),l=exI z∧pE C .sum d q=pE C .sumT d z∧C.ts.length-z.pos<k∧C.ts.length-z.pos≤m∧IM C E n j D H z wr∧IS D S w H wr)
  case atStart=>exact⟨S1,a1,rfl,al.out,by omega,by omega,ao,ak⟩
  case round=>
   obtain⟨H,z,rfl,hy,hk,ar,m',s'⟩:=hrel
   have af:=zc hy
   have K:=m'
   have ai:=s'
   clear hy m' s'
   unfold exI
   have aq:=K.mem.few
   cases hi:isT C z.pos 4 zaQ with
   |true=>
    have ab:=zax hi (by decide)
    have HZ:=zc (af.out.trans (zkX hi))
    go_wp2_with fail
    refine (zbE C E n j D H z 4 zaQ _ K).mono ?_
    rintro e w2 ⟨rfl,A⟩
    rw[hi]
    have I:Hid (IM C E n j D H z w2):=K.later A
    have O:=(ai.trans (IS.below A))
    clear A
    obtain⟨c0,c1,c2,c3,c4,c5,c6,c7,c8,c9,cf⟩:=zY I.out.cells
    go_wp2_with fail
    have L:Hid (IM C E n j D H (adv z) (w2.setCell ⟨D,1,none⟩ (.int .i64 ((z.pos:Int)+1)))):=I.out.adv ab
    have M:IS D S w H (w2.setCell ⟨D,1,none⟩ (.int .i64 ((z.pos:Int)+1))):=O.set _ _
    refine (zfR C E n j D m d H (adv z) _ L.out hd hS (by rw[zw];omega)).mono ?_
    cases aa:pE C .prod d (adv z) with
    |error p=>
     rintro e w4 ⟨rfl,A⟩
     have X:=(h.back M).trans A
     have HX:Hid (pE C .sum d q= .error p):=bdE HZ.out aa
     unfold Pan
     go_wp2
     refine⟨rfl,?_⟩
     rw[HX.out]
     exact⟨rfl,X⟩
    |ok a4=>
     rintro e w4 ⟨rfl,S4,ad,s⟩
     have N:=M.trans s
     clear s
     have aj:=zc (bdO HZ.out aa)
     unfold exI
     have U:=zaM aa
     rw[zw] at U
     have ah:0<a4.pos:=by omega
     go_wp2_with fail
     refine (zdG C E n j D S4 a4 ⟨7,0,sNone,sNone,(z.ex.length:Int)-1,(a4.ex.length:Int)-1⟩ _ ad ah).mono ?_
     cases J:zL C ⟨7,0,sNone,sNone,(z.ex.length:Int)-1,(a4.ex.length:Int)-1⟩ a4 with
     |error p=>
      rintro e w5 ⟨rfl,A⟩
      have X:=(h.back N).trans A
      have HX:Hid (pE C .sum d q= .error p):=bdE aj.out J
      unfold Pan
      go_wp2
      refine⟨rfl,?_⟩
      rw[HX.out]
      exact⟨rfl,X⟩
     |ok Y=>
      rintro e w5 ⟨rfl,S5,ae,s⟩
      have Z:=N.trans s
      clear s
      have V:=zc (bdO aj.out J)
      have HP:Hid (Y.pos=a4.pos):=by show _=_;rw[(zby J).1]
      go_wp2
      go_roundg (gk-1)
      case rel=>exact⟨S5,Y,rfl,V.out,by have:=HP.out;omega,by have:=HP.out;omega,ae,Z⟩
      case measure=>omega
   |false=>
    cases hj:isT C z.pos 4 zbJ with
    |true=>
     have ab:=zax hj (by decide)
     have HZ:=zc (af.out.trans (zkY hi hj))
     go_wp2_with fail
     refine (zbE C E n j D H z 4 zaQ _ K).mono ?_
     rintro e w2 ⟨rfl,A⟩
     rw[hi]
     have I:Hid (IM C E n j D H z w2):=K.later A
     have O:=(ai.trans (IS.below A))
     clear A
     go_wp2_with fail
     refine (zbE C E n j D H z 4 zbJ _ I.out).mono ?_
     rintro e w3 ⟨rfl,A⟩
     rw[hj]
     have L:Hid (IM C E n j D H z w3):=I.out.later A
     have M:=(O.trans (IS.below A))
     clear A
     obtain⟨c0,c1,c2,c3,c4,c5,c6,c7,c8,c9,cf⟩:=zY L.out.cells
     go_wp2_with fail
     have ad:=L.out.adv ab
     have N:IS D S w H (w3.setCell ⟨D,1,none⟩ (.int .i64 ((z.pos:Int)+1))):=M.set _ _
     refine (zfR C E n j D m d H (adv z) _ ad hd hS (by rw[zw];omega)).mono ?_
     cases J:pE C .prod d (adv z) with
     |error p=>
      rintro e w5 ⟨rfl,A⟩
      have X:=(h.back N).trans A
      have HX:Hid (pE C .sum d q= .error p):=bdE HZ.out J
      unfold Pan
      go_wp2
      refine⟨rfl,?_⟩
      rw[HX.out]
      exact⟨rfl,X⟩
     |ok Y=>
      rintro e w5 ⟨rfl,S5,ae,s⟩
      have Z:=N.trans s
      clear s
      have V:=zc (bdO HZ.out J)
      unfold exI
      have U:=zaM J
      rw[zw] at U
      have ah:0<Y.pos:=by omega
      go_wp2_with fail
      refine (zdG C E n j D S5 Y ⟨6,0,sNone,sNone,(z.ex.length:Int)-1,(Y.ex.length:Int)-1⟩ _ ae ah).mono ?_
      cases ag:zL C ⟨6,0,sNone,sNone,(z.ex.length:Int)-1,(Y.ex.length:Int)-1⟩ Y with
      |error p=>
       rintro e w6 ⟨rfl,A⟩
       have X:=(h.back Z).trans A
       have HX:Hid (pE C .sum d q= .error p):=bdE V.out ag
       unfold Pan
       go_wp2
       refine⟨rfl,?_⟩
       rw[HX.out]
       exact⟨rfl,X⟩
      |ok a6=>
       rintro e w6 ⟨rfl,S6,am,s⟩
       have an:=Z.trans s
       clear s
       have ap:=zc (bdO V.out ag)
       have HP:Hid (a6.pos=Y.pos):=by show _=_;rw[(zby ag).1]
       go_wp2
       go_roundg (gk-1)
       case rel=>exact⟨S6,a6,rfl,ap.out,by have:=HP.out;omega,by have:=HP.out;omega,am,an⟩
       case measure=>omega
    |false=>
     have HZ:=zc (af.out.trans (zkW hi hj))
     go_wp2_with fail
     refine (zbE C E n j D H z 4 zaQ _ K).mono ?_
     rintro e w2 ⟨rfl,A⟩
     rw[hi]
     have I:Hid (IM C E n j D H z w2):=K.later A
     have O:=(ai.trans (IS.below A))
     clear A
     go_wp2_with fail
     refine (zbE C E n j D H z 4 zbJ _ I.out).mono ?_
     rintro e w3 ⟨rfl,A⟩
     rw[hj]
     have L:Hid (IM C E n j D H z w3):=I.out.later A
     have M:=(O.trans (IS.below A))
     clear A
     go_wp2
     go_ret
     rw[HZ.out]
     exact⟨rfl,H,L.out,M⟩
theorem zla (C:Cx) (D n j A m:Nat):zes C D n j A m:=by
 induction m with
 |zero=>intro d S q w z;omega
 |succ m H=>intro d S q w z E h;exact zkZ C D n j A m d S q w h E H (by omega)
theorem zlb (C:Cx) (A n j z d:Nat) (S:Sv) (q:PS) (w:World) (h:IM C A n j z S q w) (D:d≤20):
  Calls Tryz.prog 217 #[.pointer (some ⟨z,0,none⟩),.int .i64 d] w (zM C A n j z (pE C .sum d q) id exI S w):=zla C A n j z _ d S q w (Nat.lt_succ_self _) D h
theorem zho {C:Cx} {s:ByteArray} (n:Nat): ∀{k:Nat} {q b:PS},za5 C s n k q= .ok b→b={q with pos:=q.pos+n}:=by
 induction n with
 |zero=>intro k q b h;cases h;rfl
 |succ n w=>
  intro k q b h
  rw[za5] at h
  obtain⟨a,j,z⟩:=zj h
  rw[w z,(zbx j).1]
  show ({q with pos:=q.pos+1+n}:PS)=_
  congr 1
  omega
theorem zlc (x:Sm): ∀u∈smL x,u.oneCell'=true:=by
 intro u h
 simp[smL] at h
 rcases h with rfl|rfl|rfl<;>rfl
def stmtI (C:Cx) (k:Int) (n s:ByteArray) (q:PS):PR:=bd (pE C .sum 0 q) fun a=>bd (za5 C s s.size 0 a) fun b=>zV C k n b
theorem zdl (C:Cx) (gt D j H:Nat) (S:Sv) (q:PS) (E:Int) (n s:ByteArray) (w:World) (h:IM C gt D j H S q w) (hs:s.size≤100) (h0:0<s.size):
  Calls Tryz.prog 196 #[.pointer (some ⟨H,0,none⟩),.int .i64 E,.string n,.string s] w (zM C gt D j H (stmtI C E n s q) id (fun _=>.tuple #[]) S w):=by
 obtain⟨i0,hi,ae,ai,ah⟩:=info_parts Tryz.infoStmt
 have HY:=zc (stmtI.eq_1 C E n s q)
 go_enter Tryz.func196,Tryz.ntmps196
 go_wp2_with fail
 refine (zlb C gt D j H 0 S q _ h (by omega)).mono ?_
 cases O:pE C .sum 0 q with
 |error p=>
  rintro e w1 ⟨rfl,N⟩
  have HB:Below j w w1:=(h.back (IS.refl _ _ _)).trans N
  have HX:Hid (stmtI C E n s q= .error p):=bdE HY.out O
  unfold Pan
  go_wp2
  refine⟨rfl,?_⟩
  rw[HX.out]
  exact⟨rfl,HB⟩
 |ok a1=>
  rintro e w1 ⟨rfl,S1,aj,U⟩
  have aa:=zc (bdO HY.out O)
  unfold exI
  go_wp2_with fail
  refine (zfL C gt D j H S1 a1 s _ aj hs).mono ?_
  cases M:za5 C s s.size 0 a1 with
  |error p=>
   rintro e w2 ⟨rfl,N⟩
   have HB:=(h.back U).trans N
   have HX:Hid (stmtI C E n s q= .error p):=bdE aa.out M
   unfold Pan
   go_wp2
   refine⟨rfl,?_⟩
   rw[HX.out]
   exact⟨rfl,HB⟩
  |ok A=>
   rintro e w2 ⟨rfl,S2,m,s⟩
   have z:=zc m
   have Y:=U.trans s
   clear m s
   have ab:=zc (bdO aa.out M)
   have K:=zho _ M
   have Z:0<A.pos:=by rw[K];show 0<a1.pos+s.size;omega
   have HE:Hid (A.ex=a1.ex):=by show _=_;rw[K]
   clear K
   have al:=z.out.mem.inv.st
   obtain⟨c0,c1,c2,c3,c4,c5,c6,c7,c8,c9,cf⟩:=zY z.out.cells
   go_wp2_with fail
   by_cases hn:A.st.length<80
   ·have HZ:=zc (ab.out.trans (show zV C E n A=_ from if_neg (by omega)))
    refine (zdg H A.st.length 80 _ (by omega)).mono ?_
    rintro e w' ⟨rfl,hw⟩
    rw[hw]
    clear hw w'
    have HN:Hid (some H≠S2.st.blk):=fun e=>z.out.free (.inr (.inr (.inr (.inl e.symm))))
    have ak:=z.out.lt
    have I:=fun J=>(z.out.mem.own.st.alloc J)
    have V:=fun J=>(z.out.alloc J).mem.base
    have X:=fun J=>(z.out.alloc J).lt
    have ad:=fun J=>(z.out.alloc J).cells
    go_wp2_with (at_builtin;refine zch _ rfl _ _ 33 rfl j 107 i0 _ 3 32 Tryz.underlying33 hi ae ai ah rfl (by decide) (by decide) S2.st A.st.length _ (by rfl) (I _) w2.heap.size (smL ⟨E,n,(a1.ex.length:Int)-1⟩) (by rfl) (by exact heap_alloc_new w2 _) rfl (zlc _) (by omega) (V _) ?_;intro r' wz hr L ac;have g2:=(L.block H (X _) HN.out).trans (ad _);obtain⟨d0,d1,d2,d3,d4,d5,d6,d7,d8,d9,df⟩:=zY g2;have HR:Hid (OwnR wz j 107 3 r' (A.st.length+1) _):=hr;have ag:Hid (World.grownBy _ wz _):=L;have af:Hid (_∨_):=ac;clear hr L ac g2 c0 c1 c2 c3 c4 c5 c6 c7 c8 c9 cf I V X ad)
    go_wp2
    go_end0
    obtain⟨m',s'⟩:=z.out.grow_st ((Below.refl _ _).alloc (Nat.le_refl _) _) ag.out HR.out af.out hn
    rw[HZ.out]
    rw[←HE.out] at m'
    exact⟨rfl,_,m',Y.trans s'⟩
   ·have HZ:Hid (stmtI C E n s q= .error (zp C (A.pos-1))):=ab.out.trans (if_pos (by omega))
    refine (zdF C gt D j H S2 A A.st.length 80 _ z.out (by omega) Z).mono ?_
    rintro e wz ⟨rfl,N⟩
    have HB:=(h.back Y).trans (N.mono z.out.mem.base)
    have HX:Hid (stmtI C E n s q= .error (zp C (A.pos-1))):=HZ.out
    unfold Pan
    go_wp2
    refine⟨rfl,?_⟩
    rw[HX.out]
    exact⟨rfl,HB⟩
def letJ (C:Cx) (k:Int) (q:PS):PR:=bd (zh C false q) fun a=>bd (zd C 4 cEq a.1) fun b=>stmtI C k a.2 cSemi b
def fnI (C:Cx) (q:PS):PR:=bd (zh C false q) fun a=>bd (za5 C cCall cCall.size 0 a.1) fun b=>bd (zd C 1 zd4 b) fun c=>stmtI C 2 a.2 cSemiRight c
def printI (C:Cx) (q:PS):PR:=bd (zd C 4 zm q) fun a=>stmtI C 4 sNone cShutSemi a
theorem zfS (C:Cx) (L n j z:Nat) (S:Sv) (q:PS) (w:World) (h:IM C L n j z S q w):
  Calls Tryz.prog 186 #[.pointer (some ⟨z,0,none⟩)] w (zM C L n j z (letJ C 1 q) id (fun _=>.tuple #[]) S w):=by
 have HY:=zc (letJ.eq_1 C 1 q)
 go_enter Tryz.func186,Tryz.ntmps186
 go_wp2_with fail
 refine (zcL C L n j z S q _ h).mono ?_
 cases A:zh C false q with
 |error p=>
  rintro e w1 ⟨rfl,D⟩
  have J:Below j w w1:=(h.back (IS.refl _ _ _)).trans D
  have O:Hid (letJ C 1 q= .error p):=bdE HY.out A
  unfold Pan
  go_wp2
  refine⟨rfl,?_⟩
  rw[O.out]
  exact⟨rfl,J⟩
 |ok U=>
  rintro e w1 ⟨rfl,S1,aa,H⟩
  have N:=zc (bdO HY.out A)
  go_wp2_with fail
  refine (zbM C L n j z S1 (U.1) 61 _ aa).mono ?_
  cases M:zd C 4 cEq (U.1) with
  |error p=>
   rintro e w2 ⟨rfl,D⟩
   have J:=(h.back H).trans D
   have O:Hid (letJ C 1 q= .error p):=bdE N.out M
   unfold Pan
   go_wp2
   refine⟨rfl,?_⟩
   rw[O.out]
   exact⟨rfl,J⟩
  |ok a2=>
   rintro e w2 ⟨rfl,S2,V,s⟩
   have I:=H.trans s
   clear s
   have E:=zc (bdO N.out M)
   go_wp2_with fail
   refine (zdl C L n j z S2 a2 1 U.2 cSemi _ V (by decide) (by decide)).mono ?_
   cases K:stmtI C 1 U.2 cSemi a2 with
   |error p=>
    rintro e w3 ⟨rfl,D⟩
    have J:=(h.back I).trans D
    have O:Hid (letJ C 1 q= .error p):=E.out.trans K
    unfold Pan
    go_wp2
    refine⟨rfl,?_⟩
    rw[O.out]
    exact⟨rfl,J⟩
   |ok a3=>
    rintro e w3 ⟨rfl,S3,X,s⟩
    have Z:=I.trans s
    clear s
    have Y:=zc (E.out.trans K)
    go_wp2
    go_end0
    rw[Y.out]
    exact⟨rfl,S3,X,Z⟩
theorem zhp (C:Cx) (L n j z:Nat) (S:Sv) (q:PS) (w:World) (h:IM C L n j z S q w):
  Calls Tryz.prog 165 #[.pointer (some ⟨z,0,none⟩)] w (zM C L n j z (letJ C 3 q) id (fun _=>.tuple #[]) S w):=by
 have HY:=zc (letJ.eq_1 C 3 q)
 go_enter Tryz.func165,Tryz.ntmps165
 go_wp2_with fail
 refine (zcL C L n j z S q _ h).mono ?_
 cases A:zh C false q with
 |error p=>
  rintro e w1 ⟨rfl,D⟩
  have J:Below j w w1:=(h.back (IS.refl _ _ _)).trans D
  have O:Hid (letJ C 3 q= .error p):=bdE HY.out A
  unfold Pan
  go_wp2
  refine⟨rfl,?_⟩
  rw[O.out]
  exact⟨rfl,J⟩
 |ok U=>
  rintro e w1 ⟨rfl,S1,aa,H⟩
  have N:=zc (bdO HY.out A)
  go_wp2_with fail
  refine (zbM C L n j z S1 (U.1) 61 _ aa).mono ?_
  cases M:zd C 4 cEq (U.1) with
  |error p=>
   rintro e w2 ⟨rfl,D⟩
   have J:=(h.back H).trans D
   have O:Hid (letJ C 3 q= .error p):=bdE N.out M
   unfold Pan
   go_wp2
   refine⟨rfl,?_⟩
   rw[O.out]
   exact⟨rfl,J⟩
  |ok a2=>
   rintro e w2 ⟨rfl,S2,V,s⟩
   have I:=H.trans s
   clear s
   have E:=zc (bdO N.out M)
   go_wp2_with fail
   refine (zdl C L n j z S2 a2 3 U.2 cSemi _ V (by decide) (by decide)).mono ?_
   cases K:stmtI C 3 U.2 cSemi a2 with
   |error p=>
    rintro e w3 ⟨rfl,D⟩
    have J:=(h.back I).trans D
    have O:Hid (letJ C 3 q= .error p):=E.out.trans K
    unfold Pan
    go_wp2
    refine⟨rfl,?_⟩
    rw[O.out]
    exact⟨rfl,J⟩
   |ok a3=>
    rintro e w3 ⟨rfl,S3,X,s⟩
    have Z:=I.trans s
    clear s
    have Y:=zc (E.out.trans K)
    go_wp2
    go_end0
    rw[Y.out]
    exact⟨rfl,S3,X,Z⟩
theorem zfT (C:Cx) (H n j A:Nat) (S:Sv) (q:PS) (w:World) (h:IM C H n j A S q w):
  Calls Tryz.prog 187 #[.pointer (some ⟨A,0,none⟩)] w (zM C H n j A (fnI C q) id (fun _=>.tuple #[]) S w):=by
 have HY:=zc (fnI.eq_1 C q)
 go_enter Tryz.func187,Tryz.ntmps187
 go_wp2_with fail
 refine (zcL C H n j A S q _ h).mono ?_
 cases J:zh C false q with
 |error p=>
  rintro e w1 ⟨rfl,z⟩
  have D:Below j w w1:=(h.back (IS.refl _ _ _)).trans z
  have E:Hid (fnI C q= .error p):=bdE HY.out J
  unfold Pan
  go_wp2
  refine⟨rfl,?_⟩
  rw[E.out]
  exact⟨rfl,D⟩
 |ok Y=>
  rintro e w1 ⟨rfl,S1,ae,L⟩
  have X:=zc (bdO HY.out J)
  go_wp2_with fail
  refine (zfL C H n j A S1 (Y.1) cCall _ ae (by decide)).mono ?_
  cases V:za5 C cCall cCall.size 0 (Y.1) with
  |error p=>
   rintro e w2 ⟨rfl,z⟩
   have D:=(h.back L).trans z
   have E:Hid (fnI C q= .error p):=bdE X.out V
   unfold Pan
   go_wp2
   refine⟨rfl,?_⟩
   rw[E.out]
   exact⟨rfl,D⟩
  |ok a2=>
   rintro e w2 ⟨rfl,S2,aa,s⟩
   have M:=L.trans s
   clear s
   have K:=zc (bdO X.out V)
   go_wp2_with fail
   refine (zdE C H n j A S2 a2 zd4 _ aa).mono ?_
   cases N:zd C 1 zd4 a2 with
   |error p=>
    rintro e w3 ⟨rfl,z⟩
    have D:=(h.back M).trans z
    have E:Hid (fnI C q= .error p):=bdE K.out N
    unfold Pan
    go_wp2
    refine⟨rfl,?_⟩
    rw[E.out]
    exact⟨rfl,D⟩
   |ok a3=>
    rintro e w3 ⟨rfl,S3,ac,s⟩
    have U:=M.trans s
    clear s
    have O:=zc (bdO K.out N)
    go_wp2_with fail
    refine (zdl C H n j A S3 a3 2 Y.2 cSemiRight _ ac (by decide) (by decide)).mono ?_
    cases I:stmtI C 2 Y.2 cSemiRight a3 with
    |error p=>
     rintro e w4 ⟨rfl,z⟩
     have D:=(h.back U).trans z
     have E:Hid (fnI C q= .error p):=O.out.trans I
     unfold Pan
     go_wp2
     refine⟨rfl,?_⟩
     rw[E.out]
     exact⟨rfl,D⟩
    |ok a4=>
     rintro e w4 ⟨rfl,S4,ab,s⟩
     have Z:=U.trans s
     clear s
     have ad:=zc (O.out.trans I)
     go_wp2
     go_end0
     rw[ad.out]
     exact⟨rfl,S4,ab,Z⟩
theorem zhq (C:Cx) (I n j A:Nat) (S:Sv) (q:PS) (w:World) (h:IM C I n j A S q w):
  Calls Tryz.prog 188 #[.pointer (some ⟨A,0,none⟩)] w (zM C I n j A (printI C q) id (fun _=>.tuple #[]) S w):=by
 have X:=zc (printI.eq_1 C q)
 go_enter Tryz.func188,Tryz.ntmps188
 go_wp2_with fail
 refine (zbM C I n j A S q 40 _ h).mono ?_
 cases z:zd C 4 zm q with
 |error p=>
  rintro e V ⟨rfl,K⟩
  have N:Below j w V:=(h.back (IS.refl _ _ _)).trans K
  have U:Hid (printI C q= .error p):=bdE X.out z
  unfold Pan
  go_wp2
  refine⟨rfl,?_⟩
  rw[U.out]
  exact⟨rfl,N⟩
 |ok Y=>
  rintro e V ⟨rfl,S1,O,D⟩
  have H:=zc (bdO X.out z)
  go_wp2_with fail
  refine (zdl C I n j A S1 Y 4 sNone cShutSemi _ O (by decide) (by decide)).mono ?_
  cases E:stmtI C 4 sNone cShutSemi Y with
  |error p=>
   rintro e w2 ⟨rfl,K⟩
   have N:=(h.back D).trans K
   have U:Hid (printI C q= .error p):=H.out.trans E
   unfold Pan
   go_wp2
   refine⟨rfl,?_⟩
   rw[U.out]
   exact⟨rfl,N⟩
  |ok a2=>
   rintro e w2 ⟨rfl,Z,J,s⟩
   have M:=D.trans s
   clear s
   have L:=zc (H.out.trans E)
   go_wp2
   go_end0
   rw[L.out]
   exact⟨rfl,Z,J,M⟩
theorem zhr (C:Cx) (A n j z:Nat) (S:Sv) (q:PS) (w:World) (h:IM C A n j z S q w):
  Calls Tryz.prog 189 #[.pointer (some ⟨z,0,none⟩)] w (zM C A n j z (stmtI C 5 sNone cSemi q) id (fun _=>.tuple #[]) S w):=by
 go_enter Tryz.func189,Tryz.ntmps189
 go_wp2_with fail
 refine (zdl C A n j z S q 5 sNone cSemi _ h (by decide) (by decide)).mono ?_
 cases D:stmtI C 5 sNone cSemi q with
 |error p=>
  rintro e E ⟨rfl,J⟩
  unfold Pan
  go_wp2
  refine⟨rfl,?_⟩
  rw[D]
  exact⟨rfl,J⟩
 |ok a=>
  rintro e E ⟨rfl,H,I,K⟩
  go_wp2
  go_end0
  rw[D]
  exact⟨rfl,H,I,K⟩
theorem zld (C:Cx) (A n j z:Nat) (S:Sv) (q:PS) (w:World) (h:IM C A n j z S q w):
  Calls Tryz.prog 190 #[.pointer (some ⟨z,0,none⟩)] w (zM C A n j z (stmtI C 6 sNone cSemi q) id (fun _=>.tuple #[]) S w):=by
 go_enter Tryz.func190,Tryz.ntmps190
 go_wp2_with fail
 refine (zdl C A n j z S q 6 sNone cSemi _ h (by decide) (by decide)).mono ?_
 cases D:stmtI C 6 sNone cSemi q with
 |error p=>
  rintro e E ⟨rfl,K⟩
  unfold Pan
  go_wp2
  refine⟨rfl,?_⟩
  rw[D]
  exact⟨rfl,K⟩
 |ok a=>
  rintro e E ⟨rfl,H,I,J⟩
  go_wp2
  go_end0
  rw[D]
  exact⟨rfl,H,I,J⟩
def zcc (C:Cx) (i:Nat):ByteArray:=if (ze C i).kind==1 then (ze C i).text else sNone
theorem zhs (C:Cx) (E n j A:Nat) (S:Sv) (q:PS) (w:World) (h:IM C E n j A S q w):
  Calls Tryz.prog 164 #[.pointer (some ⟨A,0,none⟩)] w fun e J=>e= .returned (.string (zcc C q.pos))∧Below w.heap.size w J:=by
 cases H:((ze C q.pos).kind==1) with
 |true=>
  have D:Hid (zcc C q.pos=(ze C q.pos).text):=by show _=_;rw[zcc,H];rfl
  go_enter Tryz.func164,Tryz.ntmps164
  go_wp2_with fail
  refine (zbg C E n j A S q _ h).mono ?_
  rintro e I ⟨rfl,z⟩
  unfold tkV
  go_wp2
  go_ret
  rw[D.out]
  exact⟨rfl,z.alloc z.size _⟩
 |false=>
  have D:Hid (zcc C q.pos=sNone):=by show _=_;rw[zcc,H];rfl
  go_enter Tryz.func164,Tryz.ntmps164
  go_wp2_with fail
  refine (zbg C E n j A S q _ h).mono ?_
  rintro e I ⟨rfl,z⟩
  unfold tkV
  go_wp2
  go_ret
  rw[D.out]
  exact⟨rfl,z.alloc z.size _⟩
theorem OwnR.stmtName {w:World} {j:Nat} {r:Rw} {l:List Sm} {x:Sm} (h:OwnR w j 107 3 r (l++[x]).length ((l++[x]).flatMap smL)): ∃g,r.a=some ⟨g,0,none⟩∧w.cell? ⟨g,l.length*3+1,none⟩=some (.string x.name):=by
 rcases h.2 with ⟨_,H⟩|⟨g,E,D,n,_⟩
 ·simp at H
 ·simp only[Value.slice.injEq] at n
  have q:=h
  unfold OwnR at q
  rw[n.1,n.2.2] at q
  refine⟨g,n.1,?_⟩
  rw[World.ownsRow.cellAt q _ (by simp;omega)]
  have z: ∀l:List Sm,(l.flatMap smL).length=l.length*3:=by
   intro l
   induction l with
   |nil=>rfl
   |cons y l A=>simp[List.flatMap_cons,smL,A] at A ⊢;omega
  rw[List.flatMap_append,List.getElem?_append_right (by rw[z];omega),z]
  simp[smL]
theorem zle (C:Cx) (M z j D:Nat) (S:Sv) (q:PS) (l:List Sm) (x:Sm) (w:World) (h:IM C M z j D S q w) (O:q.st=l++[x]) (K:x.name.size≤281474976710656) (hp:0<q.pos):
  Calls Tryz.prog 213 #[.pointer (some ⟨D,0,none⟩)] w (zM C M z j D (zn C ⟨1,x.name,x.name,sNone⟩ q) id (fun _=>.tuple #[]) S w):=by
 obtain⟨_,_,_,_,_,_,_,E,_,_,_⟩:=zY h.cells
 have L:=h.mem.own.st
 rw[O] at L E
 obtain⟨g,V,hc⟩:=L.stmtName
 have I:=h.mem.inv.st
 rw[O] at I
 have H:(l++[x]).length=l.length+1:=by simp
 rw[H] at E I
 rw[V] at E
 have Z:=zc E
 have CN:=zc hc
 have e1:((l.length+1:Nat):Int)-1=(l.length:Int):=by omega
 have e2:(l.length:Int)+1-1=(l.length:Int):=by omega
 have ac:IntKind.i64.wrap (l.length:Int)=(l.length:Int):=IntWalk.i64_in _ ⟨by omega,by omega⟩
 have X:(l.length:Int)<((l.length+1:Nat):Int):=by omega
 have aa:(l.length:Int)<(l.length:Int)+1:=by omega
 have cC: ∀d Y,Calls Tryz.prog 68 #[.string x.name] (grow (redrawn w d) Y) fun e N=>e= .returned (.string x.name)∧∃p:Regrown,N=grow (redrawn w p.d) p.os:=fun d Y=>Calls.regrown_of (zhi _ _ K)
 clear E hc L V O
 go_enter Tryz.func213,Tryz.ntmps213
 go_wp2_with fail
 have k7:=cell_regrown Z.out
 have kN:=cell_regrown CN.out
 refine wp_region_quiet_below (by kernel_rfl) (by kernel_rfl) ?_
 repeat (go_big_quiet_step (exact cC _ _))
 refine wpQuiet_nil ?_
 intro w1 J
 obtain⟨⟨dq,ab⟩,n⟩:=J
 have A:Below w.heap.size w w1:=by show Below _ _ _;rw[n];exact below_regrown _ _ _
 clear n k7 kN cC Z CN
 have U:=h.later A
 go_wp2_with fail
 refine (zeq C M z j D S q ⟨1,x.name,x.name,sNone⟩ _ U hp).mono ?_
 cases hn:zn C ⟨1,x.name,x.name,sNone⟩ q with
 |error p=>
  rintro e w2 ⟨rfl,hb⟩
  have HB:=(A.mono h.mem.base).trans hb
  unfold Pan
  go_wp2
  refine⟨rfl,?_⟩
  rw[hn]
  exact⟨rfl,HB⟩
 |ok a=>
  rintro e w2 ⟨rfl,S1,HM,s⟩
  have HS:IS D S w S1 w2:=(IS.below A).trans s
  clear s
  go_wp2
  go_end0
  rw[hn]
  exact⟨rfl,S1,HM,HS⟩
def Fr (e:TypeId) (size:Nat) (w:World) (b:Nat) (r:Rw) (n:Nat) (xs:List Value) (S:Sv):Prop:=OwnR w b e size r n xs∧∀k,r.blk=some k→¬S.has k
theorem Fr.ngp {C:Cx} {H z j A size b n:Nat} {S:Sv} {q:PS} {w:World} {e:TypeId} {r:Rw} {xs:List Value} (f:Fr e size w b r n xs S) (h:IM C H z j A S q w) (E:e≠160) {k:Nat} (D:r.blk=some k):k≠A:=by
 rintro rfl
 obtain⟨_,_,c,g⟩:=f.1.typed D
 rw[h.cells] at g
 simp only[Option.some.injEq,Obj.cells.injEq] at g
 exact E g.2.1.symm
theorem Fr.ngt {C:Cx} {A z j E size b n:Nat} {S:Sv} {q:PS} {w:World} {e:TypeId} {r:Rw} {xs:List Value} (f:Fr e size w b r n xs S) (h:IM C A z j E S q w) (H:e≠143) {k:Nat} (D:r.blk=some k):k≠A:=by
 rintro rfl
 obtain⟨_,_,c,g⟩:=f.1.typed D
 obtain⟨J,I⟩:=zeK h.mem.tok
 rw[I] at g
 simp only[Option.some.injEq,Obj.cells.injEq] at g
 exact H g.2.1.symm
theorem Fr.step {C:Cx} {K z j D size b n:Nat} {S A:Sv} {q:PS} {w E:World} {e:TypeId} {r:Rw} {xs:List Value} (f:Fr e size w b r n xs S) (h:IM C K z j D S q w) (I:e≠160) (s:IS D S w A E):Fr e size E b r n xs A:=by
 refine⟨f.1.keep fun k g=>s.block k (f.1.typed g).2.1 (f.2 k g) (f.ngp h I g),fun k g J=>?_⟩
 rcases s.sub k J with H|H
 ·exact f.2 k g H
 ·have:=(f.1.typed g).2.1
  omega
theorem Fr.low {size b h n:Nat} {S:Sv} {w:World} {e:TypeId} {r:Rw} {xs:List Value} (f:Fr e size w b r n xs S) (j:h≤b):Fr e size w h r n xs S:=⟨f.1.low j,f.2⟩
theorem Fr.later {size b n:Nat} {S:Sv} {w h:World} {e:TypeId} {r:Rw} {xs:List Value} (f:Fr e size w b r n xs S) (j:Below w.heap.size w h):Fr e size h b r n xs S:=⟨f.1.keep fun k g=>j.block k (f.1.typed g).2.1,f.2⟩
theorem IM.aside {C:Cx} {w z j n:Nat} {S:Sv} {q:PS} {W E:World} {b:Option Nat} (h:IM C w z j n S q W) (A:W.grownBy E b) (D: ∀k,b=some k→¬S.has k∧k≠n∧k≠w):IM C w z j n S q E:=by
 refine⟨⟨h.mem.own.keep fun k g=>A.block k (h.mem.own.has g).2 fun e=>(D k e.symm).1 g,h.mem.inv,zbo h.mem.tok (A.block w (zaj h.mem.tok).1 fun e=>(D w e.symm).2.2 rfl),h.mem.few,Nat.le_trans h.mem.base A.size⟩,(A.block n h.lt fun e=>(D n e.symm).2.1 rfl).trans h.cells,h.ge⟩
theorem IS.aside {q:Nat} {S z:Sv} {w W A:World} {b:Option Nat} (s:IS q S w z W) (h:W.grownBy A b) (D: ∀k,b=some k→w.heap.size≤k):IS q S w z A:=
 ⟨h.os.trans s.os,h.tape.trans s.tape,h.output.trans s.output,Nat.le_trans s.size h.size,fun k n E j=>(h.block k (Nat.lt_of_lt_of_le n s.size) fun e=>by have:=D k e.symm;omega).trans (s.block k n E j),s.sub⟩
theorem Fr.grown {size b n:Nat} {S:Sv} {W H:World} {e:TypeId} {r w:Rw} {xs E:List Value} {C:Cx} {L z j J:Nat} {q:PS} (f:Fr e size W b r n xs S) (h:IM C L z j J S q W) (K:OwnR H b e size w (n+1) E) (D:w.blk=r.blk∨w.blk=some W.heap.size):Fr e size H b w (n+1) E S:=by
 refine⟨K,fun k g I=>?_⟩
 rcases D with A|A
 ·exact f.2 k (A.symm.trans g) I
 ·have M:W.heap.size=k:=Option.some.inj (A.symm.trans g)
  have:=(h.mem.own.has I).2
  omega
theorem zlf {α:Type} (f:α→List Value) (m:Nat) (j: ∀x,(f x).length=m) (l:List α):(l.flatMap f).length=l.length*m:=by
 induction l with
 |nil=>simp
 |cons y l h=>rw[List.flatMap_cons,List.length_append,j,h,List.length_cons,Nat.succ_mul];omega
theorem zlg {α:Type} (f:α→List Value) (m:Nat) (n: ∀x,(f x).length=m): ∀(l:List α) (j i:Nat) (x:α),l[j]? =some x→i<m→(l.flatMap f)[j*m+i]? =(f x)[i]?:=by
 intro l
 induction l with
 |nil=>intro j i x h;simp at h
 |cons y l w=>
  intro j i x h q
  rw[List.flatMap_cons]
  match j with
  |0=>
   simp only[List.getElem?_cons_zero,Option.some.injEq] at h
   subst h
   rw[Nat.zero_mul,Nat.zero_add,List.getElem?_append_left (by rw[n];exact q)]
  |j+1=>
   simp only[List.getElem?_cons_succ] at h
   rw[List.getElem?_append_right (by rw[n,Nat.succ_mul];omega),n,←w j i x h q]
   congr 1
   rw[Nat.succ_mul]
   omega
theorem OwnR.elem {α:Type} {f:α→List Value} {m:Nat} (H: ∀x,(f x).length=m) {w:World} {n:Nat} {e:TypeId} {r:Rw} {l:List α} (h:OwnR w n e m r l.length (l.flatMap f)) {j:Nat} {x:α} (D:l[j]? =some x): ∃g,r.a=some ⟨g,0,none⟩∧∀i,i<m→w.cell? ⟨g,j*m+i,none⟩=(f x)[i]?:=by
 have z:j<l.length:=(List.getElem?_eq_some_iff.1 D).1
 rcases h.2 with ⟨_,L⟩|⟨g,I,E,q,_⟩
 ·omega
 ·simp only[Value.slice.injEq] at q
  have A:=h
  unfold OwnR at A
  rw[q.1,q.2.2] at A
  refine⟨g,q.1,fun i K=>?_⟩
  have J:j*m+i<l.length*m:=by
   have:=Nat.mul_le_mul_right m z
   rw[Nat.succ_mul] at this
   omega
  rw[World.ownsRow.cellAt A _ J]
  exact zlg f m H l j i x D K
structure OwnMd (w:World) (base:Nat) (S:Sv) (m:Md):Prop where
 rq:OwnR w base 9 1 S.rq m.rq.length (m.rq.map .string)
 im:OwnR w base 84 3 S.im m.im.length (m.im.flatMap imL)
 ep:OwnR w base 86 4 S.ep m.ep.length (m.ep.flatMap epL)
 st:OwnR w base 107 3 S.st m.st.length (m.st.flatMap smL)
 ex:OwnR w base 109 6 S.ex m.ex.length (m.ex.flatMap exL)
theorem OwnMod.md {w:World} {j:Nat} {S:Sv} {q:PS} (h:OwnMod w j S q):OwnMd w j S (zd8 q):=⟨h.rq,h.im,h.ep,h.st,h.ex⟩
theorem OwnMd.later {w q:World} {j:Nat} {S:Sv} {m:Md} (h:OwnMd w j S m) (n:Below w.heap.size w q):OwnMd q j S m:=
 ⟨h.rq.keep fun k g=>n.block k (h.rq.typed g).2.1,h.im.keep fun k g=>n.block k (h.im.typed g).2.1,h.ep.keep fun k g=>n.block k (h.ep.typed g).2.1,h.st.keep fun k g=>n.block k (h.st.typed g).2.1,h.ex.keep fun k g=>n.block k (h.ex.typed g).2.1⟩
theorem OwnMd.alloc {w:World} {j:Nat} {S:Sv} {m:Md} (h:OwnMd w j S m) (o:Obj):OwnMd (w.alloc o) j S m:=h.later ((Below.refl _ _).alloc (Nat.le_refl _) _)
def zq (S:Sv) (m:Md):Value:=.agg #[.slice S.rq.a m.rq.length S.rq.cap,.slice S.im.a m.im.length S.im.cap,.slice S.ep.a m.ep.length S.ep.cap,.slice S.st.a m.st.length S.st.cap,.slice S.ex.a m.ex.length S.ex.cap]
theorem OwnMd.expr {w:World} {n:Nat} {S:Sv} {m:Md} (h:OwnMd w n S m) {i:Nat} (z:i<m.ex.length): ∃g,S.ex.a=some ⟨g,0,none⟩∧g<w.heap.size∧w.cell? ⟨g,i*6,none⟩=some (.int .i64 (m.ex.getD i zf).kind)∧w.cell? ⟨g,i*6+1,none⟩=some (.int .i64 (m.ex.getD i zf).num)∧w.cell? ⟨g,i*6+2,none⟩=some (.string (m.ex.getD i zf).name)∧w.cell? ⟨g,i*6+3,none⟩=some (.string (m.ex.getD i zf).field)∧w.cell? ⟨g,i*6+4,none⟩=some (.int .i64 (m.ex.getD i zf).l)∧w.cell? ⟨g,i*6+5,none⟩=some (.int .i64 (m.ex.getD i zf).r):=by
 obtain⟨g,q,j⟩:=OwnR.elem (f:=exL) (m:=6) (fun _=>rfl) h.ex (List.getElem?_eq_getElem z)
 rw[zdd z]
 exact⟨g,q,(h.ex.typed (by rw[Rw.blk,q];rfl)).2.1,j 0 (by omega),j 1 (by omega),j 2 (by omega),j 3 (by omega),j 4 (by omega),j 5 (by omega)⟩
def md0:Md:=⟨[],[],[],[],[]⟩
theorem zht (w:World) (h:Nat):OwnMd w h S0 md0:=⟨zcj _ _ _ _,zcj _ _ _ _,zcj _ _ _ _,zcj _ _ _ _,zcj _ _ _ _⟩
def zbN (P:Prop) (e:Ending):Prop:=∃b,e= .returned (.bool b)∧(b=true↔P)
theorem zaV {α:Type} {l:List α} {j:Nat} (h:j<l.length): ∃x,l[j]? =some x:=⟨_,List.getElem?_eq_getElem h⟩
theorem zc2 {α:Type} {l1 n:List α} {j:Nat} {x:α} (h:l1.take j=n.take j) (q:l1[j]? =some x) (w:n[j]? =some x):l1.take (j+1)=n.take (j+1):=by
 obtain⟨a,rfl⟩:=List.getElem?_eq_some_iff.1 q
 obtain⟨b,z⟩:=List.getElem?_eq_some_iff.1 w
 rw[List.take_succ_eq_append_getElem a,List.take_succ_eq_append_getElem b,h,z]
theorem zc3 {α:Type} {l1 j:List α} (n:l1.length=j.length) (h:l1.take l1.length=j.take l1.length):l1=j:=by
 rw[List.take_length,n,List.take_length] at h
 exact h
theorem zet {a b:ByteArray} (h:(a.toList==b.toList)=true):a=b:=(zjA a b).1 h
def zfU (x y:ByteArray):Bool:=x.toList==y.toList
theorem zeZ {x y:ByteArray}:zfU x y=true↔x=y:=⟨fun h=>zet h,fun h=>by rw[h];exact beq_self_eq_true _⟩
theorem zlh (A D:Option Addr) (j n E q:Nat) (w:World) (h:(j:Int)≠(n:Int)):Calls Tryz.prog 126 #[.slice A j E,.slice D n q] w fun e z=>e= .returned (.bool false)∧Below w.heap.size w z:=by
 go_enter Tryz.func126,Tryz.ntmps126
 go_wp2
 go_ret
 exact⟨rfl,Below.refl _ _⟩
theorem zli (n q:Option Addr) (z h:Nat) (w:World):Calls Tryz.prog 126 #[.slice n 0 z,.slice q 0 h] w fun e j=>e= .returned (.bool true)∧Below w.heap.size w j:=by
 go_enter Tryz.func126,Tryz.ntmps126
 go_wp2
 go_loopg [13] 1 (fun k i wr=>k=1∧i= .int .i64 0∧wr=w)
 case atStart=>exact⟨rfl,rfl,rfl⟩
 case round=>
  obtain⟨rfl,rfl,rfl⟩:=hrel
  go_wp2
  go_ret
  exact⟨rfl,Below.refl _ _⟩
theorem zlj (b1 b2 X U:Nat) (M r2:Rw) (l1 q:List ByteArray) (w:World) (H:OwnR w b1 9 1 M l1.length (l1.flatMap (fun x=>[Value.string x]))) (A:OwnR w b2 9 1 r2 q.length (q.flatMap (fun x=>[Value.string x]))) (e1:M.a=some ⟨X,0,none⟩) (e2:r2.a=some ⟨U,0,none⟩) (hl:l1.length=q.length) (O:l1.length≤4294967296):
  Calls Tryz.prog 126 #[.slice (some ⟨X,0,none⟩) l1.length M.cap,.slice (some ⟨U,0,none⟩) l1.length r2.cap] w fun e w'=>zbN (l1=q) e∧Below w.heap.size w w':=by
 have H1:=zc H
 have H2:=zc A
 have E1:=zc e1
 have E2:=zc e2
 have HL:=zc hl
 clear H A e1 e2 hl
 go_enter Tryz.func126,Tryz.ntmps126
 go_wp2
 go_loopg [13] l1.length (fun k i wr=>∃j:Nat,i= .int .i64 j∧j+k=l1.length∧l1.take j=q.take j∧Below w.heap.size w wr)
 case atStart=>exact⟨0,rfl,by omega,rfl,Below.refl _ _⟩
 case round=>
  obtain⟨j,rfl,hj,ht,O⟩:=hrel
  have E:=zc O
  have HT:=zc ht
  clear O ht
  by_cases z:j<l1.length
  ·have J:(j:Int)<(l1.length:Int):=by omega
   obtain⟨x,Z⟩:=zaV z
   obtain⟨y,Y⟩:=zaV (show j<q.length by rw[←HL.out];exact z)
   obtain⟨V,ga,H⟩:=OwnR.elem (f:=(fun x=>[Value.string x])) (m:=1) (fun _=>rfl) (H1.out.keep fun k g=>E.out.block k (H1.out.typed g).2.1) Z
   obtain rfl:V=X:=by have:=ga.symm.trans E1.out;simpa using this
   obtain⟨V,gb,A⟩:=OwnR.elem (f:=(fun x=>[Value.string x])) (m:=1) (fun _=>rfl) (H2.out.keep fun k g=>E.out.block k (H2.out.typed g).2.1) Y
   obtain rfl:V=U:=by have:=gb.symm.trans E2.out;simpa using this
   have C0:=zc (H 0 (by omega))
   have D0:=zc (A 0 (by omega))
   have HX:=zc Z
   have HY:=zc Y
   clear H A ga gb Z Y
   obtain⟨K,D⟩: ∃K,K=j+1:=⟨_,rfl⟩
   have ej:(j:Int)+1=(K:Int):=by omega
   have HJ:=zc D
   clear D
   obtain⟨b,h⟩: ∃b,zfU x y=b:=⟨_,rfl⟩
   have aa:(x.toList==y.toList)=b:=h
   go_wp2
   have k0:=cell_regrown C0.out
   have m0:=cell_regrown D0.out
   simp only[Nat.add_zero,Nat.mul_one] at k0 m0
   refine wp_region_quiet_below (by kernel_rfl) (by kernel_rfl) ?_
   repeat (go_big_quiet_step (fail))
   refine wpQuiet_nil ?_
   intro w2 L
   obtain⟨⟨dq,N⟩,n⟩:=L
   have I:Hid (Below w.heap.size w w2):=by show Below _ _ _;rw[n];exact E.out.trans ((below_regrown wr dq N).mono E.out.size)
   clear n k0 m0 C0 D0
   cases b with
   |true=>
    go_wp2
    go_roundg (gk-1)
    case rel=>exact⟨K,rfl,by have:=HJ.out;omega,by rw[HJ.out];have e:=zeZ.1 h;exact zc2 HT.out HX.out (by rw[e];exact HY.out),I.out⟩
    case measure=>omega
   |false=>
    go_wp2
    go_ret
    exact⟨⟨false,rfl,⟨fun k=>(by cases k),fun k=>(by have e:=HX.out;rw[k,HY.out] at e;cases e;rw[zeZ.2 rfl] at h;cases h)⟩⟩,I.out⟩
  ·have J: ¬(j:Int)<(l1.length:Int):=by omega
   obtain rfl:j=l1.length:=by omega
   go_wp2
   go_ret
   exact⟨⟨true,rfl,⟨fun _=>zc3 HL.out HT.out,fun _=>rfl⟩⟩,E.out⟩
theorem zlk (E b2:Nat) (z q:Rw) (l1 h:List ByteArray) (w:World) (J:OwnR w E 9 1 z l1.length (l1.flatMap (fun x=>[Value.string x]))) (I:OwnR w b2 9 1 q h.length (h.flatMap (fun x=>[Value.string x]))) (N:l1.length≤4294967296):
  Calls Tryz.prog 126 #[.slice z.a l1.length z.cap,.slice q.a h.length q.cap] w fun e D=>zbN (l1=h) e∧Below w.heap.size w D:=by
 by_cases j:l1.length=h.length
 ·rw[←j]
  by_cases n:l1.length=0
  ·rw[n]
   refine (zli _ _ _ _ w).mono ?_
   rintro e D ⟨rfl,A⟩
   exact⟨⟨true,rfl,⟨fun _=>(by rw[List.eq_nil_of_length_eq_zero n,List.eq_nil_of_length_eq_zero (j.symm.trans n)]),fun _=>rfl⟩⟩,A⟩
  ·rcases J.nil_or with ⟨_,_,e⟩|⟨M,H⟩
   ·exact absurd e n
   ·rcases I.nil_or with ⟨_,_,e⟩|⟨L,K⟩
    ·exact absurd (j.trans e) n
    ·rw[H,K]
     exact zlj E b2 M L z q l1 h w J I H K j N
 ·refine (zlh _ _ _ _ _ _ w (by omega)).mono ?_
  rintro e D ⟨rfl,A⟩
  exact⟨⟨false,rfl,⟨fun k=>(by cases k),fun k=>absurd (by rw[k]) j⟩⟩,A⟩
def zc4 (x y:Im):Bool:=x.spec.toList==y.spec.toList&&x.first.toList==y.first.toList&&x.loc.toList==y.loc.toList
theorem zfa {x y:Im}:zc4 x y=true↔x=y:=by
 constructor
 ·intro h
  unfold zc4 at h
  simp only[Bool.and_eq_true] at h
  obtain⟨⟨q,j⟩,n⟩:=h
  cases x
  cases y
  simp only at q j n
  congr 1<;>first|(apply zet;assumption)|(apply eq_of_beq;assumption)
 ·intro h
  rw[h]
  simp[zc4]
theorem zll (A D:Option Addr) (j n E q:Nat) (w:World) (h:(j:Int)≠(n:Int)):Calls Tryz.prog 127 #[.slice A j E,.slice D n q] w fun e z=>e= .returned (.bool false)∧Below w.heap.size w z:=by
 go_enter Tryz.func127,Tryz.ntmps127
 go_wp2
 go_ret
 exact⟨rfl,Below.refl _ _⟩
theorem zlm (n q:Option Addr) (z h:Nat) (w:World):Calls Tryz.prog 127 #[.slice n 0 z,.slice q 0 h] w fun e j=>e= .returned (.bool true)∧Below w.heap.size w j:=by
 go_enter Tryz.func127,Tryz.ntmps127
 go_wp2
 go_loopg [13] 1 (fun k i wr=>k=1∧i= .int .i64 0∧wr=w)
 case atStart=>exact⟨rfl,rfl,rfl⟩
 case round=>
  obtain⟨rfl,rfl,rfl⟩:=hrel
  go_wp2
  go_ret
  exact⟨rfl,Below.refl _ _⟩
theorem zln (O: ∀(x y:Im) (W:World),Sem.run Tryz.prog (binOp .neq 84 (.agg #[.string x.spec,.string x.first,.string x.loc]) (.agg #[.string y.spec,.string y.first,.string y.loc])) W= .ok (.bool (!zc4 x y)) W) (M: ∀(J:BinOp) (a b:Operand) (x y:Im) (W:World),Sem.run Tryz.prog (eqGuard J 84 a b (.agg #[.string x.spec,.string x.first,.string x.loc]) (.agg #[.string y.spec,.string y.first,.string y.loc])) W= .ok () W) (b1 b2 g1 Y:Nat) (U r2:Rw) (l1 A:List Im) (w:World) (z:OwnR w b1 84 3 U l1.length (l1.flatMap imL)) (q:OwnR w b2 84 3 r2 A.length (A.flatMap imL)) (e1:U.a=some ⟨g1,0,none⟩) (e2:r2.a=some ⟨Y,0,none⟩) (hl:l1.length=A.length) (X:l1.length≤4294967296):
  Calls Tryz.prog 127 #[.slice (some ⟨g1,0,none⟩) l1.length U.cap,.slice (some ⟨Y,0,none⟩) l1.length r2.cap] w fun e w'=>zbN (l1=A) e∧Below w.heap.size w w':=by
 have H1:=zc z
 have H2:=zc q
 have E1:=zc e1
 have E2:=zc e2
 have HL:=zc hl
 clear z q e1 e2 hl
 go_enter Tryz.func127,Tryz.ntmps127
 go_wp2
 go_loopg [13] l1.length (fun k i wr=>∃j:Nat,i= .int .i64 j∧j+k=l1.length∧l1.take j=A.take j∧Below w.heap.size w wr)
 case atStart=>exact⟨0,rfl,by omega,rfl,Below.refl _ _⟩
 case round=>
  obtain⟨j,rfl,hj,ht,X⟩:=hrel
  have H:=zc X
  have HT:=zc ht
  clear X ht
  by_cases D:j<l1.length
  ·have K:(j:Int)<(l1.length:Int):=by omega
   obtain⟨x,hx⟩:=zaV D
   obtain⟨y,hy⟩:=zaV (show j<A.length by rw[←HL.out];exact D)
   obtain⟨Z,ga,z⟩:=OwnR.elem (f:=imL) (m:=3) (fun _=>rfl) (H1.out.keep fun k g=>H.out.block k (H1.out.typed g).2.1) hx
   obtain rfl:Z=g1:=by have:=ga.symm.trans E1.out;simpa using this
   obtain⟨Z,gb,q⟩:=OwnR.elem (f:=imL) (m:=3) (fun _=>rfl) (H2.out.keep fun k g=>H.out.block k (H2.out.typed g).2.1) hy
   obtain rfl:Z=Y:=by have:=gb.symm.trans E2.out;simpa using this
   have C0:=zc (z 0 (by omega))
   have D0:=zc (q 0 (by omega))
   have C1:=zc (z 1 (by omega))
   have D1:=zc (q 1 (by omega))
   have C2:=zc (z 2 (by omega))
   have D2:=zc (q 2 (by omega))
   have HX:=zc hx
   have HY:=zc hy
   clear z q ga gb hx hy
   obtain⟨L,E⟩: ∃L,L=j+1:=⟨_,rfl⟩
   have ej:(j:Int)+1=(L:Int):=by omega
   have HJ:=zc E
   clear E
   obtain⟨b,h⟩: ∃b,zc4 x y=b:=⟨_,rfl⟩
   have aa: ∀W:World,Sem.run Tryz.prog (binOp .neq 84 (.agg #[.string x.spec,.string x.first,.string x.loc]) (.agg #[.string y.spec,.string y.first,.string y.loc])) W= .ok (.bool !b) W:=fun W=>by rw[O,h]
   have ab: ∀(J:BinOp) (a b:Operand) (W:World),Sem.run Tryz.prog (eqGuard J 84 a b (.agg #[.string x.spec,.string x.first,.string x.loc]) (.agg #[.string y.spec,.string y.first,.string y.loc])) W= .ok () W:=fun J a b W=>M J a b x y W
   go_wp2
   have k0:=cell_regrown C0.out
   have m0:=cell_regrown D0.out
   have k1:=cell_regrown C1.out
   have m1:=cell_regrown D1.out
   have k2:=cell_regrown C2.out
   have m2:=cell_regrown D2.out
   simp only[Nat.add_zero] at k0 m0
   refine wp_region_quiet_below (by kernel_rfl) (by kernel_rfl) ?_
   repeat (go_big_quiet_step (fail))
   refine wpQuiet_nil ?_
   intro w2 N
   obtain⟨⟨dq,V⟩,n⟩:=N
   have I:Hid (Below w.heap.size w w2):=by show Below _ _ _;rw[n];exact H.out.trans ((below_regrown wr dq V).mono H.out.size)
   clear n k0 m0 C0 D0 k1 m1 C1 D1 k2 m2 C2 D2
   cases b with
   |true=>
    go_wp2
    go_roundg (gk-1)
    case rel=>exact⟨L,rfl,by have:=HJ.out;omega,by rw[HJ.out];have e:=zfa.1 h;exact zc2 HT.out HX.out (by rw[e];exact HY.out),I.out⟩
    case measure=>omega
   |false=>
    go_wp2
    go_ret
    exact⟨⟨false,rfl,⟨fun k=>(by cases k),fun k=>(by have e:=HX.out;rw[k,HY.out] at e;cases e;rw[zfa.2 rfl] at h;cases h)⟩⟩,I.out⟩
  ·have K: ¬(j:Int)<(l1.length:Int):=by omega
   obtain rfl:j=l1.length:=by omega
   go_wp2
   go_ret
   exact⟨⟨true,rfl,⟨fun _=>zc3 HL.out HT.out,fun _=>rfl⟩⟩,H.out⟩
theorem zlo (E: ∀(x y:Im) (W:World),Sem.run Tryz.prog (binOp .neq 84 (.agg #[.string x.spec,.string x.first,.string x.loc]) (.agg #[.string y.spec,.string y.first,.string y.loc])) W= .ok (.bool (!zc4 x y)) W) (D: ∀(O:BinOp) (a b:Operand) (x y:Im) (W:World),Sem.run Tryz.prog (eqGuard O 84 a b (.agg #[.string x.spec,.string x.first,.string x.loc]) (.agg #[.string y.spec,.string y.first,.string y.loc])) W= .ok () W) (I b2:Nat) (z q:Rw) (l1 h:List Im) (w:World) (L:OwnR w I 84 3 z l1.length (l1.flatMap imL)) (K:OwnR w b2 84 3 q h.length (h.flatMap imL)) (V:l1.length≤4294967296):
  Calls Tryz.prog 127 #[.slice z.a l1.length z.cap,.slice q.a h.length q.cap] w fun e H=>zbN (l1=h) e∧Below w.heap.size w H:=by
 by_cases j:l1.length=h.length
 ·rw[←j]
  by_cases n:l1.length=0
  ·rw[n]
   refine (zlm _ _ _ _ w).mono ?_
   rintro e H ⟨rfl,A⟩
   exact⟨⟨true,rfl,⟨fun _=>(by rw[List.eq_nil_of_length_eq_zero n,List.eq_nil_of_length_eq_zero (j.symm.trans n)]),fun _=>rfl⟩⟩,A⟩
  ·rcases L.nil_or with ⟨_,_,e⟩|⟨U,J⟩
   ·exact absurd e n
   ·rcases K.nil_or with ⟨_,_,e⟩|⟨N,M⟩
    ·exact absurd (j.trans e) n
    ·rw[J,M]
     exact zln E D I b2 U N z q l1 h w L K J M j V
 ·refine (zll _ _ _ _ _ _ w (by omega)).mono ?_
  rintro e H ⟨rfl,A⟩
  exact⟨⟨false,rfl,⟨fun k=>(by cases k),fun k=>absurd (by rw[k]) j⟩⟩,A⟩
def zc5 (x y:Ep):Bool:=x.kind==y.kind&&x.name.toList==y.name.toList&&x.loc.toList==y.loc.toList&&x.spec.toList==y.spec.toList
theorem zfb {x y:Ep}:zc5 x y=true↔x=y:=by
 constructor
 ·intro h
  unfold zc5 at h
  simp only[Bool.and_eq_true] at h
  obtain⟨⟨⟨q,j⟩,n⟩,w⟩:=h
  cases x
  cases y
  simp only at q j n w
  congr 1<;>first|(apply zet;assumption)|(apply eq_of_beq;assumption)
 ·intro h
  rw[h]
  simp[zc5]
theorem zlp (A D:Option Addr) (j n E q:Nat) (w:World) (h:(j:Int)≠(n:Int)):Calls Tryz.prog 128 #[.slice A j E,.slice D n q] w fun e z=>e= .returned (.bool false)∧Below w.heap.size w z:=by
 go_enter Tryz.func128,Tryz.ntmps128
 go_wp2
 go_ret
 exact⟨rfl,Below.refl _ _⟩
theorem zlq (n q:Option Addr) (z h:Nat) (w:World):Calls Tryz.prog 128 #[.slice n 0 z,.slice q 0 h] w fun e j=>e= .returned (.bool true)∧Below w.heap.size w j:=by
 go_enter Tryz.func128,Tryz.ntmps128
 go_wp2
 go_loopg [13] 1 (fun k i wr=>k=1∧i= .int .i64 0∧wr=w)
 case atStart=>exact⟨rfl,rfl,rfl⟩
 case round=>
  obtain⟨rfl,rfl,rfl⟩:=hrel
  go_wp2
  go_ret
  exact⟨rfl,Below.refl _ _⟩
theorem zlr (O: ∀(x y:Ep) (W:World),Sem.run Tryz.prog (binOp .neq 86 (.agg #[.int .i64 x.kind,.string x.name,.string x.loc,.string x.spec]) (.agg #[.int .i64 y.kind,.string y.name,.string y.loc,.string y.spec])) W= .ok (.bool (!zc5 x y)) W) (M: ∀(J:BinOp) (a b:Operand) (x y:Ep) (W:World),Sem.run Tryz.prog (eqGuard J 86 a b (.agg #[.int .i64 x.kind,.string x.name,.string x.loc,.string x.spec]) (.agg #[.int .i64 y.kind,.string y.name,.string y.loc,.string y.spec])) W= .ok () W) (b1 b2 g1 Y:Nat) (U r2:Rw) (l1 A:List Ep) (w:World) (q:OwnR w b1 86 4 U l1.length (l1.flatMap epL)) (n:OwnR w b2 86 4 r2 A.length (A.flatMap epL)) (e1:U.a=some ⟨g1,0,none⟩) (e2:r2.a=some ⟨Y,0,none⟩) (hl:l1.length=A.length) (X:l1.length≤4294967296):
  Calls Tryz.prog 128 #[.slice (some ⟨g1,0,none⟩) l1.length U.cap,.slice (some ⟨Y,0,none⟩) l1.length r2.cap] w fun e w'=>zbN (l1=A) e∧Below w.heap.size w w':=by
 have H1:=zc q
 have H2:=zc n
 have E1:=zc e1
 have E2:=zc e2
 have HL:=zc hl
 clear q n e1 e2 hl
 go_enter Tryz.func128,Tryz.ntmps128
 go_wp2
 go_loopg [13] l1.length (fun k i wr=>∃j:Nat,i= .int .i64 j∧j+k=l1.length∧l1.take j=A.take j∧Below w.heap.size w wr)
 case atStart=>exact⟨0,rfl,by omega,rfl,Below.refl _ _⟩
 case round=>
  obtain⟨j,rfl,hj,ht,X⟩:=hrel
  have H:=zc X
  have HT:=zc ht
  clear X ht
  by_cases D:j<l1.length
  ·have K:(j:Int)<(l1.length:Int):=by omega
   obtain⟨x,hx⟩:=zaV D
   obtain⟨y,hy⟩:=zaV (show j<A.length by rw[←HL.out];exact D)
   obtain⟨Z,ga,q⟩:=OwnR.elem (f:=epL) (m:=4) (fun _=>rfl) (H1.out.keep fun k g=>H.out.block k (H1.out.typed g).2.1) hx
   obtain rfl:Z=g1:=by have:=ga.symm.trans E1.out;simpa using this
   obtain⟨Z,gb,n⟩:=OwnR.elem (f:=epL) (m:=4) (fun _=>rfl) (H2.out.keep fun k g=>H.out.block k (H2.out.typed g).2.1) hy
   obtain rfl:Z=Y:=by have:=gb.symm.trans E2.out;simpa using this
   have C0:=zc (q 0 (by omega))
   have D0:=zc (n 0 (by omega))
   have C1:=zc (q 1 (by omega))
   have D1:=zc (n 1 (by omega))
   have C2:=zc (q 2 (by omega))
   have D2:=zc (n 2 (by omega))
   have C3:=zc (q 3 (by omega))
   have D3:=zc (n 3 (by omega))
   have HX:=zc hx
   have HY:=zc hy
   clear q n ga gb hx hy
   obtain⟨L,E⟩: ∃L,L=j+1:=⟨_,rfl⟩
   have ej:(j:Int)+1=(L:Int):=by omega
   have HJ:=zc E
   clear E
   obtain⟨b,h⟩: ∃b,zc5 x y=b:=⟨_,rfl⟩
   have aa: ∀W:World,Sem.run Tryz.prog (binOp .neq 86 (.agg #[.int .i64 x.kind,.string x.name,.string x.loc,.string x.spec]) (.agg #[.int .i64 y.kind,.string y.name,.string y.loc,.string y.spec])) W= .ok (.bool !b) W:=fun W=>by rw[O,h]
   have ab: ∀(J:BinOp) (a b:Operand) (W:World),Sem.run Tryz.prog (eqGuard J 86 a b (.agg #[.int .i64 x.kind,.string x.name,.string x.loc,.string x.spec]) (.agg #[.int .i64 y.kind,.string y.name,.string y.loc,.string y.spec])) W= .ok () W:=fun J a b W=>M J a b x y W
   go_wp2
   have k0:=cell_regrown C0.out
   have m0:=cell_regrown D0.out
   have k1:=cell_regrown C1.out
   have m1:=cell_regrown D1.out
   have k2:=cell_regrown C2.out
   have m2:=cell_regrown D2.out
   have k3:=cell_regrown C3.out
   have m3:=cell_regrown D3.out
   simp only[Nat.add_zero] at k0 m0
   refine wp_region_quiet_below (by kernel_rfl) (by kernel_rfl) ?_
   repeat (go_big_quiet_step (fail))
   refine wpQuiet_nil ?_
   intro w2 N
   obtain⟨⟨dq,V⟩,z⟩:=N
   have I:Hid (Below w.heap.size w w2):=by show Below _ _ _;rw[z];exact H.out.trans ((below_regrown wr dq V).mono H.out.size)
   clear z k0 m0 C0 D0 k1 m1 C1 D1 k2 m2 C2 D2 k3 m3 C3 D3
   cases b with
   |true=>
    go_wp2
    go_roundg (gk-1)
    case rel=>exact⟨L,rfl,by have:=HJ.out;omega,by rw[HJ.out];have e:=zfb.1 h;exact zc2 HT.out HX.out (by rw[e];exact HY.out),I.out⟩
    case measure=>omega
   |false=>
    go_wp2
    go_ret
    exact⟨⟨false,rfl,⟨fun k=>(by cases k),fun k=>(by have e:=HX.out;rw[k,HY.out] at e;cases e;rw[zfb.2 rfl] at h;cases h)⟩⟩,I.out⟩
  ·have K: ¬(j:Int)<(l1.length:Int):=by omega
   obtain rfl:j=l1.length:=by omega
   go_wp2
   go_ret
   exact⟨⟨true,rfl,⟨fun _=>zc3 HL.out HT.out,fun _=>rfl⟩⟩,H.out⟩
theorem zls (E: ∀(x y:Ep) (W:World),Sem.run Tryz.prog (binOp .neq 86 (.agg #[.int .i64 x.kind,.string x.name,.string x.loc,.string x.spec]) (.agg #[.int .i64 y.kind,.string y.name,.string y.loc,.string y.spec])) W= .ok (.bool (!zc5 x y)) W) (D: ∀(O:BinOp) (a b:Operand) (x y:Ep) (W:World),Sem.run Tryz.prog (eqGuard O 86 a b (.agg #[.int .i64 x.kind,.string x.name,.string x.loc,.string x.spec]) (.agg #[.int .i64 y.kind,.string y.name,.string y.loc,.string y.spec])) W= .ok () W) (I b2:Nat) (z q:Rw) (l1 h:List Ep) (w:World) (L:OwnR w I 86 4 z l1.length (l1.flatMap epL)) (K:OwnR w b2 86 4 q h.length (h.flatMap epL)) (V:l1.length≤4294967296):
  Calls Tryz.prog 128 #[.slice z.a l1.length z.cap,.slice q.a h.length q.cap] w fun e H=>zbN (l1=h) e∧Below w.heap.size w H:=by
 by_cases j:l1.length=h.length
 ·rw[←j]
  by_cases n:l1.length=0
  ·rw[n]
   refine (zlq _ _ _ _ w).mono ?_
   rintro e H ⟨rfl,A⟩
   exact⟨⟨true,rfl,⟨fun _=>(by rw[List.eq_nil_of_length_eq_zero n,List.eq_nil_of_length_eq_zero (j.symm.trans n)]),fun _=>rfl⟩⟩,A⟩
  ·rcases L.nil_or with ⟨_,_,e⟩|⟨U,J⟩
   ·exact absurd e n
   ·rcases K.nil_or with ⟨_,_,e⟩|⟨N,M⟩
    ·exact absurd (j.trans e) n
    ·rw[J,M]
     exact zlr E D I b2 U N z q l1 h w L K J M j V
 ·refine (zlp _ _ _ _ _ _ w (by omega)).mono ?_
  rintro e H ⟨rfl,A⟩
  exact⟨⟨false,rfl,⟨fun k=>(by cases k),fun k=>absurd (by rw[k]) j⟩⟩,A⟩
def zc6 (x y:Sm):Bool:=x.kind==y.kind&&x.name.toList==y.name.toList&&x.expr==y.expr
theorem zfc {x y:Sm}:zc6 x y=true↔x=y:=by
 constructor
 ·intro h
  unfold zc6 at h
  simp only[Bool.and_eq_true] at h
  obtain⟨⟨q,j⟩,n⟩:=h
  cases x
  cases y
  simp only at q j n
  congr 1<;>first|(apply zet;assumption)|(apply eq_of_beq;assumption)
 ·intro h
  rw[h]
  simp[zc6]
theorem zlt (A D:Option Addr) (j n E q:Nat) (w:World) (h:(j:Int)≠(n:Int)):Calls Tryz.prog 129 #[.slice A j E,.slice D n q] w fun e z=>e= .returned (.bool false)∧Below w.heap.size w z:=by
 go_enter Tryz.func129,Tryz.ntmps129
 go_wp2
 go_ret
 exact⟨rfl,Below.refl _ _⟩
theorem zlu (n q:Option Addr) (z h:Nat) (w:World):Calls Tryz.prog 129 #[.slice n 0 z,.slice q 0 h] w fun e j=>e= .returned (.bool true)∧Below w.heap.size w j:=by
 go_enter Tryz.func129,Tryz.ntmps129
 go_wp2
 go_loopg [13] 1 (fun k i wr=>k=1∧i= .int .i64 0∧wr=w)
 case atStart=>exact⟨rfl,rfl,rfl⟩
 case round=>
  obtain⟨rfl,rfl,rfl⟩:=hrel
  go_wp2
  go_ret
  exact⟨rfl,Below.refl _ _⟩
theorem zlv (O: ∀(x y:Sm) (W:World),Sem.run Tryz.prog (binOp .neq 107 (.agg #[.int .i64 x.kind,.string x.name,.int .i64 x.expr]) (.agg #[.int .i64 y.kind,.string y.name,.int .i64 y.expr])) W= .ok (.bool (!zc6 x y)) W) (M: ∀(J:BinOp) (a b:Operand) (x y:Sm) (W:World),Sem.run Tryz.prog (eqGuard J 107 a b (.agg #[.int .i64 x.kind,.string x.name,.int .i64 x.expr]) (.agg #[.int .i64 y.kind,.string y.name,.int .i64 y.expr])) W= .ok () W) (b1 b2 g1 Y:Nat) (U r2:Rw) (l1 A:List Sm) (w:World) (z:OwnR w b1 107 3 U l1.length (l1.flatMap smL)) (q:OwnR w b2 107 3 r2 A.length (A.flatMap smL)) (e1:U.a=some ⟨g1,0,none⟩) (e2:r2.a=some ⟨Y,0,none⟩) (hl:l1.length=A.length) (X:l1.length≤4294967296):
  Calls Tryz.prog 129 #[.slice (some ⟨g1,0,none⟩) l1.length U.cap,.slice (some ⟨Y,0,none⟩) l1.length r2.cap] w fun e w'=>zbN (l1=A) e∧Below w.heap.size w w':=by
 have H1:=zc z
 have H2:=zc q
 have E1:=zc e1
 have E2:=zc e2
 have HL:=zc hl
 clear z q e1 e2 hl
 go_enter Tryz.func129,Tryz.ntmps129
 go_wp2
 go_loopg [13] l1.length (fun k i wr=>∃j:Nat,i= .int .i64 j∧j+k=l1.length∧l1.take j=A.take j∧Below w.heap.size w wr)
 case atStart=>exact⟨0,rfl,by omega,rfl,Below.refl _ _⟩
 case round=>
  obtain⟨j,rfl,hj,ht,X⟩:=hrel
  have H:=zc X
  have HT:=zc ht
  clear X ht
  by_cases D:j<l1.length
  ·have K:(j:Int)<(l1.length:Int):=by omega
   obtain⟨x,hx⟩:=zaV D
   obtain⟨y,hy⟩:=zaV (show j<A.length by rw[←HL.out];exact D)
   obtain⟨Z,ga,z⟩:=OwnR.elem (f:=smL) (m:=3) (fun _=>rfl) (H1.out.keep fun k g=>H.out.block k (H1.out.typed g).2.1) hx
   obtain rfl:Z=g1:=by have:=ga.symm.trans E1.out;simpa using this
   obtain⟨Z,gb,q⟩:=OwnR.elem (f:=smL) (m:=3) (fun _=>rfl) (H2.out.keep fun k g=>H.out.block k (H2.out.typed g).2.1) hy
   obtain rfl:Z=Y:=by have:=gb.symm.trans E2.out;simpa using this
   have C0:=zc (z 0 (by omega))
   have D0:=zc (q 0 (by omega))
   have C1:=zc (z 1 (by omega))
   have D1:=zc (q 1 (by omega))
   have C2:=zc (z 2 (by omega))
   have D2:=zc (q 2 (by omega))
   have HX:=zc hx
   have HY:=zc hy
   clear z q ga gb hx hy
   obtain⟨L,E⟩: ∃L,L=j+1:=⟨_,rfl⟩
   have ej:(j:Int)+1=(L:Int):=by omega
   have HJ:=zc E
   clear E
   obtain⟨b,h⟩: ∃b,zc6 x y=b:=⟨_,rfl⟩
   have aa: ∀W:World,Sem.run Tryz.prog (binOp .neq 107 (.agg #[.int .i64 x.kind,.string x.name,.int .i64 x.expr]) (.agg #[.int .i64 y.kind,.string y.name,.int .i64 y.expr])) W= .ok (.bool !b) W:=fun W=>by rw[O,h]
   have ab: ∀(J:BinOp) (a b:Operand) (W:World),Sem.run Tryz.prog (eqGuard J 107 a b (.agg #[.int .i64 x.kind,.string x.name,.int .i64 x.expr]) (.agg #[.int .i64 y.kind,.string y.name,.int .i64 y.expr])) W= .ok () W:=fun J a b W=>M J a b x y W
   go_wp2
   have k0:=cell_regrown C0.out
   have m0:=cell_regrown D0.out
   have k1:=cell_regrown C1.out
   have m1:=cell_regrown D1.out
   have k2:=cell_regrown C2.out
   have m2:=cell_regrown D2.out
   simp only[Nat.add_zero] at k0 m0
   refine wp_region_quiet_below (by kernel_rfl) (by kernel_rfl) ?_
   repeat (go_big_quiet_step (fail))
   refine wpQuiet_nil ?_
   intro w2 N
   obtain⟨⟨dq,V⟩,n⟩:=N
   have I:Hid (Below w.heap.size w w2):=by show Below _ _ _;rw[n];exact H.out.trans ((below_regrown wr dq V).mono H.out.size)
   clear n k0 m0 C0 D0 k1 m1 C1 D1 k2 m2 C2 D2
   cases b with
   |true=>
    go_wp2
    go_roundg (gk-1)
    case rel=>exact⟨L,rfl,by have:=HJ.out;omega,by rw[HJ.out];have e:=zfc.1 h;exact zc2 HT.out HX.out (by rw[e];exact HY.out),I.out⟩
    case measure=>omega
   |false=>
    go_wp2
    go_ret
    exact⟨⟨false,rfl,⟨fun k=>(by cases k),fun k=>(by have e:=HX.out;rw[k,HY.out] at e;cases e;rw[zfc.2 rfl] at h;cases h)⟩⟩,I.out⟩
  ·have K: ¬(j:Int)<(l1.length:Int):=by omega
   obtain rfl:j=l1.length:=by omega
   go_wp2
   go_ret
   exact⟨⟨true,rfl,⟨fun _=>zc3 HL.out HT.out,fun _=>rfl⟩⟩,H.out⟩
theorem zlw (E: ∀(x y:Sm) (W:World),Sem.run Tryz.prog (binOp .neq 107 (.agg #[.int .i64 x.kind,.string x.name,.int .i64 x.expr]) (.agg #[.int .i64 y.kind,.string y.name,.int .i64 y.expr])) W= .ok (.bool (!zc6 x y)) W) (D: ∀(O:BinOp) (a b:Operand) (x y:Sm) (W:World),Sem.run Tryz.prog (eqGuard O 107 a b (.agg #[.int .i64 x.kind,.string x.name,.int .i64 x.expr]) (.agg #[.int .i64 y.kind,.string y.name,.int .i64 y.expr])) W= .ok () W) (I b2:Nat) (z q:Rw) (l1 h:List Sm) (w:World) (L:OwnR w I 107 3 z l1.length (l1.flatMap smL)) (K:OwnR w b2 107 3 q h.length (h.flatMap smL)) (V:l1.length≤4294967296):
  Calls Tryz.prog 129 #[.slice z.a l1.length z.cap,.slice q.a h.length q.cap] w fun e H=>zbN (l1=h) e∧Below w.heap.size w H:=by
 by_cases j:l1.length=h.length
 ·rw[←j]
  by_cases n:l1.length=0
  ·rw[n]
   refine (zlu _ _ _ _ w).mono ?_
   rintro e H ⟨rfl,A⟩
   exact⟨⟨true,rfl,⟨fun _=>(by rw[List.eq_nil_of_length_eq_zero n,List.eq_nil_of_length_eq_zero (j.symm.trans n)]),fun _=>rfl⟩⟩,A⟩
  ·rcases L.nil_or with ⟨_,_,e⟩|⟨U,J⟩
   ·exact absurd e n
   ·rcases K.nil_or with ⟨_,_,e⟩|⟨N,M⟩
    ·exact absurd (j.trans e) n
    ·rw[J,M]
     exact zlv E D I b2 U N z q l1 h w L K J M j V
 ·refine (zlt _ _ _ _ _ _ w (by omega)).mono ?_
  rintro e H ⟨rfl,A⟩
  exact⟨⟨false,rfl,⟨fun k=>(by cases k),fun k=>absurd (by rw[k]) j⟩⟩,A⟩
def zc7 (x y:Ex):Bool:=x.kind==y.kind&&x.num==y.num&&x.name.toList==y.name.toList&&x.field.toList==y.field.toList&&x.l==y.l&&x.r==y.r
theorem zfd {x y:Ex}:zc7 x y=true↔x=y:=by
 constructor
 ·intro h
  unfold zc7 at h
  simp only[Bool.and_eq_true] at h
  obtain⟨⟨⟨⟨⟨z,q⟩,j⟩,A⟩,n⟩,w⟩:=h
  cases x
  cases y
  simp only at z q j A n w
  congr 1<;>first|(apply zet;assumption)|(apply eq_of_beq;assumption)
 ·intro h
  rw[h]
  simp[zc7]
theorem zlx (A D:Option Addr) (j n E q:Nat) (w:World) (h:(j:Int)≠(n:Int)):Calls Tryz.prog 130 #[.slice A j E,.slice D n q] w fun e z=>e= .returned (.bool false)∧Below w.heap.size w z:=by
 go_enter Tryz.func130,Tryz.ntmps130
 go_wp2
 go_ret
 exact⟨rfl,Below.refl _ _⟩
theorem zly (n q:Option Addr) (z h:Nat) (w:World):Calls Tryz.prog 130 #[.slice n 0 z,.slice q 0 h] w fun e j=>e= .returned (.bool true)∧Below w.heap.size w j:=by
 go_enter Tryz.func130,Tryz.ntmps130
 go_wp2
 go_loopg [13] 1 (fun k i wr=>k=1∧i= .int .i64 0∧wr=w)
 case atStart=>exact⟨rfl,rfl,rfl⟩
 case round=>
  obtain⟨rfl,rfl,rfl⟩:=hrel
  go_wp2
  go_ret
  exact⟨rfl,Below.refl _ _⟩
theorem zlz (O: ∀(x y:Ex) (W:World),Sem.run Tryz.prog (binOp .neq 109 (.agg #[.int .i64 x.kind,.int .i64 x.num,.string x.name,.string x.field,.int .i64 x.l,.int .i64 x.r]) (.agg #[.int .i64 y.kind,.int .i64 y.num,.string y.name,.string y.field,.int .i64 y.l,.int .i64 y.r])) W= .ok (.bool (!zc7 x y)) W) (M: ∀(J:BinOp) (a b:Operand) (x y:Ex) (W:World),Sem.run Tryz.prog (eqGuard J 109 a b (.agg #[.int .i64 x.kind,.int .i64 x.num,.string x.name,.string x.field,.int .i64 x.l,.int .i64 x.r]) (.agg #[.int .i64 y.kind,.int .i64 y.num,.string y.name,.string y.field,.int .i64 y.l,.int .i64 y.r])) W= .ok () W) (b1 b2 g1 Y:Nat) (U r2:Rw) (l1 A:List Ex) (w:World) (n:OwnR w b1 109 6 U l1.length (l1.flatMap exL)) (h:OwnR w b2 109 6 r2 A.length (A.flatMap exL)) (e1:U.a=some ⟨g1,0,none⟩) (e2:r2.a=some ⟨Y,0,none⟩) (hl:l1.length=A.length) (X:l1.length≤4294967296):
  Calls Tryz.prog 130 #[.slice (some ⟨g1,0,none⟩) l1.length U.cap,.slice (some ⟨Y,0,none⟩) l1.length r2.cap] w fun e w'=>zbN (l1=A) e∧Below w.heap.size w w':=by
 have H1:=zc n
 have H2:=zc h
 have E1:=zc e1
 have E2:=zc e2
 have HL:=zc hl
 clear n h e1 e2 hl
 go_enter Tryz.func130,Tryz.ntmps130
 go_wp2
 go_loopg [13] l1.length (fun k i wr=>∃j:Nat,i= .int .i64 j∧j+k=l1.length∧l1.take j=A.take j∧Below w.heap.size w wr)
 case atStart=>exact⟨0,rfl,by omega,rfl,Below.refl _ _⟩
 case round=>
  obtain⟨j,rfl,hj,ht,X⟩:=hrel
  have H:=zc X
  have HT:=zc ht
  clear X ht
  by_cases D:j<l1.length
  ·have K:(j:Int)<(l1.length:Int):=by omega
   obtain⟨x,hx⟩:=zaV D
   obtain⟨y,hy⟩:=zaV (show j<A.length by rw[←HL.out];exact D)
   obtain⟨Z,ga,n⟩:=OwnR.elem (f:=exL) (m:=6) (fun _=>rfl) (H1.out.keep fun k g=>H.out.block k (H1.out.typed g).2.1) hx
   obtain rfl:Z=g1:=by have:=ga.symm.trans E1.out;simpa using this
   obtain⟨Z,gb,h⟩:=OwnR.elem (f:=exL) (m:=6) (fun _=>rfl) (H2.out.keep fun k g=>H.out.block k (H2.out.typed g).2.1) hy
   obtain rfl:Z=Y:=by have:=gb.symm.trans E2.out;simpa using this
   have C0:=zc (n 0 (by omega))
   have D0:=zc (h 0 (by omega))
   have C1:=zc (n 1 (by omega))
   have D1:=zc (h 1 (by omega))
   have C2:=zc (n 2 (by omega))
   have D2:=zc (h 2 (by omega))
   have C3:=zc (n 3 (by omega))
   have D3:=zc (h 3 (by omega))
   have C4:=zc (n 4 (by omega))
   have D4:=zc (h 4 (by omega))
   have C5:=zc (n 5 (by omega))
   have D5:=zc (h 5 (by omega))
   have HX:=zc hx
   have HY:=zc hy
   clear n h ga gb hx hy
   obtain⟨L,E⟩: ∃L,L=j+1:=⟨_,rfl⟩
   have ej:(j:Int)+1=(L:Int):=by omega
   have HJ:=zc E
   clear E
   obtain⟨b,q⟩: ∃b,zc7 x y=b:=⟨_,rfl⟩
   have aa: ∀W:World,Sem.run Tryz.prog (binOp .neq 109 (.agg #[.int .i64 x.kind,.int .i64 x.num,.string x.name,.string x.field,.int .i64 x.l,.int .i64 x.r]) (.agg #[.int .i64 y.kind,.int .i64 y.num,.string y.name,.string y.field,.int .i64 y.l,.int .i64 y.r])) W= .ok (.bool !b) W:=fun W=>by rw[O,q]
   have ab: ∀(J:BinOp) (a b:Operand) (W:World),Sem.run Tryz.prog (eqGuard J 109 a b (.agg #[.int .i64 x.kind,.int .i64 x.num,.string x.name,.string x.field,.int .i64 x.l,.int .i64 x.r]) (.agg #[.int .i64 y.kind,.int .i64 y.num,.string y.name,.string y.field,.int .i64 y.l,.int .i64 y.r])) W= .ok () W:=fun J a b W=>M J a b x y W
   go_wp2
   have k0:=cell_regrown C0.out
   have m0:=cell_regrown D0.out
   have k1:=cell_regrown C1.out
   have m1:=cell_regrown D1.out
   have k2:=cell_regrown C2.out
   have m2:=cell_regrown D2.out
   have k3:=cell_regrown C3.out
   have m3:=cell_regrown D3.out
   have k4:=cell_regrown C4.out
   have m4:=cell_regrown D4.out
   have k5:=cell_regrown C5.out
   have m5:=cell_regrown D5.out
   simp only[Nat.add_zero] at k0 m0
   refine wp_region_quiet_below (by kernel_rfl) (by kernel_rfl) ?_
   repeat (go_big_quiet_step (fail))
   refine wpQuiet_nil ?_
   intro w2 N
   obtain⟨⟨dq,V⟩,z⟩:=N
   have I:Hid (Below w.heap.size w w2):=by show Below _ _ _;rw[z];exact H.out.trans ((below_regrown wr dq V).mono H.out.size)
   clear z k0 m0 C0 D0 k1 m1 C1 D1 k2 m2 C2 D2 k3 m3 C3 D3 k4 m4 C4 D4 k5 m5 C5 D5
   cases b with
   |true=>
    go_wp2
    go_roundg (gk-1)
    case rel=>exact⟨L,rfl,by have:=HJ.out;omega,by rw[HJ.out];have e:=zfd.1 q;exact zc2 HT.out HX.out (by rw[e];exact HY.out),I.out⟩
    case measure=>omega
   |false=>
    go_wp2
    go_ret
    exact⟨⟨false,rfl,⟨fun k=>(by cases k),fun k=>(by have e:=HX.out;rw[k,HY.out] at e;cases e;rw[zfd.2 rfl] at q;cases q)⟩⟩,I.out⟩
  ·have K: ¬(j:Int)<(l1.length:Int):=by omega
   obtain rfl:j=l1.length:=by omega
   go_wp2
   go_ret
   exact⟨⟨true,rfl,⟨fun _=>zc3 HL.out HT.out,fun _=>rfl⟩⟩,H.out⟩
theorem zl0 (E: ∀(x y:Ex) (W:World),Sem.run Tryz.prog (binOp .neq 109 (.agg #[.int .i64 x.kind,.int .i64 x.num,.string x.name,.string x.field,.int .i64 x.l,.int .i64 x.r]) (.agg #[.int .i64 y.kind,.int .i64 y.num,.string y.name,.string y.field,.int .i64 y.l,.int .i64 y.r])) W= .ok (.bool (!zc7 x y)) W) (D: ∀(O:BinOp) (a b:Operand) (x y:Ex) (W:World),Sem.run Tryz.prog (eqGuard O 109 a b (.agg #[.int .i64 x.kind,.int .i64 x.num,.string x.name,.string x.field,.int .i64 x.l,.int .i64 x.r]) (.agg #[.int .i64 y.kind,.int .i64 y.num,.string y.name,.string y.field,.int .i64 y.l,.int .i64 y.r])) W= .ok () W) (I b2:Nat) (z q:Rw) (l1 h:List Ex) (w:World) (L:OwnR w I 109 6 z l1.length (l1.flatMap exL)) (K:OwnR w b2 109 6 q h.length (h.flatMap exL)) (V:l1.length≤4294967296):
  Calls Tryz.prog 130 #[.slice z.a l1.length z.cap,.slice q.a h.length q.cap] w fun e H=>zbN (l1=h) e∧Below w.heap.size w H:=by
 by_cases j:l1.length=h.length
 ·rw[←j]
  by_cases n:l1.length=0
  ·rw[n]
   refine (zly _ _ _ _ w).mono ?_
   rintro e H ⟨rfl,A⟩
   exact⟨⟨true,rfl,⟨fun _=>(by rw[List.eq_nil_of_length_eq_zero n,List.eq_nil_of_length_eq_zero (j.symm.trans n)]),fun _=>rfl⟩⟩,A⟩
  ·rcases L.nil_or with ⟨_,_,e⟩|⟨U,J⟩
   ·exact absurd e n
   ·rcases K.nil_or with ⟨_,_,e⟩|⟨N,M⟩
    ·exact absurd (j.trans e) n
    ·rw[J,M]
     exact zlz E D I b2 U N z q l1 h w L K J M j V
 ·refine (zlx _ _ _ _ _ _ w (by omega)).mono ?_
  rintro e H ⟨rfl,A⟩
  exact⟨⟨false,rfl,⟨fun k=>(by cases k),fun k=>absurd (by rw[k]) j⟩⟩,A⟩
end Go.Proofs.YtjdddblpfbmpaaaGreat
