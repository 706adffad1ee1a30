/-
  What slices.Index and slices.Contains answer over a row of texts,and strings.Clone: the walks.
  What request of impl's parser answers: the walks.
  What nameOrCall of impl's parser answers: the walk.
  What part of impl's parser answers: the walk.
  What product and sum of impl's parser answer: the walks.
  What statement of impl's parser answers: the walk.
  What the small items of impl's parser,itemWord and exportLast answer: the walks.
  Rows beside impl's parser: lists of names under way. No program is spoken of but for the numbers of its types.
  A program in memory,of any size. No program is spoken of but for the numbers of its types.
  Programs in boxes. No program is spoken of but for the numbers of its types.
  The zero program in memory. No program is spoken of but for the numbers of its types.
  What slices.Equal answers of rows of the call's own,the model's != handed in: the walks.
-/
import Derived.Test.YtjdddblpfbmpaaaGreatCmImplParseHToImplParseI
import Derived.Test.YtjdddblpfbmpaaaGreatCmShelf
namespace Go.Proofs.YtjdddblpfbmpaaaGreat
set_option maxRecDepth 100000
set_option maxHeartbeats 6400000
open Go.RowKit Go.PlainAid Go.Sort
theorem zjo (s:ByteArray) (w:World) (h:s.size≤281474976710656):
  Calls Tryz.prog 68 #[.string s] w fun e w'=>e= .returned (.string s)∧Below w.heap.size w w':=by
 go_enter Tryz.func68,Tryz.ntmps68
 go_wp2_with fail
 refine (Tryz.stringslite_Clone _ _ h).mono ?_
 rintro e q ⟨rfl,j⟩
 go_wp2
 go_ret
 exact⟨rfl,j⟩
theorem OwnR.text {w:World} {q n:Nat} {r:Rw} {l:List ByteArray} (h:OwnR w q 9 1 r n (l.map .string)) {j:Nat} (J:j<n): ∃g,r.a=some ⟨g,0,none⟩∧w.cell? ⟨g,j,none⟩=some (.string (l.getD j sNone)):=by
 rcases h.2 with ⟨_,M⟩|⟨g,I,H,z,_⟩
 ·omega
 ·simp only[Value.slice.injEq] at z
  have A:=h
  unfold OwnR at A
  rw[z.1,z.2.2] at A
  have L:l.length=n:=by have:=h.1;simpa using this
  refine⟨g,z.1,?_⟩
  rw[World.ownsRow.cellAt A j (by omega)]
  simp only[List.getElem?_map,List.getD]
  rw[List.getElem?_eq_getElem (by omega)]
  rfl
theorem znt {l:List ByteArray} {x:ByteArray} {j:Nat} (q:j<l.length):zak (l.drop j) x=((l.getD j sNone).toList==x.toList||zak (l.drop (j+1)) x):=by
 rw[List.drop_eq_getElem_cons q]
 simp only[zak,List.any_cons,List.getD,List.getElem?_eq_getElem q,Option.getD_some]
theorem znu (A g:Nat) (r:Rw) (l:List ByteArray) (x:ByteArray) (w:World) (h:OwnR w A 9 1 r l.length (l.map .string)) (hl:l.length≤1000000) (X:r.a=some ⟨g,0,none⟩):
  Calls Tryz.prog 131 #[.slice (some ⟨g,0,none⟩) l.length r.cap,.string x] w fun e w'=>(∃v:Int,e= .returned (.int .i64 v)∧decide (0≤v)=zak l x)∧w'=w:=by
 have HO:=zc h
 have N:=zc X
 clear h X
 go_enter Tryz.func131,Tryz.ntmps131
 go_wp2
 go_loopg [8] (l.length+1) (fun k i wr=>∃j:Nat,i= .int .i64 j∧j+k=l.length+1∧zak (l.drop j) x=zak l x∧wr=w)
 case atStart=>exact⟨0,rfl,by omega,by simp,rfl⟩
 case round=>
  obtain⟨j,rfl,hj,Y,rfl⟩:=hrel
  have U:=zc Y
  clear Y
  by_cases q:j<l.length
  ·have I:(j:Int)<(l.length:Int):=by omega
   obtain⟨g',H,hc⟩:=HO.out.text q
   have Z:g'=g:=by have:=H.symm.trans N.out;simpa using this
   subst Z
   clear H
   obtain⟨J,z⟩: ∃J,J=j+1:=⟨_,rfl⟩
   have ej:(j:Int)+1=(J:Int):=by omega
   have V:=zc z
   clear z
   have O:Hid (zak (l.drop j) x=((l.getD j sNone).toList==x.toList||zak (l.drop (j+1)) x)):=znt q
   generalize l.getD j sNone=y at hc O
   cases L:(x.toList==y.toList) with
   |true=>
    go_wp2
    go_ret
    refine⟨⟨_,rfl,?_⟩,rfl⟩
    have M:(y.toList==x.toList)=true:=by rw[beq_iff_eq] at L ⊢;exact L.symm
    rw[←U.out,O.out,M]
    simp
   |false=>
    go_wp2
    go_roundg (gk-1)
    case rel=>
     have M:(y.toList==x.toList)=false:=by
      rw[beq_eq_false_iff_ne] at L ⊢;exact fun e=>L e.symm
     refine⟨J,rfl,by have:=V.out;omega,?_,rfl⟩
     rw[←U.out,O.out,M,V.out]
     simp
    case measure=>omega
  ·have I: ¬(j:Int)<(l.length:Int):=by omega
   go_wp2
   go_ret
   refine⟨⟨_,rfl,?_⟩,rfl⟩
   rw[←U.out,List.drop_eq_nil_of_le (by omega)]
   rfl
theorem znv (x:ByteArray) (w:World):
  Calls Tryz.prog 131 #[.slice none 0 0,.string x] w fun e w'=>e= .returned (.int .i64 (-1))∧w'=w:=by
 go_enter Tryz.func131,Tryz.ntmps131
 go_wp2
 go_loopg [8] 1 (fun k i wr=>k=1∧i= .int .i64 0∧wr=w)
 case atStart=>exact⟨rfl,rfl,rfl⟩
 case round=>
  obtain⟨rfl,rfl,rfl⟩:=hrel
  go_wp2
  go_ret
  exact⟨rfl,rfl⟩
theorem znw (j:Nat) (r:Rw) (l:List ByteArray) (x:ByteArray) (w:World) (h:OwnR w j 9 1 r l.length (l.map .string)) (H:l.length≤1000000):
  Calls Tryz.prog 131 #[.slice r.a l.length r.cap,.string x] w fun e w'=>(∃v:Int,e= .returned (.int .i64 v)∧decide (0≤v)=zak l x)∧w'=w:=by
 rcases h.nil_or with ⟨A,I,q⟩|⟨g,z⟩
 ·rw[A,I,q]
  refine (znv x w).mono ?_
  rintro e J ⟨rfl,rfl⟩
  have:l=[]:=List.length_eq_zero_iff.1 q
  subst this
  exact⟨⟨_,rfl,rfl⟩,rfl⟩
 ·rw[z]
  exact znu j g r l x w h H z
theorem zgp (j:Nat) (r:Rw) (l:List ByteArray) (x:ByteArray) (w:World) (h:OwnR w j 9 1 r l.length (l.map .string)) (A:l.length≤1000000):
  Calls Tryz.prog 96 #[.slice r.a l.length r.cap,.string x] w fun e w'=>e= .returned (.bool (zak l x))∧w'=w:=by
 have z:=zc h
 clear h
 go_enter Tryz.func96,Tryz.ntmps96
 go_wp2_with fail
 refine (znw j r l x _ z.out A).mono ?_
 rintro e I ⟨⟨v,rfl,q⟩,rfl⟩
 have H:=zc q
 clear q
 go_wp2
 go_ret
 exact⟨zh H.out,rfl⟩
theorem Tryz.infoText:(Tryz.prog.info? 9).map (fun i=>(i.zero,i.size,i.bytes))=some (some (.string {data:=#[]}),1,16):=by kernel_rfl
def zbu (C:Cx):Prop:=∀i,(ze C i).text.size≤281474976710656
theorem znx (x:ByteArray): ∀u∈[Value.string x],u.oneCell'=true:=by
 intro u j
 simp at j
 rw[j]
 rfl
theorem zny (C:Cx) (Z A j z:Nat) (S:Sv) (q:PS) (w:World) (h:IM C Z A j z S q w) (hC:zbu C) (hk:((ze C q.pos).kind==3)=true) (hs:zak q.rq (ze C q.pos).text=false) (hn:q.rq.length<40):
  Calls Tryz.prog 206 #[.pointer (some ⟨z,0,none⟩)] w fun e w'=>e= .returned (.string (ze C q.pos).text)∧∃S',IM C Z A j z S' {adv q with rq:=q.rq++[(ze C q.pos).text]} w'∧IS z S w S' w':=by
 obtain⟨i0,hi,ab,ag,ah⟩:=info_parts Tryz.infoText
 have aj:=zcP
 have O:=hC q.pos
 go_enter Tryz.func206,Tryz.ntmps206
 go_wp2_with fail
 refine (zdX C Z A j z S q 3 _ h hk (by decide)).mono ?_
 rintro e V ⟨rfl,m1,s1⟩
 have Y:=zc m1
 have af:=zc s1
 clear m1 s1
 unfold tkV
 obtain⟨c0,c1,c2,c3,c4,c5,c6,c7,c8,c9,cf⟩:=zag Y.out.cells
 rw[show (adv q).rq=q.rq from rfl] at c4
 generalize N:(ze C q.pos).text=tx at hs O ⊢
 have aa:=zc N
 clear N
 go_wp2_with fail
 refine (zgp j S.rq q.rq tx _ Y.out.mem.own.rq (by omega)).mono ?_
 rintro e J ⟨rfl,U⟩
 rw[hs,U]
 clear U J
 go_wp2_with fail
 refine (zdY z q.rq.length 40 _ (by omega)).mono ?_
 rintro e J ⟨rfl,U⟩
 rw[U]
 clear U J
 have HN:Hid (some z≠S.rq.blk):=fun e=>Y.out.free (.inl e.symm)
 go_wp2_with fail
 go_region_law (first|(refine zdi rfl (.tmp 28) (.tmp 31) 22 rfl j 9 i0 _ 1 16 Tryz.underlying22 hi ab ag ah rfl (by decide) (by decide) S.rq q.rq.length (q.rq.map .string) (by rfl) (by exact H.out.mem.own.rq.alloc _) X.heap.size [.string tx] (by rfl) (by exact heap_alloc_new X _) rfl (znx tx) (by omega) (by exact (H.out.alloc _).mem.base) ?_;intro r' w2 hr I M;have g2:=(I.block z (by exact (H.out.alloc _).lt) HN.out).trans (by exact (H.out.alloc _).cells);obtain⟨d0,d1,d2,d3,d4,d5,d6,d7,d8,d9,df⟩:=zag g2)|(go_simp;go_wp2_with (go_at_call 68;refine (zjo _ _ O).mono ?_;rintro e X ⟨rfl,L⟩;have H:Hid (IM C Z A j z S (adv q) X):=Y.out.drew.later L;have ae:Hid (Below V.heap.size V X):=(Below.refl V.heap.size V).drew.trans L;obtain⟨e0,e1,e2,e3,e4,e5,e6,e7,e8,e9,ef⟩:=zag H.out.cells;rw[show (adv q).rq=q.rq from rfl] at e4;have ai:=H.out.lt;clear L)))
 all_goals
  have HR:=zc hr
  have ad:=zc I
  have ac:=zc M
  clear hr I M g2 c0 c1 c2 c3 c4 c5 c6 c7 c8 c9 cf e0 e1 e2 e3 e4 e5 e6 e7 e8 e9 ef
  go_wp2
  go_ret
  obtain⟨m',s'⟩:=H.out.grow_rq (x:=tx) ((Below.refl _ _).alloc (Nat.le_refl _) _) ad.out HR.out ac.out hn
  rw[aa.out]
  exact⟨rfl,_,m',af.out.trans (s'.grownI ae.out)⟩
theorem zgq (C:Cx) (J z j A:Nat) (S:Sv) (q:PS) (w:World) (h:IM C J z j A S q w) (hC:zbu C):
  Calls Tryz.prog 206 #[.pointer (some ⟨A,0,none⟩)] w (zW C J z j A (zF C q) (·.1) (fun a=>.string a.2) S w):=by
 cases H:((ze C q.pos).kind==3) with
 |false=>
  have O:=zc h
  have Z:Hid (zF C q= .error (zu C q.pos)):=by show _=_;rw[zF,H];rfl
  clear h
  go_enter Tryz.func206,Tryz.ntmps206
  go_wp2_with fail
  refine (zjm C J z j A S q 3 _ O.out H).mono ?_
  rintro e w1 ⟨rfl,X⟩
  have HB:=X.mono O.out.mem.base
  clear X
  unfold Pan
  go_wp2
  refine⟨rfl,?_⟩
  rw[Z.out]
  exact⟨rfl,HB⟩
 |true=>
  cases V:zak q.rq (ze C q.pos).text with
  |true=>
   have O:=zc h
   have Z:Hid (zF C q= .ok (adv q,(ze C q.pos).text)):=by show _=_;rw[zF,H,V];rfl
   have ab:=zcP
   have aa:=h.mem.inv.rq
   clear h
   go_enter Tryz.func206,Tryz.ntmps206
   go_wp2_with fail
   refine (zdX C J z j A S q 3 _ O.out H (by decide)).mono ?_
   rintro e w1 ⟨rfl,N,M⟩
   have I:=zc N
   have L:=zc M
   clear N M
   unfold tkV
   obtain⟨c0,c1,c2,c3,c4,c5,c6,c7,c8,c9,cf⟩:=zag I.out.cells
   rw[show (adv q).rq=q.rq from rfl] at c4
   go_wp2_with fail
   refine (zgp j S.rq q.rq (ze C q.pos).text _ I.out.mem.own.rq (by omega)).mono ?_
   rintro e U ⟨rfl,Y⟩
   rw[V,Y]
   clear Y U
   go_wp2
   go_ret
   rw[Z.out]
   exact⟨rfl,S,I.out,L.out⟩
  |false=>
   by_cases hn:q.rq.length<40
   ·refine (zny C J z j A S q w h hC H V hn).mono ?_
    rintro e w1 ⟨rfl,S1,N,M⟩
    rw[zF,H,V,if_pos rfl,if_neg (by decide),if_neg (by omega)]
    exact⟨rfl,S1,N,M⟩
   ·have O:Hid (IM C J z j A S q w):=h
    have Z:Hid (zF C q= .error (zu C q.pos)):=by show _=_;rw[zF,H,V,if_pos rfl,if_neg (by decide),if_pos (by omega)]
    have ab:=zcP
    have aa:=h.mem.inv.rq
    clear h
    go_enter Tryz.func206,Tryz.ntmps206
    go_wp2_with fail
    refine (zdX C J z j A S q 3 _ O.out H (by decide)).mono ?_
    rintro e w1 ⟨rfl,N,M⟩
    have I:=zc N
    have L:=zc M
    clear N M
    unfold tkV
    obtain⟨c0,c1,c2,c3,c4,c5,c6,c7,c8,c9,cf⟩:=zag I.out.cells
    rw[show (adv q).rq=q.rq from rfl] at c4
    go_wp2_with fail
    refine (zgp j S.rq q.rq (ze C q.pos).text _ I.out.mem.own.rq (by omega)).mono ?_
    rintro e U ⟨rfl,Y⟩
    rw[V,Y]
    clear Y U
    go_wp2_with fail
    refine (ze8 C J z j A S (adv q) q.rq.length 40 _ I.out (by omega) (by rw[zz];omega)).mono ?_
    rintro e w2 ⟨rfl,X⟩
    have HB:=(O.out.back L.out).trans (X.mono I.out.mem.base)
    clear X
    unfold Pan
    go_wp2
    refine⟨rfl,?_⟩
    rw[Z.out]
    exact⟨rfl,HB⟩
theorem bdO {α β:Type} {Y:Except Nat β} {x:Except Nat α} {f:α→Except Nat β} {a:α} (h:Y=bd x f) (j:x= .ok a):Y=f a:=by rw[h,j];rfl
theorem bdE {α β:Type} {Y:Except Nat β} {x:Except Nat α} {f:α→Except Nat β} {p:Nat} (h:Y=bd x f) (j:x= .error p):Y= .error p:=by rw[h,j];rfl
theorem zeA {α:Type} (x:Except Nat α):bd x .ok=x:=by cases x<;>rfl
abbrev cCall:ByteArray:={data:=#[40,41,123]}
abbrev cShutSemi:ByteArray:={data:=#[41,59]}
abbrev cSemiRight:ByteArray:={data:=#[59,125]}
theorem zjp (C:Cx) (b:UInt8) (q:PS):zaG C {data:=#[b]} 1 0 q=zd C 4 {data:=#[b]} q:=by
 have e:({data:=#[b]}:ByteArray).extract 0 (0+1)={data:=#[b]}:=by simp[ByteArray.extract,ByteArray.copySlice]
 rw[zaG,e]
 exact zeA _
theorem zjq (C:Cx) (b c:UInt8) (q:PS):zaG C {data:=#[b,c]} 2 0 q=bd (zd C 4 {data:=#[b]} q) (zd C 4 {data:=#[c]}):=by
 have e:({data:=#[b,c]}:ByteArray).extract 0 (0+1)={data:=#[b]}:=by simp[ByteArray.extract,ByteArray.copySlice]
 have j:({data:=#[b,c]}:ByteArray).extract (0+1) (0+1+1)={data:=#[c]}:=by simp[ByteArray.extract,ByteArray.copySlice]
 rw[zaG,e]
 refine zaf fun a _=>?_
 rw[zaG,j]
 exact zeA _
theorem znz (C:Cx) (b c d:UInt8) (q:PS):zaG C {data:=#[b,c,d]} 3 0 q=bd (zd C 4 {data:=#[b]} q) fun a=>bd (zd C 4 {data:=#[c]} a) (zd C 4 {data:=#[d]}):=by
 have e:({data:=#[b,c,d]}:ByteArray).extract 0 (0+1)={data:=#[b]}:=by simp[ByteArray.extract,ByteArray.copySlice]
 have z:({data:=#[b,c,d]}:ByteArray).extract (0+1) (0+1+1)={data:=#[c]}:=by simp[ByteArray.extract,ByteArray.copySlice]
 have j:({data:=#[b,c,d]}:ByteArray).extract (0+1+1) (0+1+1+1)={data:=#[d]}:=by simp[ByteArray.extract,ByteArray.copySlice]
 rw[zaG,e]
 refine zaf fun a _=>?_
 rw[zaG,z]
 refine zaf fun a _=>?_
 rw[zaG,j]
 exact zeA _
theorem zn0 (C:Cx) (H z j A:Nat) (S:Sv) (q:PS) (s:ByteArray) (f:PS→PR) (w:World) (h:IM C H z j A S q w) (I:zaG C s s.size 0 q=f q) (J:s.size≤100):
  Calls Tryz.prog 195 #[.pointer (some ⟨A,0,none⟩),.string s] w (zW C H z j A (f q) id (fun _=>.tuple #[]) S w):=by
 rw[←I]
 exact zhz C H z j A S q s w h J
theorem zcy (C:Cx) (H z j A:Nat) (S:Sv) (q:PS) (b:UInt8) (w:World) (h:IM C H z j A S q w):
  Calls Tryz.prog 195 #[.pointer (some ⟨A,0,none⟩),.string {data:=#[b]}] w (zW C H z j A (zd C 4 {data:=#[b]} q) id (fun _=>.tuple #[]) S w):=
 zn0 C H z j A S q {data:=#[b]} (zd C 4 {data:=#[b]}) w h (zjp C b q) (by show 1≤100;omega)
structure Six (w:World) (b:Nat) (v0 v1 v2 v3 v4 v5:Value):Prop where
 c0:w.cell? ⟨b,0,none⟩=some v0
 c1:w.cell? ⟨b,1,none⟩=some v1
 c2:w.cell? ⟨b,2,none⟩=some v2
 c3:w.cell? ⟨b,3,none⟩=some v3
 c4:w.cell? ⟨b,4,none⟩=some v4
 c5:w.cell? ⟨b,5,none⟩=some v5
 fz: ∀i,w.frozen? ⟨b,i,none⟩=false
theorem zx {w:World} {b:Nat} {t:TypeId} {v0 v1 v2 v3 v4 j:Value} (h:w.heap[b]? =some (.cells #[v0,v1,v2,v3,v4,j] t (0,0))):Six w b v0 v1 v2 v3 v4 j:=by
 constructor<;>simp[World.cell?,World.frozen?,h]
theorem IS.kept {C:Cx} {I z j A b:Nat} {S S':Sv} {q:PS} {w w':World} {o:Obj} (h:IM C I z j A S q w) (s:IS A S (w.alloc o) S' w') (H:b=w.heap.size):w'.heap[b]? =some o:=by
 subst H
 refine (s.block _ (by rw[zl];omega) (fun g=>?_) (by have:=h.lt;omega)).trans (heap_alloc_new w _)
 have:=(h.mem.own.has g).2
 omega
theorem IS.from {j:Nat} {S S':Sv} {w w':World} {o:Obj} (s:IS j S (w.alloc o) S' w'):IS j S w S' w':=(IS.below ((Below.refl _ _).alloc (Nat.le_refl _) _)).trans s
theorem IS.free {C:Cx} {H z j A:Nat} {S S':Sv} {q:PS} {w w':World} {o:Obj} (h:IM C H z j A S q w) (s:IS A S (w.alloc o) S' w'): ¬S'.has w.heap.size:=by
 intro g
 rcases s.sub _ g with k|k
 ·have:=(h.mem.own.has k).2
  omega
 ·rw[zl] at k
  omega
def zbv (C:Cx) (x:Ex) (call:Int) (q:PS):PR:=if isT C q.pos 4 zr then bd (zd C 4 za8 (adv q)) (zQ C ⟨call,x.num,x.name,x.field,x.l,x.r⟩) else zQ C x q
theorem zfr (C:Cx) (N A z J:Nat) (S:Sv) (q:PS) (x:Ex) (j:Int) (w:World) (h:IM C N A z J S q w) (hp:0<q.pos):
  Calls Tryz.prog 236 #[.pointer (some ⟨J,0,none⟩),exV x,.int .i64 j] w (zW C N A z J (zbv C x j q) id (fun q'=>.int .i64 ((q'.ex.length:Int)-1)) S w):=by
 cases hi:isT C q.pos 4 zr with
 |false=>
  have HY:Hid (zbv C x j q=zQ C x q):=by show _=_;rw[zbv,hi];rfl
  unfold exV
  go_enter Tryz.func236,Tryz.ntmps236
  go_wp2_with fail
  refine (zO C N A z J S q 4 zr _ (h.alloc _) (by decide)).mono ?_
  rintro e w1 ⟨rfl,I,s⟩
  rw[hi] at I ⊢
  have X:=s.from
  have ah:Hid (w1.heap[w.heap.size]? =some (.cells #[.int .i64 x.kind,.int .i64 x.num,.string x.name,.string x.field,.int .i64 x.l,.int .i64 x.r] 109 (0,0))):=IS.kept h s rfl
  obtain⟨b0,b1,b2,b3,b4,b5,bf⟩:=zx ah.out
  clear s
  go_wp2_with fail
  refine (ze9 C N A z J S q x _ I hp).mono ?_
  cases H:zQ C x q with
  |error p=>
   rintro e w2 ⟨rfl,U⟩
   have Y:=(h.back X).trans U
   have M:Hid (zbv C x j q= .error p):=HY.out.trans H
   unfold Pan
   go_wp2
   refine⟨rfl,?_⟩
   rw[M.out]
   exact⟨rfl,Y⟩
  |ok a2=>
   rintro e w2 ⟨rfl,S2,O,s⟩
   have ab:=X.trans s
   clear s
   have M:=zc (HY.out.trans H)
   go_wp2
   go_ret
   rw[M.out]
   exact⟨rfl,S2,O,ab⟩
 |true=>
  have HY:Hid (zbv C x j q=bd (zd C 4 za8 (adv q)) (zQ C ⟨j,x.num,x.name,x.field,x.l,x.r⟩)):=by show _=_;rw[zbv,hi];rfl
  unfold exV
  go_enter Tryz.func236,Tryz.ntmps236
  go_wp2_with fail
  refine (zO C N A z J S q 4 zr _ (h.alloc _) (by decide)).mono ?_
  rintro e w1 ⟨rfl,I,aa⟩
  rw[hi] at I ⊢
  go_wp2_with fail
  refine (zcy C N A z J S (adv q) 41 _ I).mono ?_
  cases H:zd C 4 za8 (adv q) with
  |error p=>
   rintro e w2 ⟨rfl,U⟩
   have Y:=(h.back aa.from).trans U
   have M:Hid (zbv C x j q= .error p):=bdE HY.out H
   unfold Pan
   go_wp2
   refine⟨rfl,?_⟩
   rw[M.out]
   exact⟨rfl,Y⟩
  |ok a2=>
   rintro e w2 ⟨rfl,S2,O,s⟩
   have L:=aa.trans s
   have ac:Hid (w2.heap[w.heap.size]? =some (.cells #[.int .i64 x.kind,.int .i64 x.num,.string x.name,.string x.field,.int .i64 x.l,.int .i64 x.r] 109 (0,0))):=IS.kept h L rfl
   have ag:Hid (a2=adv (adv q)):=(zbL H).1
   have ae:Hid (¬S2.has w.heap.size):=IS.free h L
   have aj:J<w.heap.size:=h.lt
   have ai:N<w.heap.size:=(zav h.mem.tok).1
   clear s
   have V:=zc (bdO HY.out H)
   obtain⟨b0,b1,b2,b3,b4,b5,bf⟩:=zx ac.out
   go_wp2_with fail
   refine (ze9 C N A z J S2 a2 ⟨j,x.num,x.name,x.field,x.l,x.r⟩ _ (O.set (by omega) (by omega) ae.out _ _) (by rw[ag.out];show 0<q.pos+1+1;omega)).mono ?_
   cases Z:zQ C ⟨j,x.num,x.name,x.field,x.l,x.r⟩ a2 with
   |error p=>
    rintro e w3 ⟨rfl,U⟩
    have Y:Below z w w3:=(h.back (L.from.new (Nat.le_refl _) _ _)).trans U
    have M:Hid (zbv C x j q= .error p):=V.out.trans Z
    unfold Pan
    go_wp2
    refine⟨rfl,?_⟩
    rw[M.out]
    exact⟨rfl,Y⟩
   |ok a3=>
    rintro e w3 ⟨rfl,S3,ad,s⟩
    have af:IS J S w S3 w3:=(L.from.new (Nat.le_refl _) _ _).trans s
    clear s
    have M:=zc (V.out.trans Z)
    go_wp2
    go_ret
    rw[M.out]
    exact⟨rfl,S3,ad,af⟩
def exI (q:PS):Value:=.int .i64 ((q.ex.length:Int)-1)
def zfs (C:Cx) (gt cap base gp m:Nat):Prop:=∀(d:Nat) (S:Sv) (q:PS) (w:World),C.ts.length-q.pos<m→d≤20→IM C gt cap base gp S q w→
 Calls Tryz.prog 217 #[.pointer (some ⟨gp,0,none⟩),.int .i64 d] w (zW C gt cap base gp (pE C .sum d q) id exI S w)
theorem zjr (C:Cx) (n:ByteArray) (q:PS):zbp C n q=zbv C ⟨2,0,n,sNone,0,0⟩ 3 q:=by
 unfold zbp zbv
 cases j:isT C q.pos 4 zr with
 |true=>rw[zcc j];rfl
 |false=>rfl
theorem zn1 (C:Cx) (n f:ByteArray) (q:PS):zbG C n f q=zbv C ⟨4,0,n,f,0,0⟩ 5 q:=by
 unfold zbG zbv
 cases j:isT C q.pos 4 zr with
 |true=>rw[zcc j];rfl
 |false=>rfl
theorem zn2 {x y:ByteArray} (h:(x.toList==y.toList)=true):x=y:=by
 rw[beq_iff_eq,Lib.toList_data,Lib.toList_data] at h
 cases x
 cases y
 simp only at h
 rw[Array.toList_inj.1 h]
theorem zh4 {C:Cx} {i:Nat} {k:Int} {x:ByteArray} (h:isT C i k x=true):(ze C i).text=x:=by
 simp only[isT,Bool.and_eq_true] at h
 exact zn2 h.2
theorem zgr {C:Cx} {i:Nat} {k:Int} {x:ByteArray} (h:isT C i k x=true):((ze C i).kind==k)=true:=by
 simp only[isT,Bool.and_eq_true] at h
 exact h.1
theorem zn3 {C:Cx} {d:Nat} {q:PS} (h:((ze C q.pos).kind==2)=true):pE C .part d q=zQ C ⟨1,(ze C q.pos).num,sNone,sNone,0,0⟩ (adv q):=by rw[zbM,h];rfl
theorem zn4 {C:Cx} {d:Nat} {q:PS} (h:((ze C q.pos).kind==2)=false) (j:isT C q.pos 4 zr=true) (z:20≤d):pE C .part d q= .error (zu C q.pos):=by rw[zbM,h,j,if_neg (by decide),if_pos rfl,if_pos z]
theorem zn5 {C:Cx} {d:Nat} {q:PS} (h:((ze C q.pos).kind==2)=false) (j:isT C q.pos 4 zr=true) (z: ¬20≤d):pE C .part d q=bd (pE C .sum (d+1) (adv q)) (zd C 4 za8):=by rw[zbM,h,j,if_neg (by decide),if_pos rfl,if_neg z]
theorem zn6 {C:Cx} {d:Nat} {q:PS} (h:((ze C q.pos).kind==2)=false) (j:isT C q.pos 4 zr=false) (z:C.scr=true) (A:isT C q.pos 1 zaE=true):pE C .part d q=zbv C ⟨2,0,zaE,sNone,0,0⟩ 3 (adv q):=by
 rw[zbM,h,j,z,A,if_neg (by decide),if_neg (by decide),if_pos (by decide),zjr]
theorem zjs {C:Cx} {d:Nat} {q:PS} (h:((ze C q.pos).kind==2)=false) (j:isT C q.pos 4 zr=false) (z:(C.scr&&isT C q.pos 1 zaE)=false):
  pE C .part d q=bd (zo C false q) fun x=>if isT C x.1.pos 4 cPoint then bd (zo C true (adv x.1)) fun y=>zbv C ⟨4,0,x.2,y.2,0,0⟩ 5 y.1 else zbv C ⟨2,0,x.2,sNone,0,0⟩ 3 x.1:=by
 rw[zbM,h,j,z,if_neg (by decide),if_neg (by decide),if_neg (by decide)]
 simp only[zjr,zn1]
theorem zn7 (C:Cx) (L z j A d:Nat) (S:Sv) (q:PS) (w:World) (h:IM C L z j A S q w) (Y:((ze C q.pos).kind==2)=true):
  Calls Tryz.prog 235 #[.pointer (some ⟨A,0,none⟩),.int .i64 d] w (zW C L z j A (pE C .part d q) id exI S w):=by
 have aa:=zdh
 have ac:=zcP
 have ab:=ze5
 have Z:=zc (zn3 (d:=d) Y)
 go_enter Tryz.func235,Tryz.ntmps235
 go_wp2_with fail
 refine (zb6 C L z j A S q _ h).mono ?_
 rintro e w1 ⟨rfl,H⟩
 unfold tkV
 have X:=h.later H
 have N:IS A S w S w1:=IS.below H
 clear H
 go_wp2_with fail
 refine (zdX C L z j A S q 2 _ X Y (by decide)).mono ?_
 rintro e w2 ⟨rfl,M,s⟩
 have I:=N.trans s
 clear s
 unfold tkV
 go_wp2_with fail
 refine (ze9 C L z j A S (adv q) ⟨1,(ze C q.pos).num,sNone,sNone,0,0⟩ _ M (by rw[zz];omega)).mono ?_
 cases J:zQ C ⟨1,(ze C q.pos).num,sNone,sNone,0,0⟩ (adv q) with
 |error p=>
  rintro e w3 ⟨rfl,H⟩
  have HB:=(h.back I).trans H
  have HX:Hid (pE C .part d q= .error p):=Z.out.trans J
  unfold Pan
  go_wp2
  refine⟨rfl,?_⟩
  rw[HX.out]
  exact⟨rfl,HB⟩
 |ok a3=>
  rintro e w3 ⟨rfl,S3,O,s⟩
  have V:=I.trans s
  clear s
  have U:=zc (Z.out.trans J)
  go_wp2
  go_ret
  rw[U.out]
  exact⟨rfl,S3,O,V⟩
theorem zn8 (C:Cx) (J z j H d:Nat) (S:Sv) (q:PS) (w:World) (h:IM C J z j H S q w) (X:((ze C q.pos).kind==2)=false) (O:isT C q.pos 4 zr=true) (U:20≤d):
  Calls Tryz.prog 235 #[.pointer (some ⟨H,0,none⟩),.int .i64 d] w (zW C J z j H (pE C .part d q) id exI S w):=by
 have Z:=zdh
 have ac:=zcP
 have ab:=ze5
 have HY:=zc (zn4 (d:=d) X O U)
 have aa:(20:Int)≤(d:Int):=by omega
 go_enter Tryz.func235,Tryz.ntmps235
 go_wp2_with fail
 refine (zb6 C J z j H S q _ h).mono ?_
 rintro e V ⟨rfl,I⟩
 unfold tkV
 have N:=h.later I
 have L:IS H S w S V:=IS.below I
 clear I
 go_wp2_with fail
 refine (zO C J z j H S q 4 zr _ N (by decide)).mono ?_
 rintro e w2 ⟨rfl,A,s⟩
 rw[O] at A ⊢
 have M:=L.trans s
 clear s
 go_wp2_with fail
 refine (ze8 C J z j H S (adv q) d 20 _ A (by omega) (by rw[zz];omega)).mono ?_
 rintro e w3 ⟨rfl,I⟩
 have Y:=(h.back M).trans (I.mono A.mem.base)
 have HX:Hid (pE C .part d q= .error (zu C q.pos)):=HY.out
 unfold Pan
 go_wp2
 refine⟨rfl,?_⟩
 rw[HX.out]
 exact⟨rfl,Y⟩
theorem zn9 (C:Cx) (L z j A m d:Nat) (S:Sv) (q:PS) (w:World) (h:IM C L z j A S q w) (hk:((ze C q.pos).kind==2)=false) (h1:isT C q.pos 4 zr=true) (hd:d<20) (hS:zfs C L z j A m) (hm:C.ts.length-q.pos≤m):
  Calls Tryz.prog 235 #[.pointer (some ⟨A,0,none⟩),.int .i64 d] w (zW C L z j A (pE C .part d q) id exI S w):=by
 have ag:=zdh
 have aj:=zcP
 have ai:=ze5
 have HY:=zc (zn5 (d:=d) hk h1 (by omega))
 have ah: ¬(20:Int)≤(d:Int):=by omega
 have af:=za9 h1 (by decide)
 obtain⟨J,U⟩: ∃J:Nat,J=d+1:=⟨_,rfl⟩
 have ed:(d:Int)+1=(J:Int):=by omega
 rw[←U] at HY
 have Y:J≤20:=by omega
 clear U
 go_enter Tryz.func235,Tryz.ntmps235
 go_wp2_with fail
 refine (zb6 C L z j A S q _ h).mono ?_
 rintro e w1 ⟨rfl,I⟩
 unfold tkV
 have ae:=h.later I
 have ab:IS A S w S w1:=IS.below I
 clear I
 go_wp2_with fail
 refine (zO C L z j A S q 4 zr _ ae (by decide)).mono ?_
 rintro e w2 ⟨rfl,M,s⟩
 rw[h1] at M ⊢
 have N:=ab.trans s
 clear s
 go_wp2_with fail
 refine (zdY A d 20 _ (by omega)).mono ?_
 rintro e w' ⟨rfl,hw⟩
 rw[hw]
 clear hw w'
 go_wp2_with fail
 refine (hS J S (adv q) _ (by rw[zz];omega) Y M).mono ?_
 cases O:pE C .sum J (adv q) with
 |error p=>
  rintro e w3 ⟨rfl,I⟩
  have HB:=(h.back N).trans I
  have HX:Hid (pE C .part d q= .error p):=bdE HY.out O
  unfold Pan
  go_wp2
  refine⟨rfl,?_⟩
  rw[HX.out]
  exact⟨rfl,HB⟩
 |ok a3=>
  rintro e w3 ⟨rfl,S3,ac,s⟩
  have X:=N.trans s
  clear s
  have V:=zc (bdO HY.out O)
  unfold exI
  go_wp2_with fail
  refine (zcy C L z j A S3 a3 41 _ ac).mono ?_
  cases H:zd C 4 za8 a3 with
  |error p=>
   rintro e w4 ⟨rfl,I⟩
   have HB:=(h.back X).trans I
   have HX:Hid (pE C .part d q= .error p):=V.out.trans H
   unfold Pan
   go_wp2
   refine⟨rfl,?_⟩
   rw[HX.out]
   exact⟨rfl,HB⟩
  |ok a4=>
   rintro e w4 ⟨rfl,S4,aa,s⟩
   have Z:=X.trans s
   clear s
   have ad:=zc (V.out.trans H)
   have HP:Hid (a4=adv a3):=(zbL H).1
   go_wp2
   go_ret
   rw[ad.out]
   exact⟨by rw[HP.out];rfl,S4,aa,Z⟩
theorem znA (C:Cx) (J z j H d:Nat) (S:Sv) (q:PS) (w:World) (h:IM C J z j H S q w) (hk:((ze C q.pos).kind==2)=false) (h1:isT C q.pos 4 zr=false) (h2:C.scr=true) (N:isT C q.pos 1 zaE=true):
  Calls Tryz.prog 235 #[.pointer (some ⟨H,0,none⟩),.int .i64 d] w (zW C J z j H (pE C .part d q) id exI S w):=by
 have ad:=zdh
 have af:=zcP
 have ae:=ze5
 have HY:=zc (zn6 (d:=d) hk h1 h2 N)
 go_enter Tryz.func235,Tryz.ntmps235
 go_wp2_with fail
 refine (zb6 C J z j H S q _ h).mono ?_
 rintro e w1 ⟨rfl,A⟩
 unfold tkV
 have ac:=h.later A
 have V:IS H S w S w1:=IS.below A
 clear A
 go_wp2_with fail
 refine (zO C J z j H S q 4 zr _ ac (by decide)).mono ?_
 rintro e w2 ⟨rfl,m,s⟩
 rw[h1] at m ⊢
 have I:=zc m
 have X:=V.trans s
 clear m s
 obtain⟨_,_,_,c3,_,_,_,_,_,_,cf⟩:=zag I.out.cells
 rw[h2] at c3
 go_wp2_with fail
 refine (zcm C J z j H S q 1 zaE _ I.out).mono ?_
 rintro e w3 ⟨rfl,A⟩
 rw[N]
 have Z:=I.out.later A
 have aa:=(X.trans (IS.below A))
 clear A
 go_wp2_with fail
 refine (zdX C J z j H S q 1 _ Z (zgr N) (by decide)).mono ?_
 rintro e w4 ⟨rfl,O,s⟩
 have M:=aa.trans s
 clear s
 unfold tkV
 rw[zh4 N]
 go_wp2_with fail
 refine (zfr C J z j H S (adv q) ⟨2,0,zaE,sNone,0,0⟩ 3 _ O (by rw[zz];omega)).mono ?_
 cases L:zbv C ⟨2,0,zaE,sNone,0,0⟩ 3 (adv q) with
 |error p=>
  rintro e w5 ⟨rfl,A⟩
  have HB:=(h.back M).trans A
  have HX:Hid (pE C .part d q= .error p):=HY.out.trans L
  unfold Pan
  go_wp2
  refine⟨rfl,?_⟩
  rw[HX.out]
  exact⟨rfl,HB⟩
 |ok a5=>
  rintro e w5 ⟨rfl,S5,U,s⟩
  have ab:=M.trans s
  clear s
  have Y:=zc (HY.out.trans L)
  go_wp2
  go_ret
  rw[Y.out]
  exact⟨rfl,S5,U,ab⟩
theorem znB (C:Cx) (N z j H d:Nat) (S:Sv) (q:PS) (w:World) (h:IM C N z j H S q w) (hk:((ze C q.pos).kind==2)=false) (h1:isT C q.pos 4 zr=false) (h2:C.scr=true) (h3:isT C q.pos 1 zaE=false):
  Calls Tryz.prog 235 #[.pointer (some ⟨H,0,none⟩),.int .i64 d] w (zW C N z j H (pE C .part d q) id exI S w):=by
 have an:=zdh
 have ap:=zcP
 have ao:=ze5
 have HY:=zc (zjs (d:=d) hk h1 (by rw[h2,h3];rfl))
 go_enter Tryz.func235,Tryz.ntmps235
 go_wp2_with fail
 refine (zb6 C N z j H S q _ h).mono ?_
 rintro e w1 ⟨rfl,A⟩
 unfold tkV
 have am:=h.later A
 have ai:IS H S w S w1:=IS.below A
 clear A
 go_wp2_with fail
 refine (zO C N z j H S q 4 zr _ am (by decide)).mono ?_
 rintro e w2 ⟨rfl,m,s⟩
 rw[h1] at m ⊢
 have X:=zc m
 have aj:=ai.trans s
 clear m s
 obtain⟨_,_,_,c3,_,_,_,_,_,_,cf⟩:=zag X.out.cells
 rw[h2] at c3
 go_wp2_with fail
 refine (zcm C N z j H S q 1 zaE _ X.out).mono ?_
 rintro e w3 ⟨rfl,A⟩
 rw[h3]
 have ak:=X.out.later A
 have ad:=(aj.trans (IS.below A))
 clear A
 go_wp2_with fail
 refine (zd2 C N z j H S q _ ak).mono ?_
 cases V:zo C false q with
 |error p=>
  rintro e w4 ⟨rfl,A⟩
  have Y:=(h.back ad).trans A
  have HX:Hid (pE C .part d q= .error p):=bdE HY.out V
  unfold Pan
  go_wp2
  refine⟨rfl,?_⟩
  rw[HX.out]
  exact⟨rfl,Y⟩
 |ok J=>
  rintro e w4 ⟨rfl,S4,ab,s⟩
  have aa:=ad.trans s
  clear s
  have ae:=zc (bdO HY.out V)
  have ac:0<J.1.pos:=by rw[(zbq V).1];exact Nat.succ_pos _
  cases hd:isT C J.1.pos 4 cPoint with
  |true=>
   have HZ:=zc (ae.out.trans (if_pos hd))
   go_wp2_with fail
   refine (zO C N z j H S4 (J.1) 4 cPoint _ ab (by decide)).mono ?_
   rintro e w5 ⟨rfl,L,s⟩
   rw[hd] at L ⊢
   have M:=aa.trans s
   clear s
   go_wp2_with fail
   refine (zfm C N z j H S4 (adv (J.1)) _ L).mono ?_
   cases I:zo C true (adv (J.1)) with
   |error p=>
    rintro e w6 ⟨rfl,A⟩
    have Y:=(h.back M).trans A
    have HX:Hid (pE C .part d q= .error p):=bdE HZ.out I
    unfold Pan
    go_wp2
    refine⟨rfl,?_⟩
    rw[HX.out]
    exact⟨rfl,Y⟩
   |ok a6=>
    rintro e w6 ⟨rfl,S6,Z,s⟩
    have O:=M.trans s
    clear s
    have U:=zc (bdO HZ.out I)
    go_wp2_with fail
    refine (zfr C N z j H S6 (a6.1) ⟨4,0,J.2,a6.2,0,0⟩ 5 _ Z (by rw[(zbq I).1];exact Nat.succ_pos _)).mono ?_
    cases af:zbv C ⟨4,0,J.2,a6.2,0,0⟩ 5 (a6.1) with
    |error p=>
     rintro e w7 ⟨rfl,A⟩
     have Y:=(h.back O).trans A
     have HX:Hid (pE C .part d q= .error p):=U.out.trans af
     unfold Pan
     go_wp2
     refine⟨rfl,?_⟩
     rw[HX.out]
     exact⟨rfl,Y⟩
    |ok a7=>
     rintro e w7 ⟨rfl,S7,ah,s⟩
     have al:=O.trans s
     clear s
     have ag:=zc (U.out.trans af)
     go_wp2
     go_ret
     rw[ag.out]
     exact⟨rfl,S7,ah,al⟩
  |false=>
   have HZ:=zc (ae.out.trans (if_neg (by rw[hd];decide)))
   go_wp2_with fail
   refine (zO C N z j H S4 (J.1) 4 cPoint _ ab (by decide)).mono ?_
   rintro e w5 ⟨rfl,L,s⟩
   rw[hd] at L ⊢
   have M:=aa.trans s
   clear s
   go_wp2_with fail
   refine (zfr C N z j H S4 (J.1) ⟨2,0,J.2,sNone,0,0⟩ 3 _ L ac).mono ?_
   cases I:zbv C ⟨2,0,J.2,sNone,0,0⟩ 3 (J.1) with
   |error p=>
    rintro e w6 ⟨rfl,A⟩
    have Y:=(h.back M).trans A
    have HX:Hid (pE C .part d q= .error p):=HZ.out.trans I
    unfold Pan
    go_wp2
    refine⟨rfl,?_⟩
    rw[HX.out]
    exact⟨rfl,Y⟩
   |ok a6=>
    rintro e w6 ⟨rfl,S6,Z,s⟩
    have O:=M.trans s
    clear s
    have U:=zc (HZ.out.trans I)
    go_wp2
    go_ret
    rw[U.out]
    exact⟨rfl,S6,Z,O⟩
theorem znC (C:Cx) (N z j H d:Nat) (S:Sv) (q:PS) (w:World) (h:IM C N z j H S q w) (hk:((ze C q.pos).kind==2)=false) (h1:isT C q.pos 4 zr=false) (h2:C.scr=false):
  Calls Tryz.prog 235 #[.pointer (some ⟨H,0,none⟩),.int .i64 d] w (zW C N z j H (pE C .part d q) id exI S w):=by
 have am:=zdh
 have ao:=zcP
 have an:=ze5
 have HY:=zc (zjs (d:=d) hk h1 (by rw[h2];rfl))
 go_enter Tryz.func235,Tryz.ntmps235
 go_wp2_with fail
 refine (zb6 C N z j H S q _ h).mono ?_
 rintro e w1 ⟨rfl,L⟩
 unfold tkV
 have ak:=h.later L
 have ah:IS H S w S w1:=IS.below L
 clear L
 go_wp2_with fail
 refine (zO C N z j H S q 4 zr _ ak (by decide)).mono ?_
 rintro e w2 ⟨rfl,m,s⟩
 rw[h1] at m ⊢
 have aa:=zc m
 have ab:=ah.trans s
 clear m s
 obtain⟨_,_,_,c3,_,_,_,_,_,_,cf⟩:=zag aa.out.cells
 rw[h2] at c3
 go_wp2_with fail
 refine (zd2 C N z j H S q _ aa.out).mono ?_
 cases Y:zo C false q with
 |error p=>
  rintro e w3 ⟨rfl,L⟩
  have X:=(h.back ab).trans L
  have Z:Hid (pE C .part d q= .error p):=bdE HY.out Y
  unfold Pan
  go_wp2
  refine⟨rfl,?_⟩
  rw[Z.out]
  exact⟨rfl,X⟩
 |ok I=>
  rintro e w3 ⟨rfl,S3,ae,s⟩
  have ag:=ab.trans s
  clear s
  have af:=zc (bdO HY.out Y)
  have ac:0<I.1.pos:=by rw[(zbq Y).1];exact Nat.succ_pos _
  cases hd:isT C I.1.pos 4 cPoint with
  |true=>
   have HZ:=zc (af.out.trans (if_pos hd))
   go_wp2_with fail
   refine (zO C N z j H S3 (I.1) 4 cPoint _ ae (by decide)).mono ?_
   rintro e w4 ⟨rfl,M,s⟩
   rw[hd] at M ⊢
   have J:=ag.trans s
   clear s
   go_wp2_with fail
   refine (zfm C N z j H S3 (adv (I.1)) _ M).mono ?_
   cases A:zo C true (adv (I.1)) with
   |error p=>
    rintro e w5 ⟨rfl,L⟩
    have X:=(h.back J).trans L
    have Z:Hid (pE C .part d q= .error p):=bdE HZ.out A
    unfold Pan
    go_wp2
    refine⟨rfl,?_⟩
    rw[Z.out]
    exact⟨rfl,X⟩
   |ok a5=>
    rintro e w5 ⟨rfl,S5,V,s⟩
    have U:=J.trans s
    clear s
    have O:=zc (bdO HZ.out A)
    go_wp2_with fail
    refine (zfr C N z j H S5 (a5.1) ⟨4,0,I.2,a5.2,0,0⟩ 5 _ V (by rw[(zbq A).1];exact Nat.succ_pos _)).mono ?_
    cases ad:zbv C ⟨4,0,I.2,a5.2,0,0⟩ 5 (a5.1) with
    |error p=>
     rintro e w6 ⟨rfl,L⟩
     have X:=(h.back U).trans L
     have Z:Hid (pE C .part d q= .error p):=O.out.trans ad
     unfold Pan
     go_wp2
     refine⟨rfl,?_⟩
     rw[Z.out]
     exact⟨rfl,X⟩
    |ok a6=>
     rintro e w6 ⟨rfl,S6,ai,s⟩
     have aj:=U.trans s
     clear s
     have al:=zc (O.out.trans ad)
     go_wp2
     go_ret
     rw[al.out]
     exact⟨rfl,S6,ai,aj⟩
  |false=>
   have HZ:=zc (af.out.trans (if_neg (by rw[hd];decide)))
   go_wp2_with fail
   refine (zO C N z j H S3 (I.1) 4 cPoint _ ae (by decide)).mono ?_
   rintro e w4 ⟨rfl,M,s⟩
   rw[hd] at M ⊢
   have J:=ag.trans s
   clear s
   go_wp2_with fail
   refine (zfr C N z j H S3 (I.1) ⟨2,0,I.2,sNone,0,0⟩ 3 _ M ac).mono ?_
   cases A:zbv C ⟨2,0,I.2,sNone,0,0⟩ 3 (I.1) with
   |error p=>
    rintro e w5 ⟨rfl,L⟩
    have X:=(h.back J).trans L
    have Z:Hid (pE C .part d q= .error p):=HZ.out.trans A
    unfold Pan
    go_wp2
    refine⟨rfl,?_⟩
    rw[Z.out]
    exact⟨rfl,X⟩
   |ok a5=>
    rintro e w5 ⟨rfl,S5,V,s⟩
    have U:=J.trans s
    clear s
    have O:=zc (HZ.out.trans A)
    go_wp2
    go_ret
    rw[O.out]
    exact⟨rfl,S5,V,U⟩
theorem zjt (C:Cx) (H z j A m d:Nat) (S:Sv) (q:PS) (w:World) (h:IM C H z j A S q w) (V:d≤20) (U:zfs C H z j A m) (O:C.ts.length-q.pos≤m):
  Calls Tryz.prog 235 #[.pointer (some ⟨A,0,none⟩),.int .i64 d] w (zW C H z j A (pE C .part d q) id exI S w):=by
 cases I:((ze C q.pos).kind==2) with
 |true=>exact zn7 C H z j A d S q w h I
 |false=>
  cases J:isT C q.pos 4 zr with
  |true=>
   by_cases L:20≤d
   ·exact zn8 C H z j A d S q w h I J L
   ·exact zn9 C H z j A m d S q w h I J (by omega) U O
  |false=>
   cases M:C.scr with
   |true=>
    cases N:isT C q.pos 1 zaE with
    |true=>exact znA C H z j A d S q w h I J M N
    |false=>exact znB C H z j A d S q w h I J M N
   |false=>exact znC C H z j A d S q w h I J M
theorem znD {C:Cx} {d:Nat} {q:PS} (h:isT C q.pos 4 zy=false):pE C .prodT d q= .ok q:=by rw[zfX,if_neg (by rw[h];decide)]
theorem znE {C:Cx} {d:Nat} {q:PS} (h:isT C q.pos 4 zy=true):pE C .prodT d q=bd (pE C .part d (adv q)) fun a=>bd (zQ C ⟨8,0,sNone,sNone,(q.ex.length:Int)-1,(a.ex.length:Int)-1⟩ a) (pE C .prodT d):=by rw[zfX,if_pos h,zP]
theorem znF {C:Cx} {d:Nat} {q:PS} (h:isT C q.pos 4 zbo=false) (j:isT C q.pos 4 zcu=false):pE C .sumT d q= .ok q:=by rw[zfd,if_neg (by rw[h,j];decide)]
theorem znG {C:Cx} {d:Nat} {q:PS} (h:isT C q.pos 4 zbo=true):pE C .sumT d q=bd (pE C .prod d (adv q)) fun a=>bd (zQ C ⟨7,0,sNone,sNone,(q.ex.length:Int)-1,(a.ex.length:Int)-1⟩ a) (pE C .sumT d):=by
 rw[zfd,if_pos (by rw[h];exact Bool.or_true _),zP,zdz,if_pos h]
theorem znH {C:Cx} {d:Nat} {q:PS} (h:isT C q.pos 4 zbo=false) (j:isT C q.pos 4 zcu=true):pE C .sumT d q=bd (pE C .prod d (adv q)) fun a=>bd (zQ C ⟨6,0,sNone,sNone,(q.ex.length:Int)-1,(a.ex.length:Int)-1⟩ a) (pE C .sumT d):=by
 rw[zfd,if_pos (by rw[j];rfl),zP,zdz,if_neg (by rw[h];decide)]
theorem zh5 (C:Cx) (L z j I m d:Nat) (S:Sv) (q:PS) (w:World) (h:IM C L z j I S q w) (hd:d≤20) (hS:zfs C L z j I m) (hm:C.ts.length-q.pos≤m):
  Calls Tryz.prog 231 #[.pointer (some ⟨I,0,none⟩),.int .i64 d] w (zW C L z j I (pE C .prod d q) id exI S w):=by
 have HY:=zc (ziM C d q)
 go_enter Tryz.func231,Tryz.ntmps231
 go_wp2_with fail
 refine (zjt C L z j I m d S q _ h hd hS hm).mono ?_
 cases N:pE C .part d q with
 |error p=>
  rintro e w1 ⟨rfl,Y⟩
  have Z:Below j w w1:=(h.back (IS.refl _ _ _)).trans Y
  have HX:Hid (pE C .prod d q= .error p):=bdE HY.out N
  unfold Pan
  go_wp2
  refine⟨rfl,?_⟩
  rw[HX.out]
  exact⟨rfl,Z⟩
 |ok a1=>
  rintro e w1 ⟨rfl,S1,al,ah⟩
  have am:=zc (bdO HY.out N)
  unfold exI
  have ap:=zbh N
  go_wp2
  go_loopg [5] (C.ts.length+1) (fun k l wr=>∃(U:Sv) (A:PS),l=exI A∧pE C .prod d q=pE C .prodT d A∧C.ts.length-A.pos<k∧C.ts.length-A.pos≤m∧IM C L z j I U A wr∧IS I S w U wr)
  case atStart=>exact⟨S1,a1,rfl,am.out,by omega,by omega,al,ah⟩
  case round=>
   obtain⟨U,A,rfl,hy,hk,ao,m',s'⟩:=hrel
   have aa:=zc hy
   have X:=m'
   have ae:=s'
   clear hy m' s'
   unfold exI
   cases hi:isT C A.pos 4 zy with
   |false=>
    have HZ:=zc (aa.out.trans (znD hi))
    go_wp2_with fail
    refine (zO C L z j I U A 4 zy _ X (by decide)).mono ?_
    rintro e w2 ⟨rfl,H,s⟩
    rw[hi] at H ⊢
    have J:=ae.trans s
    clear s
    go_wp2
    go_ret
    rw[HZ.out]
    exact⟨rfl,U,H,J⟩
   |true=>
    have an:=za9 hi (by decide)
    have HZ:=zc (aa.out.trans (znE hi))
    go_wp2_with fail
    refine (zO C L z j I U A 4 zy _ X (by decide)).mono ?_
    rintro e w2 ⟨rfl,H,s⟩
    rw[hi] at H ⊢
    have J:=ae.trans s
    clear s
    go_wp2_with fail
    refine (zjt C L z j I m d U (adv A) _ H hd hS (by rw[zz];omega)).mono ?_
    cases O:pE C .part d (adv A) with
    |error p=>
     rintro e w3 ⟨rfl,Y⟩
     have Z:=(h.back J).trans Y
     have HX:Hid (pE C .prod d q= .error p):=bdE HZ.out O
     unfold Pan
     go_wp2
     refine⟨rfl,?_⟩
     rw[HX.out]
     exact⟨rfl,Z⟩
    |ok V=>
     rintro e w3 ⟨rfl,S3,aj,s⟩
     have ad:=J.trans s
     clear s
     have ac:=zc (bdO HZ.out O)
     unfold exI
     have ab:=zbh O
     rw[zz] at ab
     have ai:0<V.pos:=by omega
     go_wp2_with fail
     refine (ze9 C L z j I S3 V ⟨8,0,sNone,sNone,(A.ex.length:Int)-1,(V.ex.length:Int)-1⟩ _ aj ai).mono ?_
     cases M:zQ C ⟨8,0,sNone,sNone,(A.ex.length:Int)-1,(V.ex.length:Int)-1⟩ V with
     |error p=>
      rintro e w4 ⟨rfl,Y⟩
      have Z:=(h.back ad).trans Y
      have HX:Hid (pE C .prod d q= .error p):=bdE ac.out M
      unfold Pan
      go_wp2
      refine⟨rfl,?_⟩
      rw[HX.out]
      exact⟨rfl,Z⟩
     |ok a4=>
      rintro e w4 ⟨rfl,S4,ag,s⟩
      have af:=ad.trans s
      clear s
      have ak:=zc (bdO ac.out M)
      have HP:Hid (a4.pos=V.pos):=by show _=_;rw[(zbr M).1]
      go_wp2
      go_roundg (gk-1)
      case rel=>exact⟨S4,a4,rfl,ak.out,by have:=HP.out;omega,by have:=HP.out;omega,ag,af⟩
      case measure=>omega
theorem znI (C:Cx) (J z j I m d:Nat) (S:Sv) (q:PS) (w:World) (h:IM C J z j I S q w) (hd:d≤20) (hS:zfs C J z j I m) (hm:C.ts.length-q.pos≤m):
  Calls Tryz.prog 217 #[.pointer (some ⟨I,0,none⟩),.int .i64 d] w (zW C J z j I (pE C .sum d q) id exI S w):=by
 have HY:=zc (ziL C d q)
 go_enter Tryz.func217,Tryz.ntmps217
 go_wp2_with fail
 refine (zh5 C J z j I m d S q _ h hd hS hm).mono ?_
 cases ae:pE C .prod d q with
 |error p=>
  rintro e w1 ⟨rfl,H⟩
  have HB:Below j w w1:=(h.back (IS.refl _ _ _)).trans H
  have HX:Hid (pE C .sum d q= .error p):=bdE HY.out ae
  unfold Pan
  go_wp2
  refine⟨rfl,?_⟩
  rw[HX.out]
  exact⟨rfl,HB⟩
 |ok a1=>
  rintro e w1 ⟨rfl,S1,aq,am⟩
  have an:=zc (bdO HY.out ae)
  unfold exI
  have aw:=zbh ae
  go_wp2
  go_loopg [5] (C.ts.length+1) (fun k l wr=>∃(L:Sv) (A:PS),l=exI A∧pE C .sum d q=pE C .sumT d A∧C.ts.length-A.pos<k∧C.ts.length-A.pos≤m∧IM C J z j I L A wr∧IS I S w L wr)
  case atStart=>exact⟨S1,a1,rfl,an.out,by omega,by omega,aq,am⟩
  case round=>
   obtain⟨L,A,rfl,hy,hk,av,m',s'⟩:=hrel
   have ah:=zc hy
   have O:=m'
   have ak:=s'
   clear hy m' s'
   unfold exI
   have au:=O.mem.few
   cases hi:isT C A.pos 4 zbo with
   |true=>
    have ad:=za9 hi (by decide)
    have HZ:=zc (ah.out.trans (znG hi))
    go_wp2_with fail
    refine (zcm C J z j I L A 4 zbo _ O).mono ?_
    rintro e w2 ⟨rfl,H⟩
    rw[hi]
    have M:Hid (IM C J z j I L A w2):=O.later H
    have Y:=(ak.trans (IS.below H))
    clear H
    obtain⟨c0,c1,c2,c3,c4,c5,c6,c7,c8,c9,cf⟩:=zag M.out.cells
    go_wp2_with fail
    have U:Hid (IM C J z j I L (adv A) (w2.setCell ⟨I,1,none⟩ (.int .i64 ((A.pos:Int)+1)))):=M.out.adv ad
    have V:IS I S w L (w2.setCell ⟨I,1,none⟩ (.int .i64 ((A.pos:Int)+1))):=Y.set _ _
    refine (zh5 C J z j I m d L (adv A) _ U.out hd hS (by rw[zz];omega)).mono ?_
    cases ac:pE C .prod d (adv A) with
    |error p=>
     rintro e w4 ⟨rfl,H⟩
     have HB:=(h.back V).trans H
     have HX:Hid (pE C .sum d q= .error p):=bdE HZ.out ac
     unfold Pan
     go_wp2
     refine⟨rfl,?_⟩
     rw[HX.out]
     exact⟨rfl,HB⟩
    |ok a4=>
     rintro e w4 ⟨rfl,S4,af,s⟩
     have X:=V.trans s
     clear s
     have al:=zc (bdO HZ.out ac)
     unfold exI
     have Z:=zbh ac
     rw[zz] at Z
     have aj:0<a4.pos:=by omega
     go_wp2_with fail
     refine (ze9 C J z j I S4 a4 ⟨7,0,sNone,sNone,(A.ex.length:Int)-1,(a4.ex.length:Int)-1⟩ _ af aj).mono ?_
     cases N:zQ C ⟨7,0,sNone,sNone,(A.ex.length:Int)-1,(a4.ex.length:Int)-1⟩ a4 with
     |error p=>
      rintro e w5 ⟨rfl,H⟩
      have HB:=(h.back X).trans H
      have HX:Hid (pE C .sum d q= .error p):=bdE al.out N
      unfold Pan
      go_wp2
      refine⟨rfl,?_⟩
      rw[HX.out]
      exact⟨rfl,HB⟩
     |ok a5=>
      rintro e w5 ⟨rfl,S5,ag,s⟩
      have ab:=X.trans s
      clear s
      have aa:=zc (bdO al.out N)
      have HP:Hid (a5.pos=a4.pos):=by show _=_;rw[(zbr N).1]
      go_wp2
      go_roundg (gk-1)
      case rel=>exact⟨S5,a5,rfl,aa.out,by have:=HP.out;omega,by have:=HP.out;omega,ag,ab⟩
      case measure=>omega
   |false=>
    cases hj:isT C A.pos 4 zcu with
    |true=>
     have ad:=za9 hj (by decide)
     have HZ:=zc (ah.out.trans (znH hi hj))
     go_wp2_with fail
     refine (zcm C J z j I L A 4 zbo _ O).mono ?_
     rintro e w2 ⟨rfl,H⟩
     rw[hi]
     have M:Hid (IM C J z j I L A w2):=O.later H
     have Y:=(ak.trans (IS.below H))
     clear H
     go_wp2_with fail
     refine (zcm C J z j I L A 4 zcu _ M.out).mono ?_
     rintro e w3 ⟨rfl,H⟩
     rw[hj]
     have U:Hid (IM C J z j I L A w3):=M.out.later H
     have V:=(Y.trans (IS.below H))
     clear H
     obtain⟨c0,c1,c2,c3,c4,c5,c6,c7,c8,c9,cf⟩:=zag U.out.cells
     go_wp2_with fail
     have af:=U.out.adv ad
     have X:IS I S w L (w3.setCell ⟨I,1,none⟩ (.int .i64 ((A.pos:Int)+1))):=V.set _ _
     refine (zh5 C J z j I m d L (adv A) _ af hd hS (by rw[zz];omega)).mono ?_
     cases N:pE C .prod d (adv A) with
     |error p=>
      rintro e w5 ⟨rfl,H⟩
      have HB:=(h.back X).trans H
      have HX:Hid (pE C .sum d q= .error p):=bdE HZ.out N
      unfold Pan
      go_wp2
      refine⟨rfl,?_⟩
      rw[HX.out]
      exact⟨rfl,HB⟩
     |ok a5=>
      rintro e w5 ⟨rfl,S5,ag,s⟩
      have ab:=X.trans s
      clear s
      have aa:=zc (bdO HZ.out N)
      unfold exI
      have Z:=zbh N
      rw[zz] at Z
      have aj:0<a5.pos:=by omega
      go_wp2_with fail
      refine (ze9 C J z j I S5 a5 ⟨6,0,sNone,sNone,(A.ex.length:Int)-1,(a5.ex.length:Int)-1⟩ _ ag aj).mono ?_
      cases ai:zQ C ⟨6,0,sNone,sNone,(A.ex.length:Int)-1,(a5.ex.length:Int)-1⟩ a5 with
      |error p=>
       rintro e w6 ⟨rfl,H⟩
       have HB:=(h.back ab).trans H
       have HX:Hid (pE C .sum d q= .error p):=bdE aa.out ai
       unfold Pan
       go_wp2
       refine⟨rfl,?_⟩
       rw[HX.out]
       exact⟨rfl,HB⟩
      |ok a6=>
       rintro e w6 ⟨rfl,S6,ao,s⟩
       have ap:=ab.trans s
       clear s
       have ar:=zc (bdO aa.out ai)
       have HP:Hid (a6.pos=a5.pos):=by show _=_;rw[(zbr ai).1]
       go_wp2
       go_roundg (gk-1)
       case rel=>exact⟨S6,a6,rfl,ar.out,by have:=HP.out;omega,by have:=HP.out;omega,ao,ap⟩
       case measure=>omega
    |false=>
     have HZ:=zc (ah.out.trans (znF hi hj))
     go_wp2_with fail
     refine (zcm C J z j I L A 4 zbo _ O).mono ?_
     rintro e w2 ⟨rfl,H⟩
     rw[hi]
     have M:Hid (IM C J z j I L A w2):=O.later H
     have Y:=(ak.trans (IS.below H))
     clear H
     go_wp2_with fail
     refine (zcm C J z j I L A 4 zcu _ M.out).mono ?_
     rintro e w3 ⟨rfl,H⟩
     rw[hj]
     have U:Hid (IM C J z j I L A w3):=M.out.later H
     have V:=(Y.trans (IS.below H))
     clear H
     go_wp2
     go_ret
     rw[HZ.out]
     exact⟨rfl,L,U.out,V⟩
theorem znJ (C:Cx) (I z j H m:Nat):zfs C I z j H m:=by
 induction m with
 |zero=>intro d S q w A;omega
 |succ m L=>intro d S q w A J h;exact znI C I z j H m d S q w h J L (by omega)
theorem znK (C:Cx) (H z j A d:Nat) (S:Sv) (q:PS) (w:World) (h:IM C H z j A S q w) (I:d≤20):
  Calls Tryz.prog 217 #[.pointer (some ⟨A,0,none⟩),.int .i64 d] w (zW C H z j A (pE C .sum d q) id exI S w):=znJ C H z j A _ d S q w (Nat.lt_succ_self _) I h
theorem zju {C:Cx} {s:ByteArray} (n:Nat): ∀{k:Nat} {q b:PS},zaG C s n k q= .ok b→b={q with pos:=q.pos+n}:=by
 induction n with
 |zero=>intro k q b h;cases h;rfl
 |succ n z=>
  intro k q b h
  rw[zaG] at h
  obtain⟨a,j,A⟩:=zf h
  rw[z A,(zbL j).1]
  show ({q with pos:=q.pos+1+n}:PS)=_
  congr 1
  omega
theorem zjv (x:Sm): ∀u∈smL x,u.oneCell'=true:=by
 intro u j
 simp[smL] at j
 rcases j with rfl|rfl|rfl<;>rfl
def stmtI (C:Cx) (k:Int) (n s:ByteArray) (q:PS):PR:=bd (pE C .sum 0 q) fun a=>bd (zaG C s s.size 0 a) fun b=>zU C k n b
theorem zed (C:Cx) (gt H j J:Nat) (S:Sv) (q:PS) (I:Int) (n s:ByteArray) (w:World) (h:IM C gt H j J S q w) (hs:s.size≤100) (h0:0<s.size):
  Calls Tryz.prog 196 #[.pointer (some ⟨J,0,none⟩),.int .i64 I,.string n,.string s] w (zW C gt H j J (stmtI C I n s q) id (fun _=>.tuple #[]) S w):=by
 obtain⟨i0,hi,ah,al,ak⟩:=info_parts Tryz.infoStmt
 have HY:=zc (stmtI.eq_1 C I n s q)
 go_enter Tryz.func196,Tryz.ntmps196
 go_wp2_with fail
 refine (znK C gt H j J 0 S q _ h (by omega)).mono ?_
 cases X:pE C .sum 0 q with
 |error p=>
  rintro e w1 ⟨rfl,V⟩
  have HB:Below j w w1:=(h.back (IS.refl _ _ _)).trans V
  have HX:Hid (stmtI C I n s q= .error p):=bdE HY.out X
  unfold Pan
  go_wp2
  refine⟨rfl,?_⟩
  rw[HX.out]
  exact⟨rfl,HB⟩
 |ok a1=>
  rintro e w1 ⟨rfl,S1,am,Y⟩
  have ad:=zc (bdO HY.out X)
  unfold exI
  go_wp2_with fail
  refine (zhz C gt H j J S1 a1 s _ am hs).mono ?_
  cases U:zaG C s s.size 0 a1 with
  |error p=>
   rintro e w2 ⟨rfl,V⟩
   have HB:=(h.back Y).trans V
   have HX:Hid (stmtI C I n s q= .error p):=bdE ad.out U
   unfold Pan
   go_wp2
   refine⟨rfl,?_⟩
   rw[HX.out]
   exact⟨rfl,HB⟩
  |ok A=>
   rintro e w2 ⟨rfl,S2,m,s⟩
   have z:=zc m
   have ab:=Y.trans s
   clear m s
   have ae:=zc (bdO ad.out U)
   have N:=zju _ U
   have ac:0<A.pos:=by rw[N];show 0<a1.pos+s.size;omega
   have HE:Hid (A.ex=a1.ex):=by show _=_;rw[N]
   clear N
   have ao:=z.out.mem.inv.st
   obtain⟨c0,c1,c2,c3,c4,c5,c6,c7,c8,c9,cf⟩:=zag z.out.cells
   go_wp2_with fail
   by_cases hn:A.st.length<80
   ·have HZ:=zc (ae.out.trans (show zU C I n A=_ from if_neg (by omega)))
    refine (zdY J A.st.length 80 _ (by omega)).mono ?_
    rintro e w' ⟨rfl,hw⟩
    rw[hw]
    clear hw w'
    have HN:Hid (some J≠S2.st.blk):=fun e=>z.out.free (.inr (.inr (.inr (.inl e.symm))))
    have an:=z.out.lt
    have L:=fun M=>(z.out.mem.own.st.alloc M)
    have Z:=fun M=>(z.out.alloc M).mem.base
    have aa:=fun M=>(z.out.alloc M).lt
    have ag:=fun M=>(z.out.alloc M).cells
    go_wp2_with (at_builtin;refine zcw _ rfl _ _ 33 rfl j 107 i0 _ 3 32 Tryz.underlying33 hi ah al ak rfl (by decide) (by decide) S2.st A.st.length _ (by rfl) (L _) w2.heap.size (smL ⟨I,n,(a1.ex.length:Int)-1⟩) (by rfl) (by exact heap_alloc_new w2 _) rfl (zjv _) (by omega) (Z _) ?_;intro r' wz hr O af;have g2:=(O.block J (aa _) HN.out).trans (ag _);obtain⟨d0,d1,d2,d3,d4,d5,d6,d7,d8,d9,df⟩:=zag g2;have HR:Hid (OwnR wz j 107 3 r' (A.st.length+1) _):=hr;have aj:Hid (World.grownBy _ wz _):=O;have ai:Hid (_∨_):=af;clear hr O af g2 c0 c1 c2 c3 c4 c5 c6 c7 c8 c9 cf L Z aa ag)
    go_wp2
    go_end0
    obtain⟨m',s'⟩:=z.out.grow_st ((Below.refl _ _).alloc (Nat.le_refl _) _) aj.out HR.out ai.out hn
    rw[HZ.out]
    rw[←HE.out] at m'
    exact⟨rfl,_,m',ab.trans s'⟩
   ·have HZ:Hid (stmtI C I n s q= .error (zu C (A.pos-1))):=ae.out.trans (if_pos (by omega))
    refine (ze8 C gt H j J S2 A A.st.length 80 _ z.out (by omega) ac).mono ?_
    rintro e wz ⟨rfl,V⟩
    have HB:=(h.back ab).trans (V.mono z.out.mem.base)
    have HX:Hid (stmtI C I n s q= .error (zu C (A.pos-1))):=HZ.out
    unfold Pan
    go_wp2
    refine⟨rfl,?_⟩
    rw[HX.out]
    exact⟨rfl,HB⟩
def letJ (C:Cx) (k:Int) (q:PS):PR:=bd (zo C false q) fun a=>bd (zd C 4 cEq a.1) fun b=>stmtI C k a.2 cSemi b
def fnI (C:Cx) (q:PS):PR:=bd (zo C false q) fun a=>bd (zaG C cCall cCall.size 0 a.1) fun b=>bd (zd C 1 zey b) fun c=>stmtI C 2 a.2 cSemiRight c
def printI (C:Cx) (q:PS):PR:=bd (zd C 4 zr q) fun a=>stmtI C 4 sNone cShutSemi a
theorem zh6 (C:Cx) (U z j A:Nat) (S:Sv) (q:PS) (w:World) (h:IM C U z j A S q w):
  Calls Tryz.prog 186 #[.pointer (some ⟨A,0,none⟩)] w (zW C U z j A (letJ C 1 q) id (fun _=>.tuple #[]) S w):=by
 have HY:=zc (letJ.eq_1 C 1 q)
 go_enter Tryz.func186,Tryz.ntmps186
 go_wp2_with fail
 refine (zd2 C U z j A S q _ h).mono ?_
 cases H:zo C false q with
 |error p=>
  rintro e w1 ⟨rfl,I⟩
  have N:Below j w w1:=(h.back (IS.refl _ _ _)).trans I
  have Y:Hid (letJ C 1 q= .error p):=bdE HY.out H
  unfold Pan
  go_wp2
  refine⟨rfl,?_⟩
  rw[Y.out]
  exact⟨rfl,N⟩
 |ok Z=>
  rintro e w1 ⟨rfl,S1,ae,L⟩
  have X:=zc (bdO HY.out H)
  go_wp2_with fail
  refine (zcy C U z j A S1 (Z.1) 61 _ ae).mono ?_
  cases V:zd C 4 cEq (Z.1) with
  |error p=>
   rintro e w2 ⟨rfl,I⟩
   have N:=(h.back L).trans I
   have Y:Hid (letJ C 1 q= .error p):=bdE X.out V
   unfold Pan
   go_wp2
   refine⟨rfl,?_⟩
   rw[Y.out]
   exact⟨rfl,N⟩
  |ok a2=>
   rintro e w2 ⟨rfl,S2,aa,s⟩
   have M:=L.trans s
   clear s
   have J:=zc (bdO X.out V)
   go_wp2_with fail
   refine (zed C U z j A S2 a2 1 Z.2 cSemi _ aa (by decide) (by decide)).mono ?_
   cases O:stmtI C 1 Z.2 cSemi a2 with
   |error p=>
    rintro e w3 ⟨rfl,I⟩
    have N:=(h.back M).trans I
    have Y:Hid (letJ C 1 q= .error p):=J.out.trans O
    unfold Pan
    go_wp2
    refine⟨rfl,?_⟩
    rw[Y.out]
    exact⟨rfl,N⟩
   |ok a3=>
    rintro e w3 ⟨rfl,S3,ab,s⟩
    have ad:=M.trans s
    clear s
    have ac:=zc (J.out.trans O)
    go_wp2
    go_end0
    rw[ac.out]
    exact⟨rfl,S3,ab,ad⟩
theorem zjw (C:Cx) (U z j A:Nat) (S:Sv) (q:PS) (w:World) (h:IM C U z j A S q w):
  Calls Tryz.prog 165 #[.pointer (some ⟨A,0,none⟩)] w (zW C U z j A (letJ C 3 q) id (fun _=>.tuple #[]) S w):=by
 have HY:=zc (letJ.eq_1 C 3 q)
 go_enter Tryz.func165,Tryz.ntmps165
 go_wp2_with fail
 refine (zd2 C U z j A S q _ h).mono ?_
 cases H:zo C false q with
 |error p=>
  rintro e w1 ⟨rfl,I⟩
  have N:Below j w w1:=(h.back (IS.refl _ _ _)).trans I
  have Y:Hid (letJ C 3 q= .error p):=bdE HY.out H
  unfold Pan
  go_wp2
  refine⟨rfl,?_⟩
  rw[Y.out]
  exact⟨rfl,N⟩
 |ok Z=>
  rintro e w1 ⟨rfl,S1,ae,L⟩
  have X:=zc (bdO HY.out H)
  go_wp2_with fail
  refine (zcy C U z j A S1 (Z.1) 61 _ ae).mono ?_
  cases V:zd C 4 cEq (Z.1) with
  |error p=>
   rintro e w2 ⟨rfl,I⟩
   have N:=(h.back L).trans I
   have Y:Hid (letJ C 3 q= .error p):=bdE X.out V
   unfold Pan
   go_wp2
   refine⟨rfl,?_⟩
   rw[Y.out]
   exact⟨rfl,N⟩
  |ok a2=>
   rintro e w2 ⟨rfl,S2,aa,s⟩
   have M:=L.trans s
   clear s
   have J:=zc (bdO X.out V)
   go_wp2_with fail
   refine (zed C U z j A S2 a2 3 Z.2 cSemi _ aa (by decide) (by decide)).mono ?_
   cases O:stmtI C 3 Z.2 cSemi a2 with
   |error p=>
    rintro e w3 ⟨rfl,I⟩
    have N:=(h.back M).trans I
    have Y:Hid (letJ C 3 q= .error p):=J.out.trans O
    unfold Pan
    go_wp2
    refine⟨rfl,?_⟩
    rw[Y.out]
    exact⟨rfl,N⟩
   |ok a3=>
    rintro e w3 ⟨rfl,S3,ab,s⟩
    have ad:=M.trans s
    clear s
    have ac:=zc (J.out.trans O)
    go_wp2
    go_end0
    rw[ac.out]
    exact⟨rfl,S3,ab,ad⟩
theorem zh7 (C:Cx) (L z j H:Nat) (S:Sv) (q:PS) (w:World) (h:IM C L z j H S q w):
  Calls Tryz.prog 187 #[.pointer (some ⟨H,0,none⟩)] w (zW C L z j H (fnI C q) id (fun _=>.tuple #[]) S w):=by
 have HY:=zc (fnI.eq_1 C q)
 go_enter Tryz.func187,Tryz.ntmps187
 go_wp2_with fail
 refine (zd2 C L z j H S q _ h).mono ?_
 cases N:zo C false q with
 |error p=>
  rintro e w1 ⟨rfl,A⟩
  have I:Below j w w1:=(h.back (IS.refl _ _ _)).trans A
  have J:Hid (fnI C q= .error p):=bdE HY.out N
  unfold Pan
  go_wp2
  refine⟨rfl,?_⟩
  rw[J.out]
  exact⟨rfl,I⟩
 |ok a1=>
  rintro e w1 ⟨rfl,S1,ah,U⟩
  have ab:=zc (bdO HY.out N)
  go_wp2_with fail
  refine (zhz C L z j H S1 (a1.1) cCall _ ah (by decide)).mono ?_
  cases aa:zaG C cCall cCall.size 0 (a1.1) with
  |error p=>
   rintro e w2 ⟨rfl,A⟩
   have I:=(h.back U).trans A
   have J:Hid (fnI C q= .error p):=bdE ab.out aa
   unfold Pan
   go_wp2
   refine⟨rfl,?_⟩
   rw[J.out]
   exact⟨rfl,I⟩
  |ok a2=>
   rintro e w2 ⟨rfl,S2,ad,s⟩
   have V:=U.trans s
   clear s
   have O:=zc (bdO ab.out aa)
   go_wp2_with fail
   refine (ze7 C L z j H S2 a2 zey _ ad).mono ?_
   cases X:zd C 1 zey a2 with
   |error p=>
    rintro e w3 ⟨rfl,A⟩
    have I:=(h.back V).trans A
    have J:Hid (fnI C q= .error p):=bdE O.out X
    unfold Pan
    go_wp2
    refine⟨rfl,?_⟩
    rw[J.out]
    exact⟨rfl,I⟩
   |ok a3=>
    rintro e w3 ⟨rfl,S3,af,s⟩
    have Z:=V.trans s
    clear s
    have Y:=zc (bdO O.out X)
    go_wp2_with fail
    refine (zed C L z j H S3 a3 2 a1.2 cSemiRight _ af (by decide) (by decide)).mono ?_
    cases M:stmtI C 2 a1.2 cSemiRight a3 with
    |error p=>
     rintro e w4 ⟨rfl,A⟩
     have I:=(h.back Z).trans A
     have J:Hid (fnI C q= .error p):=Y.out.trans M
     unfold Pan
     go_wp2
     refine⟨rfl,?_⟩
     rw[J.out]
     exact⟨rfl,I⟩
    |ok a4=>
     rintro e w4 ⟨rfl,S4,ae,s⟩
     have ac:=Z.trans s
     clear s
     have ag:=zc (Y.out.trans M)
     go_wp2
     go_end0
     rw[ag.out]
     exact⟨rfl,S4,ae,ac⟩
theorem zjx (C:Cx) (M z j H:Nat) (S:Sv) (q:PS) (w:World) (h:IM C M z j H S q w):
  Calls Tryz.prog 188 #[.pointer (some ⟨H,0,none⟩)] w (zW C M z j H (printI C q) id (fun _=>.tuple #[]) S w):=by
 have HY:=zc (printI.eq_1 C q)
 go_enter Tryz.func188,Tryz.ntmps188
 go_wp2_with fail
 refine (zcy C M z j H S q 40 _ h).mono ?_
 cases A:zd C 4 zr q with
 |error p=>
  rintro e w1 ⟨rfl,O⟩
  have X:Below j w w1:=(h.back (IS.refl _ _ _)).trans O
  have Z:Hid (printI C q= .error p):=bdE HY.out A
  unfold Pan
  go_wp2
  refine⟨rfl,?_⟩
  rw[Z.out]
  exact⟨rfl,X⟩
 |ok a1=>
  rintro e w1 ⟨rfl,S1,Y,I⟩
  have L:=zc (bdO HY.out A)
  go_wp2_with fail
  refine (zed C M z j H S1 a1 4 sNone cShutSemi _ Y (by decide) (by decide)).mono ?_
  cases J:stmtI C 4 sNone cShutSemi a1 with
  |error p=>
   rintro e w2 ⟨rfl,O⟩
   have X:=(h.back I).trans O
   have Z:Hid (printI C q= .error p):=L.out.trans J
   unfold Pan
   go_wp2
   refine⟨rfl,?_⟩
   rw[Z.out]
   exact⟨rfl,X⟩
  |ok a2=>
   rintro e w2 ⟨rfl,S2,N,s⟩
   have V:=I.trans s
   clear s
   have U:=zc (L.out.trans J)
   go_wp2
   go_end0
   rw[U.out]
   exact⟨rfl,S2,N,V⟩
theorem zjy (C:Cx) (H z j A:Nat) (S:Sv) (q:PS) (w:World) (h:IM C H z j A S q w):
  Calls Tryz.prog 189 #[.pointer (some ⟨A,0,none⟩)] w (zW C H z j A (stmtI C 5 sNone cSemi q) id (fun _=>.tuple #[]) S w):=by
 go_enter Tryz.func189,Tryz.ntmps189
 go_wp2_with fail
 refine (zed C H z j A S q 5 sNone cSemi _ h (by decide) (by decide)).mono ?_
 cases I:stmtI C 5 sNone cSemi q with
 |error p=>
  rintro e J ⟨rfl,N⟩
  unfold Pan
  go_wp2
  refine⟨rfl,?_⟩
  rw[I]
  exact⟨rfl,N⟩
 |ok a=>
  rintro e J ⟨rfl,L,M,O⟩
  go_wp2
  go_end0
  rw[I]
  exact⟨rfl,L,M,O⟩
theorem znL (C:Cx) (H z j A:Nat) (S:Sv) (q:PS) (w:World) (h:IM C H z j A S q w):
  Calls Tryz.prog 190 #[.pointer (some ⟨A,0,none⟩)] w (zW C H z j A (stmtI C 6 sNone cSemi q) id (fun _=>.tuple #[]) S w):=by
 go_enter Tryz.func190,Tryz.ntmps190
 go_wp2_with fail
 refine (zed C H z j A S q 6 sNone cSemi _ h (by decide) (by decide)).mono ?_
 cases I:stmtI C 6 sNone cSemi q with
 |error p=>
  rintro e J ⟨rfl,O⟩
  unfold Pan
  go_wp2
  refine⟨rfl,?_⟩
  rw[I]
  exact⟨rfl,O⟩
 |ok a=>
  rintro e J ⟨rfl,L,M,N⟩
  go_wp2
  go_end0
  rw[I]
  exact⟨rfl,L,M,N⟩
def zcC (C:Cx) (i:Nat):ByteArray:=if (ze C i).kind==1 then (ze C i).text else sNone
theorem zjz (C:Cx) (J z j H:Nat) (S:Sv) (q:PS) (w:World) (h:IM C J z j H S q w):
  Calls Tryz.prog 164 #[.pointer (some ⟨H,0,none⟩)] w fun e w'=>e= .returned (.string (zcC C q.pos))∧Below w.heap.size w w':=by
 cases L:((ze C q.pos).kind==1) with
 |true=>
  have I:Hid (zcC C q.pos=(ze C q.pos).text):=by show _=_;rw[zcC,L];rfl
  go_enter Tryz.func164,Tryz.ntmps164
  go_wp2_with fail
  refine (zb6 C J z j H S q _ h).mono ?_
  rintro e M ⟨rfl,A⟩
  unfold tkV
  go_wp2
  go_ret
  rw[I.out]
  exact⟨rfl,A.alloc A.size _⟩
 |false=>
  have I:Hid (zcC C q.pos=sNone):=by show _=_;rw[zcC,L];rfl
  go_enter Tryz.func164,Tryz.ntmps164
  go_wp2_with fail
  refine (zb6 C J z j H S q _ h).mono ?_
  rintro e M ⟨rfl,A⟩
  unfold tkV
  go_wp2
  go_ret
  rw[I.out]
  exact⟨rfl,A.alloc A.size _⟩
theorem OwnR.stmtName {w:World} {j:Nat} {r:Rw} {l:List Sm} {x:Sm} (h:OwnR w j 107 3 r (l++[x]).length ((l++[x]).flatMap smL)): ∃g,r.a=some ⟨g,0,none⟩∧w.cell? ⟨g,l.length*3+1,none⟩=some (.string x.name):=by
 rcases h.2 with ⟨_,L⟩|⟨g,J,I,q,_⟩
 ·simp at L
 ·simp only[Value.slice.injEq] at q
  have z:=h
  unfold OwnR at z
  rw[q.1,q.2.2] at z
  refine⟨g,q.1,?_⟩
  rw[World.ownsRow.cellAt z _ (by simp;omega)]
  have A: ∀l:List Sm,(l.flatMap smL).length=l.length*3:=by
   intro l
   induction l with
   |nil=>rfl
   |cons y l H=>simp[List.flatMap_cons,smL,H] at H ⊢;omega
  rw[List.flatMap_append,List.getElem?_append_right (by rw[A];omega),A]
  simp[smL]
theorem znM (C:Cx) (V A j I:Nat) (S:Sv) (q:PS) (l:List Sm) (x:Sm) (w:World) (h:IM C V A j I S q w) (Y:q.st=l++[x]) (O:x.name.size≤281474976710656) (hp:0<q.pos):
  Calls Tryz.prog 213 #[.pointer (some ⟨I,0,none⟩)] w (zW C V A j I (zq C ⟨1,x.name,x.name,sNone⟩ q) id (fun _=>.tuple #[]) S w):=by
 obtain⟨_,_,_,_,_,_,_,J,_,_,_⟩:=zag h.cells
 have U:=h.mem.own.st
 rw[Y] at U J
 obtain⟨g,hg,hc⟩:=U.stmtName
 have M:=h.mem.inv.st
 rw[Y] at M
 have L:(l++[x]).length=l.length+1:=by simp
 rw[L] at J M
 rw[hg] at J
 have C7:=zc J
 have CN:=zc hc
 have e1:((l.length+1:Nat):Int)-1=(l.length:Int):=by omega
 have e2:(l.length:Int)+1-1=(l.length:Int):=by omega
 have ad:IntKind.i64.wrap (l.length:Int)=(l.length:Int):=IntWalk.i64_in _ ⟨by omega,by omega⟩
 have aa:(l.length:Int)<((l.length+1:Nat):Int):=by omega
 have ab:(l.length:Int)<(l.length:Int)+1:=by omega
 have cC: ∀d os,Calls Tryz.prog 68 #[.string x.name] (grow (redrawn w d) os) fun e X=>e= .returned (.string x.name)∧∃p:Regrown,X=grow (redrawn w p.d) p.os:=fun d os=>Calls.regrown_of (zjo _ _ O)
 clear J hc U hg Y
 go_enter Tryz.func213,Tryz.ntmps213
 go_wp2_with fail
 have k7:=cell_regrown C7.out
 have kN:=cell_regrown CN.out
 refine wp_region_quiet_below (by kernel_rfl) (by kernel_rfl) ?_
 repeat (go_big_quiet_step (exact cC _ _))
 refine wpQuiet_nil ?_
 intro w1 N
 obtain⟨⟨dq,ac⟩,z⟩:=N
 have H:Below w.heap.size w w1:=by show Below _ _ _;rw[z];exact below_regrown _ _ _
 clear z k7 kN cC C7 CN
 have Z:=h.later H
 go_wp2_with fail
 refine (zfq C V A j I S q ⟨1,x.name,x.name,sNone⟩ _ Z hp).mono ?_
 cases hn:zq C ⟨1,x.name,x.name,sNone⟩ q with
 |error p=>
  rintro e w2 ⟨rfl,hb⟩
  have HB:=(H.mono h.mem.base).trans hb
  unfold Pan
  go_wp2
  refine⟨rfl,?_⟩
  rw[hn]
  exact⟨rfl,HB⟩
 |ok a=>
  rintro e w2 ⟨rfl,S1,HM,s⟩
  have HS:IS I S w S1 w2:=(IS.below H).trans s
  clear s
  go_wp2
  go_end0
  rw[hn]
  exact⟨rfl,S1,HM,HS⟩
def Fr (e:TypeId) (size:Nat) (w:World) (b:Nat) (r:Rw) (n:Nat) (xs:List Value) (S:Sv):Prop:=OwnR w b e size r n xs∧∀k,r.blk=some k→¬S.has k
theorem Fr.ngp {C:Cx} {J z j A size b n:Nat} {S:Sv} {q:PS} {w:World} {e:TypeId} {r:Rw} {xs:List Value} (f:Fr e size w b r n xs S) (h:IM C J z j A S q w) (I:e≠160) {k:Nat} (H:r.blk=some k):k≠A:=by
 rintro rfl
 obtain⟨_,_,c,g⟩:=f.1.typed H
 rw[h.cells] at g
 simp only[Option.some.injEq,Obj.cells.injEq] at g
 exact I g.2.1.symm
theorem Fr.ngt {C:Cx} {A z j I size b n:Nat} {S:Sv} {q:PS} {w:World} {e:TypeId} {r:Rw} {xs:List Value} (f:Fr e size w b r n xs S) (h:IM C A z j I S q w) (J:e≠143) {k:Nat} (H:r.blk=some k):k≠A:=by
 rintro rfl
 obtain⟨_,_,c,g⟩:=f.1.typed H
 obtain⟨M,L⟩:=zgc h.mem.tok
 rw[L] at g
 simp only[Option.some.injEq,Obj.cells.injEq] at g
 exact J g.2.1.symm
theorem Fr.step {C:Cx} {L z j A size b n:Nat} {S S':Sv} {q:PS} {w w':World} {e:TypeId} {r:Rw} {xs:List Value} (f:Fr e size w b r n xs S) (h:IM C L z j A S q w) (I:e≠160) (s:IS A S w S' w'):Fr e size w' b r n xs S':=by
 refine⟨f.1.keep fun k g=>s.block k (f.1.typed g).2.1 (f.2 k g) (f.ngp h I g),fun k g J=>?_⟩
 rcases s.sub k J with H|H
 ·exact f.2 k g H
 ·have:=(f.1.typed g).2.1
  omega
theorem Fr.low {size b j n:Nat} {S:Sv} {w:World} {e:TypeId} {r:Rw} {xs:List Value} (f:Fr e size w b r n xs S) (q:j≤b):Fr e size w j r n xs S:=⟨f.1.low q,f.2⟩
theorem Fr.later {size b n:Nat} {S:Sv} {w w':World} {e:TypeId} {r:Rw} {xs:List Value} (f:Fr e size w b r n xs S) (j:Below w.heap.size w w'):Fr e size w' b r n xs S:=⟨f.1.keep fun k g=>j.block k (f.1.typed g).2.1,f.2⟩
theorem IM.aside {C:Cx} {A H j z:Nat} {S:Sv} {q:PS} {W L:World} {b:Option Nat} (h:IM C A H j z S q W) (I:W.grownBy L b) (J: ∀k,b=some k→¬S.has k∧k≠z∧k≠A):IM C A H j z S q L:=by
 refine⟨⟨h.mem.own.keep fun k g=>I.block k (h.mem.own.has g).2 fun e=>(J k e.symm).1 g,h.mem.inv,zbI h.mem.tok (I.block A (zav h.mem.tok).1 fun e=>(J A e.symm).2.2 rfl),h.mem.few,Nat.le_trans h.mem.base I.size⟩,(I.block z h.lt fun e=>(J z e.symm).2.1 rfl).trans h.cells,h.ge⟩
theorem IS.aside {A:Nat} {S H:Sv} {w W I:World} {b:Option Nat} (s:IS A S w H W) (j:W.grownBy I b) (J: ∀k,b=some k→w.heap.size≤k):IS A S w H I:=
 ⟨j.os.trans s.os,j.tape.trans s.tape,j.output.trans s.output,Nat.le_trans s.size j.size,fun k z L q=>(j.block k (Nat.lt_of_lt_of_le z s.size) fun e=>by have:=J k e.symm;omega).trans (s.block k z L q),s.sub⟩
theorem Fr.grown {size b n:Nat} {S:Sv} {W L:World} {e:TypeId} {r z:Rw} {xs J:List Value} {C:Cx} {U A j N:Nat} {q:PS} (f:Fr e size W b r n xs S) (h:IM C U A j N S q W) (O:OwnR L b e size z (n+1) J) (I:z.blk=r.blk∨z.blk=some W.heap.size):Fr e size L b z (n+1) J S:=by
 refine⟨O,fun k g M=>?_⟩
 rcases I with H|H
 ·exact f.2 k (H.symm.trans g) M
 ·have V:W.heap.size=k:=Option.some.inj (H.symm.trans g)
  have:=(h.mem.own.has M).2
  omega
theorem znN {α:Type} (f:α→List Value) (m:Nat) (q: ∀x,(f x).length=m): ∀(l:List α) (j i:Nat) (x:α),l[j]? =some x→i<m→(l.flatMap f)[j*m+i]? =(f x)[i]?:=by
 intro l
 induction l with
 |nil=>intro j i x h;simp at h
 |cons y l A=>
  intro j i x h z
  rw[List.flatMap_cons]
  match j with
  |0=>
   simp only[List.getElem?_cons_zero,Option.some.injEq] at h
   subst h
   rw[Nat.zero_mul,Nat.zero_add,List.getElem?_append_left (by rw[q];exact z)]
  |j+1=>
   simp only[List.getElem?_cons_succ] at h
   rw[List.getElem?_append_right (by rw[q,Nat.succ_mul];omega),q,←A j i x h z]
   congr 1
   rw[Nat.succ_mul]
   omega
theorem OwnR.elem {α:Type} {f:α→List Value} {m:Nat} (L: ∀x,(f x).length=m) {w:World} {q:Nat} {e:TypeId} {r:Rw} {l:List α} (h:OwnR w q e m r l.length (l.flatMap f)) {j:Nat} {x:α} (I:l[j]? =some x): ∃g,r.a=some ⟨g,0,none⟩∧∀i,i<m→w.cell? ⟨g,j*m+i,none⟩=(f x)[i]?:=by
 have A:j<l.length:=(List.getElem?_eq_some_iff.1 I).1
 rcases h.2 with ⟨_,U⟩|⟨g,M,J,z,_⟩
 ·omega
 ·simp only[Value.slice.injEq] at z
  have H:=h
  unfold OwnR at H
  rw[z.1,z.2.2] at H
  refine⟨g,z.1,fun i O=>?_⟩
  have N:j*m+i<l.length*m:=by
   have:=Nat.mul_le_mul_right m A
   rw[Nat.succ_mul] at this
   omega
  rw[World.ownsRow.cellAt H _ N]
  exact znN f m L l j i x I O
structure OwnMd (w:World) (base:Nat) (S:Sv) (m:Md):Prop where
 rq:OwnR w base 9 1 S.rq m.rq.length (m.rq.map .string)
 im:OwnR w base 84 3 S.im m.im.length (m.im.flatMap imL)
 ep:OwnR w base 86 4 S.ep m.ep.length (m.ep.flatMap epL)
 st:OwnR w base 107 3 S.st m.st.length (m.st.flatMap smL)
 ex:OwnR w base 109 6 S.ex m.ex.length (m.ex.flatMap exL)
theorem OwnMod.md {w:World} {j:Nat} {S:Sv} {q:PS} (h:OwnMod w j S q):OwnMd w j S (zdT q):=⟨h.rq,h.im,h.ep,h.st,h.ex⟩
theorem OwnMd.later {w w':World} {j:Nat} {S:Sv} {m:Md} (h:OwnMd w j S m) (q:Below w.heap.size w w'):OwnMd w' j S m:=
 ⟨h.rq.keep fun k g=>q.block k (h.rq.typed g).2.1,h.im.keep fun k g=>q.block k (h.im.typed g).2.1,h.ep.keep fun k g=>q.block k (h.ep.typed g).2.1,h.st.keep fun k g=>q.block k (h.st.typed g).2.1,h.ex.keep fun k g=>q.block k (h.ex.typed g).2.1⟩
theorem OwnMd.alloc {w:World} {j:Nat} {S:Sv} {m:Md} (h:OwnMd w j S m) (o:Obj):OwnMd (w.alloc o) j S m:=h.later ((Below.refl _ _).alloc (Nat.le_refl _) _)
def zp (S:Sv) (m:Md):Value:=.agg #[.slice S.rq.a m.rq.length S.rq.cap,.slice S.im.a m.im.length S.im.cap,.slice S.ep.a m.ep.length S.ep.cap,.slice S.st.a m.st.length S.st.cap,.slice S.ex.a m.ex.length S.ex.cap]
theorem OwnMd.expr {w:World} {q:Nat} {S:Sv} {m:Md} (h:OwnMd w q S m) {i:Nat} (A:i<m.ex.length): ∃g,S.ex.a=some ⟨g,0,none⟩∧g<w.heap.size∧w.cell? ⟨g,i*6,none⟩=some (.int .i64 (m.ex.getD i zi).kind)∧w.cell? ⟨g,i*6+1,none⟩=some (.int .i64 (m.ex.getD i zi).num)∧w.cell? ⟨g,i*6+2,none⟩=some (.string (m.ex.getD i zi).name)∧w.cell? ⟨g,i*6+3,none⟩=some (.string (m.ex.getD i zi).field)∧w.cell? ⟨g,i*6+4,none⟩=some (.int .i64 (m.ex.getD i zi).l)∧w.cell? ⟨g,i*6+5,none⟩=some (.int .i64 (m.ex.getD i zi).r):=by
 obtain⟨g,z,j⟩:=OwnR.elem (f:=exL) (m:=6) (fun _=>rfl) h.ex (List.getElem?_eq_getElem A)
 rw[zdV A]
 exact⟨g,z,(h.ex.typed (by rw[Rw.blk,z];rfl)).2.1,j 0 (by omega),j 1 (by omega),j 2 (by omega),j 3 (by omega),j 4 (by omega),j 5 (by omega)⟩
def zeB (S:Sv) (m:Md):Obj:=.cells #[.slice S.rq.a m.rq.length S.rq.cap,.slice S.im.a m.im.length S.im.cap,.slice S.ep.a m.ep.length S.ep.cap,.slice S.st.a m.st.length S.st.cap,.slice S.ex.a m.ex.length S.ex.cap] 36
def zuI:Obj:=.cells #[.slice none 0 0,.slice none 0 0,.slice none 0 0,.slice none 0 0,.slice none 0 0] 36
theorem zj0 {w w':World} {k:Nat} {o:Obj} (h:w.heap[k]? =some o) (j:Below w.heap.size w w'):w'.heap[k]? =some o:=(j.block k (Array.getElem?_eq_some_iff.1 h).1).trans h
def md0:Md:=⟨[],[],[],[],[]⟩
theorem zeC (w:World) (j:Nat):OwnMd w j S0 md0:=⟨zbT _ _ _ _,zbT _ _ _ _,zbT _ _ _ _,zbT _ _ _ _,zbT _ _ _ _⟩
def zbV (P:Prop) (e:Ending):Prop:=∃b,e= .returned (.bool b)∧(b=true↔P)
theorem zaS {α:Type} {l:List α} {j:Nat} (h:j<l.length): ∃x,l[j]? =some x:=⟨_,List.getElem?_eq_getElem h⟩
theorem zdm {α:Type} {l1 q:List α} {j:Nat} {x:α} (h:l1.take j=q.take j) (z:l1[j]? =some x) (A:q[j]? =some x):l1.take (j+1)=q.take (j+1):=by
 obtain⟨a,rfl⟩:=List.getElem?_eq_some_iff.1 z
 obtain⟨b,H⟩:=List.getElem?_eq_some_iff.1 A
 rw[List.take_succ_eq_append_getElem a,List.take_succ_eq_append_getElem b,h,H]
theorem zdn {α:Type} {l1 j:List α} (q:l1.length=j.length) (h:l1.take l1.length=j.take l1.length):l1=j:=by
 rw[List.take_length,q,List.take_length] at h
 exact h
theorem zft {a b:ByteArray} (h:(a.toList==b.toList)=true):a=b:=(zfV a b).1 h
def zh8 (x y:ByteArray):Bool:=x.toList==y.toList
theorem zgs {x y:ByteArray}:zh8 x y=true↔x=y:=⟨fun h=>zft h,fun h=>by rw[h];exact beq_self_eq_true _⟩
theorem znO (A H:Option Addr) (j q I z:Nat) (w:World) (h:(j:Int)≠(q:Int)):Calls Tryz.prog 126 #[.slice A j I,.slice H q z] w fun e w'=>e= .returned (.bool false)∧Below w.heap.size w w':=by
 go_enter Tryz.func126,Tryz.ntmps126
 go_wp2
 go_ret
 exact⟨rfl,Below.refl _ _⟩
theorem znP (q z:Option Addr) (A j:Nat) (w:World):Calls Tryz.prog 126 #[.slice q 0 A,.slice z 0 j] w fun e w'=>e= .returned (.bool true)∧Below w.heap.size w w':=by
 go_enter Tryz.func126,Tryz.ntmps126
 go_wp2
 go_loopg [13] 1 (fun k i wr=>k=1∧i= .int .i64 0∧wr=w)
 case atStart=>exact⟨rfl,rfl,rfl⟩
 case round=>
  obtain⟨rfl,rfl,rfl⟩:=hrel
  go_wp2
  go_ret
  exact⟨rfl,Below.refl _ _⟩
theorem znQ (b1 b2 g1 g2:Nat) (X r2:Rw) (l1 A:List ByteArray) (w:World) (M:OwnR w b1 9 1 X l1.length (l1.flatMap (fun x=>[Value.string x]))) (I:OwnR w b2 9 1 r2 A.length (A.flatMap (fun x=>[Value.string x]))) (e1:X.a=some ⟨g1,0,none⟩) (e2:r2.a=some ⟨g2,0,none⟩) (hl:l1.length=A.length) (Z:l1.length≤4294967296):
  Calls Tryz.prog 126 #[.slice (some ⟨g1,0,none⟩) l1.length X.cap,.slice (some ⟨g2,0,none⟩) l1.length r2.cap] w fun e w'=>zbV (l1=A) e∧Below w.heap.size w w':=by
 have H1:=zc M
 have H2:=zc I
 have E1:=zc e1
 have E2:=zc e2
 have HL:=zc hl
 clear M I e1 e2 hl
 go_enter Tryz.func126,Tryz.ntmps126
 go_wp2
 go_loopg [13] l1.length (fun k i wr=>∃j:Nat,i= .int .i64 j∧j+k=l1.length∧l1.take j=A.take j∧Below w.heap.size w wr)
 case atStart=>exact⟨0,rfl,by omega,rfl,Below.refl _ _⟩
 case round=>
  obtain⟨j,rfl,hj,ht,Z⟩:=hrel
  have L:=zc Z
  have HT:=zc ht
  clear Z ht
  by_cases H:j<l1.length
  ·have O:(j:Int)<(l1.length:Int):=by omega
   obtain⟨x,hx⟩:=zaS H
   obtain⟨y,hy⟩:=zaS (show j<A.length by rw[←HL.out];exact H)
   obtain⟨g',ga,M⟩:=OwnR.elem (f:=(fun x=>[Value.string x])) (m:=1) (fun _=>rfl) (H1.out.keep fun k g=>L.out.block k (H1.out.typed g).2.1) hx
   obtain rfl:g'=g1:=by have:=ga.symm.trans E1.out;simpa using this
   obtain⟨g',gb,I⟩:=OwnR.elem (f:=(fun x=>[Value.string x])) (m:=1) (fun _=>rfl) (H2.out.keep fun k g=>L.out.block k (H2.out.typed g).2.1) hy
   obtain rfl:g'=g2:=by have:=gb.symm.trans E2.out;simpa using this
   have C0:=zc (M 0 (by omega))
   have D0:=zc (I 0 (by omega))
   have HX:=zc hx
   have HY:=zc hy
   clear M I ga gb hx hy
   obtain⟨U,J⟩: ∃U,U=j+1:=⟨_,rfl⟩
   have ej:(j:Int)+1=(U:Int):=by omega
   have HJ:=zc J
   clear J
   obtain⟨b,q⟩: ∃b,zh8 x y=b:=⟨_,rfl⟩
   have aa:(x.toList==y.toList)=b:=q
   go_wp2
   have k0:=cell_regrown C0.out
   have m0:=cell_regrown D0.out
   simp only[Nat.add_zero,Nat.mul_one] at k0 m0
   refine wp_region_quiet_below (by kernel_rfl) (by kernel_rfl) ?_
   repeat (go_big_quiet_step (fail))
   refine wpQuiet_nil ?_
   intro w2 V
   obtain⟨⟨dq,Y⟩,z⟩:=V
   have N:Hid (Below w.heap.size w w2):=by show Below _ _ _;rw[z];exact L.out.trans ((below_regrown wr dq Y).mono L.out.size)
   clear z k0 m0 C0 D0
   cases b with
   |true=>
    go_wp2
    go_roundg (gk-1)
    case rel=>exact⟨U,rfl,by have:=HJ.out;omega,by rw[HJ.out];have e:=zgs.1 q;exact zdm HT.out HX.out (by rw[e];exact HY.out),N.out⟩
    case measure=>omega
   |false=>
    go_wp2
    go_ret
    exact⟨⟨false,rfl,⟨fun k=>(by cases k),fun k=>(by have e:=HX.out;rw[k,HY.out] at e;cases e;rw[zgs.2 rfl] at q;cases q)⟩⟩,N.out⟩
  ·have O: ¬(j:Int)<(l1.length:Int):=by omega
   obtain rfl:j=l1.length:=by omega
   go_wp2
   go_ret
   exact⟨⟨true,rfl,⟨fun _=>zdn HL.out HT.out,fun _=>rfl⟩⟩,L.out⟩
theorem znR (J b2:Nat) (H A:Rw) (l1 j:List ByteArray) (w:World) (N:OwnR w J 9 1 H l1.length (l1.flatMap (fun x=>[Value.string x]))) (M:OwnR w b2 9 1 A j.length (j.flatMap (fun x=>[Value.string x]))) (X:l1.length≤4294967296):
  Calls Tryz.prog 126 #[.slice H.a l1.length H.cap,.slice A.a j.length A.cap] w fun e w'=>zbV (l1=j) e∧Below w.heap.size w w':=by
 by_cases q:l1.length=j.length
 ·rw[←q]
  by_cases z:l1.length=0
  ·rw[z]
   refine (znP _ _ _ _ w).mono ?_
   rintro e w' ⟨rfl,I⟩
   exact⟨⟨true,rfl,⟨fun _=>(by rw[List.eq_nil_of_length_eq_zero z,List.eq_nil_of_length_eq_zero (q.symm.trans z)]),fun _=>rfl⟩⟩,I⟩
  ·rcases N.nil_or with ⟨_,_,e⟩|⟨V,L⟩
   ·exact absurd e z
   ·rcases M.nil_or with ⟨_,_,e⟩|⟨U,O⟩
    ·exact absurd (q.trans e) z
    ·rw[L,O]
     exact znQ J b2 V U H A l1 j w N M L O q X
 ·refine (znO _ _ _ _ _ _ w (by omega)).mono ?_
  rintro e w' ⟨rfl,I⟩
  exact⟨⟨false,rfl,⟨fun k=>(by cases k),fun k=>absurd (by rw[k]) q⟩⟩,I⟩
def zcD (x y:Im):Bool:=x.spec.toList==y.spec.toList&&x.first.toList==y.first.toList&&x.loc.toList==y.loc.toList
theorem zfu {x y:Im}:zcD x y=true↔x=y:=by
 constructor
 ·intro h
  unfold zcD at h
  simp only[Bool.and_eq_true] at h
  obtain⟨⟨z,j⟩,q⟩:=h
  cases x
  cases y
  simp only at z j q
  congr 1<;>first|(apply zft;assumption)|(apply eq_of_beq;assumption)
 ·intro h
  rw[h]
  simp[zcD]
theorem znS (A H:Option Addr) (j q I z:Nat) (w:World) (h:(j:Int)≠(q:Int)):Calls Tryz.prog 127 #[.slice A j I,.slice H q z] w fun e w'=>e= .returned (.bool false)∧Below w.heap.size w w':=by
 go_enter Tryz.func127,Tryz.ntmps127
 go_wp2
 go_ret
 exact⟨rfl,Below.refl _ _⟩
theorem znT (q z:Option Addr) (A j:Nat) (w:World):Calls Tryz.prog 127 #[.slice q 0 A,.slice z 0 j] w fun e w'=>e= .returned (.bool true)∧Below w.heap.size w w':=by
 go_enter Tryz.func127,Tryz.ntmps127
 go_wp2
 go_loopg [13] 1 (fun k i wr=>k=1∧i= .int .i64 0∧wr=w)
 case atStart=>exact⟨rfl,rfl,rfl⟩
 case round=>
  obtain⟨rfl,rfl,rfl⟩:=hrel
  go_wp2
  go_ret
  exact⟨rfl,Below.refl _ _⟩
theorem znU (Z: ∀(x y:Im) (W:World),Sem.run Tryz.prog (binOp .neq 84 (.agg #[.string x.spec,.string x.first,.string x.loc]) (.agg #[.string y.spec,.string y.first,.string y.loc])) W= .ok (.bool (!zcD x y)) W) (X: ∀(O:BinOp) (a b:Operand) (x y:Im) (W:World),Sem.run Tryz.prog (eqGuard O 84 a b (.agg #[.string x.spec,.string x.first,.string x.loc]) (.agg #[.string y.spec,.string y.first,.string y.loc])) W= .ok () W) (b1 b2 g1 g2:Nat) (r1 r2:Rw) (l1 I:List Im) (w:World) (H:OwnR w b1 84 3 r1 l1.length (l1.flatMap imL)) (A:OwnR w b2 84 3 r2 I.length (I.flatMap imL)) (e1:r1.a=some ⟨g1,0,none⟩) (e2:r2.a=some ⟨g2,0,none⟩) (hl:l1.length=I.length) (hb:l1.length≤4294967296):
  Calls Tryz.prog 127 #[.slice (some ⟨g1,0,none⟩) l1.length r1.cap,.slice (some ⟨g2,0,none⟩) l1.length r2.cap] w fun e w'=>zbV (l1=I) e∧Below w.heap.size w w':=by
 have H1:=zc H
 have H2:=zc A
 have E1:=zc e1
 have E2:=zc e2
 have HL:=zc hl
 clear H A e1 e2 hl
 go_enter Tryz.func127,Tryz.ntmps127
 go_wp2
 go_loopg [13] l1.length (fun k i wr=>∃j:Nat,i= .int .i64 j∧j+k=l1.length∧l1.take j=I.take j∧Below w.heap.size w wr)
 case atStart=>exact⟨0,rfl,by omega,rfl,Below.refl _ _⟩
 case round=>
  obtain⟨j,rfl,hj,ht,hb⟩:=hrel
  have M:=zc hb
  have HT:=zc ht
  clear hb ht
  by_cases J:j<l1.length
  ·have U:(j:Int)<(l1.length:Int):=by omega
   obtain⟨x,hx⟩:=zaS J
   obtain⟨y,hy⟩:=zaS (show j<I.length by rw[←HL.out];exact J)
   obtain⟨g',ga,H⟩:=OwnR.elem (f:=imL) (m:=3) (fun _=>rfl) (H1.out.keep fun k g=>M.out.block k (H1.out.typed g).2.1) hx
   obtain rfl:g'=g1:=by have:=ga.symm.trans E1.out;simpa using this
   obtain⟨g',gb,A⟩:=OwnR.elem (f:=imL) (m:=3) (fun _=>rfl) (H2.out.keep fun k g=>M.out.block k (H2.out.typed g).2.1) hy
   obtain rfl:g'=g2:=by have:=gb.symm.trans E2.out;simpa using this
   have C0:=zc (H 0 (by omega))
   have D0:=zc (A 0 (by omega))
   have C1:=zc (H 1 (by omega))
   have D1:=zc (A 1 (by omega))
   have C2:=zc (H 2 (by omega))
   have D2:=zc (A 2 (by omega))
   have HX:=zc hx
   have HY:=zc hy
   clear H A ga gb hx hy
   obtain⟨V,L⟩: ∃V,V=j+1:=⟨_,rfl⟩
   have ej:(j:Int)+1=(V:Int):=by omega
   have HJ:=zc L
   clear L
   obtain⟨b,q⟩: ∃b,zcD x y=b:=⟨_,rfl⟩
   have ab: ∀W:World,Sem.run Tryz.prog (binOp .neq 84 (.agg #[.string x.spec,.string x.first,.string x.loc]) (.agg #[.string y.spec,.string y.first,.string y.loc])) W= .ok (.bool !b) W:=fun W=>by rw[Z,q]
   have ac: ∀(O:BinOp) (a b:Operand) (W:World),Sem.run Tryz.prog (eqGuard O 84 a b (.agg #[.string x.spec,.string x.first,.string x.loc]) (.agg #[.string y.spec,.string y.first,.string y.loc])) W= .ok () W:=fun O a b W=>X O a b x y W
   go_wp2
   have k0:=cell_regrown C0.out
   have m0:=cell_regrown D0.out
   have k1:=cell_regrown C1.out
   have m1:=cell_regrown D1.out
   have k2:=cell_regrown C2.out
   have m2:=cell_regrown D2.out
   simp only[Nat.add_zero] at k0 m0
   refine wp_region_quiet_below (by kernel_rfl) (by kernel_rfl) ?_
   repeat (go_big_quiet_step (fail))
   refine wpQuiet_nil ?_
   intro w2 Y
   obtain⟨⟨dq,aa⟩,z⟩:=Y
   have N:Hid (Below w.heap.size w w2):=by show Below _ _ _;rw[z];exact M.out.trans ((below_regrown wr dq aa).mono M.out.size)
   clear z k0 m0 C0 D0 k1 m1 C1 D1 k2 m2 C2 D2
   cases b with
   |true=>
    go_wp2
    go_roundg (gk-1)
    case rel=>exact⟨V,rfl,by have:=HJ.out;omega,by rw[HJ.out];have e:=zfu.1 q;exact zdm HT.out HX.out (by rw[e];exact HY.out),N.out⟩
    case measure=>omega
   |false=>
    go_wp2
    go_ret
    exact⟨⟨false,rfl,⟨fun k=>(by cases k),fun k=>(by have e:=HX.out;rw[k,HY.out] at e;cases e;rw[zfu.2 rfl] at q;cases q)⟩⟩,N.out⟩
  ·have U: ¬(j:Int)<(l1.length:Int):=by omega
   obtain rfl:j=l1.length:=by omega
   go_wp2
   go_ret
   exact⟨⟨true,rfl,⟨fun _=>zdn HL.out HT.out,fun _=>rfl⟩⟩,M.out⟩
theorem znV (L: ∀(x y:Im) (W:World),Sem.run Tryz.prog (binOp .neq 84 (.agg #[.string x.spec,.string x.first,.string x.loc]) (.agg #[.string y.spec,.string y.first,.string y.loc])) W= .ok (.bool (!zcD x y)) W) (J: ∀(Y:BinOp) (a b:Operand) (x y:Im) (W:World),Sem.run Tryz.prog (eqGuard Y 84 a b (.agg #[.string x.spec,.string x.first,.string x.loc]) (.agg #[.string y.spec,.string y.first,.string y.loc])) W= .ok () W) (M b2:Nat) (H A:Rw) (l1 j:List Im) (w:World) (U:OwnR w M 84 3 H l1.length (l1.flatMap imL)) (O:OwnR w b2 84 3 A j.length (j.flatMap imL)) (hb:l1.length≤4294967296):
  Calls Tryz.prog 127 #[.slice H.a l1.length H.cap,.slice A.a j.length A.cap] w fun e w'=>zbV (l1=j) e∧Below w.heap.size w w':=by
 by_cases q:l1.length=j.length
 ·rw[←q]
  by_cases z:l1.length=0
  ·rw[z]
   refine (znT _ _ _ _ w).mono ?_
   rintro e w' ⟨rfl,I⟩
   exact⟨⟨true,rfl,⟨fun _=>(by rw[List.eq_nil_of_length_eq_zero z,List.eq_nil_of_length_eq_zero (q.symm.trans z)]),fun _=>rfl⟩⟩,I⟩
  ·rcases U.nil_or with ⟨_,_,e⟩|⟨Z,N⟩
   ·exact absurd e z
   ·rcases O.nil_or with ⟨_,_,e⟩|⟨X,V⟩
    ·exact absurd (q.trans e) z
    ·rw[N,V]
     exact znU L J M b2 Z X H A l1 j w U O N V q hb
 ·refine (znS _ _ _ _ _ _ w (by omega)).mono ?_
  rintro e w' ⟨rfl,I⟩
  exact⟨⟨false,rfl,⟨fun k=>(by cases k),fun k=>absurd (by rw[k]) q⟩⟩,I⟩
def zcE (x y:Ep):Bool:=x.kind==y.kind&&x.name.toList==y.name.toList&&x.loc.toList==y.loc.toList&&x.spec.toList==y.spec.toList
theorem zfv {x y:Ep}:zcE x y=true↔x=y:=by
 constructor
 ·intro h
  unfold zcE at h
  simp only[Bool.and_eq_true] at h
  obtain⟨⟨⟨z,j⟩,q⟩,A⟩:=h
  cases x
  cases y
  simp only at z j q A
  congr 1<;>first|(apply zft;assumption)|(apply eq_of_beq;assumption)
 ·intro h
  rw[h]
  simp[zcE]
theorem znW (A H:Option Addr) (j q I z:Nat) (w:World) (h:(j:Int)≠(q:Int)):Calls Tryz.prog 128 #[.slice A j I,.slice H q z] w fun e w'=>e= .returned (.bool false)∧Below w.heap.size w w':=by
 go_enter Tryz.func128,Tryz.ntmps128
 go_wp2
 go_ret
 exact⟨rfl,Below.refl _ _⟩
theorem znX (q z:Option Addr) (A j:Nat) (w:World):Calls Tryz.prog 128 #[.slice q 0 A,.slice z 0 j] w fun e w'=>e= .returned (.bool true)∧Below w.heap.size w w':=by
 go_enter Tryz.func128,Tryz.ntmps128
 go_wp2
 go_loopg [13] 1 (fun k i wr=>k=1∧i= .int .i64 0∧wr=w)
 case atStart=>exact⟨rfl,rfl,rfl⟩
 case round=>
  obtain⟨rfl,rfl,rfl⟩:=hrel
  go_wp2
  go_ret
  exact⟨rfl,Below.refl _ _⟩
theorem znY (Z: ∀(x y:Ep) (W:World),Sem.run Tryz.prog (binOp .neq 86 (.agg #[.int .i64 x.kind,.string x.name,.string x.loc,.string x.spec]) (.agg #[.int .i64 y.kind,.string y.name,.string y.loc,.string y.spec])) W= .ok (.bool (!zcE x y)) W) (X: ∀(O:BinOp) (a b:Operand) (x y:Ep) (W:World),Sem.run Tryz.prog (eqGuard O 86 a b (.agg #[.int .i64 x.kind,.string x.name,.string x.loc,.string x.spec]) (.agg #[.int .i64 y.kind,.string y.name,.string y.loc,.string y.spec])) W= .ok () W) (b1 b2 g1 g2:Nat) (r1 r2:Rw) (l1 I:List Ep) (w:World) (A:OwnR w b1 86 4 r1 l1.length (l1.flatMap epL)) (z:OwnR w b2 86 4 r2 I.length (I.flatMap epL)) (e1:r1.a=some ⟨g1,0,none⟩) (e2:r2.a=some ⟨g2,0,none⟩) (hl:l1.length=I.length) (hb:l1.length≤4294967296):
  Calls Tryz.prog 128 #[.slice (some ⟨g1,0,none⟩) l1.length r1.cap,.slice (some ⟨g2,0,none⟩) l1.length r2.cap] w fun e w'=>zbV (l1=I) e∧Below w.heap.size w w':=by
 have H1:=zc A
 have H2:=zc z
 have E1:=zc e1
 have E2:=zc e2
 have HL:=zc hl
 clear A z e1 e2 hl
 go_enter Tryz.func128,Tryz.ntmps128
 go_wp2
 go_loopg [13] l1.length (fun k i wr=>∃j:Nat,i= .int .i64 j∧j+k=l1.length∧l1.take j=I.take j∧Below w.heap.size w wr)
 case atStart=>exact⟨0,rfl,by omega,rfl,Below.refl _ _⟩
 case round=>
  obtain⟨j,rfl,hj,ht,hb⟩:=hrel
  have M:=zc hb
  have HT:=zc ht
  clear hb ht
  by_cases J:j<l1.length
  ·have U:(j:Int)<(l1.length:Int):=by omega
   obtain⟨x,hx⟩:=zaS J
   obtain⟨y,hy⟩:=zaS (show j<I.length by rw[←HL.out];exact J)
   obtain⟨g',ga,A⟩:=OwnR.elem (f:=epL) (m:=4) (fun _=>rfl) (H1.out.keep fun k g=>M.out.block k (H1.out.typed g).2.1) hx
   obtain rfl:g'=g1:=by have:=ga.symm.trans E1.out;simpa using this
   obtain⟨g',gb,z⟩:=OwnR.elem (f:=epL) (m:=4) (fun _=>rfl) (H2.out.keep fun k g=>M.out.block k (H2.out.typed g).2.1) hy
   obtain rfl:g'=g2:=by have:=gb.symm.trans E2.out;simpa using this
   have C0:=zc (A 0 (by omega))
   have D0:=zc (z 0 (by omega))
   have C1:=zc (A 1 (by omega))
   have D1:=zc (z 1 (by omega))
   have C2:=zc (A 2 (by omega))
   have D2:=zc (z 2 (by omega))
   have C3:=zc (A 3 (by omega))
   have D3:=zc (z 3 (by omega))
   have HX:=zc hx
   have HY:=zc hy
   clear A z ga gb hx hy
   obtain⟨V,L⟩: ∃V,V=j+1:=⟨_,rfl⟩
   have ej:(j:Int)+1=(V:Int):=by omega
   have HJ:=zc L
   clear L
   obtain⟨b,q⟩: ∃b,zcE x y=b:=⟨_,rfl⟩
   have ab: ∀W:World,Sem.run Tryz.prog (binOp .neq 86 (.agg #[.int .i64 x.kind,.string x.name,.string x.loc,.string x.spec]) (.agg #[.int .i64 y.kind,.string y.name,.string y.loc,.string y.spec])) W= .ok (.bool !b) W:=fun W=>by rw[Z,q]
   have ac: ∀(O:BinOp) (a b:Operand) (W:World),Sem.run Tryz.prog (eqGuard O 86 a b (.agg #[.int .i64 x.kind,.string x.name,.string x.loc,.string x.spec]) (.agg #[.int .i64 y.kind,.string y.name,.string y.loc,.string y.spec])) W= .ok () W:=fun O a b W=>X O a b x y W
   go_wp2
   have k0:=cell_regrown C0.out
   have m0:=cell_regrown D0.out
   have k1:=cell_regrown C1.out
   have m1:=cell_regrown D1.out
   have k2:=cell_regrown C2.out
   have m2:=cell_regrown D2.out
   have k3:=cell_regrown C3.out
   have m3:=cell_regrown D3.out
   simp only[Nat.add_zero] at k0 m0
   refine wp_region_quiet_below (by kernel_rfl) (by kernel_rfl) ?_
   repeat (go_big_quiet_step (fail))
   refine wpQuiet_nil ?_
   intro w2 Y
   obtain⟨⟨dq,aa⟩,H⟩:=Y
   have N:Hid (Below w.heap.size w w2):=by show Below _ _ _;rw[H];exact M.out.trans ((below_regrown wr dq aa).mono M.out.size)
   clear H k0 m0 C0 D0 k1 m1 C1 D1 k2 m2 C2 D2 k3 m3 C3 D3
   cases b with
   |true=>
    go_wp2
    go_roundg (gk-1)
    case rel=>exact⟨V,rfl,by have:=HJ.out;omega,by rw[HJ.out];have e:=zfv.1 q;exact zdm HT.out HX.out (by rw[e];exact HY.out),N.out⟩
    case measure=>omega
   |false=>
    go_wp2
    go_ret
    exact⟨⟨false,rfl,⟨fun k=>(by cases k),fun k=>(by have e:=HX.out;rw[k,HY.out] at e;cases e;rw[zfv.2 rfl] at q;cases q)⟩⟩,N.out⟩
  ·have U: ¬(j:Int)<(l1.length:Int):=by omega
   obtain rfl:j=l1.length:=by omega
   go_wp2
   go_ret
   exact⟨⟨true,rfl,⟨fun _=>zdn HL.out HT.out,fun _=>rfl⟩⟩,M.out⟩
theorem znZ (L: ∀(x y:Ep) (W:World),Sem.run Tryz.prog (binOp .neq 86 (.agg #[.int .i64 x.kind,.string x.name,.string x.loc,.string x.spec]) (.agg #[.int .i64 y.kind,.string y.name,.string y.loc,.string y.spec])) W= .ok (.bool (!zcE x y)) W) (J: ∀(Y:BinOp) (a b:Operand) (x y:Ep) (W:World),Sem.run Tryz.prog (eqGuard Y 86 a b (.agg #[.int .i64 x.kind,.string x.name,.string x.loc,.string x.spec]) (.agg #[.int .i64 y.kind,.string y.name,.string y.loc,.string y.spec])) W= .ok () W) (M b2:Nat) (H A:Rw) (l1 j:List Ep) (w:World) (U:OwnR w M 86 4 H l1.length (l1.flatMap epL)) (O:OwnR w b2 86 4 A j.length (j.flatMap epL)) (hb:l1.length≤4294967296):
  Calls Tryz.prog 128 #[.slice H.a l1.length H.cap,.slice A.a j.length A.cap] w fun e w'=>zbV (l1=j) e∧Below w.heap.size w w':=by
 by_cases q:l1.length=j.length
 ·rw[←q]
  by_cases z:l1.length=0
  ·rw[z]
   refine (znX _ _ _ _ w).mono ?_
   rintro e w' ⟨rfl,I⟩
   exact⟨⟨true,rfl,⟨fun _=>(by rw[List.eq_nil_of_length_eq_zero z,List.eq_nil_of_length_eq_zero (q.symm.trans z)]),fun _=>rfl⟩⟩,I⟩
  ·rcases U.nil_or with ⟨_,_,e⟩|⟨Z,N⟩
   ·exact absurd e z
   ·rcases O.nil_or with ⟨_,_,e⟩|⟨X,V⟩
    ·exact absurd (q.trans e) z
    ·rw[N,V]
     exact znY L J M b2 Z X H A l1 j w U O N V q hb
 ·refine (znW _ _ _ _ _ _ w (by omega)).mono ?_
  rintro e w' ⟨rfl,I⟩
  exact⟨⟨false,rfl,⟨fun k=>(by cases k),fun k=>absurd (by rw[k]) q⟩⟩,I⟩
def zcF (x y:Sm):Bool:=x.kind==y.kind&&x.name.toList==y.name.toList&&x.expr==y.expr
theorem zfw {x y:Sm}:zcF x y=true↔x=y:=by
 constructor
 ·intro h
  unfold zcF at h
  simp only[Bool.and_eq_true] at h
  obtain⟨⟨z,j⟩,q⟩:=h
  cases x
  cases y
  simp only at z j q
  congr 1<;>first|(apply zft;assumption)|(apply eq_of_beq;assumption)
 ·intro h
  rw[h]
  simp[zcF]
theorem zoa (A H:Option Addr) (j q I z:Nat) (w:World) (h:(j:Int)≠(q:Int)):Calls Tryz.prog 129 #[.slice A j I,.slice H q z] w fun e w'=>e= .returned (.bool false)∧Below w.heap.size w w':=by
 go_enter Tryz.func129,Tryz.ntmps129
 go_wp2
 go_ret
 exact⟨rfl,Below.refl _ _⟩
theorem zob (q z:Option Addr) (A j:Nat) (w:World):Calls Tryz.prog 129 #[.slice q 0 A,.slice z 0 j] w fun e w'=>e= .returned (.bool true)∧Below w.heap.size w w':=by
 go_enter Tryz.func129,Tryz.ntmps129
 go_wp2
 go_loopg [13] 1 (fun k i wr=>k=1∧i= .int .i64 0∧wr=w)
 case atStart=>exact⟨rfl,rfl,rfl⟩
 case round=>
  obtain⟨rfl,rfl,rfl⟩:=hrel
  go_wp2
  go_ret
  exact⟨rfl,Below.refl _ _⟩
theorem zoc (Z: ∀(x y:Sm) (W:World),Sem.run Tryz.prog (binOp .neq 107 (.agg #[.int .i64 x.kind,.string x.name,.int .i64 x.expr]) (.agg #[.int .i64 y.kind,.string y.name,.int .i64 y.expr])) W= .ok (.bool (!zcF x y)) W) (X: ∀(O:BinOp) (a b:Operand) (x y:Sm) (W:World),Sem.run Tryz.prog (eqGuard O 107 a b (.agg #[.int .i64 x.kind,.string x.name,.int .i64 x.expr]) (.agg #[.int .i64 y.kind,.string y.name,.int .i64 y.expr])) W= .ok () W) (b1 b2 g1 g2:Nat) (r1 r2:Rw) (l1 I:List Sm) (w:World) (H:OwnR w b1 107 3 r1 l1.length (l1.flatMap smL)) (A:OwnR w b2 107 3 r2 I.length (I.flatMap smL)) (e1:r1.a=some ⟨g1,0,none⟩) (e2:r2.a=some ⟨g2,0,none⟩) (hl:l1.length=I.length) (hb:l1.length≤4294967296):
  Calls Tryz.prog 129 #[.slice (some ⟨g1,0,none⟩) l1.length r1.cap,.slice (some ⟨g2,0,none⟩) l1.length r2.cap] w fun e w'=>zbV (l1=I) e∧Below w.heap.size w w':=by
 have H1:=zc H
 have H2:=zc A
 have E1:=zc e1
 have E2:=zc e2
 have HL:=zc hl
 clear H A e1 e2 hl
 go_enter Tryz.func129,Tryz.ntmps129
 go_wp2
 go_loopg [13] l1.length (fun k i wr=>∃j:Nat,i= .int .i64 j∧j+k=l1.length∧l1.take j=I.take j∧Below w.heap.size w wr)
 case atStart=>exact⟨0,rfl,by omega,rfl,Below.refl _ _⟩
 case round=>
  obtain⟨j,rfl,hj,ht,hb⟩:=hrel
  have M:=zc hb
  have HT:=zc ht
  clear hb ht
  by_cases J:j<l1.length
  ·have U:(j:Int)<(l1.length:Int):=by omega
   obtain⟨x,hx⟩:=zaS J
   obtain⟨y,hy⟩:=zaS (show j<I.length by rw[←HL.out];exact J)
   obtain⟨g',ga,H⟩:=OwnR.elem (f:=smL) (m:=3) (fun _=>rfl) (H1.out.keep fun k g=>M.out.block k (H1.out.typed g).2.1) hx
   obtain rfl:g'=g1:=by have:=ga.symm.trans E1.out;simpa using this
   obtain⟨g',gb,A⟩:=OwnR.elem (f:=smL) (m:=3) (fun _=>rfl) (H2.out.keep fun k g=>M.out.block k (H2.out.typed g).2.1) hy
   obtain rfl:g'=g2:=by have:=gb.symm.trans E2.out;simpa using this
   have C0:=zc (H 0 (by omega))
   have D0:=zc (A 0 (by omega))
   have C1:=zc (H 1 (by omega))
   have D1:=zc (A 1 (by omega))
   have C2:=zc (H 2 (by omega))
   have D2:=zc (A 2 (by omega))
   have HX:=zc hx
   have HY:=zc hy
   clear H A ga gb hx hy
   obtain⟨V,L⟩: ∃V,V=j+1:=⟨_,rfl⟩
   have ej:(j:Int)+1=(V:Int):=by omega
   have HJ:=zc L
   clear L
   obtain⟨b,q⟩: ∃b,zcF x y=b:=⟨_,rfl⟩
   have ab: ∀W:World,Sem.run Tryz.prog (binOp .neq 107 (.agg #[.int .i64 x.kind,.string x.name,.int .i64 x.expr]) (.agg #[.int .i64 y.kind,.string y.name,.int .i64 y.expr])) W= .ok (.bool !b) W:=fun W=>by rw[Z,q]
   have ac: ∀(O:BinOp) (a b:Operand) (W:World),Sem.run Tryz.prog (eqGuard O 107 a b (.agg #[.int .i64 x.kind,.string x.name,.int .i64 x.expr]) (.agg #[.int .i64 y.kind,.string y.name,.int .i64 y.expr])) W= .ok () W:=fun O a b W=>X O a b x y W
   go_wp2
   have k0:=cell_regrown C0.out
   have m0:=cell_regrown D0.out
   have k1:=cell_regrown C1.out
   have m1:=cell_regrown D1.out
   have k2:=cell_regrown C2.out
   have m2:=cell_regrown D2.out
   simp only[Nat.add_zero] at k0 m0
   refine wp_region_quiet_below (by kernel_rfl) (by kernel_rfl) ?_
   repeat (go_big_quiet_step (fail))
   refine wpQuiet_nil ?_
   intro w2 Y
   obtain⟨⟨dq,aa⟩,z⟩:=Y
   have N:Hid (Below w.heap.size w w2):=by show Below _ _ _;rw[z];exact M.out.trans ((below_regrown wr dq aa).mono M.out.size)
   clear z k0 m0 C0 D0 k1 m1 C1 D1 k2 m2 C2 D2
   cases b with
   |true=>
    go_wp2
    go_roundg (gk-1)
    case rel=>exact⟨V,rfl,by have:=HJ.out;omega,by rw[HJ.out];have e:=zfw.1 q;exact zdm HT.out HX.out (by rw[e];exact HY.out),N.out⟩
    case measure=>omega
   |false=>
    go_wp2
    go_ret
    exact⟨⟨false,rfl,⟨fun k=>(by cases k),fun k=>(by have e:=HX.out;rw[k,HY.out] at e;cases e;rw[zfw.2 rfl] at q;cases q)⟩⟩,N.out⟩
  ·have U: ¬(j:Int)<(l1.length:Int):=by omega
   obtain rfl:j=l1.length:=by omega
   go_wp2
   go_ret
   exact⟨⟨true,rfl,⟨fun _=>zdn HL.out HT.out,fun _=>rfl⟩⟩,M.out⟩
theorem zod (L: ∀(x y:Sm) (W:World),Sem.run Tryz.prog (binOp .neq 107 (.agg #[.int .i64 x.kind,.string x.name,.int .i64 x.expr]) (.agg #[.int .i64 y.kind,.string y.name,.int .i64 y.expr])) W= .ok (.bool (!zcF x y)) W) (J: ∀(Y:BinOp) (a b:Operand) (x y:Sm) (W:World),Sem.run Tryz.prog (eqGuard Y 107 a b (.agg #[.int .i64 x.kind,.string x.name,.int .i64 x.expr]) (.agg #[.int .i64 y.kind,.string y.name,.int .i64 y.expr])) W= .ok () W) (M b2:Nat) (H A:Rw) (l1 j:List Sm) (w:World) (U:OwnR w M 107 3 H l1.length (l1.flatMap smL)) (O:OwnR w b2 107 3 A j.length (j.flatMap smL)) (hb:l1.length≤4294967296):
  Calls Tryz.prog 129 #[.slice H.a l1.length H.cap,.slice A.a j.length A.cap] w fun e w'=>zbV (l1=j) e∧Below w.heap.size w w':=by
 by_cases q:l1.length=j.length
 ·rw[←q]
  by_cases z:l1.length=0
  ·rw[z]
   refine (zob _ _ _ _ w).mono ?_
   rintro e w' ⟨rfl,I⟩
   exact⟨⟨true,rfl,⟨fun _=>(by rw[List.eq_nil_of_length_eq_zero z,List.eq_nil_of_length_eq_zero (q.symm.trans z)]),fun _=>rfl⟩⟩,I⟩
  ·rcases U.nil_or with ⟨_,_,e⟩|⟨Z,N⟩
   ·exact absurd e z
   ·rcases O.nil_or with ⟨_,_,e⟩|⟨X,V⟩
    ·exact absurd (q.trans e) z
    ·rw[N,V]
     exact zoc L J M b2 Z X H A l1 j w U O N V q hb
 ·refine (zoa _ _ _ _ _ _ w (by omega)).mono ?_
  rintro e w' ⟨rfl,I⟩
  exact⟨⟨false,rfl,⟨fun k=>(by cases k),fun k=>absurd (by rw[k]) q⟩⟩,I⟩
def zcG (x y:Ex):Bool:=x.kind==y.kind&&x.num==y.num&&x.name.toList==y.name.toList&&x.field.toList==y.field.toList&&x.l==y.l&&x.r==y.r
theorem zfx {x y:Ex}:zcG x y=true↔x=y:=by
 constructor
 ·intro h
  unfold zcG at h
  simp only[Bool.and_eq_true] at h
  obtain⟨⟨⟨⟨⟨H,z⟩,j⟩,I⟩,q⟩,A⟩:=h
  cases x
  cases y
  simp only at H z j I q A
  congr 1<;>first|(apply zft;assumption)|(apply eq_of_beq;assumption)
 ·intro h
  rw[h]
  simp[zcG]
theorem zoe (A H:Option Addr) (j q I z:Nat) (w:World) (h:(j:Int)≠(q:Int)):Calls Tryz.prog 130 #[.slice A j I,.slice H q z] w fun e w'=>e= .returned (.bool false)∧Below w.heap.size w w':=by
 go_enter Tryz.func130,Tryz.ntmps130
 go_wp2
 go_ret
 exact⟨rfl,Below.refl _ _⟩
theorem zof (q z:Option Addr) (A j:Nat) (w:World):Calls Tryz.prog 130 #[.slice q 0 A,.slice z 0 j] w fun e w'=>e= .returned (.bool true)∧Below w.heap.size w w':=by
 go_enter Tryz.func130,Tryz.ntmps130
 go_wp2
 go_loopg [13] 1 (fun k i wr=>k=1∧i= .int .i64 0∧wr=w)
 case atStart=>exact⟨rfl,rfl,rfl⟩
 case round=>
  obtain⟨rfl,rfl,rfl⟩:=hrel
  go_wp2
  go_ret
  exact⟨rfl,Below.refl _ _⟩
theorem zog (Z: ∀(x y:Ex) (W:World),Sem.run Tryz.prog (binOp .neq 109 (.agg #[.int .i64 x.kind,.int .i64 x.num,.string x.name,.string x.field,.int .i64 x.l,.int .i64 x.r]) (.agg #[.int .i64 y.kind,.int .i64 y.num,.string y.name,.string y.field,.int .i64 y.l,.int .i64 y.r])) W= .ok (.bool (!zcG x y)) W) (X: ∀(O:BinOp) (a b:Operand) (x y:Ex) (W:World),Sem.run Tryz.prog (eqGuard O 109 a b (.agg #[.int .i64 x.kind,.int .i64 x.num,.string x.name,.string x.field,.int .i64 x.l,.int .i64 x.r]) (.agg #[.int .i64 y.kind,.int .i64 y.num,.string y.name,.string y.field,.int .i64 y.l,.int .i64 y.r])) W= .ok () W) (b1 b2 g1 g2:Nat) (r1 r2:Rw) (l1 I:List Ex) (w:World) (z:OwnR w b1 109 6 r1 l1.length (l1.flatMap exL)) (q:OwnR w b2 109 6 r2 I.length (I.flatMap exL)) (e1:r1.a=some ⟨g1,0,none⟩) (e2:r2.a=some ⟨g2,0,none⟩) (hl:l1.length=I.length) (hb:l1.length≤4294967296):
  Calls Tryz.prog 130 #[.slice (some ⟨g1,0,none⟩) l1.length r1.cap,.slice (some ⟨g2,0,none⟩) l1.length r2.cap] w fun e w'=>zbV (l1=I) e∧Below w.heap.size w w':=by
 have H1:=zc z
 have H2:=zc q
 have E1:=zc e1
 have E2:=zc e2
 have HL:=zc hl
 clear z q e1 e2 hl
 go_enter Tryz.func130,Tryz.ntmps130
 go_wp2
 go_loopg [13] l1.length (fun k i wr=>∃j:Nat,i= .int .i64 j∧j+k=l1.length∧l1.take j=I.take j∧Below w.heap.size w wr)
 case atStart=>exact⟨0,rfl,by omega,rfl,Below.refl _ _⟩
 case round=>
  obtain⟨j,rfl,hj,ht,hb⟩:=hrel
  have M:=zc hb
  have HT:=zc ht
  clear hb ht
  by_cases J:j<l1.length
  ·have U:(j:Int)<(l1.length:Int):=by omega
   obtain⟨x,hx⟩:=zaS J
   obtain⟨y,hy⟩:=zaS (show j<I.length by rw[←HL.out];exact J)
   obtain⟨g',ga,z⟩:=OwnR.elem (f:=exL) (m:=6) (fun _=>rfl) (H1.out.keep fun k g=>M.out.block k (H1.out.typed g).2.1) hx
   obtain rfl:g'=g1:=by have:=ga.symm.trans E1.out;simpa using this
   obtain⟨g',gb,q⟩:=OwnR.elem (f:=exL) (m:=6) (fun _=>rfl) (H2.out.keep fun k g=>M.out.block k (H2.out.typed g).2.1) hy
   obtain rfl:g'=g2:=by have:=gb.symm.trans E2.out;simpa using this
   have C0:=zc (z 0 (by omega))
   have D0:=zc (q 0 (by omega))
   have C1:=zc (z 1 (by omega))
   have D1:=zc (q 1 (by omega))
   have C2:=zc (z 2 (by omega))
   have D2:=zc (q 2 (by omega))
   have C3:=zc (z 3 (by omega))
   have D3:=zc (q 3 (by omega))
   have C4:=zc (z 4 (by omega))
   have D4:=zc (q 4 (by omega))
   have C5:=zc (z 5 (by omega))
   have D5:=zc (q 5 (by omega))
   have HX:=zc hx
   have HY:=zc hy
   clear z q ga gb hx hy
   obtain⟨V,L⟩: ∃V,V=j+1:=⟨_,rfl⟩
   have ej:(j:Int)+1=(V:Int):=by omega
   have HJ:=zc L
   clear L
   obtain⟨b,A⟩: ∃b,zcG x y=b:=⟨_,rfl⟩
   have ab: ∀W:World,Sem.run Tryz.prog (binOp .neq 109 (.agg #[.int .i64 x.kind,.int .i64 x.num,.string x.name,.string x.field,.int .i64 x.l,.int .i64 x.r]) (.agg #[.int .i64 y.kind,.int .i64 y.num,.string y.name,.string y.field,.int .i64 y.l,.int .i64 y.r])) W= .ok (.bool !b) W:=fun W=>by rw[Z,A]
   have ac: ∀(O:BinOp) (a b:Operand) (W:World),Sem.run Tryz.prog (eqGuard O 109 a b (.agg #[.int .i64 x.kind,.int .i64 x.num,.string x.name,.string x.field,.int .i64 x.l,.int .i64 x.r]) (.agg #[.int .i64 y.kind,.int .i64 y.num,.string y.name,.string y.field,.int .i64 y.l,.int .i64 y.r])) W= .ok () W:=fun O a b W=>X O a b x y W
   go_wp2
   have k0:=cell_regrown C0.out
   have m0:=cell_regrown D0.out
   have k1:=cell_regrown C1.out
   have m1:=cell_regrown D1.out
   have k2:=cell_regrown C2.out
   have m2:=cell_regrown D2.out
   have k3:=cell_regrown C3.out
   have m3:=cell_regrown D3.out
   have k4:=cell_regrown C4.out
   have m4:=cell_regrown D4.out
   have k5:=cell_regrown C5.out
   have m5:=cell_regrown D5.out
   simp only[Nat.add_zero] at k0 m0
   refine wp_region_quiet_below (by kernel_rfl) (by kernel_rfl) ?_
   repeat (go_big_quiet_step (fail))
   refine wpQuiet_nil ?_
   intro w2 Y
   obtain⟨⟨dq,aa⟩,H⟩:=Y
   have N:Hid (Below w.heap.size w w2):=by show Below _ _ _;rw[H];exact M.out.trans ((below_regrown wr dq aa).mono M.out.size)
   clear H k0 m0 C0 D0 k1 m1 C1 D1 k2 m2 C2 D2 k3 m3 C3 D3 k4 m4 C4 D4 k5 m5 C5 D5
   cases b with
   |true=>
    go_wp2
    go_roundg (gk-1)
    case rel=>exact⟨V,rfl,by have:=HJ.out;omega,by rw[HJ.out];have e:=zfx.1 A;exact zdm HT.out HX.out (by rw[e];exact HY.out),N.out⟩
    case measure=>omega
   |false=>
    go_wp2
    go_ret
    exact⟨⟨false,rfl,⟨fun k=>(by cases k),fun k=>(by have e:=HX.out;rw[k,HY.out] at e;cases e;rw[zfx.2 rfl] at A;cases A)⟩⟩,N.out⟩
  ·have U: ¬(j:Int)<(l1.length:Int):=by omega
   obtain rfl:j=l1.length:=by omega
   go_wp2
   go_ret
   exact⟨⟨true,rfl,⟨fun _=>zdn HL.out HT.out,fun _=>rfl⟩⟩,M.out⟩
theorem zoh (L: ∀(x y:Ex) (W:World),Sem.run Tryz.prog (binOp .neq 109 (.agg #[.int .i64 x.kind,.int .i64 x.num,.string x.name,.string x.field,.int .i64 x.l,.int .i64 x.r]) (.agg #[.int .i64 y.kind,.int .i64 y.num,.string y.name,.string y.field,.int .i64 y.l,.int .i64 y.r])) W= .ok (.bool (!zcG x y)) W) (J: ∀(Y:BinOp) (a b:Operand) (x y:Ex) (W:World),Sem.run Tryz.prog (eqGuard Y 109 a b (.agg #[.int .i64 x.kind,.int .i64 x.num,.string x.name,.string x.field,.int .i64 x.l,.int .i64 x.r]) (.agg #[.int .i64 y.kind,.int .i64 y.num,.string y.name,.string y.field,.int .i64 y.l,.int .i64 y.r])) W= .ok () W) (M b2:Nat) (H A:Rw) (l1 j:List Ex) (w:World) (U:OwnR w M 109 6 H l1.length (l1.flatMap exL)) (O:OwnR w b2 109 6 A j.length (j.flatMap exL)) (hb:l1.length≤4294967296):
  Calls Tryz.prog 130 #[.slice H.a l1.length H.cap,.slice A.a j.length A.cap] w fun e w'=>zbV (l1=j) e∧Below w.heap.size w w':=by
 by_cases q:l1.length=j.length
 ·rw[←q]
  by_cases z:l1.length=0
  ·rw[z]
   refine (zof _ _ _ _ w).mono ?_
   rintro e w' ⟨rfl,I⟩
   exact⟨⟨true,rfl,⟨fun _=>(by rw[List.eq_nil_of_length_eq_zero z,List.eq_nil_of_length_eq_zero (q.symm.trans z)]),fun _=>rfl⟩⟩,I⟩
  ·rcases U.nil_or with ⟨_,_,e⟩|⟨Z,N⟩
   ·exact absurd e z
   ·rcases O.nil_or with ⟨_,_,e⟩|⟨X,V⟩
    ·exact absurd (q.trans e) z
    ·rw[N,V]
     exact zog L J M b2 Z X H A l1 j w U O N V q hb
 ·refine (zoe _ _ _ _ _ _ w (by omega)).mono ?_
  rintro e w' ⟨rfl,I⟩
  exact⟨⟨false,rfl,⟨fun k=>(by cases k),fun k=>absurd (by rw[k]) q⟩⟩,I⟩
end Go.Proofs.YtjdddblpfbmpaaaGreat
