/-
  What slices.Index and slices.Contains answer over a row of texts,and strings.Clone: the walks.
  What request of impl's parser answers: the walks.
  What nameOrCall of impl's parser answers: the walk.
  What part of impl's parser answers: the walk.
  What product and sum of impl's parser answer: the walks.
  What statement of impl's parser answers: the walk.
  What the small items of impl's parser,itemWord and exportLast answer: the walks.
  Rows beside impl's parser: lists of names under way. No program is spoken of but for the numbers of its types.
  A program in memory,of any size. No program is spoken of but for the numbers of its types.
  The zero program in memory. No program is spoken of but for the numbers of its types.
  What slices.Equal answers of rows of the call's own,the model's != handed in: the walks.
-/
import Derived.Test.YtjdddblpfbmpaaaGreatClImplParseHToImplParseI
import Derived.Test.YtjdddblpfbmpaaaGreatClShelf
namespace Go.Proofs.YtjdddblpfbmpaaaGreat
set_option maxRecDepth 100000
set_option maxHeartbeats 6400000
open Go.RowKit Go.PlainAid Go.Sort
theorem ziM (s:ByteArray) (w:World) (h:s.size≤281474976710656):
  Calls Tryz.prog 68 #[.string s] w fun e w'=>e= .returned (.string s)∧Below w.heap.size w w':=by
 go_enter Tryz.func68,Tryz.ntmps68
 go_wp2_with fail
 refine (Tryz.stringslite_Clone _ _ h).mono ?_
 rintro e z ⟨rfl,j⟩
 go_wp2
 go_ret
 exact⟨rfl,j⟩
theorem OwnR.text {w:World} {z n:Nat} {r:Rw} {l:List ByteArray} (h:OwnR w z 9 1 r n (l.map .string)) {j:Nat} (L:j<n): ∃g,r.a=some ⟨g,0,none⟩∧w.cell? ⟨g,j,none⟩=some (.string (l.getD j sNone)):=by
 rcases h.2 with ⟨_,N⟩|⟨g,J,I,A,_⟩
 ·omega
 ·simp only[Value.slice.injEq] at A
  have H:=h
  unfold OwnR at H
  rw[A.1,A.2.2] at H
  have M:l.length=n:=by have:=h.1;simpa using this
  refine⟨g,A.1,?_⟩
  rw[World.ownsRow.cellAt H j (by omega)]
  simp only[List.getElem?_map,List.getD]
  rw[List.getElem?_eq_getElem (by omega)]
  rfl
theorem zmN {l:List ByteArray} {x:ByteArray} {j:Nat} (h:j<l.length):zaJ (l.drop j) x=((l.getD j sNone).toList==x.toList||zaJ (l.drop (j+1)) x):=by
 rw[List.drop_eq_getElem_cons h]
 simp only[zaJ,List.any_cons,List.getD,List.getElem?_eq_getElem h,Option.getD_some]
theorem zmO (H g:Nat) (r:Rw) (l:List ByteArray) (x:ByteArray) (w:World) (h:OwnR w H 9 1 r l.length (l.map .string)) (hl:l.length≤1000000) (Y:r.a=some ⟨g,0,none⟩):
  Calls Tryz.prog 131 #[.slice (some ⟨g,0,none⟩) l.length r.cap,.string x] w fun e w'=>(∃v:Int,e= .returned (.int .i64 v)∧decide (0≤v)=zaJ l x)∧w'=w:=by
 have HO:=zc h
 have O:=zc Y
 clear h Y
 go_enter Tryz.func131,Tryz.ntmps131
 go_wp2
 go_loopg [8] (l.length+1) (fun k i wr=>∃j:Nat,i= .int .i64 j∧j+k=l.length+1∧zaJ (l.drop j) x=zaJ l x∧wr=w)
 case atStart=>exact⟨0,rfl,by omega,by simp,rfl⟩
 case round=>
  obtain⟨j,rfl,hj,Z,rfl⟩:=hrel
  have V:=zc Z
  clear Z
  by_cases z:j<l.length
  ·have J:(j:Int)<(l.length:Int):=by omega
   obtain⟨g',I,hc⟩:=HO.out.text z
   have eg:g'=g:=by have:=I.symm.trans O.out;simpa using this
   subst eg
   clear I
   obtain⟨L,A⟩: ∃L,L=j+1:=⟨_,rfl⟩
   have ej:(j:Int)+1=(L:Int):=by omega
   have X:=zc A
   clear A
   have U:Hid (zaJ (l.drop j) x=((l.getD j sNone).toList==x.toList||zaJ (l.drop (j+1)) x)):=zmN z
   generalize l.getD j sNone=y at hc U
   cases M:(x.toList==y.toList) with
   |true=>
    go_wp2
    go_ret
    refine⟨⟨_,rfl,?_⟩,rfl⟩
    have N:(y.toList==x.toList)=true:=by rw[beq_iff_eq] at M ⊢;exact M.symm
    rw[←V.out,U.out,N]
    simp
   |false=>
    go_wp2
    go_roundg (gk-1)
    case rel=>
     have N:(y.toList==x.toList)=false:=by
      rw[beq_eq_false_iff_ne] at M ⊢;exact fun e=>M e.symm
     refine⟨L,rfl,by have:=X.out;omega,?_,rfl⟩
     rw[←V.out,U.out,N,X.out]
     simp
    case measure=>omega
  ·have J: ¬(j:Int)<(l.length:Int):=by omega
   go_wp2
   go_ret
   refine⟨⟨_,rfl,?_⟩,rfl⟩
   rw[←V.out,List.drop_eq_nil_of_le (by omega)]
   rfl
theorem zmP (x:ByteArray) (w:World):
  Calls Tryz.prog 131 #[.slice none 0 0,.string x] w fun e w'=>e= .returned (.int .i64 (-1))∧w'=w:=by
 go_enter Tryz.func131,Tryz.ntmps131
 go_wp2
 go_loopg [8] 1 (fun k i wr=>k=1∧i= .int .i64 0∧wr=w)
 case atStart=>exact⟨rfl,rfl,rfl⟩
 case round=>
  obtain⟨rfl,rfl,rfl⟩:=hrel
  go_wp2
  go_ret
  exact⟨rfl,rfl⟩
theorem zmQ (j:Nat) (r:Rw) (l:List ByteArray) (x:ByteArray) (w:World) (h:OwnR w j 9 1 r l.length (l.map .string)) (I:l.length≤1000000):
  Calls Tryz.prog 131 #[.slice r.a l.length r.cap,.string x] w fun e w'=>(∃v:Int,e= .returned (.int .i64 v)∧decide (0≤v)=zaJ l x)∧w'=w:=by
 rcases h.nil_or with ⟨H,J,z⟩|⟨g,A⟩
 ·rw[H,J,z]
  refine (zmP x w).mono ?_
  rintro e L ⟨rfl,rfl⟩
  have:l=[]:=List.length_eq_zero_iff.1 z
  subst this
  exact⟨⟨_,rfl,rfl⟩,rfl⟩
 ·rw[A]
  exact zmO j g r l x w h I A
theorem zfV (j:Nat) (r:Rw) (l:List ByteArray) (x:ByteArray) (w:World) (h:OwnR w j 9 1 r l.length (l.map .string)) (H:l.length≤1000000):
  Calls Tryz.prog 96 #[.slice r.a l.length r.cap,.string x] w fun e w'=>e= .returned (.bool (zaJ l x))∧w'=w:=by
 have A:=zc h
 clear h
 go_enter Tryz.func96,Tryz.ntmps96
 go_wp2_with fail
 refine (zmQ j r l x _ A.out H).mono ?_
 rintro e J ⟨⟨v,rfl,z⟩,rfl⟩
 have I:=zc z
 clear z
 go_wp2
 go_ret
 exact⟨zk I.out,rfl⟩
theorem Tryz.infoText:(Tryz.prog.info? 9).map (fun i=>(i.zero,i.size,i.bytes))=some (some (.string {data:=#[]}),1,16):=by kernel_rfl
def zbn (C:Cx):Prop:=∀i,(zf C i).text.size≤281474976710656
theorem zmR (x:ByteArray): ∀u∈[Value.string x],u.oneCell'=true:=by
 intro u h
 simp at h
 rw[h]
 rfl
theorem zmS (C:Cx) (Z A j z:Nat) (S:Sv) (q:PS) (w:World) (h:IM C Z A j z S q w) (hC:zbn C) (hk:((zf C q.pos).kind==3)=true) (hs:zaJ q.rq (zf C q.pos).text=false) (hn:q.rq.length<40):
  Calls Tryz.prog 206 #[.pointer (some ⟨z,0,none⟩)] w fun e w'=>e= .returned (.string (zf C q.pos).text)∧∃S',IM C Z A j z S' {adv q with rq:=q.rq++[(zf C q.pos).text]} w'∧IS z S w S' w':=by
 obtain⟨i0,hi,ab,ag,ah⟩:=info_parts Tryz.infoText
 have aj:=zcM
 have O:=hC q.pos
 go_enter Tryz.func206,Tryz.ntmps206
 go_wp2_with fail
 refine (zdO C Z A j z S q 3 _ h hk (by decide)).mono ?_
 rintro e V ⟨rfl,m1,s1⟩
 have Y:=zc m1
 have af:=zc s1
 clear m1 s1
 unfold tkV
 obtain⟨c0,c1,c2,c3,c4,c5,c6,c7,c8,c9,cf⟩:=zah Y.out.cells
 rw[show (adv q).rq=q.rq from rfl] at c4
 generalize N:(zf C q.pos).text=tx at hs O ⊢
 have aa:=zc N
 clear N
 go_wp2_with fail
 refine (zfV j S.rq q.rq tx _ Y.out.mem.own.rq (by omega)).mono ?_
 rintro e J ⟨rfl,U⟩
 rw[hs,U]
 clear U J
 go_wp2_with fail
 refine (zdP z q.rq.length 40 _ (by omega)).mono ?_
 rintro e J ⟨rfl,U⟩
 rw[U]
 clear U J
 have HN:Hid (some z≠S.rq.blk):=fun e=>Y.out.free (.inl e.symm)
 go_wp2_with fail
 go_region_law (first|(refine zfd rfl (.tmp 28) (.tmp 31) 22 rfl j 9 i0 _ 1 16 Tryz.underlying22 hi ab ag ah rfl (by decide) (by decide) S.rq q.rq.length (q.rq.map .string) (by rfl) (by exact H.out.mem.own.rq.alloc _) X.heap.size [.string tx] (by rfl) (by exact heap_alloc_new X _) rfl (zmR tx) (by omega) (by exact (H.out.alloc _).mem.base) ?_;intro r' w2 hr I M;have g2:=(I.block z (by exact (H.out.alloc _).lt) HN.out).trans (by exact (H.out.alloc _).cells);obtain⟨d0,d1,d2,d3,d4,d5,d6,d7,d8,d9,df⟩:=zah g2)|(go_simp;go_wp2_with (go_at_call 68;refine (ziM _ _ O).mono ?_;rintro e X ⟨rfl,L⟩;have H:Hid (IM C Z A j z S (adv q) X):=Y.out.drew.later L;have ae:Hid (Below V.heap.size V X):=(Below.refl V.heap.size V).drew.trans L;obtain⟨e0,e1,e2,e3,e4,e5,e6,e7,e8,e9,ef⟩:=zah H.out.cells;rw[show (adv q).rq=q.rq from rfl] at e4;have ai:=H.out.lt;clear L)))
 all_goals
  have HR:=zc hr
  have ad:=zc I
  have ac:=zc M
  clear hr I M g2 c0 c1 c2 c3 c4 c5 c6 c7 c8 c9 cf e0 e1 e2 e3 e4 e5 e6 e7 e8 e9 ef
  go_wp2
  go_ret
  obtain⟨m',s'⟩:=H.out.grow_rq (x:=tx) ((Below.refl _ _).alloc (Nat.le_refl _) _) ad.out HR.out ac.out hn
  rw[aa.out]
  exact⟨rfl,_,m',af.out.trans (s'.grownI ae.out)⟩
theorem zfW (C:Cx) (J z j A:Nat) (S:Sv) (q:PS) (w:World) (h:IM C J z j A S q w) (hC:zbn C):
  Calls Tryz.prog 206 #[.pointer (some ⟨A,0,none⟩)] w (zR C J z j A (zJ C q) (·.1) (fun a=>.string a.2) S w):=by
 cases H:((zf C q.pos).kind==3) with
 |false=>
  have O:=zc h
  have Z:Hid (zJ C q= .error (zu C q.pos)):=by show _=_;rw[zJ,H];rfl
  clear h
  go_enter Tryz.func206,Tryz.ntmps206
  go_wp2_with fail
  refine (ziK C J z j A S q 3 _ O.out H).mono ?_
  rintro e w1 ⟨rfl,X⟩
  have HB:=X.mono O.out.mem.base
  clear X
  unfold Pan
  go_wp2
  refine⟨rfl,?_⟩
  rw[Z.out]
  exact⟨rfl,HB⟩
 |true=>
  cases V:zaJ q.rq (zf C q.pos).text with
  |true=>
   have O:=zc h
   have Z:Hid (zJ C q= .ok (adv q,(zf C q.pos).text)):=by show _=_;rw[zJ,H,V];rfl
   have ab:=zcM
   have aa:=h.mem.inv.rq
   clear h
   go_enter Tryz.func206,Tryz.ntmps206
   go_wp2_with fail
   refine (zdO C J z j A S q 3 _ O.out H (by decide)).mono ?_
   rintro e w1 ⟨rfl,N,M⟩
   have I:=zc N
   have L:=zc M
   clear N M
   unfold tkV
   obtain⟨c0,c1,c2,c3,c4,c5,c6,c7,c8,c9,cf⟩:=zah I.out.cells
   rw[show (adv q).rq=q.rq from rfl] at c4
   go_wp2_with fail
   refine (zfV j S.rq q.rq (zf C q.pos).text _ I.out.mem.own.rq (by omega)).mono ?_
   rintro e U ⟨rfl,Y⟩
   rw[V,Y]
   clear Y U
   go_wp2
   go_ret
   rw[Z.out]
   exact⟨rfl,S,I.out,L.out⟩
  |false=>
   by_cases hn:q.rq.length<40
   ·refine (zmS C J z j A S q w h hC H V hn).mono ?_
    rintro e w1 ⟨rfl,S1,N,M⟩
    rw[zJ,H,V,if_pos rfl,if_neg (by decide),if_neg (by omega)]
    exact⟨rfl,S1,N,M⟩
   ·have O:Hid (IM C J z j A S q w):=h
    have Z:Hid (zJ C q= .error (zu C q.pos)):=by show _=_;rw[zJ,H,V,if_pos rfl,if_neg (by decide),if_pos (by omega)]
    have ab:=zcM
    have aa:=h.mem.inv.rq
    clear h
    go_enter Tryz.func206,Tryz.ntmps206
    go_wp2_with fail
    refine (zdO C J z j A S q 3 _ O.out H (by decide)).mono ?_
    rintro e w1 ⟨rfl,N,M⟩
    have I:=zc N
    have L:=zc M
    clear N M
    unfold tkV
    obtain⟨c0,c1,c2,c3,c4,c5,c6,c7,c8,c9,cf⟩:=zah I.out.cells
    rw[show (adv q).rq=q.rq from rfl] at c4
    go_wp2_with fail
    refine (zfV j S.rq q.rq (zf C q.pos).text _ I.out.mem.own.rq (by omega)).mono ?_
    rintro e U ⟨rfl,Y⟩
    rw[V,Y]
    clear Y U
    go_wp2_with fail
    refine (ze1 C J z j A S (adv q) q.rq.length 40 _ I.out (by omega) (by rw[zA];omega)).mono ?_
    rintro e w2 ⟨rfl,X⟩
    have HB:=(O.out.back L.out).trans (X.mono I.out.mem.base)
    clear X
    unfold Pan
    go_wp2
    refine⟨rfl,?_⟩
    rw[Z.out]
    exact⟨rfl,HB⟩
theorem bdO {α β:Type} {Y:Except Nat β} {x:Except Nat α} {f:α→Except Nat β} {a:α} (h:Y=bd x f) (j:x= .ok a):Y=f a:=by rw[h,j];rfl
theorem bdE {α β:Type} {Y:Except Nat β} {x:Except Nat α} {f:α→Except Nat β} {p:Nat} (h:Y=bd x f) (j:x= .error p):Y= .error p:=by rw[h,j];rfl
theorem ze3 {α:Type} (x:Except Nat α):bd x .ok=x:=by cases x<;>rfl
abbrev cCall:ByteArray:={data:=#[40,41,123]}
abbrev cShutSemi:ByteArray:={data:=#[41,59]}
abbrev cSemiRight:ByteArray:={data:=#[59,125]}
theorem ziN (C:Cx) (b:UInt8) (q:PS):zaH C {data:=#[b]} 1 0 q=ze C 4 {data:=#[b]} q:=by
 have e:({data:=#[b]}:ByteArray).extract 0 (0+1)={data:=#[b]}:=by simp[ByteArray.extract,ByteArray.copySlice]
 rw[zaH,e]
 exact ze3 _
theorem ziO (C:Cx) (b c:UInt8) (q:PS):zaH C {data:=#[b,c]} 2 0 q=bd (ze C 4 {data:=#[b]} q) (ze C 4 {data:=#[c]}):=by
 have e:({data:=#[b,c]}:ByteArray).extract 0 (0+1)={data:=#[b]}:=by simp[ByteArray.extract,ByteArray.copySlice]
 have h:({data:=#[b,c]}:ByteArray).extract (0+1) (0+1+1)={data:=#[c]}:=by simp[ByteArray.extract,ByteArray.copySlice]
 rw[zaH,e]
 refine zag fun a _=>?_
 rw[zaH,h]
 exact ze3 _
theorem zmT (C:Cx) (b c d:UInt8) (q:PS):zaH C {data:=#[b,c,d]} 3 0 q=bd (ze C 4 {data:=#[b]} q) fun a=>bd (ze C 4 {data:=#[c]} a) (ze C 4 {data:=#[d]}):=by
 have e:({data:=#[b,c,d]}:ByteArray).extract 0 (0+1)={data:=#[b]}:=by simp[ByteArray.extract,ByteArray.copySlice]
 have j:({data:=#[b,c,d]}:ByteArray).extract (0+1) (0+1+1)={data:=#[c]}:=by simp[ByteArray.extract,ByteArray.copySlice]
 have h:({data:=#[b,c,d]}:ByteArray).extract (0+1+1) (0+1+1+1)={data:=#[d]}:=by simp[ByteArray.extract,ByteArray.copySlice]
 rw[zaH,e]
 refine zag fun a _=>?_
 rw[zaH,j]
 refine zag fun a _=>?_
 rw[zaH,h]
 exact ze3 _
theorem zmU (C:Cx) (H z j A:Nat) (S:Sv) (q:PS) (s:ByteArray) (f:PS→PR) (w:World) (h:IM C H z j A S q w) (I:zaH C s s.size 0 q=f q) (J:s.size≤100):
  Calls Tryz.prog 195 #[.pointer (some ⟨A,0,none⟩),.string s] w (zR C H z j A (f q) id (fun _=>.tuple #[]) S w):=by
 rw[←I]
 exact zhe C H z j A S q s w h J
theorem zcx (C:Cx) (H z j A:Nat) (S:Sv) (q:PS) (b:UInt8) (w:World) (h:IM C H z j A S q w):
  Calls Tryz.prog 195 #[.pointer (some ⟨A,0,none⟩),.string {data:=#[b]}] w (zR C H z j A (ze C 4 {data:=#[b]} q) id (fun _=>.tuple #[]) S w):=
 zmU C H z j A S q {data:=#[b]} (ze C 4 {data:=#[b]}) w h (ziN C b q) (by show 1≤100;omega)
structure Six (w:World) (b:Nat) (v0 v1 v2 v3 v4 v5:Value):Prop where
 c0:w.cell? ⟨b,0,none⟩=some v0
 c1:w.cell? ⟨b,1,none⟩=some v1
 c2:w.cell? ⟨b,2,none⟩=some v2
 c3:w.cell? ⟨b,3,none⟩=some v3
 c4:w.cell? ⟨b,4,none⟩=some v4
 c5:w.cell? ⟨b,5,none⟩=some v5
 fz: ∀i,w.frozen? ⟨b,i,none⟩=false
theorem zy {w:World} {b:Nat} {t:TypeId} {v0 v1 v2 v3 v4 j:Value} (h:w.heap[b]? =some (.cells #[v0,v1,v2,v3,v4,j] t (0,0))):Six w b v0 v1 v2 v3 v4 j:=by
 constructor<;>simp[World.cell?,World.frozen?,h]
theorem IS.kept {C:Cx} {I z j A b:Nat} {S S':Sv} {q:PS} {w w':World} {o:Obj} (h:IM C I z j A S q w) (s:IS A S (w.alloc o) S' w') (H:b=w.heap.size):w'.heap[b]? =some o:=by
 subst H
 refine (s.block _ (by rw[zn];omega) (fun g=>?_) (by have:=h.lt;omega)).trans (heap_alloc_new w _)
 have:=(h.mem.own.has g).2
 omega
theorem IS.from {h:Nat} {S S':Sv} {w w':World} {o:Obj} (s:IS h S (w.alloc o) S' w'):IS h S w S' w':=(IS.below ((Below.refl _ _).alloc (Nat.le_refl _) _)).trans s
theorem IS.free {C:Cx} {H z j A:Nat} {S S':Sv} {q:PS} {w w':World} {o:Obj} (h:IM C H z j A S q w) (s:IS A S (w.alloc o) S' w'): ¬S'.has w.heap.size:=by
 intro g
 rcases s.sub _ g with k|k
 ·have:=(h.mem.own.has k).2
  omega
 ·rw[zn] at k
  omega
def zbo (C:Cx) (x:Ex) (call:Int) (q:PS):PR:=if isT C q.pos 4 zr then bd (ze C 4 za8 (adv q)) (zQ C ⟨call,x.num,x.name,x.field,x.l,x.r⟩) else zQ C x q
theorem zfh (C:Cx) (N A z J:Nat) (S:Sv) (q:PS) (x:Ex) (j:Int) (w:World) (h:IM C N A z J S q w) (hp:0<q.pos):
  Calls Tryz.prog 236 #[.pointer (some ⟨J,0,none⟩),exV x,.int .i64 j] w (zR C N A z J (zbo C x j q) id (fun q'=>.int .i64 ((q'.ex.length:Int)-1)) S w):=by
 cases hi:isT C q.pos 4 zr with
 |false=>
  have HY:Hid (zbo C x j q=zQ C x q):=by show _=_;rw[zbo,hi];rfl
  unfold exV
  go_enter Tryz.func236,Tryz.ntmps236
  go_wp2_with fail
  refine (zN C N A z J S q 4 zr _ (h.alloc _) (by decide)).mono ?_
  rintro e w1 ⟨rfl,I,s⟩
  rw[hi] at I ⊢
  have X:=s.from
  have ah:Hid (w1.heap[w.heap.size]? =some (.cells #[.int .i64 x.kind,.int .i64 x.num,.string x.name,.string x.field,.int .i64 x.l,.int .i64 x.r] 109 (0,0))):=IS.kept h s rfl
  obtain⟨b0,b1,b2,b3,b4,b5,bf⟩:=zy ah.out
  clear s
  go_wp2_with fail
  refine (ze2 C N A z J S q x _ I hp).mono ?_
  cases H:zQ C x q with
  |error p=>
   rintro e w2 ⟨rfl,U⟩
   have Y:=(h.back X).trans U
   have M:Hid (zbo C x j q= .error p):=HY.out.trans H
   unfold Pan
   go_wp2
   refine⟨rfl,?_⟩
   rw[M.out]
   exact⟨rfl,Y⟩
  |ok a2=>
   rintro e w2 ⟨rfl,S2,O,s⟩
   have ab:=X.trans s
   clear s
   have M:=zc (HY.out.trans H)
   go_wp2
   go_ret
   rw[M.out]
   exact⟨rfl,S2,O,ab⟩
 |true=>
  have HY:Hid (zbo C x j q=bd (ze C 4 za8 (adv q)) (zQ C ⟨j,x.num,x.name,x.field,x.l,x.r⟩)):=by show _=_;rw[zbo,hi];rfl
  unfold exV
  go_enter Tryz.func236,Tryz.ntmps236
  go_wp2_with fail
  refine (zN C N A z J S q 4 zr _ (h.alloc _) (by decide)).mono ?_
  rintro e w1 ⟨rfl,I,aa⟩
  rw[hi] at I ⊢
  go_wp2_with fail
  refine (zcx C N A z J S (adv q) 41 _ I).mono ?_
  cases H:ze C 4 za8 (adv q) with
  |error p=>
   rintro e w2 ⟨rfl,U⟩
   have Y:=(h.back aa.from).trans U
   have M:Hid (zbo C x j q= .error p):=bdE HY.out H
   unfold Pan
   go_wp2
   refine⟨rfl,?_⟩
   rw[M.out]
   exact⟨rfl,Y⟩
  |ok a2=>
   rintro e w2 ⟨rfl,S2,O,s⟩
   have L:=aa.trans s
   have ac:Hid (w2.heap[w.heap.size]? =some (.cells #[.int .i64 x.kind,.int .i64 x.num,.string x.name,.string x.field,.int .i64 x.l,.int .i64 x.r] 109 (0,0))):=IS.kept h L rfl
   have ag:Hid (a2=adv (adv q)):=(zbT H).1
   have ae:Hid (¬S2.has w.heap.size):=IS.free h L
   have aj:J<w.heap.size:=h.lt
   have ai:N<w.heap.size:=(zau h.mem.tok).1
   clear s
   have V:=zc (bdO HY.out H)
   obtain⟨b0,b1,b2,b3,b4,b5,bf⟩:=zy ac.out
   go_wp2_with fail
   refine (ze2 C N A z J S2 a2 ⟨j,x.num,x.name,x.field,x.l,x.r⟩ _ (O.set (by omega) (by omega) ae.out _ _) (by rw[ag.out];show 0<q.pos+1+1;omega)).mono ?_
   cases Z:zQ C ⟨j,x.num,x.name,x.field,x.l,x.r⟩ a2 with
   |error p=>
    rintro e w3 ⟨rfl,U⟩
    have Y:Below z w w3:=(h.back (L.from.new (Nat.le_refl _) _ _)).trans U
    have M:Hid (zbo C x j q= .error p):=V.out.trans Z
    unfold Pan
    go_wp2
    refine⟨rfl,?_⟩
    rw[M.out]
    exact⟨rfl,Y⟩
   |ok a3=>
    rintro e w3 ⟨rfl,S3,ad,s⟩
    have af:IS J S w S3 w3:=(L.from.new (Nat.le_refl _) _ _).trans s
    clear s
    have M:=zc (V.out.trans Z)
    go_wp2
    go_ret
    rw[M.out]
    exact⟨rfl,S3,ad,af⟩
def exI (q:PS):Value:=.int .i64 ((q.ex.length:Int)-1)
def zfi (C:Cx) (gt cap base gp m:Nat):Prop:=∀(d:Nat) (S:Sv) (q:PS) (w:World),C.ts.length-q.pos<m→d≤20→IM C gt cap base gp S q w→
 Calls Tryz.prog 217 #[.pointer (some ⟨gp,0,none⟩),.int .i64 d] w (zR C gt cap base gp (pE C .sum d q) id exI S w)
theorem ziP (C:Cx) (n:ByteArray) (q:PS):zbE C n q=zbo C ⟨2,0,n,sNone,0,0⟩ 3 q:=by
 unfold zbE zbo
 cases h:isT C q.pos 4 zr with
 |true=>rw[zcc h];rfl
 |false=>rfl
theorem zmV (C:Cx) (n f:ByteArray) (q:PS):zbS C n f q=zbo C ⟨4,0,n,f,0,0⟩ 5 q:=by
 unfold zbS zbo
 cases h:isT C q.pos 4 zr with
 |true=>rw[zcc h];rfl
 |false=>rfl
theorem zmW {x y:ByteArray} (h:(x.toList==y.toList)=true):x=y:=by
 rw[beq_iff_eq,Lib.toList_data,Lib.toList_data] at h
 cases x
 cases y
 simp only at h
 rw[Array.toList_inj.1 h]
theorem zhi {C:Cx} {i:Nat} {k:Int} {x:ByteArray} (h:isT C i k x=true):(zf C i).text=x:=by
 simp only[isT,Bool.and_eq_true] at h
 exact zmW h.2
theorem zfX {C:Cx} {i:Nat} {k:Int} {x:ByteArray} (h:isT C i k x=true):((zf C i).kind==k)=true:=by
 simp only[isT,Bool.and_eq_true] at h
 exact h.1
theorem zmX {C:Cx} {d:Nat} {q:PS} (h:((zf C q.pos).kind==2)=true):pE C .part d q=zQ C ⟨1,(zf C q.pos).num,sNone,sNone,0,0⟩ (adv q):=by rw[zbM,h];rfl
theorem zmY {C:Cx} {d:Nat} {q:PS} (h:((zf C q.pos).kind==2)=false) (j:isT C q.pos 4 zr=true) (w:20≤d):pE C .part d q= .error (zu C q.pos):=by rw[zbM,h,j,if_neg (by decide),if_pos rfl,if_pos w]
theorem zmZ {C:Cx} {d:Nat} {q:PS} (h:((zf C q.pos).kind==2)=false) (j:isT C q.pos 4 zr=true) (w: ¬20≤d):pE C .part d q=bd (pE C .sum (d+1) (adv q)) (ze C 4 za8):=by rw[zbM,h,j,if_neg (by decide),if_pos rfl,if_neg w]
theorem zna {C:Cx} {d:Nat} {q:PS} (h:((zf C q.pos).kind==2)=false) (j:isT C q.pos 4 zr=false) (w:C.scr=true) (z:isT C q.pos 1 zaF=true):pE C .part d q=zbo C ⟨2,0,zaF,sNone,0,0⟩ 3 (adv q):=by
 rw[zbM,h,j,w,z,if_neg (by decide),if_neg (by decide),if_pos (by decide),ziP]
theorem ziQ {C:Cx} {d:Nat} {q:PS} (h:((zf C q.pos).kind==2)=false) (j:isT C q.pos 4 zr=false) (w:(C.scr&&isT C q.pos 1 zaF)=false):
  pE C .part d q=bd (zo C false q) fun x=>if isT C x.1.pos 4 cPoint then bd (zo C true (adv x.1)) fun y=>zbo C ⟨4,0,x.2,y.2,0,0⟩ 5 y.1 else zbo C ⟨2,0,x.2,sNone,0,0⟩ 3 x.1:=by
 rw[zbM,h,j,w,if_neg (by decide),if_neg (by decide),if_neg (by decide)]
 simp only[ziP,zmV]
theorem znb (C:Cx) (L z j A d:Nat) (S:Sv) (q:PS) (w:World) (h:IM C L z j A S q w) (Y:((zf C q.pos).kind==2)=true):
  Calls Tryz.prog 235 #[.pointer (some ⟨A,0,none⟩),.int .i64 d] w (zR C L z j A (pE C .part d q) id exI S w):=by
 have aa:=zda
 have ac:=zcM
 have ab:=zey
 have Z:=zc (zmX (d:=d) Y)
 go_enter Tryz.func235,Tryz.ntmps235
 go_wp2_with fail
 refine (zb6 C L z j A S q _ h).mono ?_
 rintro e w1 ⟨rfl,H⟩
 unfold tkV
 have X:=h.later H
 have N:IS A S w S w1:=IS.below H
 clear H
 go_wp2_with fail
 refine (zdO C L z j A S q 2 _ X Y (by decide)).mono ?_
 rintro e w2 ⟨rfl,M,s⟩
 have I:=N.trans s
 clear s
 unfold tkV
 go_wp2_with fail
 refine (ze2 C L z j A S (adv q) ⟨1,(zf C q.pos).num,sNone,sNone,0,0⟩ _ M (by rw[zA];omega)).mono ?_
 cases J:zQ C ⟨1,(zf C q.pos).num,sNone,sNone,0,0⟩ (adv q) with
 |error p=>
  rintro e w3 ⟨rfl,H⟩
  have HB:=(h.back I).trans H
  have HX:Hid (pE C .part d q= .error p):=Z.out.trans J
  unfold Pan
  go_wp2
  refine⟨rfl,?_⟩
  rw[HX.out]
  exact⟨rfl,HB⟩
 |ok a3=>
  rintro e w3 ⟨rfl,S3,O,s⟩
  have V:=I.trans s
  clear s
  have U:=zc (Z.out.trans J)
  go_wp2
  go_ret
  rw[U.out]
  exact⟨rfl,S3,O,V⟩
theorem znc (C:Cx) (J z j H d:Nat) (S:Sv) (q:PS) (w:World) (h:IM C J z j H S q w) (X:((zf C q.pos).kind==2)=false) (O:isT C q.pos 4 zr=true) (U:20≤d):
  Calls Tryz.prog 235 #[.pointer (some ⟨H,0,none⟩),.int .i64 d] w (zR C J z j H (pE C .part d q) id exI S w):=by
 have Z:=zda
 have ac:=zcM
 have ab:=zey
 have HY:=zc (zmY (d:=d) X O U)
 have aa:(20:Int)≤(d:Int):=by omega
 go_enter Tryz.func235,Tryz.ntmps235
 go_wp2_with fail
 refine (zb6 C J z j H S q _ h).mono ?_
 rintro e V ⟨rfl,I⟩
 unfold tkV
 have N:=h.later I
 have L:IS H S w S V:=IS.below I
 clear I
 go_wp2_with fail
 refine (zN C J z j H S q 4 zr _ N (by decide)).mono ?_
 rintro e w2 ⟨rfl,A,s⟩
 rw[O] at A ⊢
 have M:=L.trans s
 clear s
 go_wp2_with fail
 refine (ze1 C J z j H S (adv q) d 20 _ A (by omega) (by rw[zA];omega)).mono ?_
 rintro e w3 ⟨rfl,I⟩
 have Y:=(h.back M).trans (I.mono A.mem.base)
 have HX:Hid (pE C .part d q= .error (zu C q.pos)):=HY.out
 unfold Pan
 go_wp2
 refine⟨rfl,?_⟩
 rw[HX.out]
 exact⟨rfl,Y⟩
theorem znd (C:Cx) (L z j A m d:Nat) (S:Sv) (q:PS) (w:World) (h:IM C L z j A S q w) (hk:((zf C q.pos).kind==2)=false) (h1:isT C q.pos 4 zr=true) (hd:d<20) (hS:zfi C L z j A m) (hm:C.ts.length-q.pos≤m):
  Calls Tryz.prog 235 #[.pointer (some ⟨A,0,none⟩),.int .i64 d] w (zR C L z j A (pE C .part d q) id exI S w):=by
 have ag:=zda
 have aj:=zcM
 have ai:=zey
 have HY:=zc (zmZ (d:=d) hk h1 (by omega))
 have ah: ¬(20:Int)≤(d:Int):=by omega
 have af:=za9 h1 (by decide)
 obtain⟨J,U⟩: ∃J:Nat,J=d+1:=⟨_,rfl⟩
 have ed:(d:Int)+1=(J:Int):=by omega
 rw[←U] at HY
 have Y:J≤20:=by omega
 clear U
 go_enter Tryz.func235,Tryz.ntmps235
 go_wp2_with fail
 refine (zb6 C L z j A S q _ h).mono ?_
 rintro e w1 ⟨rfl,I⟩
 unfold tkV
 have ae:=h.later I
 have ab:IS A S w S w1:=IS.below I
 clear I
 go_wp2_with fail
 refine (zN C L z j A S q 4 zr _ ae (by decide)).mono ?_
 rintro e w2 ⟨rfl,M,s⟩
 rw[h1] at M ⊢
 have N:=ab.trans s
 clear s
 go_wp2_with fail
 refine (zdP A d 20 _ (by omega)).mono ?_
 rintro e w' ⟨rfl,hw⟩
 rw[hw]
 clear hw w'
 go_wp2_with fail
 refine (hS J S (adv q) _ (by rw[zA];omega) Y M).mono ?_
 cases O:pE C .sum J (adv q) with
 |error p=>
  rintro e w3 ⟨rfl,I⟩
  have HB:=(h.back N).trans I
  have HX:Hid (pE C .part d q= .error p):=bdE HY.out O
  unfold Pan
  go_wp2
  refine⟨rfl,?_⟩
  rw[HX.out]
  exact⟨rfl,HB⟩
 |ok a3=>
  rintro e w3 ⟨rfl,S3,ac,s⟩
  have X:=N.trans s
  clear s
  have V:=zc (bdO HY.out O)
  unfold exI
  go_wp2_with fail
  refine (zcx C L z j A S3 a3 41 _ ac).mono ?_
  cases H:ze C 4 za8 a3 with
  |error p=>
   rintro e w4 ⟨rfl,I⟩
   have HB:=(h.back X).trans I
   have HX:Hid (pE C .part d q= .error p):=V.out.trans H
   unfold Pan
   go_wp2
   refine⟨rfl,?_⟩
   rw[HX.out]
   exact⟨rfl,HB⟩
  |ok a4=>
   rintro e w4 ⟨rfl,S4,aa,s⟩
   have Z:=X.trans s
   clear s
   have ad:=zc (V.out.trans H)
   have HP:Hid (a4=adv a3):=(zbT H).1
   go_wp2
   go_ret
   rw[ad.out]
   exact⟨by rw[HP.out];rfl,S4,aa,Z⟩
theorem zne (C:Cx) (J z j H d:Nat) (S:Sv) (q:PS) (w:World) (h:IM C J z j H S q w) (hk:((zf C q.pos).kind==2)=false) (h1:isT C q.pos 4 zr=false) (h2:C.scr=true) (N:isT C q.pos 1 zaF=true):
  Calls Tryz.prog 235 #[.pointer (some ⟨H,0,none⟩),.int .i64 d] w (zR C J z j H (pE C .part d q) id exI S w):=by
 have ad:=zda
 have af:=zcM
 have ae:=zey
 have HY:=zc (zna (d:=d) hk h1 h2 N)
 go_enter Tryz.func235,Tryz.ntmps235
 go_wp2_with fail
 refine (zb6 C J z j H S q _ h).mono ?_
 rintro e w1 ⟨rfl,A⟩
 unfold tkV
 have ac:=h.later A
 have V:IS H S w S w1:=IS.below A
 clear A
 go_wp2_with fail
 refine (zN C J z j H S q 4 zr _ ac (by decide)).mono ?_
 rintro e w2 ⟨rfl,m,s⟩
 rw[h1] at m ⊢
 have I:=zc m
 have X:=V.trans s
 clear m s
 obtain⟨_,_,_,c3,_,_,_,_,_,_,cf⟩:=zah I.out.cells
 rw[h2] at c3
 go_wp2_with fail
 refine (zck C J z j H S q 1 zaF _ I.out).mono ?_
 rintro e w3 ⟨rfl,A⟩
 rw[N]
 have Z:=I.out.later A
 have aa:=(X.trans (IS.below A))
 clear A
 go_wp2_with fail
 refine (zdO C J z j H S q 1 _ Z (zfX N) (by decide)).mono ?_
 rintro e w4 ⟨rfl,O,s⟩
 have M:=aa.trans s
 clear s
 unfold tkV
 rw[zhi N]
 go_wp2_with fail
 refine (zfh C J z j H S (adv q) ⟨2,0,zaF,sNone,0,0⟩ 3 _ O (by rw[zA];omega)).mono ?_
 cases L:zbo C ⟨2,0,zaF,sNone,0,0⟩ 3 (adv q) with
 |error p=>
  rintro e w5 ⟨rfl,A⟩
  have HB:=(h.back M).trans A
  have HX:Hid (pE C .part d q= .error p):=HY.out.trans L
  unfold Pan
  go_wp2
  refine⟨rfl,?_⟩
  rw[HX.out]
  exact⟨rfl,HB⟩
 |ok a5=>
  rintro e w5 ⟨rfl,S5,U,s⟩
  have ab:=M.trans s
  clear s
  have Y:=zc (HY.out.trans L)
  go_wp2
  go_ret
  rw[Y.out]
  exact⟨rfl,S5,U,ab⟩
theorem znf (C:Cx) (N z j H d:Nat) (S:Sv) (q:PS) (w:World) (h:IM C N z j H S q w) (hk:((zf C q.pos).kind==2)=false) (h1:isT C q.pos 4 zr=false) (h2:C.scr=true) (h3:isT C q.pos 1 zaF=false):
  Calls Tryz.prog 235 #[.pointer (some ⟨H,0,none⟩),.int .i64 d] w (zR C N z j H (pE C .part d q) id exI S w):=by
 have an:=zda
 have ap:=zcM
 have ao:=zey
 have HY:=zc (ziQ (d:=d) hk h1 (by rw[h2,h3];rfl))
 go_enter Tryz.func235,Tryz.ntmps235
 go_wp2_with fail
 refine (zb6 C N z j H S q _ h).mono ?_
 rintro e w1 ⟨rfl,A⟩
 unfold tkV
 have am:=h.later A
 have ai:IS H S w S w1:=IS.below A
 clear A
 go_wp2_with fail
 refine (zN C N z j H S q 4 zr _ am (by decide)).mono ?_
 rintro e w2 ⟨rfl,m,s⟩
 rw[h1] at m ⊢
 have X:=zc m
 have aj:=ai.trans s
 clear m s
 obtain⟨_,_,_,c3,_,_,_,_,_,_,cf⟩:=zah X.out.cells
 rw[h2] at c3
 go_wp2_with fail
 refine (zck C N z j H S q 1 zaF _ X.out).mono ?_
 rintro e w3 ⟨rfl,A⟩
 rw[h3]
 have ak:=X.out.later A
 have ad:=(aj.trans (IS.below A))
 clear A
 go_wp2_with fail
 refine (zdz C N z j H S q _ ak).mono ?_
 cases V:zo C false q with
 |error p=>
  rintro e w4 ⟨rfl,A⟩
  have Y:=(h.back ad).trans A
  have HX:Hid (pE C .part d q= .error p):=bdE HY.out V
  unfold Pan
  go_wp2
  refine⟨rfl,?_⟩
  rw[HX.out]
  exact⟨rfl,Y⟩
 |ok J=>
  rintro e w4 ⟨rfl,S4,ab,s⟩
  have aa:=ad.trans s
  clear s
  have ae:=zc (bdO HY.out V)
  have ac:0<J.1.pos:=by rw[(zb0 V).1];exact Nat.succ_pos _
  cases hd:isT C J.1.pos 4 cPoint with
  |true=>
   have HZ:=zc (ae.out.trans (if_pos hd))
   go_wp2_with fail
   refine (zN C N z j H S4 (J.1) 4 cPoint _ ab (by decide)).mono ?_
   rintro e w5 ⟨rfl,L,s⟩
   rw[hd] at L ⊢
   have M:=aa.trans s
   clear s
   go_wp2_with fail
   refine (zfc C N z j H S4 (adv (J.1)) _ L).mono ?_
   cases I:zo C true (adv (J.1)) with
   |error p=>
    rintro e w6 ⟨rfl,A⟩
    have Y:=(h.back M).trans A
    have HX:Hid (pE C .part d q= .error p):=bdE HZ.out I
    unfold Pan
    go_wp2
    refine⟨rfl,?_⟩
    rw[HX.out]
    exact⟨rfl,Y⟩
   |ok a6=>
    rintro e w6 ⟨rfl,S6,Z,s⟩
    have O:=M.trans s
    clear s
    have U:=zc (bdO HZ.out I)
    go_wp2_with fail
    refine (zfh C N z j H S6 (a6.1) ⟨4,0,J.2,a6.2,0,0⟩ 5 _ Z (by rw[(zb0 I).1];exact Nat.succ_pos _)).mono ?_
    cases af:zbo C ⟨4,0,J.2,a6.2,0,0⟩ 5 (a6.1) with
    |error p=>
     rintro e w7 ⟨rfl,A⟩
     have Y:=(h.back O).trans A
     have HX:Hid (pE C .part d q= .error p):=U.out.trans af
     unfold Pan
     go_wp2
     refine⟨rfl,?_⟩
     rw[HX.out]
     exact⟨rfl,Y⟩
    |ok a7=>
     rintro e w7 ⟨rfl,S7,ah,s⟩
     have al:=O.trans s
     clear s
     have ag:=zc (U.out.trans af)
     go_wp2
     go_ret
     rw[ag.out]
     exact⟨rfl,S7,ah,al⟩
  |false=>
   have HZ:=zc (ae.out.trans (if_neg (by rw[hd];decide)))
   go_wp2_with fail
   refine (zN C N z j H S4 (J.1) 4 cPoint _ ab (by decide)).mono ?_
   rintro e w5 ⟨rfl,L,s⟩
   rw[hd] at L ⊢
   have M:=aa.trans s
   clear s
   go_wp2_with fail
   refine (zfh C N z j H S4 (J.1) ⟨2,0,J.2,sNone,0,0⟩ 3 _ L ac).mono ?_
   cases I:zbo C ⟨2,0,J.2,sNone,0,0⟩ 3 (J.1) with
   |error p=>
    rintro e w6 ⟨rfl,A⟩
    have Y:=(h.back M).trans A
    have HX:Hid (pE C .part d q= .error p):=HZ.out.trans I
    unfold Pan
    go_wp2
    refine⟨rfl,?_⟩
    rw[HX.out]
    exact⟨rfl,Y⟩
   |ok a6=>
    rintro e w6 ⟨rfl,S6,Z,s⟩
    have O:=M.trans s
    clear s
    have U:=zc (HZ.out.trans I)
    go_wp2
    go_ret
    rw[U.out]
    exact⟨rfl,S6,Z,O⟩
theorem zng (C:Cx) (N z j H d:Nat) (S:Sv) (q:PS) (w:World) (h:IM C N z j H S q w) (hk:((zf C q.pos).kind==2)=false) (h1:isT C q.pos 4 zr=false) (h2:C.scr=false):
  Calls Tryz.prog 235 #[.pointer (some ⟨H,0,none⟩),.int .i64 d] w (zR C N z j H (pE C .part d q) id exI S w):=by
 have am:=zda
 have ao:=zcM
 have an:=zey
 have HY:=zc (ziQ (d:=d) hk h1 (by rw[h2];rfl))
 go_enter Tryz.func235,Tryz.ntmps235
 go_wp2_with fail
 refine (zb6 C N z j H S q _ h).mono ?_
 rintro e w1 ⟨rfl,L⟩
 unfold tkV
 have ak:=h.later L
 have ah:IS H S w S w1:=IS.below L
 clear L
 go_wp2_with fail
 refine (zN C N z j H S q 4 zr _ ak (by decide)).mono ?_
 rintro e w2 ⟨rfl,m,s⟩
 rw[h1] at m ⊢
 have aa:=zc m
 have ab:=ah.trans s
 clear m s
 obtain⟨_,_,_,c3,_,_,_,_,_,_,cf⟩:=zah aa.out.cells
 rw[h2] at c3
 go_wp2_with fail
 refine (zdz C N z j H S q _ aa.out).mono ?_
 cases Y:zo C false q with
 |error p=>
  rintro e w3 ⟨rfl,L⟩
  have X:=(h.back ab).trans L
  have Z:Hid (pE C .part d q= .error p):=bdE HY.out Y
  unfold Pan
  go_wp2
  refine⟨rfl,?_⟩
  rw[Z.out]
  exact⟨rfl,X⟩
 |ok I=>
  rintro e w3 ⟨rfl,S3,ae,s⟩
  have ag:=ab.trans s
  clear s
  have af:=zc (bdO HY.out Y)
  have ac:0<I.1.pos:=by rw[(zb0 Y).1];exact Nat.succ_pos _
  cases hd:isT C I.1.pos 4 cPoint with
  |true=>
   have HZ:=zc (af.out.trans (if_pos hd))
   go_wp2_with fail
   refine (zN C N z j H S3 (I.1) 4 cPoint _ ae (by decide)).mono ?_
   rintro e w4 ⟨rfl,M,s⟩
   rw[hd] at M ⊢
   have J:=ag.trans s
   clear s
   go_wp2_with fail
   refine (zfc C N z j H S3 (adv (I.1)) _ M).mono ?_
   cases A:zo C true (adv (I.1)) with
   |error p=>
    rintro e w5 ⟨rfl,L⟩
    have X:=(h.back J).trans L
    have Z:Hid (pE C .part d q= .error p):=bdE HZ.out A
    unfold Pan
    go_wp2
    refine⟨rfl,?_⟩
    rw[Z.out]
    exact⟨rfl,X⟩
   |ok a5=>
    rintro e w5 ⟨rfl,S5,V,s⟩
    have U:=J.trans s
    clear s
    have O:=zc (bdO HZ.out A)
    go_wp2_with fail
    refine (zfh C N z j H S5 (a5.1) ⟨4,0,I.2,a5.2,0,0⟩ 5 _ V (by rw[(zb0 A).1];exact Nat.succ_pos _)).mono ?_
    cases ad:zbo C ⟨4,0,I.2,a5.2,0,0⟩ 5 (a5.1) with
    |error p=>
     rintro e w6 ⟨rfl,L⟩
     have X:=(h.back U).trans L
     have Z:Hid (pE C .part d q= .error p):=O.out.trans ad
     unfold Pan
     go_wp2
     refine⟨rfl,?_⟩
     rw[Z.out]
     exact⟨rfl,X⟩
    |ok a6=>
     rintro e w6 ⟨rfl,S6,ai,s⟩
     have aj:=U.trans s
     clear s
     have al:=zc (O.out.trans ad)
     go_wp2
     go_ret
     rw[al.out]
     exact⟨rfl,S6,ai,aj⟩
  |false=>
   have HZ:=zc (af.out.trans (if_neg (by rw[hd];decide)))
   go_wp2_with fail
   refine (zN C N z j H S3 (I.1) 4 cPoint _ ae (by decide)).mono ?_
   rintro e w4 ⟨rfl,M,s⟩
   rw[hd] at M ⊢
   have J:=ag.trans s
   clear s
   go_wp2_with fail
   refine (zfh C N z j H S3 (I.1) ⟨2,0,I.2,sNone,0,0⟩ 3 _ M ac).mono ?_
   cases A:zbo C ⟨2,0,I.2,sNone,0,0⟩ 3 (I.1) with
   |error p=>
    rintro e w5 ⟨rfl,L⟩
    have X:=(h.back J).trans L
    have Z:Hid (pE C .part d q= .error p):=HZ.out.trans A
    unfold Pan
    go_wp2
    refine⟨rfl,?_⟩
    rw[Z.out]
    exact⟨rfl,X⟩
   |ok a5=>
    rintro e w5 ⟨rfl,S5,V,s⟩
    have U:=J.trans s
    clear s
    have O:=zc (HZ.out.trans A)
    go_wp2
    go_ret
    rw[O.out]
    exact⟨rfl,S5,V,U⟩
theorem ziR (C:Cx) (H z j A m d:Nat) (S:Sv) (q:PS) (w:World) (h:IM C H z j A S q w) (V:d≤20) (U:zfi C H z j A m) (O:C.ts.length-q.pos≤m):
  Calls Tryz.prog 235 #[.pointer (some ⟨A,0,none⟩),.int .i64 d] w (zR C H z j A (pE C .part d q) id exI S w):=by
 cases I:((zf C q.pos).kind==2) with
 |true=>exact znb C H z j A d S q w h I
 |false=>
  cases J:isT C q.pos 4 zr with
  |true=>
   by_cases L:20≤d
   ·exact znc C H z j A d S q w h I J L
   ·exact znd C H z j A m d S q w h I J (by omega) U O
  |false=>
   cases M:C.scr with
   |true=>
    cases N:isT C q.pos 1 zaF with
    |true=>exact zne C H z j A d S q w h I J M N
    |false=>exact znf C H z j A d S q w h I J M N
   |false=>exact zng C H z j A d S q w h I J M
theorem znh {C:Cx} {d:Nat} {q:PS} (h:isT C q.pos 4 zz=false):pE C .prodT d q= .ok q:=by rw[zfD,if_neg (by rw[h];decide)]
theorem zni {C:Cx} {d:Nat} {q:PS} (h:isT C q.pos 4 zz=true):pE C .prodT d q=bd (pE C .part d (adv q)) fun a=>bd (zQ C ⟨8,0,sNone,sNone,(q.ex.length:Int)-1,(a.ex.length:Int)-1⟩ a) (pE C .prodT d):=by rw[zfD,if_pos h,zO]
theorem znj {C:Cx} {d:Nat} {q:PS} (h:isT C q.pos 4 zbl=false) (j:isT C q.pos 4 zct=false):pE C .sumT d q= .ok q:=by rw[zeT,if_neg (by rw[h,j];decide)]
theorem znk {C:Cx} {d:Nat} {q:PS} (h:isT C q.pos 4 zbl=true):pE C .sumT d q=bd (pE C .prod d (adv q)) fun a=>bd (zQ C ⟨7,0,sNone,sNone,(q.ex.length:Int)-1,(a.ex.length:Int)-1⟩ a) (pE C .sumT d):=by
 rw[zeT,if_pos (by rw[h];exact Bool.or_true _),zO,zdu,if_pos h]
theorem znl {C:Cx} {d:Nat} {q:PS} (h:isT C q.pos 4 zbl=false) (j:isT C q.pos 4 zct=true):pE C .sumT d q=bd (pE C .prod d (adv q)) fun a=>bd (zQ C ⟨6,0,sNone,sNone,(q.ex.length:Int)-1,(a.ex.length:Int)-1⟩ a) (pE C .sumT d):=by
 rw[zeT,if_pos (by rw[j];rfl),zO,zdu,if_neg (by rw[h];decide)]
theorem zhj (C:Cx) (L z j I m d:Nat) (S:Sv) (q:PS) (w:World) (h:IM C L z j I S q w) (hd:d≤20) (hS:zfi C L z j I m) (hm:C.ts.length-q.pos≤m):
  Calls Tryz.prog 231 #[.pointer (some ⟨I,0,none⟩),.int .i64 d] w (zR C L z j I (pE C .prod d q) id exI S w):=by
 have HY:=zc (zit C d q)
 go_enter Tryz.func231,Tryz.ntmps231
 go_wp2_with fail
 refine (ziR C L z j I m d S q _ h hd hS hm).mono ?_
 cases N:pE C .part d q with
 |error p=>
  rintro e w1 ⟨rfl,Y⟩
  have Z:Below j w w1:=(h.back (IS.refl _ _ _)).trans Y
  have HX:Hid (pE C .prod d q= .error p):=bdE HY.out N
  unfold Pan
  go_wp2
  refine⟨rfl,?_⟩
  rw[HX.out]
  exact⟨rfl,Z⟩
 |ok a1=>
  rintro e w1 ⟨rfl,S1,al,ah⟩
  have am:=zc (bdO HY.out N)
  unfold exI
  have ap:=zbf N
  go_wp2
  go_loopg [5] (C.ts.length+1) (fun k l wr=>∃(U:Sv) (A:PS),l=exI A∧pE C .prod d q=pE C .prodT d A∧C.ts.length-A.pos<k∧C.ts.length-A.pos≤m∧IM C L z j I U A wr∧IS I S w U wr)
  case atStart=>exact⟨S1,a1,rfl,am.out,by omega,by omega,al,ah⟩
  case round=>
   obtain⟨U,A,rfl,hy,hk,ao,m',s'⟩:=hrel
   have aa:=zc hy
   have X:=m'
   have ae:=s'
   clear hy m' s'
   unfold exI
   cases hi:isT C A.pos 4 zz with
   |false=>
    have HZ:=zc (aa.out.trans (znh hi))
    go_wp2_with fail
    refine (zN C L z j I U A 4 zz _ X (by decide)).mono ?_
    rintro e w2 ⟨rfl,H,s⟩
    rw[hi] at H ⊢
    have J:=ae.trans s
    clear s
    go_wp2
    go_ret
    rw[HZ.out]
    exact⟨rfl,U,H,J⟩
   |true=>
    have an:=za9 hi (by decide)
    have HZ:=zc (aa.out.trans (zni hi))
    go_wp2_with fail
    refine (zN C L z j I U A 4 zz _ X (by decide)).mono ?_
    rintro e w2 ⟨rfl,H,s⟩
    rw[hi] at H ⊢
    have J:=ae.trans s
    clear s
    go_wp2_with fail
    refine (ziR C L z j I m d U (adv A) _ H hd hS (by rw[zA];omega)).mono ?_
    cases O:pE C .part d (adv A) with
    |error p=>
     rintro e w3 ⟨rfl,Y⟩
     have Z:=(h.back J).trans Y
     have HX:Hid (pE C .prod d q= .error p):=bdE HZ.out O
     unfold Pan
     go_wp2
     refine⟨rfl,?_⟩
     rw[HX.out]
     exact⟨rfl,Z⟩
    |ok V=>
     rintro e w3 ⟨rfl,S3,aj,s⟩
     have ad:=J.trans s
     clear s
     have ac:=zc (bdO HZ.out O)
     unfold exI
     have ab:=zbf O
     rw[zA] at ab
     have ai:0<V.pos:=by omega
     go_wp2_with fail
     refine (ze2 C L z j I S3 V ⟨8,0,sNone,sNone,(A.ex.length:Int)-1,(V.ex.length:Int)-1⟩ _ aj ai).mono ?_
     cases M:zQ C ⟨8,0,sNone,sNone,(A.ex.length:Int)-1,(V.ex.length:Int)-1⟩ V with
     |error p=>
      rintro e w4 ⟨rfl,Y⟩
      have Z:=(h.back ad).trans Y
      have HX:Hid (pE C .prod d q= .error p):=bdE ac.out M
      unfold Pan
      go_wp2
      refine⟨rfl,?_⟩
      rw[HX.out]
      exact⟨rfl,Z⟩
     |ok a4=>
      rintro e w4 ⟨rfl,S4,ag,s⟩
      have af:=ad.trans s
      clear s
      have ak:=zc (bdO ac.out M)
      have HP:Hid (a4.pos=V.pos):=by show _=_;rw[(zb1 M).1]
      go_wp2
      go_roundg (gk-1)
      case rel=>exact⟨S4,a4,rfl,ak.out,by have:=HP.out;omega,by have:=HP.out;omega,ag,af⟩
      case measure=>omega
theorem znm (C:Cx) (J z j I m d:Nat) (S:Sv) (q:PS) (w:World) (h:IM C J z j I S q w) (hd:d≤20) (hS:zfi C J z j I m) (hm:C.ts.length-q.pos≤m):
  Calls Tryz.prog 217 #[.pointer (some ⟨I,0,none⟩),.int .i64 d] w (zR C J z j I (pE C .sum d q) id exI S w):=by
 have HY:=zc (zis C d q)
 go_enter Tryz.func217,Tryz.ntmps217
 go_wp2_with fail
 refine (zhj C J z j I m d S q _ h hd hS hm).mono ?_
 cases ae:pE C .prod d q with
 |error p=>
  rintro e w1 ⟨rfl,H⟩
  have HB:Below j w w1:=(h.back (IS.refl _ _ _)).trans H
  have HX:Hid (pE C .sum d q= .error p):=bdE HY.out ae
  unfold Pan
  go_wp2
  refine⟨rfl,?_⟩
  rw[HX.out]
  exact⟨rfl,HB⟩
 |ok a1=>
  rintro e w1 ⟨rfl,S1,aq,am⟩
  have an:=zc (bdO HY.out ae)
  unfold exI
  have aw:=zbf ae
  go_wp2
  go_loopg [5] (C.ts.length+1) (fun k l wr=>∃(L:Sv) (A:PS),l=exI A∧pE C .sum d q=pE C .sumT d A∧C.ts.length-A.pos<k∧C.ts.length-A.pos≤m∧IM C J z j I L A wr∧IS I S w L wr)
  case atStart=>exact⟨S1,a1,rfl,an.out,by omega,by omega,aq,am⟩
  case round=>
   obtain⟨L,A,rfl,hy,hk,av,m',s'⟩:=hrel
   have ah:=zc hy
   have O:=m'
   have ak:=s'
   clear hy m' s'
   unfold exI
   have au:=O.mem.few
   cases hi:isT C A.pos 4 zbl with
   |true=>
    have ad:=za9 hi (by decide)
    have HZ:=zc (ah.out.trans (znk hi))
    go_wp2_with fail
    refine (zck C J z j I L A 4 zbl _ O).mono ?_
    rintro e w2 ⟨rfl,H⟩
    rw[hi]
    have M:Hid (IM C J z j I L A w2):=O.later H
    have Y:=(ak.trans (IS.below H))
    clear H
    obtain⟨c0,c1,c2,c3,c4,c5,c6,c7,c8,c9,cf⟩:=zah M.out.cells
    go_wp2_with fail
    have U:Hid (IM C J z j I L (adv A) (w2.setCell ⟨I,1,none⟩ (.int .i64 ((A.pos:Int)+1)))):=M.out.adv ad
    have V:IS I S w L (w2.setCell ⟨I,1,none⟩ (.int .i64 ((A.pos:Int)+1))):=Y.set _ _
    refine (zhj C J z j I m d L (adv A) _ U.out hd hS (by rw[zA];omega)).mono ?_
    cases ac:pE C .prod d (adv A) with
    |error p=>
     rintro e w4 ⟨rfl,H⟩
     have HB:=(h.back V).trans H
     have HX:Hid (pE C .sum d q= .error p):=bdE HZ.out ac
     unfold Pan
     go_wp2
     refine⟨rfl,?_⟩
     rw[HX.out]
     exact⟨rfl,HB⟩
    |ok a4=>
     rintro e w4 ⟨rfl,S4,af,s⟩
     have X:=V.trans s
     clear s
     have al:=zc (bdO HZ.out ac)
     unfold exI
     have Z:=zbf ac
     rw[zA] at Z
     have aj:0<a4.pos:=by omega
     go_wp2_with fail
     refine (ze2 C J z j I S4 a4 ⟨7,0,sNone,sNone,(A.ex.length:Int)-1,(a4.ex.length:Int)-1⟩ _ af aj).mono ?_
     cases N:zQ C ⟨7,0,sNone,sNone,(A.ex.length:Int)-1,(a4.ex.length:Int)-1⟩ a4 with
     |error p=>
      rintro e w5 ⟨rfl,H⟩
      have HB:=(h.back X).trans H
      have HX:Hid (pE C .sum d q= .error p):=bdE al.out N
      unfold Pan
      go_wp2
      refine⟨rfl,?_⟩
      rw[HX.out]
      exact⟨rfl,HB⟩
     |ok a5=>
      rintro e w5 ⟨rfl,S5,ag,s⟩
      have ab:=X.trans s
      clear s
      have aa:=zc (bdO al.out N)
      have HP:Hid (a5.pos=a4.pos):=by show _=_;rw[(zb1 N).1]
      go_wp2
      go_roundg (gk-1)
      case rel=>exact⟨S5,a5,rfl,aa.out,by have:=HP.out;omega,by have:=HP.out;omega,ag,ab⟩
      case measure=>omega
   |false=>
    cases hj:isT C A.pos 4 zct with
    |true=>
     have ad:=za9 hj (by decide)
     have HZ:=zc (ah.out.trans (znl hi hj))
     go_wp2_with fail
     refine (zck C J z j I L A 4 zbl _ O).mono ?_
     rintro e w2 ⟨rfl,H⟩
     rw[hi]
     have M:Hid (IM C J z j I L A w2):=O.later H
     have Y:=(ak.trans (IS.below H))
     clear H
     go_wp2_with fail
     refine (zck C J z j I L A 4 zct _ M.out).mono ?_
     rintro e w3 ⟨rfl,H⟩
     rw[hj]
     have U:Hid (IM C J z j I L A w3):=M.out.later H
     have V:=(Y.trans (IS.below H))
     clear H
     obtain⟨c0,c1,c2,c3,c4,c5,c6,c7,c8,c9,cf⟩:=zah U.out.cells
     go_wp2_with fail
     have af:=U.out.adv ad
     have X:IS I S w L (w3.setCell ⟨I,1,none⟩ (.int .i64 ((A.pos:Int)+1))):=V.set _ _
     refine (zhj C J z j I m d L (adv A) _ af hd hS (by rw[zA];omega)).mono ?_
     cases N:pE C .prod d (adv A) with
     |error p=>
      rintro e w5 ⟨rfl,H⟩
      have HB:=(h.back X).trans H
      have HX:Hid (pE C .sum d q= .error p):=bdE HZ.out N
      unfold Pan
      go_wp2
      refine⟨rfl,?_⟩
      rw[HX.out]
      exact⟨rfl,HB⟩
     |ok a5=>
      rintro e w5 ⟨rfl,S5,ag,s⟩
      have ab:=X.trans s
      clear s
      have aa:=zc (bdO HZ.out N)
      unfold exI
      have Z:=zbf N
      rw[zA] at Z
      have aj:0<a5.pos:=by omega
      go_wp2_with fail
      refine (ze2 C J z j I S5 a5 ⟨6,0,sNone,sNone,(A.ex.length:Int)-1,(a5.ex.length:Int)-1⟩ _ ag aj).mono ?_
      cases ai:zQ C ⟨6,0,sNone,sNone,(A.ex.length:Int)-1,(a5.ex.length:Int)-1⟩ a5 with
      |error p=>
       rintro e w6 ⟨rfl,H⟩
       have HB:=(h.back ab).trans H
       have HX:Hid (pE C .sum d q= .error p):=bdE aa.out ai
       unfold Pan
       go_wp2
       refine⟨rfl,?_⟩
       rw[HX.out]
       exact⟨rfl,HB⟩
      |ok a6=>
       rintro e w6 ⟨rfl,S6,ao,s⟩
       have ap:=ab.trans s
       clear s
       have ar:=zc (bdO aa.out ai)
       have HP:Hid (a6.pos=a5.pos):=by show _=_;rw[(zb1 ai).1]
       go_wp2
       go_roundg (gk-1)
       case rel=>exact⟨S6,a6,rfl,ar.out,by have:=HP.out;omega,by have:=HP.out;omega,ao,ap⟩
       case measure=>omega
    |false=>
     have HZ:=zc (ah.out.trans (znj hi hj))
     go_wp2_with fail
     refine (zck C J z j I L A 4 zbl _ O).mono ?_
     rintro e w2 ⟨rfl,H⟩
     rw[hi]
     have M:Hid (IM C J z j I L A w2):=O.later H
     have Y:=(ak.trans (IS.below H))
     clear H
     go_wp2_with fail
     refine (zck C J z j I L A 4 zct _ M.out).mono ?_
     rintro e w3 ⟨rfl,H⟩
     rw[hj]
     have U:Hid (IM C J z j I L A w3):=M.out.later H
     have V:=(Y.trans (IS.below H))
     clear H
     go_wp2
     go_ret
     rw[HZ.out]
     exact⟨rfl,L,U.out,V⟩
theorem znn (C:Cx) (I z j H m:Nat):zfi C I z j H m:=by
 induction m with
 |zero=>intro d S q w A;omega
 |succ m L=>intro d S q w A J h;exact znm C I z j H m d S q w h J L (by omega)
theorem zno (C:Cx) (H z j A d:Nat) (S:Sv) (q:PS) (w:World) (h:IM C H z j A S q w) (I:d≤20):
  Calls Tryz.prog 217 #[.pointer (some ⟨A,0,none⟩),.int .i64 d] w (zR C H z j A (pE C .sum d q) id exI S w):=znn C H z j A _ d S q w (Nat.lt_succ_self _) I h
theorem ziS {C:Cx} {s:ByteArray} (n:Nat): ∀{k:Nat} {q b:PS},zaH C s n k q= .ok b→b={q with pos:=q.pos+n}:=by
 induction n with
 |zero=>intro k q b h;cases h;rfl
 |succ n w=>
  intro k q b h
  rw[zaH] at h
  obtain⟨a,j,z⟩:=zp h
  rw[w z,(zbT j).1]
  show ({q with pos:=q.pos+1+n}:PS)=_
  congr 1
  omega
theorem znp (x:Sm): ∀u∈smL x,u.oneCell'=true:=by
 intro u h
 simp[smL] at h
 rcases h with rfl|rfl|rfl<;>rfl
def stmtI (C:Cx) (k:Int) (n s:ByteArray) (q:PS):PR:=bd (pE C .sum 0 q) fun a=>bd (zaH C s s.size 0 a) fun b=>zW C k n b
theorem zdU (C:Cx) (gt H j J:Nat) (S:Sv) (q:PS) (I:Int) (n s:ByteArray) (w:World) (h:IM C gt H j J S q w) (hs:s.size≤100) (h0:0<s.size):
  Calls Tryz.prog 196 #[.pointer (some ⟨J,0,none⟩),.int .i64 I,.string n,.string s] w (zR C gt H j J (stmtI C I n s q) id (fun _=>.tuple #[]) S w):=by
 obtain⟨i0,hi,ah,al,ak⟩:=info_parts Tryz.infoStmt
 have HY:=zc (stmtI.eq_1 C I n s q)
 go_enter Tryz.func196,Tryz.ntmps196
 go_wp2_with fail
 refine (zno C gt H j J 0 S q _ h (by omega)).mono ?_
 cases X:pE C .sum 0 q with
 |error p=>
  rintro e w1 ⟨rfl,V⟩
  have HB:Below j w w1:=(h.back (IS.refl _ _ _)).trans V
  have HX:Hid (stmtI C I n s q= .error p):=bdE HY.out X
  unfold Pan
  go_wp2
  refine⟨rfl,?_⟩
  rw[HX.out]
  exact⟨rfl,HB⟩
 |ok a1=>
  rintro e w1 ⟨rfl,S1,am,Y⟩
  have ad:=zc (bdO HY.out X)
  unfold exI
  go_wp2_with fail
  refine (zhe C gt H j J S1 a1 s _ am hs).mono ?_
  cases U:zaH C s s.size 0 a1 with
  |error p=>
   rintro e w2 ⟨rfl,V⟩
   have HB:=(h.back Y).trans V
   have HX:Hid (stmtI C I n s q= .error p):=bdE ad.out U
   unfold Pan
   go_wp2
   refine⟨rfl,?_⟩
   rw[HX.out]
   exact⟨rfl,HB⟩
  |ok A=>
   rintro e w2 ⟨rfl,S2,m,s⟩
   have z:=zc m
   have ab:=Y.trans s
   clear m s
   have ae:=zc (bdO ad.out U)
   have N:=ziS _ U
   have ac:0<A.pos:=by rw[N];show 0<a1.pos+s.size;omega
   have HE:Hid (A.ex=a1.ex):=by show _=_;rw[N]
   clear N
   have ao:=z.out.mem.inv.st
   obtain⟨c0,c1,c2,c3,c4,c5,c6,c7,c8,c9,cf⟩:=zah z.out.cells
   go_wp2_with fail
   by_cases hn:A.st.length<80
   ·have HZ:=zc (ae.out.trans (show zW C I n A=_ from if_neg (by omega)))
    refine (zdP J A.st.length 80 _ (by omega)).mono ?_
    rintro e w' ⟨rfl,hw⟩
    rw[hw]
    clear hw w'
    have HN:Hid (some J≠S2.st.blk):=fun e=>z.out.free (.inr (.inr (.inr (.inl e.symm))))
    have an:=z.out.lt
    have L:=fun M=>(z.out.mem.own.st.alloc M)
    have Z:=fun M=>(z.out.alloc M).mem.base
    have aa:=fun M=>(z.out.alloc M).lt
    have ag:=fun M=>(z.out.alloc M).cells
    go_wp2_with (at_builtin;refine zcv _ rfl _ _ 33 rfl j 107 i0 _ 3 32 Tryz.underlying33 hi ah al ak rfl (by decide) (by decide) S2.st A.st.length _ (by rfl) (L _) w2.heap.size (smL ⟨I,n,(a1.ex.length:Int)-1⟩) (by rfl) (by exact heap_alloc_new w2 _) rfl (znp _) (by omega) (Z _) ?_;intro r' wz hr O af;have g2:=(O.block J (aa _) HN.out).trans (ag _);obtain⟨d0,d1,d2,d3,d4,d5,d6,d7,d8,d9,df⟩:=zah g2;have HR:Hid (OwnR wz j 107 3 r' (A.st.length+1) _):=hr;have aj:Hid (World.grownBy _ wz _):=O;have ai:Hid (_∨_):=af;clear hr O af g2 c0 c1 c2 c3 c4 c5 c6 c7 c8 c9 cf L Z aa ag)
    go_wp2
    go_end0
    obtain⟨m',s'⟩:=z.out.grow_st ((Below.refl _ _).alloc (Nat.le_refl _) _) aj.out HR.out ai.out hn
    rw[HZ.out]
    rw[←HE.out] at m'
    exact⟨rfl,_,m',ab.trans s'⟩
   ·have HZ:Hid (stmtI C I n s q= .error (zu C (A.pos-1))):=ae.out.trans (if_pos (by omega))
    refine (ze1 C gt H j J S2 A A.st.length 80 _ z.out (by omega) ac).mono ?_
    rintro e wz ⟨rfl,V⟩
    have HB:=(h.back ab).trans (V.mono z.out.mem.base)
    have HX:Hid (stmtI C I n s q= .error (zu C (A.pos-1))):=HZ.out
    unfold Pan
    go_wp2
    refine⟨rfl,?_⟩
    rw[HX.out]
    exact⟨rfl,HB⟩
def letJ (C:Cx) (k:Int) (q:PS):PR:=bd (zo C false q) fun a=>bd (ze C 4 cEq a.1) fun b=>stmtI C k a.2 cSemi b
def fnI (C:Cx) (q:PS):PR:=bd (zo C false q) fun a=>bd (zaH C cCall cCall.size 0 a.1) fun b=>bd (ze C 1 zeq b) fun c=>stmtI C 2 a.2 cSemiRight c
def printI (C:Cx) (q:PS):PR:=bd (ze C 4 zr q) fun a=>stmtI C 4 sNone cShutSemi a
theorem zhk (C:Cx) (U z j A:Nat) (S:Sv) (q:PS) (w:World) (h:IM C U z j A S q w):
  Calls Tryz.prog 186 #[.pointer (some ⟨A,0,none⟩)] w (zR C U z j A (letJ C 1 q) id (fun _=>.tuple #[]) S w):=by
 have HY:=zc (letJ.eq_1 C 1 q)
 go_enter Tryz.func186,Tryz.ntmps186
 go_wp2_with fail
 refine (zdz C U z j A S q _ h).mono ?_
 cases H:zo C false q with
 |error p=>
  rintro e w1 ⟨rfl,I⟩
  have N:Below j w w1:=(h.back (IS.refl _ _ _)).trans I
  have Y:Hid (letJ C 1 q= .error p):=bdE HY.out H
  unfold Pan
  go_wp2
  refine⟨rfl,?_⟩
  rw[Y.out]
  exact⟨rfl,N⟩
 |ok Z=>
  rintro e w1 ⟨rfl,S1,ae,L⟩
  have X:=zc (bdO HY.out H)
  go_wp2_with fail
  refine (zcx C U z j A S1 (Z.1) 61 _ ae).mono ?_
  cases V:ze C 4 cEq (Z.1) with
  |error p=>
   rintro e w2 ⟨rfl,I⟩
   have N:=(h.back L).trans I
   have Y:Hid (letJ C 1 q= .error p):=bdE X.out V
   unfold Pan
   go_wp2
   refine⟨rfl,?_⟩
   rw[Y.out]
   exact⟨rfl,N⟩
  |ok a2=>
   rintro e w2 ⟨rfl,S2,aa,s⟩
   have M:=L.trans s
   clear s
   have J:=zc (bdO X.out V)
   go_wp2_with fail
   refine (zdU C U z j A S2 a2 1 Z.2 cSemi _ aa (by decide) (by decide)).mono ?_
   cases O:stmtI C 1 Z.2 cSemi a2 with
   |error p=>
    rintro e w3 ⟨rfl,I⟩
    have N:=(h.back M).trans I
    have Y:Hid (letJ C 1 q= .error p):=J.out.trans O
    unfold Pan
    go_wp2
    refine⟨rfl,?_⟩
    rw[Y.out]
    exact⟨rfl,N⟩
   |ok a3=>
    rintro e w3 ⟨rfl,S3,ab,s⟩
    have ad:=M.trans s
    clear s
    have ac:=zc (J.out.trans O)
    go_wp2
    go_end0
    rw[ac.out]
    exact⟨rfl,S3,ab,ad⟩
theorem ziT (C:Cx) (U z j A:Nat) (S:Sv) (q:PS) (w:World) (h:IM C U z j A S q w):
  Calls Tryz.prog 165 #[.pointer (some ⟨A,0,none⟩)] w (zR C U z j A (letJ C 3 q) id (fun _=>.tuple #[]) S w):=by
 have HY:=zc (letJ.eq_1 C 3 q)
 go_enter Tryz.func165,Tryz.ntmps165
 go_wp2_with fail
 refine (zdz C U z j A S q _ h).mono ?_
 cases H:zo C false q with
 |error p=>
  rintro e w1 ⟨rfl,I⟩
  have N:Below j w w1:=(h.back (IS.refl _ _ _)).trans I
  have Y:Hid (letJ C 3 q= .error p):=bdE HY.out H
  unfold Pan
  go_wp2
  refine⟨rfl,?_⟩
  rw[Y.out]
  exact⟨rfl,N⟩
 |ok Z=>
  rintro e w1 ⟨rfl,S1,ae,L⟩
  have X:=zc (bdO HY.out H)
  go_wp2_with fail
  refine (zcx C U z j A S1 (Z.1) 61 _ ae).mono ?_
  cases V:ze C 4 cEq (Z.1) with
  |error p=>
   rintro e w2 ⟨rfl,I⟩
   have N:=(h.back L).trans I
   have Y:Hid (letJ C 3 q= .error p):=bdE X.out V
   unfold Pan
   go_wp2
   refine⟨rfl,?_⟩
   rw[Y.out]
   exact⟨rfl,N⟩
  |ok a2=>
   rintro e w2 ⟨rfl,S2,aa,s⟩
   have M:=L.trans s
   clear s
   have J:=zc (bdO X.out V)
   go_wp2_with fail
   refine (zdU C U z j A S2 a2 3 Z.2 cSemi _ aa (by decide) (by decide)).mono ?_
   cases O:stmtI C 3 Z.2 cSemi a2 with
   |error p=>
    rintro e w3 ⟨rfl,I⟩
    have N:=(h.back M).trans I
    have Y:Hid (letJ C 3 q= .error p):=J.out.trans O
    unfold Pan
    go_wp2
    refine⟨rfl,?_⟩
    rw[Y.out]
    exact⟨rfl,N⟩
   |ok a3=>
    rintro e w3 ⟨rfl,S3,ab,s⟩
    have ad:=M.trans s
    clear s
    have ac:=zc (J.out.trans O)
    go_wp2
    go_end0
    rw[ac.out]
    exact⟨rfl,S3,ab,ad⟩
theorem zhl (C:Cx) (L z j H:Nat) (S:Sv) (q:PS) (w:World) (h:IM C L z j H S q w):
  Calls Tryz.prog 187 #[.pointer (some ⟨H,0,none⟩)] w (zR C L z j H (fnI C q) id (fun _=>.tuple #[]) S w):=by
 have HY:=zc (fnI.eq_1 C q)
 go_enter Tryz.func187,Tryz.ntmps187
 go_wp2_with fail
 refine (zdz C L z j H S q _ h).mono ?_
 cases N:zo C false q with
 |error p=>
  rintro e w1 ⟨rfl,A⟩
  have I:Below j w w1:=(h.back (IS.refl _ _ _)).trans A
  have J:Hid (fnI C q= .error p):=bdE HY.out N
  unfold Pan
  go_wp2
  refine⟨rfl,?_⟩
  rw[J.out]
  exact⟨rfl,I⟩
 |ok a1=>
  rintro e w1 ⟨rfl,S1,ah,U⟩
  have ab:=zc (bdO HY.out N)
  go_wp2_with fail
  refine (zhe C L z j H S1 (a1.1) cCall _ ah (by decide)).mono ?_
  cases aa:zaH C cCall cCall.size 0 (a1.1) with
  |error p=>
   rintro e w2 ⟨rfl,A⟩
   have I:=(h.back U).trans A
   have J:Hid (fnI C q= .error p):=bdE ab.out aa
   unfold Pan
   go_wp2
   refine⟨rfl,?_⟩
   rw[J.out]
   exact⟨rfl,I⟩
  |ok a2=>
   rintro e w2 ⟨rfl,S2,ad,s⟩
   have V:=U.trans s
   clear s
   have O:=zc (bdO ab.out aa)
   go_wp2_with fail
   refine (ze0 C L z j H S2 a2 zeq _ ad).mono ?_
   cases X:ze C 1 zeq a2 with
   |error p=>
    rintro e w3 ⟨rfl,A⟩
    have I:=(h.back V).trans A
    have J:Hid (fnI C q= .error p):=bdE O.out X
    unfold Pan
    go_wp2
    refine⟨rfl,?_⟩
    rw[J.out]
    exact⟨rfl,I⟩
   |ok a3=>
    rintro e w3 ⟨rfl,S3,af,s⟩
    have Z:=V.trans s
    clear s
    have Y:=zc (bdO O.out X)
    go_wp2_with fail
    refine (zdU C L z j H S3 a3 2 a1.2 cSemiRight _ af (by decide) (by decide)).mono ?_
    cases M:stmtI C 2 a1.2 cSemiRight a3 with
    |error p=>
     rintro e w4 ⟨rfl,A⟩
     have I:=(h.back Z).trans A
     have J:Hid (fnI C q= .error p):=Y.out.trans M
     unfold Pan
     go_wp2
     refine⟨rfl,?_⟩
     rw[J.out]
     exact⟨rfl,I⟩
    |ok a4=>
     rintro e w4 ⟨rfl,S4,ae,s⟩
     have ac:=Z.trans s
     clear s
     have ag:=zc (Y.out.trans M)
     go_wp2
     go_end0
     rw[ag.out]
     exact⟨rfl,S4,ae,ac⟩
theorem ziU (C:Cx) (M z j H:Nat) (S:Sv) (q:PS) (w:World) (h:IM C M z j H S q w):
  Calls Tryz.prog 188 #[.pointer (some ⟨H,0,none⟩)] w (zR C M z j H (printI C q) id (fun _=>.tuple #[]) S w):=by
 have HY:=zc (printI.eq_1 C q)
 go_enter Tryz.func188,Tryz.ntmps188
 go_wp2_with fail
 refine (zcx C M z j H S q 40 _ h).mono ?_
 cases A:ze C 4 zr q with
 |error p=>
  rintro e w1 ⟨rfl,O⟩
  have X:Below j w w1:=(h.back (IS.refl _ _ _)).trans O
  have Z:Hid (printI C q= .error p):=bdE HY.out A
  unfold Pan
  go_wp2
  refine⟨rfl,?_⟩
  rw[Z.out]
  exact⟨rfl,X⟩
 |ok a1=>
  rintro e w1 ⟨rfl,S1,Y,I⟩
  have L:=zc (bdO HY.out A)
  go_wp2_with fail
  refine (zdU C M z j H S1 a1 4 sNone cShutSemi _ Y (by decide) (by decide)).mono ?_
  cases J:stmtI C 4 sNone cShutSemi a1 with
  |error p=>
   rintro e w2 ⟨rfl,O⟩
   have X:=(h.back I).trans O
   have Z:Hid (printI C q= .error p):=L.out.trans J
   unfold Pan
   go_wp2
   refine⟨rfl,?_⟩
   rw[Z.out]
   exact⟨rfl,X⟩
  |ok a2=>
   rintro e w2 ⟨rfl,S2,N,s⟩
   have V:=I.trans s
   clear s
   have U:=zc (L.out.trans J)
   go_wp2
   go_end0
   rw[U.out]
   exact⟨rfl,S2,N,V⟩
theorem ziV (C:Cx) (H z j A:Nat) (S:Sv) (q:PS) (w:World) (h:IM C H z j A S q w):
  Calls Tryz.prog 189 #[.pointer (some ⟨A,0,none⟩)] w (zR C H z j A (stmtI C 5 sNone cSemi q) id (fun _=>.tuple #[]) S w):=by
 go_enter Tryz.func189,Tryz.ntmps189
 go_wp2_with fail
 refine (zdU C H z j A S q 5 sNone cSemi _ h (by decide) (by decide)).mono ?_
 cases I:stmtI C 5 sNone cSemi q with
 |error p=>
  rintro e J ⟨rfl,N⟩
  unfold Pan
  go_wp2
  refine⟨rfl,?_⟩
  rw[I]
  exact⟨rfl,N⟩
 |ok a=>
  rintro e J ⟨rfl,L,M,O⟩
  go_wp2
  go_end0
  rw[I]
  exact⟨rfl,L,M,O⟩
theorem znq (C:Cx) (H z j A:Nat) (S:Sv) (q:PS) (w:World) (h:IM C H z j A S q w):
  Calls Tryz.prog 190 #[.pointer (some ⟨A,0,none⟩)] w (zR C H z j A (stmtI C 6 sNone cSemi q) id (fun _=>.tuple #[]) S w):=by
 go_enter Tryz.func190,Tryz.ntmps190
 go_wp2_with fail
 refine (zdU C H z j A S q 6 sNone cSemi _ h (by decide) (by decide)).mono ?_
 cases I:stmtI C 6 sNone cSemi q with
 |error p=>
  rintro e J ⟨rfl,O⟩
  unfold Pan
  go_wp2
  refine⟨rfl,?_⟩
  rw[I]
  exact⟨rfl,O⟩
 |ok a=>
  rintro e J ⟨rfl,L,M,N⟩
  go_wp2
  go_end0
  rw[I]
  exact⟨rfl,L,M,N⟩
def zcC (C:Cx) (i:Nat):ByteArray:=if (zf C i).kind==1 then (zf C i).text else sNone
theorem ziW (C:Cx) (J z j H:Nat) (S:Sv) (q:PS) (w:World) (h:IM C J z j H S q w):
  Calls Tryz.prog 164 #[.pointer (some ⟨H,0,none⟩)] w fun e w'=>e= .returned (.string (zcC C q.pos))∧Below w.heap.size w w':=by
 cases L:((zf C q.pos).kind==1) with
 |true=>
  have I:Hid (zcC C q.pos=(zf C q.pos).text):=by show _=_;rw[zcC,L];rfl
  go_enter Tryz.func164,Tryz.ntmps164
  go_wp2_with fail
  refine (zb6 C J z j H S q _ h).mono ?_
  rintro e M ⟨rfl,A⟩
  unfold tkV
  go_wp2
  go_ret
  rw[I.out]
  exact⟨rfl,A.alloc A.size _⟩
 |false=>
  have I:Hid (zcC C q.pos=sNone):=by show _=_;rw[zcC,L];rfl
  go_enter Tryz.func164,Tryz.ntmps164
  go_wp2_with fail
  refine (zb6 C J z j H S q _ h).mono ?_
  rintro e M ⟨rfl,A⟩
  unfold tkV
  go_wp2
  go_ret
  rw[I.out]
  exact⟨rfl,A.alloc A.size _⟩
theorem OwnR.stmtName {w:World} {j:Nat} {r:Rw} {l:List Sm} {x:Sm} (h:OwnR w j 107 3 r (l++[x]).length ((l++[x]).flatMap smL)): ∃g,r.a=some ⟨g,0,none⟩∧w.cell? ⟨g,l.length*3+1,none⟩=some (.string x.name):=by
 rcases h.2 with ⟨_,M⟩|⟨g,L,J,z,_⟩
 ·simp at M
 ·simp only[Value.slice.injEq] at z
  have A:=h
  unfold OwnR at A
  rw[z.1,z.2.2] at A
  refine⟨g,z.1,?_⟩
  rw[World.ownsRow.cellAt A _ (by simp;omega)]
  have H: ∀l:List Sm,(l.flatMap smL).length=l.length*3:=by
   intro l
   induction l with
   |nil=>rfl
   |cons y l I=>simp[List.flatMap_cons,smL,I] at I ⊢;omega
  rw[List.flatMap_append,List.getElem?_append_right (by rw[H];omega),H]
  simp[smL]
theorem znr (C:Cx) (V A j I:Nat) (S:Sv) (q:PS) (l:List Sm) (x:Sm) (w:World) (h:IM C V A j I S q w) (Y:q.st=l++[x]) (O:x.name.size≤281474976710656) (hp:0<q.pos):
  Calls Tryz.prog 213 #[.pointer (some ⟨I,0,none⟩)] w (zR C V A j I (zs C ⟨1,x.name,x.name,sNone⟩ q) id (fun _=>.tuple #[]) S w):=by
 obtain⟨_,_,_,_,_,_,_,J,_,_,_⟩:=zah h.cells
 have U:=h.mem.own.st
 rw[Y] at U J
 obtain⟨g,hg,hc⟩:=U.stmtName
 have M:=h.mem.inv.st
 rw[Y] at M
 have L:(l++[x]).length=l.length+1:=by simp
 rw[L] at J M
 rw[hg] at J
 have C7:=zc J
 have CN:=zc hc
 have e1:((l.length+1:Nat):Int)-1=(l.length:Int):=by omega
 have e2:(l.length:Int)+1-1=(l.length:Int):=by omega
 have ad:IntKind.i64.wrap (l.length:Int)=(l.length:Int):=IntWalk.i64_in _ ⟨by omega,by omega⟩
 have aa:(l.length:Int)<((l.length+1:Nat):Int):=by omega
 have ab:(l.length:Int)<(l.length:Int)+1:=by omega
 have cC: ∀d os,Calls Tryz.prog 68 #[.string x.name] (grow (redrawn w d) os) fun e X=>e= .returned (.string x.name)∧∃p:Regrown,X=grow (redrawn w p.d) p.os:=fun d os=>Calls.regrown_of (ziM _ _ O)
 clear J hc U hg Y
 go_enter Tryz.func213,Tryz.ntmps213
 go_wp2_with fail
 have k7:=cell_regrown C7.out
 have kN:=cell_regrown CN.out
 refine wp_region_quiet_below (by kernel_rfl) (by kernel_rfl) ?_
 repeat (go_big_quiet_step (exact cC _ _))
 refine wpQuiet_nil ?_
 intro w1 N
 obtain⟨⟨dq,ac⟩,z⟩:=N
 have H:Below w.heap.size w w1:=by show Below _ _ _;rw[z];exact below_regrown _ _ _
 clear z k7 kN cC C7 CN
 have Z:=h.later H
 go_wp2_with fail
 refine (zfg C V A j I S q ⟨1,x.name,x.name,sNone⟩ _ Z hp).mono ?_
 cases hn:zs C ⟨1,x.name,x.name,sNone⟩ q with
 |error p=>
  rintro e w2 ⟨rfl,hb⟩
  have HB:=(H.mono h.mem.base).trans hb
  unfold Pan
  go_wp2
  refine⟨rfl,?_⟩
  rw[hn]
  exact⟨rfl,HB⟩
 |ok a=>
  rintro e w2 ⟨rfl,S1,HM,s⟩
  have HS:IS I S w S1 w2:=(IS.below H).trans s
  clear s
  go_wp2
  go_end0
  rw[hn]
  exact⟨rfl,S1,HM,HS⟩
def Fr (e:TypeId) (size:Nat) (w:World) (b:Nat) (r:Rw) (n:Nat) (xs:List Value) (S:Sv):Prop:=OwnR w b e size r n xs∧∀k,r.blk=some k→¬S.has k
theorem Fr.ngp {C:Cx} {J z j A size b n:Nat} {S:Sv} {q:PS} {w:World} {e:TypeId} {r:Rw} {xs:List Value} (f:Fr e size w b r n xs S) (h:IM C J z j A S q w) (I:e≠160) {k:Nat} (H:r.blk=some k):k≠A:=by
 rintro rfl
 obtain⟨_,_,c,g⟩:=f.1.typed H
 rw[h.cells] at g
 simp only[Option.some.injEq,Obj.cells.injEq] at g
 exact I g.2.1.symm
theorem Fr.ngt {C:Cx} {A z j I size b n:Nat} {S:Sv} {q:PS} {w:World} {e:TypeId} {r:Rw} {xs:List Value} (f:Fr e size w b r n xs S) (h:IM C A z j I S q w) (J:e≠143) {k:Nat} (H:r.blk=some k):k≠A:=by
 rintro rfl
 obtain⟨_,_,c,g⟩:=f.1.typed H
 obtain⟨M,L⟩:=zfH h.mem.tok
 rw[L] at g
 simp only[Option.some.injEq,Obj.cells.injEq] at g
 exact J g.2.1.symm
theorem Fr.step {C:Cx} {L z j A size b n:Nat} {S S':Sv} {q:PS} {w w':World} {e:TypeId} {r:Rw} {xs:List Value} (f:Fr e size w b r n xs S) (h:IM C L z j A S q w) (I:e≠160) (s:IS A S w S' w'):Fr e size w' b r n xs S':=by
 refine⟨f.1.keep fun k g=>s.block k (f.1.typed g).2.1 (f.2 k g) (f.ngp h I g),fun k g J=>?_⟩
 rcases s.sub k J with H|H
 ·exact f.2 k g H
 ·have:=(f.1.typed g).2.1
  omega
theorem Fr.low {size b h n:Nat} {S:Sv} {w:World} {e:TypeId} {r:Rw} {xs:List Value} (f:Fr e size w b r n xs S) (j:h≤b):Fr e size w h r n xs S:=⟨f.1.low j,f.2⟩
theorem Fr.later {size b n:Nat} {S:Sv} {w w':World} {e:TypeId} {r:Rw} {xs:List Value} (f:Fr e size w b r n xs S) (h:Below w.heap.size w w'):Fr e size w' b r n xs S:=⟨f.1.keep fun k g=>h.block k (f.1.typed g).2.1,f.2⟩
theorem IM.aside {C:Cx} {z A j w:Nat} {S:Sv} {q:PS} {W J:World} {b:Option Nat} (h:IM C z A j w S q W) (H:W.grownBy J b) (I: ∀k,b=some k→¬S.has k∧k≠w∧k≠z):IM C z A j w S q J:=by
 refine⟨⟨h.mem.own.keep fun k g=>H.block k (h.mem.own.has g).2 fun e=>(I k e.symm).1 g,h.mem.inv,zbG h.mem.tok (H.block z (zau h.mem.tok).1 fun e=>(I z e.symm).2.2 rfl),h.mem.few,Nat.le_trans h.mem.base H.size⟩,(H.block w h.lt fun e=>(I w e.symm).2.1 rfl).trans h.cells,h.ge⟩
theorem IS.aside {A:Nat} {S H:Sv} {w W I:World} {b:Option Nat} (s:IS A S w H W) (h:W.grownBy I b) (J: ∀k,b=some k→w.heap.size≤k):IS A S w H I:=
 ⟨h.os.trans s.os,h.tape.trans s.tape,h.output.trans s.output,Nat.le_trans s.size h.size,fun k z L j=>(h.block k (Nat.lt_of_lt_of_le z s.size) fun e=>by have:=J k e.symm;omega).trans (s.block k z L j),s.sub⟩
theorem Fr.grown {size b n:Nat} {S:Sv} {W J:World} {e:TypeId} {r w:Rw} {xs I:List Value} {C:Cx} {O z j M:Nat} {q:PS} (f:Fr e size W b r n xs S) (h:IM C O z j M S q W) (N:OwnR J b e size w (n+1) I) (H:w.blk=r.blk∨w.blk=some W.heap.size):Fr e size J b w (n+1) I S:=by
 refine⟨N,fun k g L=>?_⟩
 rcases H with A|A
 ·exact f.2 k (A.symm.trans g) L
 ·have U:W.heap.size=k:=Option.some.inj (A.symm.trans g)
  have:=(h.mem.own.has L).2
  omega
theorem zns {α:Type} (f:α→List Value) (m:Nat) (j: ∀x,(f x).length=m) (l:List α):(l.flatMap f).length=l.length*m:=by
 induction l with
 |nil=>simp
 |cons y l h=>rw[List.flatMap_cons,List.length_append,j,h,List.length_cons,Nat.succ_mul];omega
theorem znt {α:Type} (f:α→List Value) (m:Nat) (w: ∀x,(f x).length=m): ∀(l:List α) (j i:Nat) (x:α),l[j]? =some x→i<m→(l.flatMap f)[j*m+i]? =(f x)[i]?:=by
 intro l
 induction l with
 |nil=>intro j i x h;simp at h
 |cons y l A=>
  intro j i x h z
  rw[List.flatMap_cons]
  match j with
  |0=>
   simp only[List.getElem?_cons_zero,Option.some.injEq] at h
   subst h
   rw[Nat.zero_mul,Nat.zero_add,List.getElem?_append_left (by rw[w];exact z)]
  |j+1=>
   simp only[List.getElem?_cons_succ] at h
   rw[List.getElem?_append_right (by rw[w,Nat.succ_mul];omega),w,←A j i x h z]
   congr 1
   rw[Nat.succ_mul]
   omega
theorem OwnR.elem {α:Type} {f:α→List Value} {m:Nat} (M: ∀x,(f x).length=m) {w:World} {z:Nat} {e:TypeId} {r:Rw} {l:List α} (h:OwnR w z e m r l.length (l.flatMap f)) {j:Nat} {x:α} (J:l[j]? =some x): ∃g,r.a=some ⟨g,0,none⟩∧∀i,i<m→w.cell? ⟨g,j*m+i,none⟩=(f x)[i]?:=by
 have H:j<l.length:=(List.getElem?_eq_some_iff.1 J).1
 rcases h.2 with ⟨_,V⟩|⟨g,N,L,A,_⟩
 ·omega
 ·simp only[Value.slice.injEq] at A
  have I:=h
  unfold OwnR at I
  rw[A.1,A.2.2] at I
  refine⟨g,A.1,fun i U=>?_⟩
  have O:j*m+i<l.length*m:=by
   have:=Nat.mul_le_mul_right m H
   rw[Nat.succ_mul] at this
   omega
  rw[World.ownsRow.cellAt I _ O]
  exact znt f m M l j i x J U
structure OwnMd (w:World) (base:Nat) (S:Sv) (m:Md):Prop where
 rq:OwnR w base 9 1 S.rq m.rq.length (m.rq.map .string)
 im:OwnR w base 84 3 S.im m.im.length (m.im.flatMap imL)
 ep:OwnR w base 86 4 S.ep m.ep.length (m.ep.flatMap epL)
 st:OwnR w base 107 3 S.st m.st.length (m.st.flatMap smL)
 ex:OwnR w base 109 6 S.ex m.ex.length (m.ex.flatMap exL)
theorem OwnMod.md {w:World} {j:Nat} {S:Sv} {q:PS} (h:OwnMod w j S q):OwnMd w j S (zeu q):=⟨h.rq,h.im,h.ep,h.st,h.ex⟩
theorem OwnMd.later {w w':World} {j:Nat} {S:Sv} {m:Md} (h:OwnMd w j S m) (z:Below w.heap.size w w'):OwnMd w' j S m:=
 ⟨h.rq.keep fun k g=>z.block k (h.rq.typed g).2.1,h.im.keep fun k g=>z.block k (h.im.typed g).2.1,h.ep.keep fun k g=>z.block k (h.ep.typed g).2.1,h.st.keep fun k g=>z.block k (h.st.typed g).2.1,h.ex.keep fun k g=>z.block k (h.ex.typed g).2.1⟩
theorem OwnMd.alloc {w:World} {j:Nat} {S:Sv} {m:Md} (h:OwnMd w j S m) (o:Obj):OwnMd (w.alloc o) j S m:=h.later ((Below.refl _ _).alloc (Nat.le_refl _) _)
def zh (S:Sv) (m:Md):Value:=.agg #[.slice S.rq.a m.rq.length S.rq.cap,.slice S.im.a m.im.length S.im.cap,.slice S.ep.a m.ep.length S.ep.cap,.slice S.st.a m.st.length S.st.cap,.slice S.ex.a m.ex.length S.ex.cap]
theorem OwnMd.expr {w:World} {z:Nat} {S:Sv} {m:Md} (h:OwnMd w z S m) {i:Nat} (H:i<m.ex.length): ∃g,S.ex.a=some ⟨g,0,none⟩∧g<w.heap.size∧w.cell? ⟨g,i*6,none⟩=some (.int .i64 (m.ex.getD i zj).kind)∧w.cell? ⟨g,i*6+1,none⟩=some (.int .i64 (m.ex.getD i zj).num)∧w.cell? ⟨g,i*6+2,none⟩=some (.string (m.ex.getD i zj).name)∧w.cell? ⟨g,i*6+3,none⟩=some (.string (m.ex.getD i zj).field)∧w.cell? ⟨g,i*6+4,none⟩=some (.int .i64 (m.ex.getD i zj).l)∧w.cell? ⟨g,i*6+5,none⟩=some (.int .i64 (m.ex.getD i zj).r):=by
 obtain⟨g,A,j⟩:=OwnR.elem (f:=exL) (m:=6) (fun _=>rfl) h.ex (List.getElem?_eq_getElem H)
 rw[zdM H]
 exact⟨g,A,(h.ex.typed (by rw[Rw.blk,A];rfl)).2.1,j 0 (by omega),j 1 (by omega),j 2 (by omega),j 3 (by omega),j 4 (by omega),j 5 (by omega)⟩
def md0:Md:=⟨[],[],[],[],[]⟩
theorem ze4 (w:World) (h:Nat):OwnMd w h S0 md0:=⟨zcK _ _ _ _,zcK _ _ _ _,zcK _ _ _ _,zcK _ _ _ _,zcK _ _ _ _⟩
def zbX (P:Prop) (e:Ending):Prop:=∃b,e= .returned (.bool b)∧(b=true↔P)
theorem zbp {α:Type} {l:List α} {j:Nat} (h:j<l.length): ∃x,l[j]? =some x:=⟨_,List.getElem?_eq_getElem h⟩
theorem zde {α:Type} {l1 w:List α} {j:Nat} {x:α} (h:l1.take j=w.take j) (z:l1[j]? =some x) (A:w[j]? =some x):l1.take (j+1)=w.take (j+1):=by
 obtain⟨a,rfl⟩:=List.getElem?_eq_some_iff.1 z
 obtain⟨b,H⟩:=List.getElem?_eq_some_iff.1 A
 rw[List.take_succ_eq_append_getElem a,List.take_succ_eq_append_getElem b,h,H]
theorem zdf {α:Type} {l1 j:List α} (w:l1.length=j.length) (h:l1.take l1.length=j.take l1.length):l1=j:=by
 rw[List.take_length,w,List.take_length] at h
 exact h
theorem zfj {a b:ByteArray} (h:(a.toList==b.toList)=true):a=b:=(zin a b).1 h
def zhm (x y:ByteArray):Bool:=x.toList==y.toList
theorem zfY {x y:ByteArray}:zhm x y=true↔x=y:=⟨fun h=>zfj h,fun h=>by rw[h];exact beq_self_eq_true _⟩
theorem znu (H I:Option Addr) (j z J A:Nat) (w:World) (h:(j:Int)≠(z:Int)):Calls Tryz.prog 126 #[.slice H j J,.slice I z A] w fun e w'=>e= .returned (.bool false)∧Below w.heap.size w w':=by
 go_enter Tryz.func126,Tryz.ntmps126
 go_wp2
 go_ret
 exact⟨rfl,Below.refl _ _⟩
theorem znv (j z:Option Addr) (A h:Nat) (w:World):Calls Tryz.prog 126 #[.slice j 0 A,.slice z 0 h] w fun e w'=>e= .returned (.bool true)∧Below w.heap.size w w':=by
 go_enter Tryz.func126,Tryz.ntmps126
 go_wp2
 go_loopg [13] 1 (fun k i wr=>k=1∧i= .int .i64 0∧wr=w)
 case atStart=>exact⟨rfl,rfl,rfl⟩
 case round=>
  obtain⟨rfl,rfl,rfl⟩:=hrel
  go_wp2
  go_ret
  exact⟨rfl,Below.refl _ _⟩
theorem znw (b1 b2 g1 g2:Nat) (X r2:Rw) (l1 A:List ByteArray) (w:World) (M:OwnR w b1 9 1 X l1.length (l1.flatMap (fun x=>[Value.string x]))) (I:OwnR w b2 9 1 r2 A.length (A.flatMap (fun x=>[Value.string x]))) (e1:X.a=some ⟨g1,0,none⟩) (e2:r2.a=some ⟨g2,0,none⟩) (hl:l1.length=A.length) (Z:l1.length≤4294967296):
  Calls Tryz.prog 126 #[.slice (some ⟨g1,0,none⟩) l1.length X.cap,.slice (some ⟨g2,0,none⟩) l1.length r2.cap] w fun e w'=>zbX (l1=A) e∧Below w.heap.size w w':=by
 have H1:=zc M
 have H2:=zc I
 have E1:=zc e1
 have E2:=zc e2
 have HL:=zc hl
 clear M I e1 e2 hl
 go_enter Tryz.func126,Tryz.ntmps126
 go_wp2
 go_loopg [13] l1.length (fun k i wr=>∃j:Nat,i= .int .i64 j∧j+k=l1.length∧l1.take j=A.take j∧Below w.heap.size w wr)
 case atStart=>exact⟨0,rfl,by omega,rfl,Below.refl _ _⟩
 case round=>
  obtain⟨j,rfl,hj,ht,Z⟩:=hrel
  have L:=zc Z
  have HT:=zc ht
  clear Z ht
  by_cases H:j<l1.length
  ·have O:(j:Int)<(l1.length:Int):=by omega
   obtain⟨x,hx⟩:=zbp H
   obtain⟨y,hy⟩:=zbp (show j<A.length by rw[←HL.out];exact H)
   obtain⟨g',ga,M⟩:=OwnR.elem (f:=(fun x=>[Value.string x])) (m:=1) (fun _=>rfl) (H1.out.keep fun k g=>L.out.block k (H1.out.typed g).2.1) hx
   obtain rfl:g'=g1:=by have:=ga.symm.trans E1.out;simpa using this
   obtain⟨g',gb,I⟩:=OwnR.elem (f:=(fun x=>[Value.string x])) (m:=1) (fun _=>rfl) (H2.out.keep fun k g=>L.out.block k (H2.out.typed g).2.1) hy
   obtain rfl:g'=g2:=by have:=gb.symm.trans E2.out;simpa using this
   have C0:=zc (M 0 (by omega))
   have D0:=zc (I 0 (by omega))
   have HX:=zc hx
   have HY:=zc hy
   clear M I ga gb hx hy
   obtain⟨U,J⟩: ∃U,U=j+1:=⟨_,rfl⟩
   have ej:(j:Int)+1=(U:Int):=by omega
   have HJ:=zc J
   clear J
   obtain⟨b,h⟩: ∃b,zhm x y=b:=⟨_,rfl⟩
   have aa:(x.toList==y.toList)=b:=h
   go_wp2
   have k0:=cell_regrown C0.out
   have m0:=cell_regrown D0.out
   simp only[Nat.add_zero,Nat.mul_one] at k0 m0
   refine wp_region_quiet_below (by kernel_rfl) (by kernel_rfl) ?_
   repeat (go_big_quiet_step (fail))
   refine wpQuiet_nil ?_
   intro w2 V
   obtain⟨⟨dq,Y⟩,z⟩:=V
   have N:Hid (Below w.heap.size w w2):=by show Below _ _ _;rw[z];exact L.out.trans ((below_regrown wr dq Y).mono L.out.size)
   clear z k0 m0 C0 D0
   cases b with
   |true=>
    go_wp2
    go_roundg (gk-1)
    case rel=>exact⟨U,rfl,by have:=HJ.out;omega,by rw[HJ.out];have e:=zfY.1 h;exact zde HT.out HX.out (by rw[e];exact HY.out),N.out⟩
    case measure=>omega
   |false=>
    go_wp2
    go_ret
    exact⟨⟨false,rfl,⟨fun k=>(by cases k),fun k=>(by have e:=HX.out;rw[k,HY.out] at e;cases e;rw[zfY.2 rfl] at h;cases h)⟩⟩,N.out⟩
  ·have O: ¬(j:Int)<(l1.length:Int):=by omega
   obtain rfl:j=l1.length:=by omega
   go_wp2
   go_ret
   exact⟨⟨true,rfl,⟨fun _=>zdf HL.out HT.out,fun _=>rfl⟩⟩,L.out⟩
theorem znx (J b2:Nat) (H A:Rw) (l1 h:List ByteArray) (w:World) (N:OwnR w J 9 1 H l1.length (l1.flatMap (fun x=>[Value.string x]))) (M:OwnR w b2 9 1 A h.length (h.flatMap (fun x=>[Value.string x]))) (X:l1.length≤4294967296):
  Calls Tryz.prog 126 #[.slice H.a l1.length H.cap,.slice A.a h.length A.cap] w fun e w'=>zbX (l1=h) e∧Below w.heap.size w w':=by
 by_cases j:l1.length=h.length
 ·rw[←j]
  by_cases z:l1.length=0
  ·rw[z]
   refine (znv _ _ _ _ w).mono ?_
   rintro e w' ⟨rfl,I⟩
   exact⟨⟨true,rfl,⟨fun _=>(by rw[List.eq_nil_of_length_eq_zero z,List.eq_nil_of_length_eq_zero (j.symm.trans z)]),fun _=>rfl⟩⟩,I⟩
  ·rcases N.nil_or with ⟨_,_,e⟩|⟨V,L⟩
   ·exact absurd e z
   ·rcases M.nil_or with ⟨_,_,e⟩|⟨U,O⟩
    ·exact absurd (j.trans e) z
    ·rw[L,O]
     exact znw J b2 V U H A l1 h w N M L O j X
 ·refine (znu _ _ _ _ _ _ w (by omega)).mono ?_
  rintro e w' ⟨rfl,I⟩
  exact⟨⟨false,rfl,⟨fun k=>(by cases k),fun k=>absurd (by rw[k]) j⟩⟩,I⟩
def zdg (x y:Im):Bool:=x.spec.toList==y.spec.toList&&x.first.toList==y.first.toList&&x.loc.toList==y.loc.toList
theorem zfZ {x y:Im}:zdg x y=true↔x=y:=by
 constructor
 ·intro h
  unfold zdg at h
  simp only[Bool.and_eq_true] at h
  obtain⟨⟨z,j⟩,w⟩:=h
  cases x
  cases y
  simp only at z j w
  congr 1<;>first|(apply zfj;assumption)|(apply eq_of_beq;assumption)
 ·intro h
  rw[h]
  simp[zdg]
theorem zny (H I:Option Addr) (j z J A:Nat) (w:World) (h:(j:Int)≠(z:Int)):Calls Tryz.prog 127 #[.slice H j J,.slice I z A] w fun e w'=>e= .returned (.bool false)∧Below w.heap.size w w':=by
 go_enter Tryz.func127,Tryz.ntmps127
 go_wp2
 go_ret
 exact⟨rfl,Below.refl _ _⟩
theorem znz (j z:Option Addr) (A h:Nat) (w:World):Calls Tryz.prog 127 #[.slice j 0 A,.slice z 0 h] w fun e w'=>e= .returned (.bool true)∧Below w.heap.size w w':=by
 go_enter Tryz.func127,Tryz.ntmps127
 go_wp2
 go_loopg [13] 1 (fun k i wr=>k=1∧i= .int .i64 0∧wr=w)
 case atStart=>exact⟨rfl,rfl,rfl⟩
 case round=>
  obtain⟨rfl,rfl,rfl⟩:=hrel
  go_wp2
  go_ret
  exact⟨rfl,Below.refl _ _⟩
theorem zn0 (Z: ∀(x y:Im) (W:World),Sem.run Tryz.prog (binOp .neq 84 (.agg #[.string x.spec,.string x.first,.string x.loc]) (.agg #[.string y.spec,.string y.first,.string y.loc])) W= .ok (.bool (!zdg x y)) W) (X: ∀(O:BinOp) (a b:Operand) (x y:Im) (W:World),Sem.run Tryz.prog (eqGuard O 84 a b (.agg #[.string x.spec,.string x.first,.string x.loc]) (.agg #[.string y.spec,.string y.first,.string y.loc])) W= .ok () W) (b1 b2 g1 g2:Nat) (r1 r2:Rw) (l1 I:List Im) (w:World) (H:OwnR w b1 84 3 r1 l1.length (l1.flatMap imL)) (A:OwnR w b2 84 3 r2 I.length (I.flatMap imL)) (e1:r1.a=some ⟨g1,0,none⟩) (e2:r2.a=some ⟨g2,0,none⟩) (hl:l1.length=I.length) (hb:l1.length≤4294967296):
  Calls Tryz.prog 127 #[.slice (some ⟨g1,0,none⟩) l1.length r1.cap,.slice (some ⟨g2,0,none⟩) l1.length r2.cap] w fun e w'=>zbX (l1=I) e∧Below w.heap.size w w':=by
 have H1:=zc H
 have H2:=zc A
 have E1:=zc e1
 have E2:=zc e2
 have HL:=zc hl
 clear H A e1 e2 hl
 go_enter Tryz.func127,Tryz.ntmps127
 go_wp2
 go_loopg [13] l1.length (fun k i wr=>∃j:Nat,i= .int .i64 j∧j+k=l1.length∧l1.take j=I.take j∧Below w.heap.size w wr)
 case atStart=>exact⟨0,rfl,by omega,rfl,Below.refl _ _⟩
 case round=>
  obtain⟨j,rfl,hj,ht,hb⟩:=hrel
  have M:=zc hb
  have HT:=zc ht
  clear hb ht
  by_cases J:j<l1.length
  ·have U:(j:Int)<(l1.length:Int):=by omega
   obtain⟨x,hx⟩:=zbp J
   obtain⟨y,hy⟩:=zbp (show j<I.length by rw[←HL.out];exact J)
   obtain⟨g',ga,H⟩:=OwnR.elem (f:=imL) (m:=3) (fun _=>rfl) (H1.out.keep fun k g=>M.out.block k (H1.out.typed g).2.1) hx
   obtain rfl:g'=g1:=by have:=ga.symm.trans E1.out;simpa using this
   obtain⟨g',gb,A⟩:=OwnR.elem (f:=imL) (m:=3) (fun _=>rfl) (H2.out.keep fun k g=>M.out.block k (H2.out.typed g).2.1) hy
   obtain rfl:g'=g2:=by have:=gb.symm.trans E2.out;simpa using this
   have C0:=zc (H 0 (by omega))
   have D0:=zc (A 0 (by omega))
   have C1:=zc (H 1 (by omega))
   have D1:=zc (A 1 (by omega))
   have C2:=zc (H 2 (by omega))
   have D2:=zc (A 2 (by omega))
   have HX:=zc hx
   have HY:=zc hy
   clear H A ga gb hx hy
   obtain⟨V,L⟩: ∃V,V=j+1:=⟨_,rfl⟩
   have ej:(j:Int)+1=(V:Int):=by omega
   have HJ:=zc L
   clear L
   obtain⟨b,h⟩: ∃b,zdg x y=b:=⟨_,rfl⟩
   have ab: ∀W:World,Sem.run Tryz.prog (binOp .neq 84 (.agg #[.string x.spec,.string x.first,.string x.loc]) (.agg #[.string y.spec,.string y.first,.string y.loc])) W= .ok (.bool !b) W:=fun W=>by rw[Z,h]
   have ac: ∀(O:BinOp) (a b:Operand) (W:World),Sem.run Tryz.prog (eqGuard O 84 a b (.agg #[.string x.spec,.string x.first,.string x.loc]) (.agg #[.string y.spec,.string y.first,.string y.loc])) W= .ok () W:=fun O a b W=>X O a b x y W
   go_wp2
   have k0:=cell_regrown C0.out
   have m0:=cell_regrown D0.out
   have k1:=cell_regrown C1.out
   have m1:=cell_regrown D1.out
   have k2:=cell_regrown C2.out
   have m2:=cell_regrown D2.out
   simp only[Nat.add_zero] at k0 m0
   refine wp_region_quiet_below (by kernel_rfl) (by kernel_rfl) ?_
   repeat (go_big_quiet_step (fail))
   refine wpQuiet_nil ?_
   intro w2 Y
   obtain⟨⟨dq,aa⟩,z⟩:=Y
   have N:Hid (Below w.heap.size w w2):=by show Below _ _ _;rw[z];exact M.out.trans ((below_regrown wr dq aa).mono M.out.size)
   clear z k0 m0 C0 D0 k1 m1 C1 D1 k2 m2 C2 D2
   cases b with
   |true=>
    go_wp2
    go_roundg (gk-1)
    case rel=>exact⟨V,rfl,by have:=HJ.out;omega,by rw[HJ.out];have e:=zfZ.1 h;exact zde HT.out HX.out (by rw[e];exact HY.out),N.out⟩
    case measure=>omega
   |false=>
    go_wp2
    go_ret
    exact⟨⟨false,rfl,⟨fun k=>(by cases k),fun k=>(by have e:=HX.out;rw[k,HY.out] at e;cases e;rw[zfZ.2 rfl] at h;cases h)⟩⟩,N.out⟩
  ·have U: ¬(j:Int)<(l1.length:Int):=by omega
   obtain rfl:j=l1.length:=by omega
   go_wp2
   go_ret
   exact⟨⟨true,rfl,⟨fun _=>zdf HL.out HT.out,fun _=>rfl⟩⟩,M.out⟩
theorem zn1 (L: ∀(x y:Im) (W:World),Sem.run Tryz.prog (binOp .neq 84 (.agg #[.string x.spec,.string x.first,.string x.loc]) (.agg #[.string y.spec,.string y.first,.string y.loc])) W= .ok (.bool (!zdg x y)) W) (J: ∀(Y:BinOp) (a b:Operand) (x y:Im) (W:World),Sem.run Tryz.prog (eqGuard Y 84 a b (.agg #[.string x.spec,.string x.first,.string x.loc]) (.agg #[.string y.spec,.string y.first,.string y.loc])) W= .ok () W) (M b2:Nat) (H A:Rw) (l1 h:List Im) (w:World) (U:OwnR w M 84 3 H l1.length (l1.flatMap imL)) (O:OwnR w b2 84 3 A h.length (h.flatMap imL)) (hb:l1.length≤4294967296):
  Calls Tryz.prog 127 #[.slice H.a l1.length H.cap,.slice A.a h.length A.cap] w fun e w'=>zbX (l1=h) e∧Below w.heap.size w w':=by
 by_cases j:l1.length=h.length
 ·rw[←j]
  by_cases z:l1.length=0
  ·rw[z]
   refine (znz _ _ _ _ w).mono ?_
   rintro e w' ⟨rfl,I⟩
   exact⟨⟨true,rfl,⟨fun _=>(by rw[List.eq_nil_of_length_eq_zero z,List.eq_nil_of_length_eq_zero (j.symm.trans z)]),fun _=>rfl⟩⟩,I⟩
  ·rcases U.nil_or with ⟨_,_,e⟩|⟨Z,N⟩
   ·exact absurd e z
   ·rcases O.nil_or with ⟨_,_,e⟩|⟨X,V⟩
    ·exact absurd (j.trans e) z
    ·rw[N,V]
     exact zn0 L J M b2 Z X H A l1 h w U O N V j hb
 ·refine (zny _ _ _ _ _ _ w (by omega)).mono ?_
  rintro e w' ⟨rfl,I⟩
  exact⟨⟨false,rfl,⟨fun k=>(by cases k),fun k=>absurd (by rw[k]) j⟩⟩,I⟩
def zdh (x y:Ep):Bool:=x.kind==y.kind&&x.name.toList==y.name.toList&&x.loc.toList==y.loc.toList&&x.spec.toList==y.spec.toList
theorem zga {x y:Ep}:zdh x y=true↔x=y:=by
 constructor
 ·intro h
  unfold zdh at h
  simp only[Bool.and_eq_true] at h
  obtain⟨⟨⟨z,j⟩,w⟩,A⟩:=h
  cases x
  cases y
  simp only at z j w A
  congr 1<;>first|(apply zfj;assumption)|(apply eq_of_beq;assumption)
 ·intro h
  rw[h]
  simp[zdh]
theorem zn2 (H I:Option Addr) (j z J A:Nat) (w:World) (h:(j:Int)≠(z:Int)):Calls Tryz.prog 128 #[.slice H j J,.slice I z A] w fun e w'=>e= .returned (.bool false)∧Below w.heap.size w w':=by
 go_enter Tryz.func128,Tryz.ntmps128
 go_wp2
 go_ret
 exact⟨rfl,Below.refl _ _⟩
theorem zn3 (j z:Option Addr) (A h:Nat) (w:World):Calls Tryz.prog 128 #[.slice j 0 A,.slice z 0 h] w fun e w'=>e= .returned (.bool true)∧Below w.heap.size w w':=by
 go_enter Tryz.func128,Tryz.ntmps128
 go_wp2
 go_loopg [13] 1 (fun k i wr=>k=1∧i= .int .i64 0∧wr=w)
 case atStart=>exact⟨rfl,rfl,rfl⟩
 case round=>
  obtain⟨rfl,rfl,rfl⟩:=hrel
  go_wp2
  go_ret
  exact⟨rfl,Below.refl _ _⟩
theorem zn4 (Z: ∀(x y:Ep) (W:World),Sem.run Tryz.prog (binOp .neq 86 (.agg #[.int .i64 x.kind,.string x.name,.string x.loc,.string x.spec]) (.agg #[.int .i64 y.kind,.string y.name,.string y.loc,.string y.spec])) W= .ok (.bool (!zdh x y)) W) (X: ∀(O:BinOp) (a b:Operand) (x y:Ep) (W:World),Sem.run Tryz.prog (eqGuard O 86 a b (.agg #[.int .i64 x.kind,.string x.name,.string x.loc,.string x.spec]) (.agg #[.int .i64 y.kind,.string y.name,.string y.loc,.string y.spec])) W= .ok () W) (b1 b2 g1 g2:Nat) (r1 r2:Rw) (l1 I:List Ep) (w:World) (A:OwnR w b1 86 4 r1 l1.length (l1.flatMap epL)) (z:OwnR w b2 86 4 r2 I.length (I.flatMap epL)) (e1:r1.a=some ⟨g1,0,none⟩) (e2:r2.a=some ⟨g2,0,none⟩) (hl:l1.length=I.length) (hb:l1.length≤4294967296):
  Calls Tryz.prog 128 #[.slice (some ⟨g1,0,none⟩) l1.length r1.cap,.slice (some ⟨g2,0,none⟩) l1.length r2.cap] w fun e w'=>zbX (l1=I) e∧Below w.heap.size w w':=by
 have H1:=zc A
 have H2:=zc z
 have E1:=zc e1
 have E2:=zc e2
 have HL:=zc hl
 clear A z e1 e2 hl
 go_enter Tryz.func128,Tryz.ntmps128
 go_wp2
 go_loopg [13] l1.length (fun k i wr=>∃j:Nat,i= .int .i64 j∧j+k=l1.length∧l1.take j=I.take j∧Below w.heap.size w wr)
 case atStart=>exact⟨0,rfl,by omega,rfl,Below.refl _ _⟩
 case round=>
  obtain⟨j,rfl,hj,ht,hb⟩:=hrel
  have M:=zc hb
  have HT:=zc ht
  clear hb ht
  by_cases J:j<l1.length
  ·have U:(j:Int)<(l1.length:Int):=by omega
   obtain⟨x,hx⟩:=zbp J
   obtain⟨y,hy⟩:=zbp (show j<I.length by rw[←HL.out];exact J)
   obtain⟨g',ga,A⟩:=OwnR.elem (f:=epL) (m:=4) (fun _=>rfl) (H1.out.keep fun k g=>M.out.block k (H1.out.typed g).2.1) hx
   obtain rfl:g'=g1:=by have:=ga.symm.trans E1.out;simpa using this
   obtain⟨g',gb,z⟩:=OwnR.elem (f:=epL) (m:=4) (fun _=>rfl) (H2.out.keep fun k g=>M.out.block k (H2.out.typed g).2.1) hy
   obtain rfl:g'=g2:=by have:=gb.symm.trans E2.out;simpa using this
   have C0:=zc (A 0 (by omega))
   have D0:=zc (z 0 (by omega))
   have C1:=zc (A 1 (by omega))
   have D1:=zc (z 1 (by omega))
   have C2:=zc (A 2 (by omega))
   have D2:=zc (z 2 (by omega))
   have C3:=zc (A 3 (by omega))
   have D3:=zc (z 3 (by omega))
   have HX:=zc hx
   have HY:=zc hy
   clear A z ga gb hx hy
   obtain⟨V,L⟩: ∃V,V=j+1:=⟨_,rfl⟩
   have ej:(j:Int)+1=(V:Int):=by omega
   have HJ:=zc L
   clear L
   obtain⟨b,h⟩: ∃b,zdh x y=b:=⟨_,rfl⟩
   have ab: ∀W:World,Sem.run Tryz.prog (binOp .neq 86 (.agg #[.int .i64 x.kind,.string x.name,.string x.loc,.string x.spec]) (.agg #[.int .i64 y.kind,.string y.name,.string y.loc,.string y.spec])) W= .ok (.bool !b) W:=fun W=>by rw[Z,h]
   have ac: ∀(O:BinOp) (a b:Operand) (W:World),Sem.run Tryz.prog (eqGuard O 86 a b (.agg #[.int .i64 x.kind,.string x.name,.string x.loc,.string x.spec]) (.agg #[.int .i64 y.kind,.string y.name,.string y.loc,.string y.spec])) W= .ok () W:=fun O a b W=>X O a b x y W
   go_wp2
   have k0:=cell_regrown C0.out
   have m0:=cell_regrown D0.out
   have k1:=cell_regrown C1.out
   have m1:=cell_regrown D1.out
   have k2:=cell_regrown C2.out
   have m2:=cell_regrown D2.out
   have k3:=cell_regrown C3.out
   have m3:=cell_regrown D3.out
   simp only[Nat.add_zero] at k0 m0
   refine wp_region_quiet_below (by kernel_rfl) (by kernel_rfl) ?_
   repeat (go_big_quiet_step (fail))
   refine wpQuiet_nil ?_
   intro w2 Y
   obtain⟨⟨dq,aa⟩,H⟩:=Y
   have N:Hid (Below w.heap.size w w2):=by show Below _ _ _;rw[H];exact M.out.trans ((below_regrown wr dq aa).mono M.out.size)
   clear H k0 m0 C0 D0 k1 m1 C1 D1 k2 m2 C2 D2 k3 m3 C3 D3
   cases b with
   |true=>
    go_wp2
    go_roundg (gk-1)
    case rel=>exact⟨V,rfl,by have:=HJ.out;omega,by rw[HJ.out];have e:=zga.1 h;exact zde HT.out HX.out (by rw[e];exact HY.out),N.out⟩
    case measure=>omega
   |false=>
    go_wp2
    go_ret
    exact⟨⟨false,rfl,⟨fun k=>(by cases k),fun k=>(by have e:=HX.out;rw[k,HY.out] at e;cases e;rw[zga.2 rfl] at h;cases h)⟩⟩,N.out⟩
  ·have U: ¬(j:Int)<(l1.length:Int):=by omega
   obtain rfl:j=l1.length:=by omega
   go_wp2
   go_ret
   exact⟨⟨true,rfl,⟨fun _=>zdf HL.out HT.out,fun _=>rfl⟩⟩,M.out⟩
theorem zn5 (L: ∀(x y:Ep) (W:World),Sem.run Tryz.prog (binOp .neq 86 (.agg #[.int .i64 x.kind,.string x.name,.string x.loc,.string x.spec]) (.agg #[.int .i64 y.kind,.string y.name,.string y.loc,.string y.spec])) W= .ok (.bool (!zdh x y)) W) (J: ∀(Y:BinOp) (a b:Operand) (x y:Ep) (W:World),Sem.run Tryz.prog (eqGuard Y 86 a b (.agg #[.int .i64 x.kind,.string x.name,.string x.loc,.string x.spec]) (.agg #[.int .i64 y.kind,.string y.name,.string y.loc,.string y.spec])) W= .ok () W) (M b2:Nat) (H A:Rw) (l1 h:List Ep) (w:World) (U:OwnR w M 86 4 H l1.length (l1.flatMap epL)) (O:OwnR w b2 86 4 A h.length (h.flatMap epL)) (hb:l1.length≤4294967296):
  Calls Tryz.prog 128 #[.slice H.a l1.length H.cap,.slice A.a h.length A.cap] w fun e w'=>zbX (l1=h) e∧Below w.heap.size w w':=by
 by_cases j:l1.length=h.length
 ·rw[←j]
  by_cases z:l1.length=0
  ·rw[z]
   refine (zn3 _ _ _ _ w).mono ?_
   rintro e w' ⟨rfl,I⟩
   exact⟨⟨true,rfl,⟨fun _=>(by rw[List.eq_nil_of_length_eq_zero z,List.eq_nil_of_length_eq_zero (j.symm.trans z)]),fun _=>rfl⟩⟩,I⟩
  ·rcases U.nil_or with ⟨_,_,e⟩|⟨Z,N⟩
   ·exact absurd e z
   ·rcases O.nil_or with ⟨_,_,e⟩|⟨X,V⟩
    ·exact absurd (j.trans e) z
    ·rw[N,V]
     exact zn4 L J M b2 Z X H A l1 h w U O N V j hb
 ·refine (zn2 _ _ _ _ _ _ w (by omega)).mono ?_
  rintro e w' ⟨rfl,I⟩
  exact⟨⟨false,rfl,⟨fun k=>(by cases k),fun k=>absurd (by rw[k]) j⟩⟩,I⟩
def zdi (x y:Sm):Bool:=x.kind==y.kind&&x.name.toList==y.name.toList&&x.expr==y.expr
theorem zgb {x y:Sm}:zdi x y=true↔x=y:=by
 constructor
 ·intro h
  unfold zdi at h
  simp only[Bool.and_eq_true] at h
  obtain⟨⟨z,j⟩,w⟩:=h
  cases x
  cases y
  simp only at z j w
  congr 1<;>first|(apply zfj;assumption)|(apply eq_of_beq;assumption)
 ·intro h
  rw[h]
  simp[zdi]
theorem zn6 (H I:Option Addr) (j z J A:Nat) (w:World) (h:(j:Int)≠(z:Int)):Calls Tryz.prog 129 #[.slice H j J,.slice I z A] w fun e w'=>e= .returned (.bool false)∧Below w.heap.size w w':=by
 go_enter Tryz.func129,Tryz.ntmps129
 go_wp2
 go_ret
 exact⟨rfl,Below.refl _ _⟩
theorem zn7 (j z:Option Addr) (A h:Nat) (w:World):Calls Tryz.prog 129 #[.slice j 0 A,.slice z 0 h] w fun e w'=>e= .returned (.bool true)∧Below w.heap.size w w':=by
 go_enter Tryz.func129,Tryz.ntmps129
 go_wp2
 go_loopg [13] 1 (fun k i wr=>k=1∧i= .int .i64 0∧wr=w)
 case atStart=>exact⟨rfl,rfl,rfl⟩
 case round=>
  obtain⟨rfl,rfl,rfl⟩:=hrel
  go_wp2
  go_ret
  exact⟨rfl,Below.refl _ _⟩
theorem zn8 (Z: ∀(x y:Sm) (W:World),Sem.run Tryz.prog (binOp .neq 107 (.agg #[.int .i64 x.kind,.string x.name,.int .i64 x.expr]) (.agg #[.int .i64 y.kind,.string y.name,.int .i64 y.expr])) W= .ok (.bool (!zdi x y)) W) (X: ∀(O:BinOp) (a b:Operand) (x y:Sm) (W:World),Sem.run Tryz.prog (eqGuard O 107 a b (.agg #[.int .i64 x.kind,.string x.name,.int .i64 x.expr]) (.agg #[.int .i64 y.kind,.string y.name,.int .i64 y.expr])) W= .ok () W) (b1 b2 g1 g2:Nat) (r1 r2:Rw) (l1 I:List Sm) (w:World) (H:OwnR w b1 107 3 r1 l1.length (l1.flatMap smL)) (A:OwnR w b2 107 3 r2 I.length (I.flatMap smL)) (e1:r1.a=some ⟨g1,0,none⟩) (e2:r2.a=some ⟨g2,0,none⟩) (hl:l1.length=I.length) (hb:l1.length≤4294967296):
  Calls Tryz.prog 129 #[.slice (some ⟨g1,0,none⟩) l1.length r1.cap,.slice (some ⟨g2,0,none⟩) l1.length r2.cap] w fun e w'=>zbX (l1=I) e∧Below w.heap.size w w':=by
 have H1:=zc H
 have H2:=zc A
 have E1:=zc e1
 have E2:=zc e2
 have HL:=zc hl
 clear H A e1 e2 hl
 go_enter Tryz.func129,Tryz.ntmps129
 go_wp2
 go_loopg [13] l1.length (fun k i wr=>∃j:Nat,i= .int .i64 j∧j+k=l1.length∧l1.take j=I.take j∧Below w.heap.size w wr)
 case atStart=>exact⟨0,rfl,by omega,rfl,Below.refl _ _⟩
 case round=>
  obtain⟨j,rfl,hj,ht,hb⟩:=hrel
  have M:=zc hb
  have HT:=zc ht
  clear hb ht
  by_cases J:j<l1.length
  ·have U:(j:Int)<(l1.length:Int):=by omega
   obtain⟨x,hx⟩:=zbp J
   obtain⟨y,hy⟩:=zbp (show j<I.length by rw[←HL.out];exact J)
   obtain⟨g',ga,H⟩:=OwnR.elem (f:=smL) (m:=3) (fun _=>rfl) (H1.out.keep fun k g=>M.out.block k (H1.out.typed g).2.1) hx
   obtain rfl:g'=g1:=by have:=ga.symm.trans E1.out;simpa using this
   obtain⟨g',gb,A⟩:=OwnR.elem (f:=smL) (m:=3) (fun _=>rfl) (H2.out.keep fun k g=>M.out.block k (H2.out.typed g).2.1) hy
   obtain rfl:g'=g2:=by have:=gb.symm.trans E2.out;simpa using this
   have C0:=zc (H 0 (by omega))
   have D0:=zc (A 0 (by omega))
   have C1:=zc (H 1 (by omega))
   have D1:=zc (A 1 (by omega))
   have C2:=zc (H 2 (by omega))
   have D2:=zc (A 2 (by omega))
   have HX:=zc hx
   have HY:=zc hy
   clear H A ga gb hx hy
   obtain⟨V,L⟩: ∃V,V=j+1:=⟨_,rfl⟩
   have ej:(j:Int)+1=(V:Int):=by omega
   have HJ:=zc L
   clear L
   obtain⟨b,h⟩: ∃b,zdi x y=b:=⟨_,rfl⟩
   have ab: ∀W:World,Sem.run Tryz.prog (binOp .neq 107 (.agg #[.int .i64 x.kind,.string x.name,.int .i64 x.expr]) (.agg #[.int .i64 y.kind,.string y.name,.int .i64 y.expr])) W= .ok (.bool !b) W:=fun W=>by rw[Z,h]
   have ac: ∀(O:BinOp) (a b:Operand) (W:World),Sem.run Tryz.prog (eqGuard O 107 a b (.agg #[.int .i64 x.kind,.string x.name,.int .i64 x.expr]) (.agg #[.int .i64 y.kind,.string y.name,.int .i64 y.expr])) W= .ok () W:=fun O a b W=>X O a b x y W
   go_wp2
   have k0:=cell_regrown C0.out
   have m0:=cell_regrown D0.out
   have k1:=cell_regrown C1.out
   have m1:=cell_regrown D1.out
   have k2:=cell_regrown C2.out
   have m2:=cell_regrown D2.out
   simp only[Nat.add_zero] at k0 m0
   refine wp_region_quiet_below (by kernel_rfl) (by kernel_rfl) ?_
   repeat (go_big_quiet_step (fail))
   refine wpQuiet_nil ?_
   intro w2 Y
   obtain⟨⟨dq,aa⟩,z⟩:=Y
   have N:Hid (Below w.heap.size w w2):=by show Below _ _ _;rw[z];exact M.out.trans ((below_regrown wr dq aa).mono M.out.size)
   clear z k0 m0 C0 D0 k1 m1 C1 D1 k2 m2 C2 D2
   cases b with
   |true=>
    go_wp2
    go_roundg (gk-1)
    case rel=>exact⟨V,rfl,by have:=HJ.out;omega,by rw[HJ.out];have e:=zgb.1 h;exact zde HT.out HX.out (by rw[e];exact HY.out),N.out⟩
    case measure=>omega
   |false=>
    go_wp2
    go_ret
    exact⟨⟨false,rfl,⟨fun k=>(by cases k),fun k=>(by have e:=HX.out;rw[k,HY.out] at e;cases e;rw[zgb.2 rfl] at h;cases h)⟩⟩,N.out⟩
  ·have U: ¬(j:Int)<(l1.length:Int):=by omega
   obtain rfl:j=l1.length:=by omega
   go_wp2
   go_ret
   exact⟨⟨true,rfl,⟨fun _=>zdf HL.out HT.out,fun _=>rfl⟩⟩,M.out⟩
theorem zn9 (L: ∀(x y:Sm) (W:World),Sem.run Tryz.prog (binOp .neq 107 (.agg #[.int .i64 x.kind,.string x.name,.int .i64 x.expr]) (.agg #[.int .i64 y.kind,.string y.name,.int .i64 y.expr])) W= .ok (.bool (!zdi x y)) W) (J: ∀(Y:BinOp) (a b:Operand) (x y:Sm) (W:World),Sem.run Tryz.prog (eqGuard Y 107 a b (.agg #[.int .i64 x.kind,.string x.name,.int .i64 x.expr]) (.agg #[.int .i64 y.kind,.string y.name,.int .i64 y.expr])) W= .ok () W) (M b2:Nat) (H A:Rw) (l1 h:List Sm) (w:World) (U:OwnR w M 107 3 H l1.length (l1.flatMap smL)) (O:OwnR w b2 107 3 A h.length (h.flatMap smL)) (hb:l1.length≤4294967296):
  Calls Tryz.prog 129 #[.slice H.a l1.length H.cap,.slice A.a h.length A.cap] w fun e w'=>zbX (l1=h) e∧Below w.heap.size w w':=by
 by_cases j:l1.length=h.length
 ·rw[←j]
  by_cases z:l1.length=0
  ·rw[z]
   refine (zn7 _ _ _ _ w).mono ?_
   rintro e w' ⟨rfl,I⟩
   exact⟨⟨true,rfl,⟨fun _=>(by rw[List.eq_nil_of_length_eq_zero z,List.eq_nil_of_length_eq_zero (j.symm.trans z)]),fun _=>rfl⟩⟩,I⟩
  ·rcases U.nil_or with ⟨_,_,e⟩|⟨Z,N⟩
   ·exact absurd e z
   ·rcases O.nil_or with ⟨_,_,e⟩|⟨X,V⟩
    ·exact absurd (j.trans e) z
    ·rw[N,V]
     exact zn8 L J M b2 Z X H A l1 h w U O N V j hb
 ·refine (zn6 _ _ _ _ _ _ w (by omega)).mono ?_
  rintro e w' ⟨rfl,I⟩
  exact⟨⟨false,rfl,⟨fun k=>(by cases k),fun k=>absurd (by rw[k]) j⟩⟩,I⟩
def zdj (x y:Ex):Bool:=x.kind==y.kind&&x.num==y.num&&x.name.toList==y.name.toList&&x.field.toList==y.field.toList&&x.l==y.l&&x.r==y.r
theorem zgc {x y:Ex}:zdj x y=true↔x=y:=by
 constructor
 ·intro h
  unfold zdj at h
  simp only[Bool.and_eq_true] at h
  obtain⟨⟨⟨⟨⟨H,z⟩,j⟩,I⟩,w⟩,A⟩:=h
  cases x
  cases y
  simp only at H z j I w A
  congr 1<;>first|(apply zfj;assumption)|(apply eq_of_beq;assumption)
 ·intro h
  rw[h]
  simp[zdj]
theorem znA (H I:Option Addr) (j z J A:Nat) (w:World) (h:(j:Int)≠(z:Int)):Calls Tryz.prog 130 #[.slice H j J,.slice I z A] w fun e w'=>e= .returned (.bool false)∧Below w.heap.size w w':=by
 go_enter Tryz.func130,Tryz.ntmps130
 go_wp2
 go_ret
 exact⟨rfl,Below.refl _ _⟩
theorem znB (j z:Option Addr) (A h:Nat) (w:World):Calls Tryz.prog 130 #[.slice j 0 A,.slice z 0 h] w fun e w'=>e= .returned (.bool true)∧Below w.heap.size w w':=by
 go_enter Tryz.func130,Tryz.ntmps130
 go_wp2
 go_loopg [13] 1 (fun k i wr=>k=1∧i= .int .i64 0∧wr=w)
 case atStart=>exact⟨rfl,rfl,rfl⟩
 case round=>
  obtain⟨rfl,rfl,rfl⟩:=hrel
  go_wp2
  go_ret
  exact⟨rfl,Below.refl _ _⟩
theorem znC (Z: ∀(x y:Ex) (W:World),Sem.run Tryz.prog (binOp .neq 109 (.agg #[.int .i64 x.kind,.int .i64 x.num,.string x.name,.string x.field,.int .i64 x.l,.int .i64 x.r]) (.agg #[.int .i64 y.kind,.int .i64 y.num,.string y.name,.string y.field,.int .i64 y.l,.int .i64 y.r])) W= .ok (.bool (!zdj x y)) W) (X: ∀(O:BinOp) (a b:Operand) (x y:Ex) (W:World),Sem.run Tryz.prog (eqGuard O 109 a b (.agg #[.int .i64 x.kind,.int .i64 x.num,.string x.name,.string x.field,.int .i64 x.l,.int .i64 x.r]) (.agg #[.int .i64 y.kind,.int .i64 y.num,.string y.name,.string y.field,.int .i64 y.l,.int .i64 y.r])) W= .ok () W) (b1 b2 g1 g2:Nat) (r1 r2:Rw) (l1 I:List Ex) (w:World) (z:OwnR w b1 109 6 r1 l1.length (l1.flatMap exL)) (h:OwnR w b2 109 6 r2 I.length (I.flatMap exL)) (e1:r1.a=some ⟨g1,0,none⟩) (e2:r2.a=some ⟨g2,0,none⟩) (hl:l1.length=I.length) (hb:l1.length≤4294967296):
  Calls Tryz.prog 130 #[.slice (some ⟨g1,0,none⟩) l1.length r1.cap,.slice (some ⟨g2,0,none⟩) l1.length r2.cap] w fun e w'=>zbX (l1=I) e∧Below w.heap.size w w':=by
 have H1:=zc z
 have H2:=zc h
 have E1:=zc e1
 have E2:=zc e2
 have HL:=zc hl
 clear z h e1 e2 hl
 go_enter Tryz.func130,Tryz.ntmps130
 go_wp2
 go_loopg [13] l1.length (fun k i wr=>∃j:Nat,i= .int .i64 j∧j+k=l1.length∧l1.take j=I.take j∧Below w.heap.size w wr)
 case atStart=>exact⟨0,rfl,by omega,rfl,Below.refl _ _⟩
 case round=>
  obtain⟨j,rfl,hj,ht,hb⟩:=hrel
  have M:=zc hb
  have HT:=zc ht
  clear hb ht
  by_cases J:j<l1.length
  ·have U:(j:Int)<(l1.length:Int):=by omega
   obtain⟨x,hx⟩:=zbp J
   obtain⟨y,hy⟩:=zbp (show j<I.length by rw[←HL.out];exact J)
   obtain⟨g',ga,z⟩:=OwnR.elem (f:=exL) (m:=6) (fun _=>rfl) (H1.out.keep fun k g=>M.out.block k (H1.out.typed g).2.1) hx
   obtain rfl:g'=g1:=by have:=ga.symm.trans E1.out;simpa using this
   obtain⟨g',gb,h⟩:=OwnR.elem (f:=exL) (m:=6) (fun _=>rfl) (H2.out.keep fun k g=>M.out.block k (H2.out.typed g).2.1) hy
   obtain rfl:g'=g2:=by have:=gb.symm.trans E2.out;simpa using this
   have C0:=zc (z 0 (by omega))
   have D0:=zc (h 0 (by omega))
   have C1:=zc (z 1 (by omega))
   have D1:=zc (h 1 (by omega))
   have C2:=zc (z 2 (by omega))
   have D2:=zc (h 2 (by omega))
   have C3:=zc (z 3 (by omega))
   have D3:=zc (h 3 (by omega))
   have C4:=zc (z 4 (by omega))
   have D4:=zc (h 4 (by omega))
   have C5:=zc (z 5 (by omega))
   have D5:=zc (h 5 (by omega))
   have HX:=zc hx
   have HY:=zc hy
   clear z h ga gb hx hy
   obtain⟨V,L⟩: ∃V,V=j+1:=⟨_,rfl⟩
   have ej:(j:Int)+1=(V:Int):=by omega
   have HJ:=zc L
   clear L
   obtain⟨b,A⟩: ∃b,zdj x y=b:=⟨_,rfl⟩
   have ab: ∀W:World,Sem.run Tryz.prog (binOp .neq 109 (.agg #[.int .i64 x.kind,.int .i64 x.num,.string x.name,.string x.field,.int .i64 x.l,.int .i64 x.r]) (.agg #[.int .i64 y.kind,.int .i64 y.num,.string y.name,.string y.field,.int .i64 y.l,.int .i64 y.r])) W= .ok (.bool !b) W:=fun W=>by rw[Z,A]
   have ac: ∀(O:BinOp) (a b:Operand) (W:World),Sem.run Tryz.prog (eqGuard O 109 a b (.agg #[.int .i64 x.kind,.int .i64 x.num,.string x.name,.string x.field,.int .i64 x.l,.int .i64 x.r]) (.agg #[.int .i64 y.kind,.int .i64 y.num,.string y.name,.string y.field,.int .i64 y.l,.int .i64 y.r])) W= .ok () W:=fun O a b W=>X O a b x y W
   go_wp2
   have k0:=cell_regrown C0.out
   have m0:=cell_regrown D0.out
   have k1:=cell_regrown C1.out
   have m1:=cell_regrown D1.out
   have k2:=cell_regrown C2.out
   have m2:=cell_regrown D2.out
   have k3:=cell_regrown C3.out
   have m3:=cell_regrown D3.out
   have k4:=cell_regrown C4.out
   have m4:=cell_regrown D4.out
   have k5:=cell_regrown C5.out
   have m5:=cell_regrown D5.out
   simp only[Nat.add_zero] at k0 m0
   refine wp_region_quiet_below (by kernel_rfl) (by kernel_rfl) ?_
   repeat (go_big_quiet_step (fail))
   refine wpQuiet_nil ?_
   intro w2 Y
   obtain⟨⟨dq,aa⟩,H⟩:=Y
   have N:Hid (Below w.heap.size w w2):=by show Below _ _ _;rw[H];exact M.out.trans ((below_regrown wr dq aa).mono M.out.size)
   clear H k0 m0 C0 D0 k1 m1 C1 D1 k2 m2 C2 D2 k3 m3 C3 D3 k4 m4 C4 D4 k5 m5 C5 D5
   cases b with
   |true=>
    go_wp2
    go_roundg (gk-1)
    case rel=>exact⟨V,rfl,by have:=HJ.out;omega,by rw[HJ.out];have e:=zgc.1 A;exact zde HT.out HX.out (by rw[e];exact HY.out),N.out⟩
    case measure=>omega
   |false=>
    go_wp2
    go_ret
    exact⟨⟨false,rfl,⟨fun k=>(by cases k),fun k=>(by have e:=HX.out;rw[k,HY.out] at e;cases e;rw[zgc.2 rfl] at A;cases A)⟩⟩,N.out⟩
  ·have U: ¬(j:Int)<(l1.length:Int):=by omega
   obtain rfl:j=l1.length:=by omega
   go_wp2
   go_ret
   exact⟨⟨true,rfl,⟨fun _=>zdf HL.out HT.out,fun _=>rfl⟩⟩,M.out⟩
theorem znD (L: ∀(x y:Ex) (W:World),Sem.run Tryz.prog (binOp .neq 109 (.agg #[.int .i64 x.kind,.int .i64 x.num,.string x.name,.string x.field,.int .i64 x.l,.int .i64 x.r]) (.agg #[.int .i64 y.kind,.int .i64 y.num,.string y.name,.string y.field,.int .i64 y.l,.int .i64 y.r])) W= .ok (.bool (!zdj x y)) W) (J: ∀(Y:BinOp) (a b:Operand) (x y:Ex) (W:World),Sem.run Tryz.prog (eqGuard Y 109 a b (.agg #[.int .i64 x.kind,.int .i64 x.num,.string x.name,.string x.field,.int .i64 x.l,.int .i64 x.r]) (.agg #[.int .i64 y.kind,.int .i64 y.num,.string y.name,.string y.field,.int .i64 y.l,.int .i64 y.r])) W= .ok () W) (M b2:Nat) (H A:Rw) (l1 h:List Ex) (w:World) (U:OwnR w M 109 6 H l1.length (l1.flatMap exL)) (O:OwnR w b2 109 6 A h.length (h.flatMap exL)) (hb:l1.length≤4294967296):
  Calls Tryz.prog 130 #[.slice H.a l1.length H.cap,.slice A.a h.length A.cap] w fun e w'=>zbX (l1=h) e∧Below w.heap.size w w':=by
 by_cases j:l1.length=h.length
 ·rw[←j]
  by_cases z:l1.length=0
  ·rw[z]
   refine (znB _ _ _ _ w).mono ?_
   rintro e w' ⟨rfl,I⟩
   exact⟨⟨true,rfl,⟨fun _=>(by rw[List.eq_nil_of_length_eq_zero z,List.eq_nil_of_length_eq_zero (j.symm.trans z)]),fun _=>rfl⟩⟩,I⟩
  ·rcases U.nil_or with ⟨_,_,e⟩|⟨Z,N⟩
   ·exact absurd e z
   ·rcases O.nil_or with ⟨_,_,e⟩|⟨X,V⟩
    ·exact absurd (j.trans e) z
    ·rw[N,V]
     exact znC L J M b2 Z X H A l1 h w U O N V j hb
 ·refine (znA _ _ _ _ _ _ w (by omega)).mono ?_
  rintro e w' ⟨rfl,I⟩
  exact⟨⟨false,rfl,⟨fun k=>(by cases k),fun k=>absurd (by rw[k]) j⟩⟩,I⟩
end Go.Proofs.YtjdddblpfbmpaaaGreat
