/-
  What slices.Index and slices.Contains answer over a row of texts,and strings.Clone: the walks.
  What request of impl's parser answers: the walks.
  What nameOrCall of impl's parser answers: the walk.
  What part of impl's parser answers: the walk.
  What product and sum of impl's parser answer: the walks.
  What statement of impl's parser answers: the walk.
  What the small items of impl's parser,itemWord and exportLast answer: the walks.
  Rows beside impl's parser: lists of names under way. No program is spoken of but for the numbers of its types.
  A program in memory,of any size. No program is spoken of but for the numbers of its types.
  What slices.Equal answers of rows of the call's own,the model's != handed in: the walks.
-/
import Derived.Test.YtgcbmogmniahjaaGreatCAsImplParseHToImplParseI
import Derived.Test.YtgcbmogmniahjaaGreatCAsShelf
namespace Go.Proofs.YtgcbmogmniahjaaGreat
set_option maxRecDepth 100000
set_option maxHeartbeats 6400000
open Go.RowKit Go.PlainAid Go.Sort
theorem zjT (s:ByteArray) (w:World) (h:s.size≤281474976710656):
  Calls Tryz.prog 191 #[.string s] w fun e q=>e= .returned (.string s)∧Below w.heap.size w q:=by
 go_enter Tryz.func191,Tryz.ntmps191
 go_wp2_with fail
 refine (Tryz.stringslite_Clone _ _ h).mono ?_
 rintro e A ⟨rfl,z⟩
 go_wp2
 go_ret
 exact⟨rfl,z⟩
theorem OwnR.text {w:World} {base n:Nat} {r:Rw} {l:List ByteArray} (h:OwnR w base 9 1 r n (l.map .string)) {j:Nat} (E:j<n): ∃g,r.a=some ⟨g,0,none⟩∧w.cell? ⟨g,j,none⟩=some (.string (l.getD j sNone)):=by
 rcases h.2 with ⟨_,I⟩|⟨g,D,A,q,_⟩
 ·omega
 ·simp only[Value.slice.injEq] at q
  have z:=h
  unfold OwnR at z
  rw[q.1,q.2.2] at z
  have H:l.length=n:=by have:=h.1;simpa using this
  refine⟨g,q.1,?_⟩
  rw[World.ownsRow.cellAt z j (by omega)]
  simp only[List.getElem?_map,List.getD]
  rw[List.getElem?_eq_getElem (by omega)]
  rfl
theorem zoB {l:List ByteArray} {x:ByteArray} {j:Nat} (h:j<l.length):zaU (l.drop j) x=((l.getD j sNone).toList==x.toList||zaU (l.drop (j+1)) x):=by
 rw[List.drop_eq_getElem_cons h]
 simp only[zaU,List.any_cons,List.getD,List.getElem?_eq_getElem h,Option.getD_some]
theorem zoC (base g:Nat) (r:Rw) (l:List ByteArray) (x:ByteArray) (w:World) (h:OwnR w base 9 1 r l.length (l.map .string)) (hl:l.length≤1000000) (N:r.a=some ⟨g,0,none⟩):
  Calls Tryz.prog 96 #[.slice (some ⟨g,0,none⟩) l.length r.cap,.string x] w fun e U=>(∃v:Int,e= .returned (.int .i64 v)∧decide (0≤v)=zaU l x)∧U=w:=by
 have Y:=zc h
 have J:=zc N
 clear h N
 go_enter Tryz.func96,Tryz.ntmps96
 go_wp2
 go_loopg [8] (l.length+1) (fun k i wr=>∃j:Nat,i= .int .i64 j∧j+k=l.length+1∧zaU (l.drop j) x=zaU l x∧wr=w)
 case atStart=>exact⟨0,rfl,by omega,by simp,rfl⟩
 case round=>
  obtain⟨j,rfl,hj,O,rfl⟩:=hrel
  have L:=zc O
  clear O
  by_cases q:j<l.length
  ·have D:(j:Int)<(l.length:Int):=by omega
   obtain⟨X,A,Z⟩:=Y.out.text q
   have V:X=g:=by have:=A.symm.trans J.out;simpa using this
   subst V
   clear A
   obtain⟨E,z⟩: ∃E,E=j+1:=⟨_,rfl⟩
   have ej:(j:Int)+1=(E:Int):=by omega
   have M:=zc z
   clear z
   have K:Hid (zaU (l.drop j) x=((l.getD j sNone).toList==x.toList||zaU (l.drop (j+1)) x)):=zoB q
   generalize l.getD j sNone=y at Z K
   cases H:(x.toList==y.toList) with
   |true=>
    go_wp2
    go_ret
    refine⟨⟨_,rfl,?_⟩,rfl⟩
    have I:(y.toList==x.toList)=true:=by rw[beq_iff_eq] at H ⊢;exact H.symm
    rw[←L.out,K.out,I]
    simp
   |false=>
    go_wp2
    go_roundg (gk-1)
    case rel=>
     have I:(y.toList==x.toList)=false:=by
      rw[beq_eq_false_iff_ne] at H ⊢;exact fun e=>H e.symm
     refine⟨E,rfl,by have:=M.out;omega,?_,rfl⟩
     rw[←L.out,K.out,I,M.out]
     simp
    case measure=>omega
  ·have D: ¬(j:Int)<(l.length:Int):=by omega
   go_wp2
   go_ret
   refine⟨⟨_,rfl,?_⟩,rfl⟩
   rw[←L.out,List.drop_eq_nil_of_le (by omega)]
   rfl
theorem zoD (x:ByteArray) (w:World):
  Calls Tryz.prog 96 #[.slice none 0 0,.string x] w fun e h=>e= .returned (.int .i64 (-1))∧h=w:=by
 go_enter Tryz.func96,Tryz.ntmps96
 go_wp2
 go_loopg [8] 1 (fun k i wr=>k=1∧i= .int .i64 0∧wr=w)
 case atStart=>exact⟨rfl,rfl,rfl⟩
 case round=>
  obtain⟨rfl,rfl,rfl⟩:=hrel
  go_wp2
  go_ret
  exact⟨rfl,rfl⟩
theorem zoE (base:Nat) (r:Rw) (l:List ByteArray) (x:ByteArray) (w:World) (h:OwnR w base 9 1 r l.length (l.map .string)) (E:l.length≤1000000):
  Calls Tryz.prog 96 #[.slice r.a l.length r.cap,.string x] w fun e D=>(∃v:Int,e= .returned (.int .i64 v)∧decide (0≤v)=zaU l x)∧D=w:=by
 rcases h.nil_or with ⟨A,H,q⟩|⟨g,z⟩
 ·rw[A,H,q]
  refine (zoD x w).mono ?_
  rintro e I ⟨rfl,rfl⟩
  have:l=[]:=List.length_eq_zero_iff.1 q
  subst this
  exact⟨⟨_,rfl,rfl⟩,rfl⟩
 ·rw[z]
  exact zoC base g r l x w h E z
theorem zg1 (base:Nat) (r:Rw) (l:List ByteArray) (x:ByteArray) (w:World) (h:OwnR w base 9 1 r l.length (l.map .string)) (D:l.length≤1000000):
  Calls Tryz.prog 64 #[.slice r.a l.length r.cap,.string x] w fun e A=>e= .returned (.bool (zaU l x))∧A=w:=by
 have z:=zc h
 clear h
 go_enter Tryz.func64,Tryz.ntmps64
 go_wp2_with fail
 refine (zoE base r l x _ z.out D).mono ?_
 rintro e H ⟨⟨v,rfl,q⟩,rfl⟩
 have E:=zc q
 clear q
 go_wp2
 go_ret
 exact⟨zi E.out,rfl⟩
theorem Tryz.infoText:(Tryz.prog.info? 9).map (fun i=>(i.zero,i.size,i.bytes))=some (some (.string {data:=#[]}),1,16):=by kernel_rfl
def zbu (C:Cx):Prop:=∀i,(ze C i).text.size≤281474976710656
theorem zcY (x:ByteArray): ∀u∈[Value.string x],u.oneCell'=true:=by
 intro u h
 simp at h
 rw[h]
 rfl
theorem zoF (C:Cx) (V A base z:Nat) (S:Sv) (q:PS) (w:World) (h:IM C V A base z S q w) (hC:zbu C) (hk:((ze C q.pos).kind==3)=true) (hs:zaU q.rq (ze C q.pos).text=false) (hn:q.rq.length<40):
  Calls Tryz.prog 228 #[.pointer (some ⟨z,0,none⟩)] w fun e w'=>e= .returned (.string (ze C q.pos).text)∧∃S',IM C V A base z S' {adv q with rq:=q.rq++[(ze C q.pos).text]} w'∧IS z S w S' w':=by
 obtain⟨i0,hi,Y,ad,ae⟩:=info_parts Tryz.infoText
 have ag:=zcW
 have L:=hC q.pos
 go_enter Tryz.func228,Tryz.ntmps228
 go_wp2_with fail
 refine (zep C V A base z S q 3 _ h hk (by decide)).mono ?_
 rintro e N ⟨rfl,m1,s1⟩
 have U:=zc m1
 have ac:=zc s1
 clear m1 s1
 unfold tkV
 obtain⟨c0,c1,c2,c3,c4,c5,c6,c7,c8,c9,cf⟩:=zai U.out.cells
 rw[show (adv q).rq=q.rq from rfl] at c4
 generalize K:(ze C q.pos).text=tx at hs L ⊢
 have X:=zc K
 clear K
 go_wp2_with fail
 refine (zg1 base S.rq q.rq tx _ U.out.mem.own.rq (by omega)).mono ?_
 rintro e H ⟨rfl,M⟩
 rw[hs,M]
 clear M H
 go_wp2_with fail
 refine (zeq z q.rq.length 40 _ (by omega)).mono ?_
 rintro e H ⟨rfl,M⟩
 rw[M]
 clear M H
 have HN:Hid (some z≠S.rq.blk):=fun e=>U.out.free (.inl e.symm)
 go_wp2_with fail
 go_region_law (first|(refine zfA rfl (.tmp 28) (.tmp 31) 22 rfl base 9 i0 _ 1 16 Tryz.underlying22 hi Y ad ae rfl (by decide) (by decide) S.rq q.rq.length (q.rq.map .string) (by rfl) (by exact D.out.mem.own.rq.alloc _) O.heap.size [.string tx] (by rfl) (by exact heap_alloc_new O _) rfl (zcY tx) (by omega) (by exact (D.out.alloc _).mem.base) ?_;intro r' w2 hr E J;have g2:=(E.block z (by exact (D.out.alloc _).lt) HN.out).trans (by exact (D.out.alloc _).cells);obtain⟨d0,d1,d2,d3,d4,d5,d6,d7,d8,d9,df⟩:=zai g2)|(go_simp;go_wp2_with (go_at_call 191;refine (zjT _ _ L).mono ?_;rintro e O ⟨rfl,I⟩;have D:Hid (IM C V A base z S (adv q) O):=U.out.drew.later I;have ab:Hid (Below N.heap.size N O):=(Below.refl N.heap.size N).drew.trans I;obtain⟨e0,e1,e2,e3,e4,e5,e6,e7,e8,e9,ef⟩:=zai D.out.cells;rw[show (adv q).rq=q.rq from rfl] at e4;have af:=D.out.lt;clear I)))
 all_goals
  have HR:=zc hr
  have aa:=zc E
  have Z:=zc J
  clear hr E J g2 c0 c1 c2 c3 c4 c5 c6 c7 c8 c9 cf e0 e1 e2 e3 e4 e5 e6 e7 e8 e9 ef
  go_wp2
  go_ret
  obtain⟨m',s'⟩:=D.out.grow_rq (x:=tx) ((Below.refl _ _).alloc (Nat.le_refl _) _) aa.out HR.out Z.out hn
  rw[X.out]
  exact⟨rfl,_,m',ac.out.trans (s'.grownI ab.out)⟩
theorem zg2 (C:Cx) (H z base A:Nat) (S:Sv) (q:PS) (w:World) (h:IM C H z base A S q w) (hC:zbu C):
  Calls Tryz.prog 228 #[.pointer (some ⟨A,0,none⟩)] w (zV C H z base A (zM C q) (·.1) (fun a=>.string a.2) S w):=by
 cases D:((ze C q.pos).kind==3) with
 |false=>
  have L:=zc h
  have V:Hid (zM C q= .error (zt C q.pos)):=by show _=_;rw[zM,D];rfl
  clear h
  go_enter Tryz.func228,Tryz.ntmps228
  go_wp2_with fail
  refine (zjR C H z base A S q 3 _ L.out D).mono ?_
  rintro e X ⟨rfl,O⟩
  have Y:=O.mono L.out.mem.base
  clear O
  unfold Pan
  go_wp2
  refine⟨rfl,?_⟩
  rw[V.out]
  exact⟨rfl,Y⟩
 |true=>
  cases N:zaU q.rq (ze C q.pos).text with
  |true=>
   have L:=zc h
   have V:Hid (zM C q= .ok (adv q,(ze C q.pos).text)):=by show _=_;rw[zM,D,N];rfl
   have aa:=zcW
   have Z:=h.mem.inv.rq
   clear h
   go_enter Tryz.func228,Tryz.ntmps228
   go_wp2_with fail
   refine (zep C H z base A S q 3 _ L.out D (by decide)).mono ?_
   rintro e X ⟨rfl,K,J⟩
   have E:=zc K
   have I:=zc J
   clear K J
   unfold tkV
   obtain⟨c0,c1,c2,c3,c4,c5,c6,c7,c8,c9,cf⟩:=zai E.out.cells
   rw[show (adv q).rq=q.rq from rfl] at c4
   go_wp2_with fail
   refine (zg1 base S.rq q.rq (ze C q.pos).text _ E.out.mem.own.rq (by omega)).mono ?_
   rintro e M ⟨rfl,U⟩
   rw[N,U]
   clear U M
   go_wp2
   go_ret
   rw[V.out]
   exact⟨rfl,S,E.out,I.out⟩
  |false=>
   by_cases hn:q.rq.length<40
   ·refine (zoF C H z base A S q w h hC D N hn).mono ?_
    rintro e X ⟨rfl,S1,K,J⟩
    rw[zM,D,N,if_pos rfl,if_neg (by decide),if_neg (by omega)]
    exact⟨rfl,S1,K,J⟩
   ·have L:Hid (IM C H z base A S q w):=h
    have V:Hid (zM C q= .error (zt C q.pos)):=by show _=_;rw[zM,D,N,if_pos rfl,if_neg (by decide),if_pos (by omega)]
    have aa:=zcW
    have Z:=h.mem.inv.rq
    clear h
    go_enter Tryz.func228,Tryz.ntmps228
    go_wp2_with fail
    refine (zep C H z base A S q 3 _ L.out D (by decide)).mono ?_
    rintro e X ⟨rfl,K,J⟩
    have E:=zc K
    have I:=zc J
    clear K J
    unfold tkV
    obtain⟨c0,c1,c2,c3,c4,c5,c6,c7,c8,c9,cf⟩:=zai E.out.cells
    rw[show (adv q).rq=q.rq from rfl] at c4
    go_wp2_with fail
    refine (zg1 base S.rq q.rq (ze C q.pos).text _ E.out.mem.own.rq (by omega)).mono ?_
    rintro e M ⟨rfl,U⟩
    rw[N,U]
    clear U M
    go_wp2_with fail
    refine (zeU C H z base A S (adv q) q.rq.length 40 _ E.out (by omega) (by rw[zA];omega)).mono ?_
    rintro e w2 ⟨rfl,O⟩
    have Y:=(L.out.back I.out).trans (O.mono E.out.mem.base)
    clear O
    unfold Pan
    go_wp2
    refine⟨rfl,?_⟩
    rw[V.out]
    exact⟨rfl,Y⟩
theorem bdO {α β:Type} {Y:Except Nat β} {x:Except Nat α} {f:α→Except Nat β} {a:α} (h:Y=bd x f) (q:x= .ok a):Y=f a:=by rw[h,q];rfl
theorem bdE {α β:Type} {Y:Except Nat β} {x:Except Nat α} {f:α→Except Nat β} {p:Nat} (h:Y=bd x f) (q:x= .error p):Y= .error p:=by rw[h,q];rfl
theorem zeW {α:Type} (x:Except Nat α):bd x .ok=x:=by cases x<;>rfl
abbrev cCall:ByteArray:={data:=#[40,41,123]}
abbrev cShutSemi:ByteArray:={data:=#[41,59]}
abbrev cSemiRight:ByteArray:={data:=#[59,125]}
theorem zjU (C:Cx) (b:UInt8) (q:PS):zaJ C {data:=#[b]} 1 0 q=zd C 4 {data:=#[b]} q:=by
 have e:({data:=#[b]}:ByteArray).extract 0 (0+1)={data:=#[b]}:=by simp[ByteArray.extract,ByteArray.copySlice]
 rw[zaJ,e]
 exact zeW _
theorem zjV (C:Cx) (b c:UInt8) (q:PS):zaJ C {data:=#[b,c]} 2 0 q=bd (zd C 4 {data:=#[b]} q) (zd C 4 {data:=#[c]}):=by
 have e:({data:=#[b,c]}:ByteArray).extract 0 (0+1)={data:=#[b]}:=by simp[ByteArray.extract,ByteArray.copySlice]
 have h:({data:=#[b,c]}:ByteArray).extract (0+1) (0+1+1)={data:=#[c]}:=by simp[ByteArray.extract,ByteArray.copySlice]
 rw[zaJ,e]
 refine zah fun a _=>?_
 rw[zaJ,h]
 exact zeW _
theorem zoG (C:Cx) (b c d:UInt8) (q:PS):zaJ C {data:=#[b,c,d]} 3 0 q=bd (zd C 4 {data:=#[b]} q) fun a=>bd (zd C 4 {data:=#[c]} a) (zd C 4 {data:=#[d]}):=by
 have e:({data:=#[b,c,d]}:ByteArray).extract 0 (0+1)={data:=#[b]}:=by simp[ByteArray.extract,ByteArray.copySlice]
 have w:({data:=#[b,c,d]}:ByteArray).extract (0+1) (0+1+1)={data:=#[c]}:=by simp[ByteArray.extract,ByteArray.copySlice]
 have h:({data:=#[b,c,d]}:ByteArray).extract (0+1+1) (0+1+1+1)={data:=#[d]}:=by simp[ByteArray.extract,ByteArray.copySlice]
 rw[zaJ,e]
 refine zah fun a _=>?_
 rw[zaJ,w]
 refine zah fun a _=>?_
 rw[zaJ,h]
 exact zeW _
theorem zoH (C:Cx) (D z base A:Nat) (S:Sv) (q:PS) (s:ByteArray) (f:PS→PR) (w:World) (h:IM C D z base A S q w) (E:zaJ C s s.size 0 q=f q) (H:s.size≤100):
  Calls Tryz.prog 220 #[.pointer (some ⟨A,0,none⟩),.string s] w (zV C D z base A (f q) id (fun _=>.tuple #[]) S w):=by
 rw[←E]
 exact zhH C D z base A S q s w h H
theorem zc5 (C:Cx) (D z base A:Nat) (S:Sv) (q:PS) (b:UInt8) (w:World) (h:IM C D z base A S q w):
  Calls Tryz.prog 220 #[.pointer (some ⟨A,0,none⟩),.string {data:=#[b]}] w (zV C D z base A (zd C 4 {data:=#[b]} q) id (fun _=>.tuple #[]) S w):=
 zoH C D z base A S q {data:=#[b]} (zd C 4 {data:=#[b]}) w h (zjU C b q) (by show 1≤100;omega)
structure Six (w:World) (b:Nat) (v0 v1 v2 v3 v4 v5:Value):Prop where
 c0:w.cell? ⟨b,0,none⟩=some v0
 c1:w.cell? ⟨b,1,none⟩=some v1
 c2:w.cell? ⟨b,2,none⟩=some v2
 c3:w.cell? ⟨b,3,none⟩=some v3
 c4:w.cell? ⟨b,4,none⟩=some v4
 c5:w.cell? ⟨b,5,none⟩=some v5
 fz: ∀i,w.frozen? ⟨b,i,none⟩=false
theorem zy {w:World} {b:Nat} {t:TypeId} {v0 v1 v2 v3 v4 q:Value} (h:w.heap[b]? =some (.cells #[v0,v1,v2,v3,v4,q] t (0,0))):Six w b v0 v1 v2 v3 v4 q:=by
 constructor<;>simp[World.cell?,World.frozen?,h]
theorem IS.kept {C:Cx} {I z base A b:Nat} {S E:Sv} {q:PS} {w D:World} {o:Obj} (h:IM C I z base A S q w) (s:IS A S (w.alloc o) E D) (H:b=w.heap.size):D.heap[b]? =some o:=by
 subst H
 refine (s.block _ (by rw[zg];omega) (fun g=>?_) (by have:=h.lt;omega)).trans (heap_alloc_new w _)
 have:=(h.mem.own.has g).2
 omega
theorem IS.from {z:Nat} {S h:Sv} {w q:World} {o:Obj} (s:IS z S (w.alloc o) h q):IS z S w h q:=(IS.below ((Below.refl _ _).alloc (Nat.le_refl _) _)).trans s
theorem IS.free {C:Cx} {H z base D:Nat} {S A:Sv} {q:PS} {w E:World} {o:Obj} (h:IM C H z base D S q w) (s:IS D S (w.alloc o) A E): ¬A.has w.heap.size:=by
 intro g
 rcases s.sub _ g with k|k
 ·have:=(h.mem.own.has k).2
  omega
 ·rw[zg] at k
  omega
def zbv (C:Cx) (x:Ex) (call:Int) (q:PS):PR:=if isT C q.pos 4 zp then bd (zd C 4 zaA (adv q)) (zT C ⟨call,x.num,x.name,x.field,x.l,x.r⟩) else zT C x q
theorem zfE (C:Cx) (K A base H:Nat) (S:Sv) (q:PS) (x:Ex) (z:Int) (w:World) (h:IM C K A base H S q w) (hp:0<q.pos):
  Calls Tryz.prog 257 #[.pointer (some ⟨H,0,none⟩),exV x,.int .i64 z] w (zV C K A base H (zbv C x z q) id (fun q'=>.int .i64 ((q'.ex.length:Int)-1)) S w):=by
 cases hi:isT C q.pos 4 zp with
 |false=>
  have X:Hid (zbv C x z q=zT C x q):=by show _=_;rw[zbv,hi];rfl
  unfold exV
  go_enter Tryz.func257,Tryz.ntmps257
  go_wp2_with fail
  refine (zP C K A base H S q 4 zp _ (h.alloc _) (by decide)).mono ?_
  rintro e w1 ⟨rfl,E,s⟩
  rw[hi] at E ⊢
  have O:=s.from
  have ag:Hid (w1.heap[w.heap.size]? =some (.cells #[.int .i64 x.kind,.int .i64 x.num,.string x.name,.string x.field,.int .i64 x.l,.int .i64 x.r] 100 (0,0))):=IS.kept h s rfl
  obtain⟨b0,b1,b2,b3,b4,b5,bf⟩:=zy ag.out
  clear s
  go_wp2_with fail
  refine (zeV C K A base H S q x _ E hp).mono ?_
  cases D:zT C x q with
  |error p=>
   rintro e w2 ⟨rfl,M⟩
   have U:=(h.back O).trans M
   have J:Hid (zbv C x z q= .error p):=X.out.trans D
   unfold Pan
   go_wp2
   refine⟨rfl,?_⟩
   rw[J.out]
   exact⟨rfl,U⟩
  |ok a2=>
   rintro e w2 ⟨rfl,Z,L,s⟩
   have aa:=O.trans s
   clear s
   have J:=zc (X.out.trans D)
   go_wp2
   go_ret
   rw[J.out]
   exact⟨rfl,Z,L,aa⟩
 |true=>
  have X:Hid (zbv C x z q=bd (zd C 4 zaA (adv q)) (zT C ⟨z,x.num,x.name,x.field,x.l,x.r⟩)):=by show _=_;rw[zbv,hi];rfl
  unfold exV
  go_enter Tryz.func257,Tryz.ntmps257
  go_wp2_with fail
  refine (zP C K A base H S q 4 zp _ (h.alloc _) (by decide)).mono ?_
  rintro e w1 ⟨rfl,E,Y⟩
  rw[hi] at E ⊢
  go_wp2_with fail
  refine (zc5 C K A base H S (adv q) 41 _ E).mono ?_
  cases D:zd C 4 zaA (adv q) with
  |error p=>
   rintro e w2 ⟨rfl,M⟩
   have U:=(h.back Y.from).trans M
   have J:Hid (zbv C x z q= .error p):=bdE X.out D
   unfold Pan
   go_wp2
   refine⟨rfl,?_⟩
   rw[J.out]
   exact⟨rfl,U⟩
  |ok a2=>
   rintro e w2 ⟨rfl,Z,L,s⟩
   have I:=Y.trans s
   have ab:Hid (w2.heap[w.heap.size]? =some (.cells #[.int .i64 x.kind,.int .i64 x.num,.string x.name,.string x.field,.int .i64 x.l,.int .i64 x.r] 100 (0,0))):=IS.kept h I rfl
   have af:Hid (a2=adv (adv q)):=(zcb D).1
   have ad:Hid (¬Z.has w.heap.size):=IS.free h I
   have ai:H<w.heap.size:=h.lt
   have ah:K<w.heap.size:=(zaw h.mem.tok).1
   clear s
   have N:=zc (bdO X.out D)
   obtain⟨b0,b1,b2,b3,b4,b5,bf⟩:=zy ab.out
   go_wp2_with fail
   refine (zeV C K A base H Z a2 ⟨z,x.num,x.name,x.field,x.l,x.r⟩ _ (L.set (by omega) (by omega) ad.out _ _) (by rw[af.out];show 0<q.pos+1+1;omega)).mono ?_
   cases V:zT C ⟨z,x.num,x.name,x.field,x.l,x.r⟩ a2 with
   |error p=>
    rintro e w3 ⟨rfl,M⟩
    have U:Below base w w3:=(h.back (I.from.new (Nat.le_refl _) _ _)).trans M
    have J:Hid (zbv C x z q= .error p):=N.out.trans V
    unfold Pan
    go_wp2
    refine⟨rfl,?_⟩
    rw[J.out]
    exact⟨rfl,U⟩
   |ok a3=>
    rintro e w3 ⟨rfl,S3,ac,s⟩
    have ae:IS H S w S3 w3:=(I.from.new (Nat.le_refl _) _ _).trans s
    clear s
    have J:=zc (N.out.trans V)
    go_wp2
    go_ret
    rw[J.out]
    exact⟨rfl,S3,ac,ae⟩
def exI (q:PS):Value:=.int .i64 ((q.ex.length:Int)-1)
def zfF (C:Cx) (gt cap base gp m:Nat):Prop:=∀(d:Nat) (S:Sv) (q:PS) (w:World),C.ts.length-q.pos<m→d≤20→IM C gt cap base gp S q w→
 Calls Tryz.prog 239 #[.pointer (some ⟨gp,0,none⟩),.int .i64 d] w (zV C gt cap base gp (pE C .sum d q) id exI S w)
theorem zjW (C:Cx) (n:ByteArray) (q:PS):zbK C n q=zbv C ⟨2,0,n,sNone,0,0⟩ 3 q:=by
 unfold zbK zbv
 cases h:isT C q.pos 4 zp with
 |true=>rw[zck h];rfl
 |false=>rfl
theorem zoI (C:Cx) (n f:ByteArray) (q:PS):zca C n f q=zbv C ⟨4,0,n,f,0,0⟩ 5 q:=by
 unfold zca zbv
 cases h:isT C q.pos 4 zp with
 |true=>rw[zck h];rfl
 |false=>rfl
theorem zoJ {x y:ByteArray} (h:(x.toList==y.toList)=true):x=y:=by
 rw[beq_iff_eq,Lib.toList_data,Lib.toList_data] at h
 cases x
 cases y
 simp only at h
 rw[Array.toList_inj.1 h]
theorem zhL {C:Cx} {i:Nat} {k:Int} {x:ByteArray} (h:isT C i k x=true):(ze C i).text=x:=by
 simp only[isT,Bool.and_eq_true] at h
 exact zoJ h.2
theorem zg3 {C:Cx} {i:Nat} {k:Int} {x:ByteArray} (h:isT C i k x=true):((ze C i).kind==k)=true:=by
 simp only[isT,Bool.and_eq_true] at h
 exact h.1
theorem zoK {C:Cx} {d:Nat} {q:PS} (h:((ze C q.pos).kind==2)=true):pE C .part d q=zT C ⟨1,(ze C q.pos).num,sNone,sNone,0,0⟩ (adv q):=by rw[zbT,h];rfl
theorem zoL {C:Cx} {d:Nat} {q:PS} (h:((ze C q.pos).kind==2)=false) (w:isT C q.pos 4 zp=true) (z:20≤d):pE C .part d q= .error (zt C q.pos):=by rw[zbT,h,w,if_neg (by decide),if_pos rfl,if_pos z]
theorem zoM {C:Cx} {d:Nat} {q:PS} (h:((ze C q.pos).kind==2)=false) (w:isT C q.pos 4 zp=true) (z: ¬20≤d):pE C .part d q=bd (pE C .sum (d+1) (adv q)) (zd C 4 zaA):=by rw[zbT,h,w,if_neg (by decide),if_pos rfl,if_neg z]
theorem zoN {C:Cx} {d:Nat} {q:PS} (h:((ze C q.pos).kind==2)=false) (w:isT C q.pos 4 zp=false) (z:C.scr=true) (A:isT C q.pos 1 zaH=true):pE C .part d q=zbv C ⟨2,0,zaH,sNone,0,0⟩ 3 (adv q):=by
 rw[zbT,h,w,z,A,if_neg (by decide),if_neg (by decide),if_pos (by decide),zjW]
theorem zjX {C:Cx} {d:Nat} {q:PS} (h:((ze C q.pos).kind==2)=false) (w:isT C q.pos 4 zp=false) (z:(C.scr&&isT C q.pos 1 zaH)=false):
  pE C .part d q=bd (zm C false q) fun x=>if isT C x.1.pos 4 cPoint then bd (zm C true (adv x.1)) fun y=>zbv C ⟨4,0,x.2,y.2,0,0⟩ 5 y.1 else zbv C ⟨2,0,x.2,sNone,0,0⟩ 3 x.1:=by
 rw[zbT,h,w,z,if_neg (by decide),if_neg (by decide),if_neg (by decide)]
 simp only[zjW,zoI]
theorem zoO (C:Cx) (I z base A d:Nat) (S:Sv) (q:PS) (w:World) (h:IM C I z base A S q w) (U:((ze C q.pos).kind==2)=true):
  Calls Tryz.prog 256 #[.pointer (some ⟨A,0,none⟩),.int .i64 d] w (zV C I z base A (pE C .part d q) id exI S w):=by
 have aa:=zdo
 have ac:=zcW
 have ab:=zeR
 have V:=zc (zoK (d:=d) U)
 go_enter Tryz.func256,Tryz.ntmps256
 go_wp2_with fail
 refine (zbC C I z base A S q _ h).mono ?_
 rintro e X ⟨rfl,D⟩
 unfold tkV
 have O:=h.later D
 have K:IS A S w S X:=IS.below D
 clear D
 go_wp2_with fail
 refine (zep C I z base A S q 2 _ O U (by decide)).mono ?_
 rintro e w2 ⟨rfl,J,s⟩
 have E:=K.trans s
 clear s
 unfold tkV
 go_wp2_with fail
 refine (zeV C I z base A S (adv q) ⟨1,(ze C q.pos).num,sNone,sNone,0,0⟩ _ J (by rw[zA];omega)).mono ?_
 cases H:zT C ⟨1,(ze C q.pos).num,sNone,sNone,0,0⟩ (adv q) with
 |error p=>
  rintro e Y ⟨rfl,D⟩
  have Z:=(h.back E).trans D
  have HX:Hid (pE C .part d q= .error p):=V.out.trans H
  unfold Pan
  go_wp2
  refine⟨rfl,?_⟩
  rw[HX.out]
  exact⟨rfl,Z⟩
 |ok a3=>
  rintro e Y ⟨rfl,S3,L,s⟩
  have N:=E.trans s
  clear s
  have M:=zc (V.out.trans H)
  go_wp2
  go_ret
  rw[M.out]
  exact⟨rfl,S3,L,N⟩
theorem zoP (C:Cx) (H z base D d:Nat) (S:Sv) (q:PS) (w:World) (h:IM C H z base D S q w) (O:((ze C q.pos).kind==2)=false) (L:isT C q.pos 4 zp=true) (M:20≤d):
  Calls Tryz.prog 256 #[.pointer (some ⟨D,0,none⟩),.int .i64 d] w (zV C H z base D (pE C .part d q) id exI S w):=by
 have V:=zdo
 have aa:=zcW
 have Z:=zeR
 have X:=zc (zoL (d:=d) O L M)
 have Y:(20:Int)≤(d:Int):=by omega
 go_enter Tryz.func256,Tryz.ntmps256
 go_wp2_with fail
 refine (zbC C H z base D S q _ h).mono ?_
 rintro e N ⟨rfl,E⟩
 unfold tkV
 have K:=h.later E
 have I:IS D S w S N:=IS.below E
 clear E
 go_wp2_with fail
 refine (zP C H z base D S q 4 zp _ K (by decide)).mono ?_
 rintro e w2 ⟨rfl,A,s⟩
 rw[L] at A ⊢
 have J:=I.trans s
 clear s
 go_wp2_with fail
 refine (zeU C H z base D S (adv q) d 20 _ A (by omega) (by rw[zA];omega)).mono ?_
 rintro e w3 ⟨rfl,E⟩
 have U:=(h.back J).trans (E.mono A.mem.base)
 have HX:Hid (pE C .part d q= .error (zt C q.pos)):=X.out
 unfold Pan
 go_wp2
 refine⟨rfl,?_⟩
 rw[HX.out]
 exact⟨rfl,U⟩
theorem zoQ (C:Cx) (I z base A m d:Nat) (S:Sv) (q:PS) (w:World) (h:IM C I z base A S q w) (hk:((ze C q.pos).kind==2)=false) (h1:isT C q.pos 4 zp=true) (hd:d<20) (hS:zfF C I z base A m) (hm:C.ts.length-q.pos≤m):
  Calls Tryz.prog 256 #[.pointer (some ⟨A,0,none⟩),.int .i64 d] w (zV C I z base A (pE C .part d q) id exI S w):=by
 have ae:=zdo
 have ah:=zcW
 have ag:=zeR
 have HY:=zc (zoM (d:=d) hk h1 (by omega))
 have af: ¬(20:Int)≤(d:Int):=by omega
 have ad:=zaB h1 (by decide)
 obtain⟨H,M⟩: ∃H:Nat,H=d+1:=⟨_,rfl⟩
 have ed:(d:Int)+1=(H:Int):=by omega
 rw[←M] at HY
 have U:H≤20:=by omega
 clear M
 go_enter Tryz.func256,Tryz.ntmps256
 go_wp2_with fail
 refine (zbC C I z base A S q _ h).mono ?_
 rintro e w1 ⟨rfl,E⟩
 unfold tkV
 have ac:=h.later E
 have Y:IS A S w S w1:=IS.below E
 clear E
 go_wp2_with fail
 refine (zP C I z base A S q 4 zp _ ac (by decide)).mono ?_
 rintro e w2 ⟨rfl,J,s⟩
 rw[h1] at J ⊢
 have K:=Y.trans s
 clear s
 go_wp2_with fail
 refine (zeq A d 20 _ (by omega)).mono ?_
 rintro e w' ⟨rfl,hw⟩
 rw[hw]
 clear hw w'
 go_wp2_with fail
 refine (hS H S (adv q) _ (by rw[zA];omega) U J).mono ?_
 cases L:pE C .sum H (adv q) with
 |error p=>
  rintro e w3 ⟨rfl,E⟩
  have Z:=(h.back K).trans E
  have HX:Hid (pE C .part d q= .error p):=bdE HY.out L
  unfold Pan
  go_wp2
  refine⟨rfl,?_⟩
  rw[HX.out]
  exact⟨rfl,Z⟩
 |ok a3=>
  rintro e w3 ⟨rfl,S3,aa,s⟩
  have O:=K.trans s
  clear s
  have N:=zc (bdO HY.out L)
  unfold exI
  go_wp2_with fail
  refine (zc5 C I z base A S3 a3 41 _ aa).mono ?_
  cases D:zd C 4 zaA a3 with
  |error p=>
   rintro e w4 ⟨rfl,E⟩
   have Z:=(h.back O).trans E
   have HX:Hid (pE C .part d q= .error p):=N.out.trans D
   unfold Pan
   go_wp2
   refine⟨rfl,?_⟩
   rw[HX.out]
   exact⟨rfl,Z⟩
  |ok a4=>
   rintro e w4 ⟨rfl,S4,X,s⟩
   have V:=O.trans s
   clear s
   have ab:=zc (N.out.trans D)
   have HP:Hid (a4=adv a3):=(zcb D).1
   go_wp2
   go_ret
   rw[ab.out]
   exact⟨by rw[HP.out];rfl,S4,X,V⟩
theorem zoR (C:Cx) (H z base D d:Nat) (S:Sv) (q:PS) (w:World) (h:IM C H z base D S q w) (hk:((ze C q.pos).kind==2)=false) (h1:isT C q.pos 4 zp=false) (h2:C.scr=true) (K:isT C q.pos 1 zaH=true):
  Calls Tryz.prog 256 #[.pointer (some ⟨D,0,none⟩),.int .i64 d] w (zV C H z base D (pE C .part d q) id exI S w):=by
 have aa:=zdo
 have ac:=zcW
 have ab:=zeR
 have HY:=zc (zoN (d:=d) hk h1 h2 K)
 go_enter Tryz.func256,Tryz.ntmps256
 go_wp2_with fail
 refine (zbC C H z base D S q _ h).mono ?_
 rintro e w1 ⟨rfl,A⟩
 unfold tkV
 have Z:=h.later A
 have N:IS D S w S w1:=IS.below A
 clear A
 go_wp2_with fail
 refine (zP C H z base D S q 4 zp _ Z (by decide)).mono ?_
 rintro e w2 ⟨rfl,m,s⟩
 rw[h1] at m ⊢
 have E:=zc m
 have O:=N.trans s
 clear m s
 obtain⟨_,_,_,c3,_,_,_,_,_,_,cf⟩:=zai E.out.cells
 rw[h2] at c3
 go_wp2_with fail
 refine (zcu C H z base D S q 1 zaH _ E.out).mono ?_
 rintro e w3 ⟨rfl,A⟩
 rw[K]
 have V:=E.out.later A
 have X:=(O.trans (IS.below A))
 clear A
 go_wp2_with fail
 refine (zep C H z base D S q 1 _ V (zg3 K) (by decide)).mono ?_
 rintro e w4 ⟨rfl,L,s⟩
 have J:=X.trans s
 clear s
 unfold tkV
 rw[zhL K]
 go_wp2_with fail
 refine (zfE C H z base D S (adv q) ⟨2,0,zaH,sNone,0,0⟩ 3 _ L (by rw[zA];omega)).mono ?_
 cases I:zbv C ⟨2,0,zaH,sNone,0,0⟩ 3 (adv q) with
 |error p=>
  rintro e w5 ⟨rfl,A⟩
  have HB:=(h.back J).trans A
  have HX:Hid (pE C .part d q= .error p):=HY.out.trans I
  unfold Pan
  go_wp2
  refine⟨rfl,?_⟩
  rw[HX.out]
  exact⟨rfl,HB⟩
 |ok a5=>
  rintro e w5 ⟨rfl,S5,M,s⟩
  have Y:=J.trans s
  clear s
  have U:=zc (HY.out.trans I)
  go_wp2
  go_ret
  rw[U.out]
  exact⟨rfl,S5,M,Y⟩
theorem zoS (C:Cx) (K z base D d:Nat) (S:Sv) (q:PS) (w:World) (h:IM C K z base D S q w) (hk:((ze C q.pos).kind==2)=false) (h1:isT C q.pos 4 zp=false) (h2:C.scr=true) (h3:isT C q.pos 1 zaH=false):
  Calls Tryz.prog 256 #[.pointer (some ⟨D,0,none⟩),.int .i64 d] w (zV C K z base D (pE C .part d q) id exI S w):=by
 have al:=zdo
 have an:=zcW
 have am:=zeR
 have HY:=zc (zjX (d:=d) hk h1 (by rw[h2,h3];rfl))
 go_enter Tryz.func256,Tryz.ntmps256
 go_wp2_with fail
 refine (zbC C K z base D S q _ h).mono ?_
 rintro e w1 ⟨rfl,A⟩
 unfold tkV
 have ak:=h.later A
 have ag:IS D S w S w1:=IS.below A
 clear A
 go_wp2_with fail
 refine (zP C K z base D S q 4 zp _ ak (by decide)).mono ?_
 rintro e w2 ⟨rfl,m,s⟩
 rw[h1] at m ⊢
 have O:=zc m
 have ah:=ag.trans s
 clear m s
 obtain⟨_,_,_,c3,_,_,_,_,_,_,cf⟩:=zai O.out.cells
 rw[h2] at c3
 go_wp2_with fail
 refine (zcu C K z base D S q 1 zaH _ O.out).mono ?_
 rintro e w3 ⟨rfl,A⟩
 rw[h3]
 have ai:=O.out.later A
 have ab:=(ah.trans (IS.below A))
 clear A
 go_wp2_with fail
 refine (zdF C K z base D S q _ ai).mono ?_
 cases N:zm C false q with
 |error p=>
  rintro e w4 ⟨rfl,A⟩
  have U:=(h.back ab).trans A
  have X:Hid (pE C .part d q= .error p):=bdE HY.out N
  unfold Pan
  go_wp2
  refine⟨rfl,?_⟩
  rw[X.out]
  exact⟨rfl,U⟩
 |ok H=>
  rintro e w4 ⟨rfl,S4,Z,s⟩
  have Y:=ab.trans s
  clear s
  have ac:=zc (bdO HY.out N)
  have aa:0<H.1.pos:=by rw[(zb6 N).1];exact Nat.succ_pos _
  cases hd:isT C H.1.pos 4 cPoint with
  |true=>
   have HZ:=zc (ac.out.trans (if_pos hd))
   go_wp2_with fail
   refine (zP C K z base D S4 (H.1) 4 cPoint _ Z (by decide)).mono ?_
   rintro e w5 ⟨rfl,I,s⟩
   rw[hd] at I ⊢
   have J:=Y.trans s
   clear s
   go_wp2_with fail
   refine (zf9 C K z base D S4 (adv (H.1)) _ I).mono ?_
   cases E:zm C true (adv (H.1)) with
   |error p=>
    rintro e w6 ⟨rfl,A⟩
    have U:=(h.back J).trans A
    have X:Hid (pE C .part d q= .error p):=bdE HZ.out E
    unfold Pan
    go_wp2
    refine⟨rfl,?_⟩
    rw[X.out]
    exact⟨rfl,U⟩
   |ok a6=>
    rintro e w6 ⟨rfl,S6,V,s⟩
    have L:=J.trans s
    clear s
    have M:=zc (bdO HZ.out E)
    go_wp2_with fail
    refine (zfE C K z base D S6 (a6.1) ⟨4,0,H.2,a6.2,0,0⟩ 5 _ V (by rw[(zb6 E).1];exact Nat.succ_pos _)).mono ?_
    cases ad:zbv C ⟨4,0,H.2,a6.2,0,0⟩ 5 (a6.1) with
    |error p=>
     rintro e w7 ⟨rfl,A⟩
     have U:=(h.back L).trans A
     have X:Hid (pE C .part d q= .error p):=M.out.trans ad
     unfold Pan
     go_wp2
     refine⟨rfl,?_⟩
     rw[X.out]
     exact⟨rfl,U⟩
    |ok a7=>
     rintro e w7 ⟨rfl,S7,af,s⟩
     have aj:=L.trans s
     clear s
     have ae:=zc (M.out.trans ad)
     go_wp2
     go_ret
     rw[ae.out]
     exact⟨rfl,S7,af,aj⟩
  |false=>
   have HZ:=zc (ac.out.trans (if_neg (by rw[hd];decide)))
   go_wp2_with fail
   refine (zP C K z base D S4 (H.1) 4 cPoint _ Z (by decide)).mono ?_
   rintro e w5 ⟨rfl,I,s⟩
   rw[hd] at I ⊢
   have J:=Y.trans s
   clear s
   go_wp2_with fail
   refine (zfE C K z base D S4 (H.1) ⟨2,0,H.2,sNone,0,0⟩ 3 _ I aa).mono ?_
   cases E:zbv C ⟨2,0,H.2,sNone,0,0⟩ 3 (H.1) with
   |error p=>
    rintro e w6 ⟨rfl,A⟩
    have U:=(h.back J).trans A
    have X:Hid (pE C .part d q= .error p):=HZ.out.trans E
    unfold Pan
    go_wp2
    refine⟨rfl,?_⟩
    rw[X.out]
    exact⟨rfl,U⟩
   |ok a6=>
    rintro e w6 ⟨rfl,S6,V,s⟩
    have L:=J.trans s
    clear s
    have M:=zc (HZ.out.trans E)
    go_wp2
    go_ret
    rw[M.out]
    exact⟨rfl,S6,V,L⟩
theorem zoT (C:Cx) (K z base D d:Nat) (S:Sv) (q:PS) (w:World) (h:IM C K z base D S q w) (hk:((ze C q.pos).kind==2)=false) (h1:isT C q.pos 4 zp=false) (h2:C.scr=false):
  Calls Tryz.prog 256 #[.pointer (some ⟨D,0,none⟩),.int .i64 d] w (zV C K z base D (pE C .part d q) id exI S w):=by
 have aj:=zdo
 have al:=zcW
 have ak:=zeR
 have HY:=zc (zjX (d:=d) hk h1 (by rw[h2];rfl))
 go_enter Tryz.func256,Tryz.ntmps256
 go_wp2_with fail
 refine (zbC C K z base D S q _ h).mono ?_
 rintro e w1 ⟨rfl,I⟩
 unfold tkV
 have ah:=h.later I
 have ae:IS D S w S w1:=IS.below I
 clear I
 go_wp2_with fail
 refine (zP C K z base D S q 4 zp _ ah (by decide)).mono ?_
 rintro e w2 ⟨rfl,m,s⟩
 rw[h1] at m ⊢
 have X:=zc m
 have Y:=ae.trans s
 clear m s
 obtain⟨_,_,_,c3,_,_,_,_,_,_,cf⟩:=zai X.out.cells
 rw[h2] at c3
 go_wp2_with fail
 refine (zdF C K z base D S q _ X.out).mono ?_
 cases U:zm C false q with
 |error p=>
  rintro e w3 ⟨rfl,I⟩
  have O:=(h.back Y).trans I
  have V:Hid (pE C .part d q= .error p):=bdE HY.out U
  unfold Pan
  go_wp2
  refine⟨rfl,?_⟩
  rw[V.out]
  exact⟨rfl,O⟩
 |ok E=>
  rintro e w3 ⟨rfl,S3,ab,s⟩
  have ad:=Y.trans s
  clear s
  have ac:=zc (bdO HY.out U)
  have Z:0<E.1.pos:=by rw[(zb6 U).1];exact Nat.succ_pos _
  cases hd:isT C E.1.pos 4 cPoint with
  |true=>
   have HZ:=zc (ac.out.trans (if_pos hd))
   go_wp2_with fail
   refine (zP C K z base D S3 (E.1) 4 cPoint _ ab (by decide)).mono ?_
   rintro e w4 ⟨rfl,J,s⟩
   rw[hd] at J ⊢
   have H:=ad.trans s
   clear s
   go_wp2_with fail
   refine (zf9 C K z base D S3 (adv (E.1)) _ J).mono ?_
   cases A:zm C true (adv (E.1)) with
   |error p=>
    rintro e w5 ⟨rfl,I⟩
    have O:=(h.back H).trans I
    have V:Hid (pE C .part d q= .error p):=bdE HZ.out A
    unfold Pan
    go_wp2
    refine⟨rfl,?_⟩
    rw[V.out]
    exact⟨rfl,O⟩
   |ok a5=>
    rintro e w5 ⟨rfl,S5,N,s⟩
    have M:=H.trans s
    clear s
    have L:=zc (bdO HZ.out A)
    go_wp2_with fail
    refine (zfE C K z base D S5 (a5.1) ⟨4,0,E.2,a5.2,0,0⟩ 5 _ N (by rw[(zb6 A).1];exact Nat.succ_pos _)).mono ?_
    cases aa:zbv C ⟨4,0,E.2,a5.2,0,0⟩ 5 (a5.1) with
    |error p=>
     rintro e w6 ⟨rfl,I⟩
     have O:=(h.back M).trans I
     have V:Hid (pE C .part d q= .error p):=L.out.trans aa
     unfold Pan
     go_wp2
     refine⟨rfl,?_⟩
     rw[V.out]
     exact⟨rfl,O⟩
    |ok a6=>
     rintro e w6 ⟨rfl,S6,af,s⟩
     have ag:=M.trans s
     clear s
     have ai:=zc (L.out.trans aa)
     go_wp2
     go_ret
     rw[ai.out]
     exact⟨rfl,S6,af,ag⟩
  |false=>
   have HZ:=zc (ac.out.trans (if_neg (by rw[hd];decide)))
   go_wp2_with fail
   refine (zP C K z base D S3 (E.1) 4 cPoint _ ab (by decide)).mono ?_
   rintro e w4 ⟨rfl,J,s⟩
   rw[hd] at J ⊢
   have H:=ad.trans s
   clear s
   go_wp2_with fail
   refine (zfE C K z base D S3 (E.1) ⟨2,0,E.2,sNone,0,0⟩ 3 _ J Z).mono ?_
   cases A:zbv C ⟨2,0,E.2,sNone,0,0⟩ 3 (E.1) with
   |error p=>
    rintro e w5 ⟨rfl,I⟩
    have O:=(h.back H).trans I
    have V:Hid (pE C .part d q= .error p):=HZ.out.trans A
    unfold Pan
    go_wp2
    refine⟨rfl,?_⟩
    rw[V.out]
    exact⟨rfl,O⟩
   |ok a5=>
    rintro e w5 ⟨rfl,S5,N,s⟩
    have M:=H.trans s
    clear s
    have L:=zc (HZ.out.trans A)
    go_wp2
    go_ret
    rw[L.out]
    exact⟨rfl,S5,N,M⟩
theorem zjY (C:Cx) (D z base A m d:Nat) (S:Sv) (q:PS) (w:World) (h:IM C D z base A S q w) (N:d≤20) (M:zfF C D z base A m) (L:C.ts.length-q.pos≤m):
  Calls Tryz.prog 256 #[.pointer (some ⟨A,0,none⟩),.int .i64 d] w (zV C D z base A (pE C .part d q) id exI S w):=by
 cases E:((ze C q.pos).kind==2) with
 |true=>exact zoO C D z base A d S q w h E
 |false=>
  cases H:isT C q.pos 4 zp with
  |true=>
   by_cases I:20≤d
   ·exact zoP C D z base A d S q w h E H I
   ·exact zoQ C D z base A m d S q w h E H (by omega) M L
  |false=>
   cases J:C.scr with
   |true=>
    cases K:isT C q.pos 1 zaH with
    |true=>exact zoR C D z base A d S q w h E H J K
    |false=>exact zoS C D z base A d S q w h E H J K
   |false=>exact zoT C D z base A d S q w h E H J
theorem zoU {C:Cx} {d:Nat} {q:PS} (h:isT C q.pos 4 zz=false):pE C .prodT d q= .ok q:=by rw[zgk,if_neg (by rw[h];decide)]
theorem zoV {C:Cx} {d:Nat} {q:PS} (h:isT C q.pos 4 zz=true):pE C .prodT d q=bd (pE C .part d (adv q)) fun a=>bd (zT C ⟨8,0,sNone,sNone,(q.ex.length:Int)-1,(a.ex.length:Int)-1⟩ a) (pE C .prodT d):=by rw[zgk,if_pos h,zQ]
theorem zoW {C:Cx} {d:Nat} {q:PS} (h:isT C q.pos 4 zbs=false) (w:isT C q.pos 4 zc2=false):pE C .sumT d q= .ok q:=by rw[zf0,if_neg (by rw[h,w];decide)]
theorem zoX {C:Cx} {d:Nat} {q:PS} (h:isT C q.pos 4 zbs=true):pE C .sumT d q=bd (pE C .prod d (adv q)) fun a=>bd (zT C ⟨7,0,sNone,sNone,(q.ex.length:Int)-1,(a.ex.length:Int)-1⟩ a) (pE C .sumT d):=by
 rw[zf0,if_pos (by rw[h];exact Bool.or_true _),zQ,zd9,if_pos h]
theorem zoY {C:Cx} {d:Nat} {q:PS} (h:isT C q.pos 4 zbs=false) (w:isT C q.pos 4 zc2=true):pE C .sumT d q=bd (pE C .prod d (adv q)) fun a=>bd (zT C ⟨6,0,sNone,sNone,(q.ex.length:Int)-1,(a.ex.length:Int)-1⟩ a) (pE C .sumT d):=by
 rw[zf0,if_pos (by rw[w];rfl),zQ,zd9,if_neg (by rw[h];decide)]
theorem zhM (C:Cx) (I z base E m d:Nat) (S:Sv) (q:PS) (w:World) (h:IM C I z base E S q w) (hd:d≤20) (hS:zfF C I z base E m) (hm:C.ts.length-q.pos≤m):
  Calls Tryz.prog 252 #[.pointer (some ⟨E,0,none⟩),.int .i64 d] w (zV C I z base E (pE C .prod d q) id exI S w):=by
 have HY:=zc (zj1 C d q)
 go_enter Tryz.func252,Tryz.ntmps252
 go_wp2_with fail
 refine (zjY C I z base E m d S q _ h hd hS hm).mono ?_
 cases K:pE C .part d q with
 |error p=>
  rintro e w1 ⟨rfl,U⟩
  have V:Below base w w1:=(h.back (IS.refl _ _ _)).trans U
  have HX:Hid (pE C .prod d q= .error p):=bdE HY.out K
  unfold Pan
  go_wp2
  refine⟨rfl,?_⟩
  rw[HX.out]
  exact⟨rfl,V⟩
 |ok a1=>
  rintro e w1 ⟨rfl,S1,ai,ae⟩
  have aj:=zc (bdO HY.out K)
  unfold exI
  have am:=zbk K
  go_wp2
  go_loopg [5] (C.ts.length+1) (fun k l wr=>∃(M:Sv) (A:PS),l=exI A∧pE C .prod d q=pE C .prodT d A∧C.ts.length-A.pos<k∧C.ts.length-A.pos≤m∧IM C I z base E M A wr∧IS E S w M wr)
  case atStart=>exact⟨S1,a1,rfl,aj.out,by omega,by omega,ai,ae⟩
  case round=>
   obtain⟨M,A,rfl,hy,hk,al,m',s'⟩:=hrel
   have X:=zc hy
   have O:=m'
   have ab:=s'
   clear hy m' s'
   unfold exI
   cases hi:isT C A.pos 4 zz with
   |false=>
    have HZ:=zc (X.out.trans (zoU hi))
    go_wp2_with fail
    refine (zP C I z base E M A 4 zz _ O (by decide)).mono ?_
    rintro e w2 ⟨rfl,D,s⟩
    rw[hi] at D ⊢
    have H:=ab.trans s
    clear s
    go_wp2
    go_ret
    rw[HZ.out]
    exact⟨rfl,M,D,H⟩
   |true=>
    have ak:=zaB hi (by decide)
    have HZ:=zc (X.out.trans (zoV hi))
    go_wp2_with fail
    refine (zP C I z base E M A 4 zz _ O (by decide)).mono ?_
    rintro e w2 ⟨rfl,D,s⟩
    rw[hi] at D ⊢
    have H:=ab.trans s
    clear s
    go_wp2_with fail
    refine (zjY C I z base E m d M (adv A) _ D hd hS (by rw[zA];omega)).mono ?_
    cases L:pE C .part d (adv A) with
    |error p=>
     rintro e w3 ⟨rfl,U⟩
     have V:=(h.back H).trans U
     have HX:Hid (pE C .prod d q= .error p):=bdE HZ.out L
     unfold Pan
     go_wp2
     refine⟨rfl,?_⟩
     rw[HX.out]
     exact⟨rfl,V⟩
    |ok N=>
     rintro e w3 ⟨rfl,S3,ag,s⟩
     have aa:=H.trans s
     clear s
     have Z:=zc (bdO HZ.out L)
     unfold exI
     have Y:=zbk L
     rw[zA] at Y
     have af:0<N.pos:=by omega
     go_wp2_with fail
     refine (zeV C I z base E S3 N ⟨8,0,sNone,sNone,(A.ex.length:Int)-1,(N.ex.length:Int)-1⟩ _ ag af).mono ?_
     cases J:zT C ⟨8,0,sNone,sNone,(A.ex.length:Int)-1,(N.ex.length:Int)-1⟩ N with
     |error p=>
      rintro e w4 ⟨rfl,U⟩
      have V:=(h.back aa).trans U
      have HX:Hid (pE C .prod d q= .error p):=bdE Z.out J
      unfold Pan
      go_wp2
      refine⟨rfl,?_⟩
      rw[HX.out]
      exact⟨rfl,V⟩
     |ok a4=>
      rintro e w4 ⟨rfl,S4,ad,s⟩
      have ac:=aa.trans s
      clear s
      have ah:=zc (bdO Z.out J)
      have HP:Hid (a4.pos=N.pos):=by show _=_;rw[(zb7 J).1]
      go_wp2
      go_roundg (gk-1)
      case rel=>exact⟨S4,a4,rfl,ah.out,by have:=HP.out;omega,by have:=HP.out;omega,ad,ac⟩
      case measure=>omega
theorem zoZ (C:Cx) (H z base E m d:Nat) (S:Sv) (q:PS) (w:World) (h:IM C H z base E S q w) (hd:d≤20) (hS:zfF C H z base E m) (hm:C.ts.length-q.pos≤m):
  Calls Tryz.prog 239 #[.pointer (some ⟨E,0,none⟩),.int .i64 d] w (zV C H z base E (pE C .sum d q) id exI S w):=by
 have HY:=zc (zj0 C d q)
 go_enter Tryz.func239,Tryz.ntmps239
 go_wp2_with fail
 refine (zhM C H z base E m d S q _ h hd hS hm).mono ?_
 cases ad:pE C .prod d q with
 |error p=>
  rintro e w1 ⟨rfl,D⟩
  have Y:Below base w w1:=(h.back (IS.refl _ _ _)).trans D
  have HX:Hid (pE C .sum d q= .error p):=bdE HY.out ad
  unfold Pan
  go_wp2
  refine⟨rfl,?_⟩
  rw[HX.out]
  exact⟨rfl,Y⟩
 |ok a1=>
  rintro e w1 ⟨rfl,S1,ap,al⟩
  have am:=zc (bdO HY.out ad)
  unfold exI
  have av:=zbk ad
  go_wp2
  go_loopg [5] (C.ts.length+1) (fun k l wr=>∃(I:Sv) (A:PS),l=exI A∧pE C .sum d q=pE C .sumT d A∧C.ts.length-A.pos<k∧C.ts.length-A.pos≤m∧IM C H z base E I A wr∧IS E S w I wr)
  case atStart=>exact⟨S1,a1,rfl,am.out,by omega,by omega,ap,al⟩
  case round=>
   obtain⟨I,A,rfl,hy,hk,au,m',s'⟩:=hrel
   have ag:=zc hy
   have L:=m'
   have aj:=s'
   clear hy m' s'
   unfold exI
   have ar:=L.mem.few
   cases hi:isT C A.pos 4 zbs with
   |true=>
    have ac:=zaB hi (by decide)
    have HZ:=zc (ag.out.trans (zoX hi))
    go_wp2_with fail
    refine (zcu C H z base E I A 4 zbs _ L).mono ?_
    rintro e w2 ⟨rfl,D⟩
    rw[hi]
    have J:Hid (IM C H z base E I A w2):=L.later D
    have U:=(aj.trans (IS.below D))
    clear D
    obtain⟨c0,c1,c2,c3,c4,c5,c6,c7,c8,c9,cf⟩:=zai J.out.cells
    go_wp2_with fail
    have M:Hid (IM C H z base E I (adv A) (w2.setCell ⟨E,1,none⟩ (.int .i64 ((A.pos:Int)+1)))):=J.out.adv ac
    have N:IS E S w I (w2.setCell ⟨E,1,none⟩ (.int .i64 ((A.pos:Int)+1))):=U.set _ _
    refine (zhM C H z base E m d I (adv A) _ M.out hd hS (by rw[zA];omega)).mono ?_
    cases ab:pE C .prod d (adv A) with
    |error p=>
     rintro e w4 ⟨rfl,D⟩
     have Y:=(h.back N).trans D
     have HX:Hid (pE C .sum d q= .error p):=bdE HZ.out ab
     unfold Pan
     go_wp2
     refine⟨rfl,?_⟩
     rw[HX.out]
     exact⟨rfl,Y⟩
    |ok a4=>
     rintro e w4 ⟨rfl,S4,ae,s⟩
     have O:=N.trans s
     clear s
     have ak:=zc (bdO HZ.out ab)
     unfold exI
     have V:=zbk ab
     rw[zA] at V
     have ai:0<a4.pos:=by omega
     go_wp2_with fail
     refine (zeV C H z base E S4 a4 ⟨7,0,sNone,sNone,(A.ex.length:Int)-1,(a4.ex.length:Int)-1⟩ _ ae ai).mono ?_
     cases K:zT C ⟨7,0,sNone,sNone,(A.ex.length:Int)-1,(a4.ex.length:Int)-1⟩ a4 with
     |error p=>
      rintro e w5 ⟨rfl,D⟩
      have Y:=(h.back O).trans D
      have HX:Hid (pE C .sum d q= .error p):=bdE ak.out K
      unfold Pan
      go_wp2
      refine⟨rfl,?_⟩
      rw[HX.out]
      exact⟨rfl,Y⟩
     |ok Z=>
      rintro e w5 ⟨rfl,S5,af,s⟩
      have aa:=O.trans s
      clear s
      have X:=zc (bdO ak.out K)
      have HP:Hid (Z.pos=a4.pos):=by show _=_;rw[(zb7 K).1]
      go_wp2
      go_roundg (gk-1)
      case rel=>exact⟨S5,Z,rfl,X.out,by have:=HP.out;omega,by have:=HP.out;omega,af,aa⟩
      case measure=>omega
   |false=>
    cases hj:isT C A.pos 4 zc2 with
    |true=>
     have ac:=zaB hj (by decide)
     have HZ:=zc (ag.out.trans (zoY hi hj))
     go_wp2_with fail
     refine (zcu C H z base E I A 4 zbs _ L).mono ?_
     rintro e w2 ⟨rfl,D⟩
     rw[hi]
     have J:Hid (IM C H z base E I A w2):=L.later D
     have U:=(aj.trans (IS.below D))
     clear D
     go_wp2_with fail
     refine (zcu C H z base E I A 4 zc2 _ J.out).mono ?_
     rintro e w3 ⟨rfl,D⟩
     rw[hj]
     have M:Hid (IM C H z base E I A w3):=J.out.later D
     have N:=(U.trans (IS.below D))
     clear D
     obtain⟨c0,c1,c2,c3,c4,c5,c6,c7,c8,c9,cf⟩:=zai M.out.cells
     go_wp2_with fail
     have ae:=M.out.adv ac
     have O:IS E S w I (w3.setCell ⟨E,1,none⟩ (.int .i64 ((A.pos:Int)+1))):=N.set _ _
     refine (zhM C H z base E m d I (adv A) _ ae hd hS (by rw[zA];omega)).mono ?_
     cases K:pE C .prod d (adv A) with
     |error p=>
      rintro e w5 ⟨rfl,D⟩
      have Y:=(h.back O).trans D
      have HX:Hid (pE C .sum d q= .error p):=bdE HZ.out K
      unfold Pan
      go_wp2
      refine⟨rfl,?_⟩
      rw[HX.out]
      exact⟨rfl,Y⟩
     |ok Z=>
      rintro e w5 ⟨rfl,S5,af,s⟩
      have aa:=O.trans s
      clear s
      have X:=zc (bdO HZ.out K)
      unfold exI
      have V:=zbk K
      rw[zA] at V
      have ai:0<Z.pos:=by omega
      go_wp2_with fail
      refine (zeV C H z base E S5 Z ⟨6,0,sNone,sNone,(A.ex.length:Int)-1,(Z.ex.length:Int)-1⟩ _ af ai).mono ?_
      cases ah:zT C ⟨6,0,sNone,sNone,(A.ex.length:Int)-1,(Z.ex.length:Int)-1⟩ Z with
      |error p=>
       rintro e w6 ⟨rfl,D⟩
       have Y:=(h.back aa).trans D
       have HX:Hid (pE C .sum d q= .error p):=bdE X.out ah
       unfold Pan
       go_wp2
       refine⟨rfl,?_⟩
       rw[HX.out]
       exact⟨rfl,Y⟩
      |ok a6=>
       rintro e w6 ⟨rfl,S6,an,s⟩
       have ao:=aa.trans s
       clear s
       have aq:=zc (bdO X.out ah)
       have HP:Hid (a6.pos=Z.pos):=by show _=_;rw[(zb7 ah).1]
       go_wp2
       go_roundg (gk-1)
       case rel=>exact⟨S6,a6,rfl,aq.out,by have:=HP.out;omega,by have:=HP.out;omega,an,ao⟩
       case measure=>omega
    |false=>
     have HZ:=zc (ag.out.trans (zoW hi hj))
     go_wp2_with fail
     refine (zcu C H z base E I A 4 zbs _ L).mono ?_
     rintro e w2 ⟨rfl,D⟩
     rw[hi]
     have J:Hid (IM C H z base E I A w2):=L.later D
     have U:=(aj.trans (IS.below D))
     clear D
     go_wp2_with fail
     refine (zcu C H z base E I A 4 zc2 _ J.out).mono ?_
     rintro e w3 ⟨rfl,D⟩
     rw[hj]
     have M:Hid (IM C H z base E I A w3):=J.out.later D
     have N:=(U.trans (IS.below D))
     clear D
     go_wp2
     go_ret
     rw[HZ.out]
     exact⟨rfl,I,M.out,N⟩
theorem zpa (C:Cx) (E z base D m:Nat):zfF C E z base D m:=by
 induction m with
 |zero=>intro d S q w A;omega
 |succ m I=>intro d S q w A H h;exact zoZ C E z base D m d S q w h H I (by omega)
theorem zpb (C:Cx) (D z base A d:Nat) (S:Sv) (q:PS) (w:World) (h:IM C D z base A S q w) (E:d≤20):
  Calls Tryz.prog 239 #[.pointer (some ⟨A,0,none⟩),.int .i64 d] w (zV C D z base A (pE C .sum d q) id exI S w):=zpa C D z base A _ d S q w (Nat.lt_succ_self _) E h
theorem zjZ {C:Cx} {s:ByteArray} (n:Nat): ∀{k:Nat} {q b:PS},zaJ C s n k q= .ok b→b={q with pos:=q.pos+n}:=by
 induction n with
 |zero=>intro k q b h;cases h;rfl
 |succ n z=>
  intro k q b h
  rw[zaJ] at h
  obtain⟨a,w,A⟩:=zo h
  rw[z A,(zcb w).1]
  show ({q with pos:=q.pos+1+n}:PS)=_
  congr 1
  omega
theorem zpc (x:Sm): ∀u∈smL x,u.oneCell'=true:=by
 intro u h
 simp[smL] at h
 rcases h with rfl|rfl|rfl<;>rfl
def stmtI (C:Cx) (k:Int) (n s:ByteArray) (q:PS):PR:=bd (pE C .sum 0 q) fun a=>bd (zaJ C s s.size 0 a) fun b=>zaa C k n b
theorem zev (C:Cx) (gt D base H:Nat) (S:Sv) (q:PS) (E:Int) (n s:ByteArray) (w:World) (h:IM C gt D base H S q w) (hs:s.size≤100) (h0:0<s.size):
  Calls Tryz.prog 221 #[.pointer (some ⟨H,0,none⟩),.int .i64 E,.string n,.string s] w (zV C gt D base H (stmtI C E n s q) id (fun _=>.tuple #[]) S w):=by
 obtain⟨i0,hi,ae,ai,ah⟩:=info_parts Tryz.infoStmt
 have HY:=zc (stmtI.eq_1 C E n s q)
 go_enter Tryz.func221,Tryz.ntmps221
 go_wp2_with fail
 refine (zpb C gt D base H 0 S q _ h (by omega)).mono ?_
 cases N:pE C .sum 0 q with
 |error p=>
  rintro e w1 ⟨rfl,O⟩
  have HB:Below base w w1:=(h.back (IS.refl _ _ _)).trans O
  have HX:Hid (stmtI C E n s q= .error p):=bdE HY.out N
  unfold Pan
  go_wp2
  refine⟨rfl,?_⟩
  rw[HX.out]
  exact⟨rfl,HB⟩
 |ok a1=>
  rintro e w1 ⟨rfl,S1,aj,U⟩
  have aa:=zc (bdO HY.out N)
  unfold exI
  go_wp2_with fail
  refine (zhH C gt D base H S1 a1 s _ aj hs).mono ?_
  cases M:zaJ C s s.size 0 a1 with
  |error p=>
   rintro e w2 ⟨rfl,O⟩
   have HB:=(h.back U).trans O
   have HX:Hid (stmtI C E n s q= .error p):=bdE aa.out M
   unfold Pan
   go_wp2
   refine⟨rfl,?_⟩
   rw[HX.out]
   exact⟨rfl,HB⟩
  |ok A=>
   rintro e w2 ⟨rfl,S2,m,s⟩
   have z:=zc m
   have Y:=U.trans s
   clear m s
   have ab:=zc (bdO aa.out M)
   have K:=zjZ _ M
   have Z:0<A.pos:=by rw[K];show 0<a1.pos+s.size;omega
   have HE:Hid (A.ex=a1.ex):=by show _=_;rw[K]
   clear K
   have al:=z.out.mem.inv.st
   obtain⟨c0,c1,c2,c3,c4,c5,c6,c7,c8,c9,cf⟩:=zai z.out.cells
   go_wp2_with fail
   by_cases hn:A.st.length<80
   ·have HZ:=zc (ab.out.trans (show zaa C E n A=_ from if_neg (by omega)))
    refine (zeq H A.st.length 80 _ (by omega)).mono ?_
    rintro e w' ⟨rfl,hw⟩
    rw[hw]
    clear hw w'
    have HN:Hid (some H≠S2.st.blk):=fun e=>z.out.free (.inr (.inr (.inr (.inl e.symm))))
    have ak:=z.out.lt
    have I:=fun J=>(z.out.mem.own.st.alloc J)
    have V:=fun J=>(z.out.alloc J).mem.base
    have X:=fun J=>(z.out.alloc J).lt
    have ad:=fun J=>(z.out.alloc J).cells
    go_wp2_with (at_builtin;refine zbd _ rfl _ _ 51 rfl base 102 i0 _ 3 32 Tryz.underlying51 hi ae ai ah rfl (by decide) (by decide) S2.st A.st.length _ (by rfl) (I _) w2.heap.size (smL ⟨E,n,(a1.ex.length:Int)-1⟩) (by rfl) (by exact heap_alloc_new w2 _) rfl (zpc _) (by omega) (V _) ?_;intro r' wz hr L ac;have g2:=(L.block H (X _) HN.out).trans (ad _);obtain⟨d0,d1,d2,d3,d4,d5,d6,d7,d8,d9,df⟩:=zai g2;have HR:Hid (OwnR wz base 102 3 r' (A.st.length+1) _):=hr;have ag:Hid (World.grownBy _ wz _):=L;have af:Hid (_∨_):=ac;clear hr L ac g2 c0 c1 c2 c3 c4 c5 c6 c7 c8 c9 cf I V X ad)
    go_wp2
    go_end0
    obtain⟨m',s'⟩:=z.out.grow_st ((Below.refl _ _).alloc (Nat.le_refl _) _) ag.out HR.out af.out hn
    rw[HZ.out]
    rw[←HE.out] at m'
    exact⟨rfl,_,m',Y.trans s'⟩
   ·have HZ:Hid (stmtI C E n s q= .error (zt C (A.pos-1))):=ab.out.trans (if_pos (by omega))
    refine (zeU C gt D base H S2 A A.st.length 80 _ z.out (by omega) Z).mono ?_
    rintro e wz ⟨rfl,O⟩
    have HB:=(h.back Y).trans (O.mono z.out.mem.base)
    have HX:Hid (stmtI C E n s q= .error (zt C (A.pos-1))):=HZ.out
    unfold Pan
    go_wp2
    refine⟨rfl,?_⟩
    rw[HX.out]
    exact⟨rfl,HB⟩
def letJ (C:Cx) (k:Int) (q:PS):PR:=bd (zm C false q) fun a=>bd (zd C 4 cEq a.1) fun b=>stmtI C k a.2 cSemi b
def fnI (C:Cx) (q:PS):PR:=bd (zm C false q) fun a=>bd (zaJ C cCall cCall.size 0 a.1) fun b=>bd (zd C 1 zeJ b) fun c=>stmtI C 2 a.2 cSemiRight c
def printI (C:Cx) (q:PS):PR:=bd (zd C 4 zp q) fun a=>stmtI C 4 sNone cShutSemi a
theorem zhN (C:Cx) (M z base A:Nat) (S:Sv) (q:PS) (w:World) (h:IM C M z base A S q w):
  Calls Tryz.prog 211 #[.pointer (some ⟨A,0,none⟩)] w (zV C M z base A (letJ C 1 q) id (fun _=>.tuple #[]) S w):=by
 have HY:=zc (letJ.eq_1 C 1 q)
 go_enter Tryz.func211,Tryz.ntmps211
 go_wp2_with fail
 refine (zdF C M z base A S q _ h).mono ?_
 cases E:zm C false q with
 |error p=>
  rintro e w1 ⟨rfl,D⟩
  have K:Below base w w1:=(h.back (IS.refl _ _ _)).trans D
  have U:Hid (letJ C 1 q= .error p):=bdE HY.out E
  unfold Pan
  go_wp2
  refine⟨rfl,?_⟩
  rw[U.out]
  exact⟨rfl,K⟩
 |ok V=>
  rintro e w1 ⟨rfl,S1,ab,I⟩
  have O:=zc (bdO HY.out E)
  go_wp2_with fail
  refine (zc5 C M z base A S1 (V.1) 61 _ ab).mono ?_
  cases N:zd C 4 cEq (V.1) with
  |error p=>
   rintro e w2 ⟨rfl,D⟩
   have K:=(h.back I).trans D
   have U:Hid (letJ C 1 q= .error p):=bdE O.out N
   unfold Pan
   go_wp2
   refine⟨rfl,?_⟩
   rw[U.out]
   exact⟨rfl,K⟩
  |ok a2=>
   rintro e w2 ⟨rfl,S2,X,s⟩
   have J:=I.trans s
   clear s
   have H:=zc (bdO O.out N)
   go_wp2_with fail
   refine (zev C M z base A S2 a2 1 V.2 cSemi _ X (by decide) (by decide)).mono ?_
   cases L:stmtI C 1 V.2 cSemi a2 with
   |error p=>
    rintro e w3 ⟨rfl,D⟩
    have K:=(h.back J).trans D
    have U:Hid (letJ C 1 q= .error p):=H.out.trans L
    unfold Pan
    go_wp2
    refine⟨rfl,?_⟩
    rw[U.out]
    exact⟨rfl,K⟩
   |ok a3=>
    rintro e w3 ⟨rfl,S3,Y,s⟩
    have aa:=J.trans s
    clear s
    have Z:=zc (H.out.trans L)
    go_wp2
    go_end0
    rw[Z.out]
    exact⟨rfl,S3,Y,aa⟩
theorem zka (C:Cx) (M z base A:Nat) (S:Sv) (q:PS) (w:World) (h:IM C M z base A S q w):
  Calls Tryz.prog 196 #[.pointer (some ⟨A,0,none⟩)] w (zV C M z base A (letJ C 3 q) id (fun _=>.tuple #[]) S w):=by
 have HY:=zc (letJ.eq_1 C 3 q)
 go_enter Tryz.func196,Tryz.ntmps196
 go_wp2_with fail
 refine (zdF C M z base A S q _ h).mono ?_
 cases E:zm C false q with
 |error p=>
  rintro e w1 ⟨rfl,D⟩
  have K:Below base w w1:=(h.back (IS.refl _ _ _)).trans D
  have U:Hid (letJ C 3 q= .error p):=bdE HY.out E
  unfold Pan
  go_wp2
  refine⟨rfl,?_⟩
  rw[U.out]
  exact⟨rfl,K⟩
 |ok V=>
  rintro e w1 ⟨rfl,S1,ab,I⟩
  have O:=zc (bdO HY.out E)
  go_wp2_with fail
  refine (zc5 C M z base A S1 (V.1) 61 _ ab).mono ?_
  cases N:zd C 4 cEq (V.1) with
  |error p=>
   rintro e w2 ⟨rfl,D⟩
   have K:=(h.back I).trans D
   have U:Hid (letJ C 3 q= .error p):=bdE O.out N
   unfold Pan
   go_wp2
   refine⟨rfl,?_⟩
   rw[U.out]
   exact⟨rfl,K⟩
  |ok a2=>
   rintro e w2 ⟨rfl,S2,X,s⟩
   have J:=I.trans s
   clear s
   have H:=zc (bdO O.out N)
   go_wp2_with fail
   refine (zev C M z base A S2 a2 3 V.2 cSemi _ X (by decide) (by decide)).mono ?_
   cases L:stmtI C 3 V.2 cSemi a2 with
   |error p=>
    rintro e w3 ⟨rfl,D⟩
    have K:=(h.back J).trans D
    have U:Hid (letJ C 3 q= .error p):=H.out.trans L
    unfold Pan
    go_wp2
    refine⟨rfl,?_⟩
    rw[U.out]
    exact⟨rfl,K⟩
   |ok a3=>
    rintro e w3 ⟨rfl,S3,Y,s⟩
    have aa:=J.trans s
    clear s
    have Z:=zc (H.out.trans L)
    go_wp2
    go_end0
    rw[Z.out]
    exact⟨rfl,S3,Y,aa⟩
theorem zhO (C:Cx) (I z base D:Nat) (S:Sv) (q:PS) (w:World) (h:IM C I z base D S q w):
  Calls Tryz.prog 212 #[.pointer (some ⟨D,0,none⟩)] w (zV C I z base D (fnI C q) id (fun _=>.tuple #[]) S w):=by
 have HY:=zc (fnI.eq_1 C q)
 go_enter Tryz.func212,Tryz.ntmps212
 go_wp2_with fail
 refine (zdF C I z base D S q _ h).mono ?_
 cases K:zm C false q with
 |error p=>
  rintro e w1 ⟨rfl,A⟩
  have E:Below base w w1:=(h.back (IS.refl _ _ _)).trans A
  have H:Hid (fnI C q= .error p):=bdE HY.out K
  unfold Pan
  go_wp2
  refine⟨rfl,?_⟩
  rw[H.out]
  exact⟨rfl,E⟩
 |ok Z=>
  rintro e w1 ⟨rfl,S1,af,M⟩
  have Y:=zc (bdO HY.out K)
  go_wp2_with fail
  refine (zhH C I z base D S1 (Z.1) cCall _ af (by decide)).mono ?_
  cases X:zaJ C cCall cCall.size 0 (Z.1) with
  |error p=>
   rintro e w2 ⟨rfl,A⟩
   have E:=(h.back M).trans A
   have H:Hid (fnI C q= .error p):=bdE Y.out X
   unfold Pan
   go_wp2
   refine⟨rfl,?_⟩
   rw[H.out]
   exact⟨rfl,E⟩
  |ok a2=>
   rintro e w2 ⟨rfl,S2,ab,s⟩
   have N:=M.trans s
   clear s
   have L:=zc (bdO Y.out X)
   go_wp2_with fail
   refine (zeT C I z base D S2 a2 zeJ _ ab).mono ?_
   cases O:zd C 1 zeJ a2 with
   |error p=>
    rintro e w3 ⟨rfl,A⟩
    have E:=(h.back N).trans A
    have H:Hid (fnI C q= .error p):=bdE L.out O
    unfold Pan
    go_wp2
    refine⟨rfl,?_⟩
    rw[H.out]
    exact⟨rfl,E⟩
   |ok a3=>
    rintro e w3 ⟨rfl,S3,ad,s⟩
    have V:=N.trans s
    clear s
    have U:=zc (bdO L.out O)
    go_wp2_with fail
    refine (zev C I z base D S3 a3 2 Z.2 cSemiRight _ ad (by decide) (by decide)).mono ?_
    cases J:stmtI C 2 Z.2 cSemiRight a3 with
    |error p=>
     rintro e w4 ⟨rfl,A⟩
     have E:=(h.back V).trans A
     have H:Hid (fnI C q= .error p):=U.out.trans J
     unfold Pan
     go_wp2
     refine⟨rfl,?_⟩
     rw[H.out]
     exact⟨rfl,E⟩
    |ok a4=>
     rintro e w4 ⟨rfl,S4,ac,s⟩
     have aa:=V.trans s
     clear s
     have ae:=zc (U.out.trans J)
     go_wp2
     go_end0
     rw[ae.out]
     exact⟨rfl,S4,ac,aa⟩
theorem zkb (C:Cx) (J z base D:Nat) (S:Sv) (q:PS) (w:World) (h:IM C J z base D S q w):
  Calls Tryz.prog 213 #[.pointer (some ⟨D,0,none⟩)] w (zV C J z base D (printI C q) id (fun _=>.tuple #[]) S w):=by
 have Y:=zc (printI.eq_1 C q)
 go_enter Tryz.func213,Tryz.ntmps213
 go_wp2_with fail
 refine (zc5 C J z base D S q 40 _ h).mono ?_
 cases A:zd C 4 zp q with
 |error p=>
  rintro e X ⟨rfl,L⟩
  have O:Below base w X:=(h.back (IS.refl _ _ _)).trans L
  have V:Hid (printI C q= .error p):=bdE Y.out A
  unfold Pan
  go_wp2
  refine⟨rfl,?_⟩
  rw[V.out]
  exact⟨rfl,O⟩
 |ok Z=>
  rintro e X ⟨rfl,S1,U,E⟩
  have I:=zc (bdO Y.out A)
  go_wp2_with fail
  refine (zev C J z base D S1 Z 4 sNone cShutSemi _ U (by decide) (by decide)).mono ?_
  cases H:stmtI C 4 sNone cShutSemi Z with
  |error p=>
   rintro e w2 ⟨rfl,L⟩
   have O:=(h.back E).trans L
   have V:Hid (printI C q= .error p):=I.out.trans H
   unfold Pan
   go_wp2
   refine⟨rfl,?_⟩
   rw[V.out]
   exact⟨rfl,O⟩
  |ok a2=>
   rintro e w2 ⟨rfl,S2,K,s⟩
   have N:=E.trans s
   clear s
   have M:=zc (I.out.trans H)
   go_wp2
   go_end0
   rw[M.out]
   exact⟨rfl,S2,K,N⟩
theorem zkc (C:Cx) (D z base A:Nat) (S:Sv) (q:PS) (w:World) (h:IM C D z base A S q w):
  Calls Tryz.prog 214 #[.pointer (some ⟨A,0,none⟩)] w (zV C D z base A (stmtI C 5 sNone cSemi q) id (fun _=>.tuple #[]) S w):=by
 go_enter Tryz.func214,Tryz.ntmps214
 go_wp2_with fail
 refine (zev C D z base A S q 5 sNone cSemi _ h (by decide) (by decide)).mono ?_
 cases E:stmtI C 5 sNone cSemi q with
 |error p=>
  rintro e H ⟨rfl,L⟩
  unfold Pan
  go_wp2
  refine⟨rfl,?_⟩
  rw[E]
  exact⟨rfl,L⟩
 |ok a=>
  rintro e H ⟨rfl,I,J,K⟩
  go_wp2
  go_end0
  rw[E]
  exact⟨rfl,I,J,K⟩
theorem zpd (C:Cx) (D z base A:Nat) (S:Sv) (q:PS) (w:World) (h:IM C D z base A S q w):
  Calls Tryz.prog 215 #[.pointer (some ⟨A,0,none⟩)] w (zV C D z base A (stmtI C 6 sNone cSemi q) id (fun _=>.tuple #[]) S w):=by
 go_enter Tryz.func215,Tryz.ntmps215
 go_wp2_with fail
 refine (zev C D z base A S q 6 sNone cSemi _ h (by decide) (by decide)).mono ?_
 cases E:stmtI C 6 sNone cSemi q with
 |error p=>
  rintro e H ⟨rfl,L⟩
  unfold Pan
  go_wp2
  refine⟨rfl,?_⟩
  rw[E]
  exact⟨rfl,L⟩
 |ok a=>
  rintro e H ⟨rfl,I,J,K⟩
  go_wp2
  go_end0
  rw[E]
  exact⟨rfl,I,J,K⟩
def zcJ (C:Cx) (i:Nat):ByteArray:=if (ze C i).kind==1 then (ze C i).text else sNone
theorem zkd (C:Cx) (H z base D:Nat) (S:Sv) (q:PS) (w:World) (h:IM C H z base D S q w):
  Calls Tryz.prog 195 #[.pointer (some ⟨D,0,none⟩)] w fun e K=>e= .returned (.string (zcJ C q.pos))∧Below w.heap.size w K:=by
 cases I:((ze C q.pos).kind==1) with
 |true=>
  have E:Hid (zcJ C q.pos=(ze C q.pos).text):=by show _=_;rw[zcJ,I];rfl
  go_enter Tryz.func195,Tryz.ntmps195
  go_wp2_with fail
  refine (zbC C H z base D S q _ h).mono ?_
  rintro e J ⟨rfl,A⟩
  unfold tkV
  go_wp2
  go_ret
  rw[E.out]
  exact⟨rfl,A.alloc A.size _⟩
 |false=>
  have E:Hid (zcJ C q.pos=sNone):=by show _=_;rw[zcJ,I];rfl
  go_enter Tryz.func195,Tryz.ntmps195
  go_wp2_with fail
  refine (zbC C H z base D S q _ h).mono ?_
  rintro e J ⟨rfl,A⟩
  unfold tkV
  go_wp2
  go_ret
  rw[E.out]
  exact⟨rfl,A.alloc A.size _⟩
theorem OwnR.stmtName {w:World} {base:Nat} {r:Rw} {l:List Sm} {x:Sm} (h:OwnR w base 102 3 r (l++[x]).length ((l++[x]).flatMap smL)): ∃g,r.a=some ⟨g,0,none⟩∧w.cell? ⟨g,l.length*3+1,none⟩=some (.string x.name):=by
 rcases h.2 with ⟨_,I⟩|⟨g,H,E,q,_⟩
 ·simp at I
 ·simp only[Value.slice.injEq] at q
  have z:=h
  unfold OwnR at z
  rw[q.1,q.2.2] at z
  refine⟨g,q.1,?_⟩
  rw[World.ownsRow.cellAt z _ (by simp;omega)]
  have A: ∀l:List Sm,(l.flatMap smL).length=l.length*3:=by
   intro l
   induction l with
   |nil=>rfl
   |cons y l D=>simp[List.flatMap_cons,smL,D] at D ⊢;omega
  rw[List.flatMap_append,List.getElem?_append_right (by rw[A];omega),A]
  simp[smL]
theorem zpe (C:Cx) (N A base E:Nat) (S:Sv) (q:PS) (l:List Sm) (x:Sm) (w:World) (h:IM C N A base E S q w) (U:q.st=l++[x]) (L:x.name.size≤281474976710656) (hp:0<q.pos):
  Calls Tryz.prog 235 #[.pointer (some ⟨E,0,none⟩)] w (zV C N A base E (zq C ⟨1,x.name,x.name,sNone⟩ q) id (fun _=>.tuple #[]) S w):=by
 obtain⟨_,_,_,_,_,_,_,H,_,_,_⟩:=zai h.cells
 have M:=h.mem.own.st
 rw[U] at M H
 obtain⟨g,X,hc⟩:=M.stmtName
 have J:=h.mem.inv.st
 rw[U] at J
 have I:(l++[x]).length=l.length+1:=by simp
 rw[I] at H J
 rw[X] at H
 have C7:=zc H
 have CN:=zc hc
 have e1:((l.length+1:Nat):Int)-1=(l.length:Int):=by omega
 have e2:(l.length:Int)+1-1=(l.length:Int):=by omega
 have ac:IntKind.i64.wrap (l.length:Int)=(l.length:Int):=IntWalk.i64_in _ ⟨by omega,by omega⟩
 have Y:(l.length:Int)<((l.length+1:Nat):Int):=by omega
 have aa:(l.length:Int)<(l.length:Int)+1:=by omega
 have cC: ∀d Z,Calls Tryz.prog 191 #[.string x.name] (grow (redrawn w d) Z) fun e O=>e= .returned (.string x.name)∧∃p:Regrown,O=grow (redrawn w p.d) p.os:=fun d Z=>Calls.regrown_of (zjT _ _ L)
 clear H hc M X U
 go_enter Tryz.func235,Tryz.ntmps235
 go_wp2_with fail
 have k7:=cell_regrown C7.out
 have kN:=cell_regrown CN.out
 refine wp_region_quiet_below (by kernel_rfl) (by kernel_rfl) ?_
 repeat (go_big_quiet_step (exact cC _ _))
 refine wpQuiet_nil ?_
 intro w1 K
 obtain⟨⟨dq,ab⟩,z⟩:=K
 have D:Below w.heap.size w w1:=by show Below _ _ _;rw[z];exact below_regrown _ _ _
 clear z k7 kN cC C7 CN
 have V:=h.later D
 go_wp2_with fail
 refine (zfD C N A base E S q ⟨1,x.name,x.name,sNone⟩ _ V hp).mono ?_
 cases hn:zq C ⟨1,x.name,x.name,sNone⟩ q with
 |error p=>
  rintro e w2 ⟨rfl,hb⟩
  have HB:=(D.mono h.mem.base).trans hb
  unfold Pan
  go_wp2
  refine⟨rfl,?_⟩
  rw[hn]
  exact⟨rfl,HB⟩
 |ok a=>
  rintro e w2 ⟨rfl,S1,HM,s⟩
  have HS:IS E S w S1 w2:=(IS.below D).trans s
  clear s
  go_wp2
  go_end0
  rw[hn]
  exact⟨rfl,S1,HM,HS⟩
def Fr (e:TypeId) (size:Nat) (w:World) (b:Nat) (r:Rw) (n:Nat) (xs:List Value) (S:Sv):Prop:=OwnR w b e size r n xs∧∀k,r.blk=some k→¬S.has k
theorem Fr.ngp {C:Cx} {H z base A size b n:Nat} {S:Sv} {q:PS} {w:World} {e:TypeId} {r:Rw} {xs:List Value} (f:Fr e size w b r n xs S) (h:IM C H z base A S q w) (E:e≠211) {k:Nat} (D:r.blk=some k):k≠A:=by
 rintro rfl
 obtain⟨_,_,c,g⟩:=f.1.typed D
 rw[h.cells] at g
 simp only[Option.some.injEq,Obj.cells.injEq] at g
 exact E g.2.1.symm
theorem Fr.ngt {C:Cx} {A z base E size b n:Nat} {S:Sv} {q:PS} {w:World} {e:TypeId} {r:Rw} {xs:List Value} (f:Fr e size w b r n xs S) (h:IM C A z base E S q w) (H:e≠158) {k:Nat} (D:r.blk=some k):k≠A:=by
 rintro rfl
 obtain⟨_,_,c,g⟩:=f.1.typed D
 obtain⟨J,I⟩:=zgo h.mem.tok
 rw[I] at g
 simp only[Option.some.injEq,Obj.cells.injEq] at g
 exact H g.2.1.symm
theorem Fr.step {C:Cx} {K z base D size b n:Nat} {S A:Sv} {q:PS} {w E:World} {e:TypeId} {r:Rw} {xs:List Value} (f:Fr e size w b r n xs S) (h:IM C K z base D S q w) (I:e≠211) (s:IS D S w A E):Fr e size E b r n xs A:=by
 refine⟨f.1.keep fun k g=>s.block k (f.1.typed g).2.1 (f.2 k g) (f.ngp h I g),fun k g J=>?_⟩
 rcases s.sub k J with H|H
 ·exact f.2 k g H
 ·have:=(f.1.typed g).2.1
  omega
theorem Fr.low {size b h n:Nat} {S:Sv} {w:World} {e:TypeId} {r:Rw} {xs:List Value} (f:Fr e size w b r n xs S) (q:h≤b):Fr e size w h r n xs S:=⟨f.1.low q,f.2⟩
theorem Fr.later {size b n:Nat} {S:Sv} {w h:World} {e:TypeId} {r:Rw} {xs:List Value} (f:Fr e size w b r n xs S) (q:Below w.heap.size w h):Fr e size h b r n xs S:=⟨f.1.keep fun k g=>q.block k (f.1.typed g).2.1,f.2⟩
theorem IM.aside {C:Cx} {z A base w:Nat} {S:Sv} {q:PS} {W H:World} {b:Option Nat} (h:IM C z A base w S q W) (D:W.grownBy H b) (E: ∀k,b=some k→¬S.has k∧k≠w∧k≠z):IM C z A base w S q H:=by
 refine⟨⟨h.mem.own.keep fun k g=>D.block k (h.mem.own.has g).2 fun e=>(E k e.symm).1 g,h.mem.inv,zbM h.mem.tok (D.block z (zaw h.mem.tok).1 fun e=>(E z e.symm).2.2 rfl),h.mem.few,Nat.le_trans h.mem.base D.size⟩,(D.block w h.lt fun e=>(E w e.symm).2.1 rfl).trans h.cells,h.ge⟩
theorem IS.aside {A:Nat} {S D:Sv} {w W E:World} {b:Option Nat} (s:IS A S w D W) (h:W.grownBy E b) (H: ∀k,b=some k→w.heap.size≤k):IS A S w D E:=
 ⟨h.os.trans s.os,h.tape.trans s.tape,h.output.trans s.output,Nat.le_trans s.size h.size,fun k z I q=>(h.block k (Nat.lt_of_lt_of_le z s.size) fun e=>by have:=H k e.symm;omega).trans (s.block k z I q),s.sub⟩
theorem Fr.grown {size b n:Nat} {S:Sv} {W H:World} {e:TypeId} {r w:Rw} {xs E:List Value} {C:Cx} {L z base J:Nat} {q:PS} (f:Fr e size W b r n xs S) (h:IM C L z base J S q W) (K:OwnR H b e size w (n+1) E) (D:w.blk=r.blk∨w.blk=some W.heap.size):Fr e size H b w (n+1) E S:=by
 refine⟨K,fun k g I=>?_⟩
 rcases D with A|A
 ·exact f.2 k (A.symm.trans g) I
 ·have M:W.heap.size=k:=Option.some.inj (A.symm.trans g)
  have:=(h.mem.own.has I).2
  omega
theorem zpf {α:Type} (f:α→List Value) (m:Nat) (q: ∀x,(f x).length=m) (l:List α):(l.flatMap f).length=l.length*m:=by
 induction l with
 |nil=>simp
 |cons y l h=>rw[List.flatMap_cons,List.length_append,q,h,List.length_cons,Nat.succ_mul];omega
theorem zpg {α:Type} (f:α→List Value) (m:Nat) (q: ∀x,(f x).length=m): ∀(l:List α) (j i:Nat) (x:α),l[j]? =some x→i<m→(l.flatMap f)[j*m+i]? =(f x)[i]?:=by
 intro l
 induction l with
 |nil=>intro j i x h;simp at h
 |cons y l z=>
  intro j i x h w
  rw[List.flatMap_cons]
  match j with
  |0=>
   simp only[List.getElem?_cons_zero,Option.some.injEq] at h
   subst h
   rw[Nat.zero_mul,Nat.zero_add,List.getElem?_append_left (by rw[q];exact w)]
  |j+1=>
   simp only[List.getElem?_cons_succ] at h
   rw[List.getElem?_append_right (by rw[q,Nat.succ_mul];omega),q,←z j i x h w]
   congr 1
   rw[Nat.succ_mul]
   omega
theorem OwnR.elem {α:Type} {f:α→List Value} {m:Nat} (H: ∀x,(f x).length=m) {w:World} {base:Nat} {e:TypeId} {r:Rw} {l:List α} (h:OwnR w base e m r l.length (l.flatMap f)) {j:Nat} {x:α} (D:l[j]? =some x): ∃g,r.a=some ⟨g,0,none⟩∧∀i,i<m→w.cell? ⟨g,j*m+i,none⟩=(f x)[i]?:=by
 have z:j<l.length:=(List.getElem?_eq_some_iff.1 D).1
 rcases h.2 with ⟨_,L⟩|⟨g,I,E,q,_⟩
 ·omega
 ·simp only[Value.slice.injEq] at q
  have A:=h
  unfold OwnR at A
  rw[q.1,q.2.2] at A
  refine⟨g,q.1,fun i K=>?_⟩
  have J:j*m+i<l.length*m:=by
   have:=Nat.mul_le_mul_right m z
   rw[Nat.succ_mul] at this
   omega
  rw[World.ownsRow.cellAt A _ J]
  exact zpg f m H l j i x D K
structure OwnMd (w:World) (base:Nat) (S:Sv) (m:Md):Prop where
 rq:OwnR w base 9 1 S.rq m.rq.length (m.rq.map .string)
 im:OwnR w base 95 3 S.im m.im.length (m.im.flatMap imL)
 ep:OwnR w base 97 4 S.ep m.ep.length (m.ep.flatMap epL)
 st:OwnR w base 102 3 S.st m.st.length (m.st.flatMap smL)
 ex:OwnR w base 100 6 S.ex m.ex.length (m.ex.flatMap exL)
theorem OwnMod.md {w:World} {base:Nat} {S:Sv} {q:PS} (h:OwnMod w base S q):OwnMd w base S (zeN q):=⟨h.rq,h.im,h.ep,h.st,h.ex⟩
theorem OwnMd.later {w z:World} {base:Nat} {S:Sv} {m:Md} (h:OwnMd w base S m) (q:Below w.heap.size w z):OwnMd z base S m:=
 ⟨h.rq.keep fun k g=>q.block k (h.rq.typed g).2.1,h.im.keep fun k g=>q.block k (h.im.typed g).2.1,h.ep.keep fun k g=>q.block k (h.ep.typed g).2.1,h.st.keep fun k g=>q.block k (h.st.typed g).2.1,h.ex.keep fun k g=>q.block k (h.ex.typed g).2.1⟩
theorem OwnMd.alloc {w:World} {base:Nat} {S:Sv} {m:Md} (h:OwnMd w base S m) (o:Obj):OwnMd (w.alloc o) base S m:=h.later ((Below.refl _ _).alloc (Nat.le_refl _) _)
def zl (S:Sv) (m:Md):Value:=.agg #[.slice S.rq.a m.rq.length S.rq.cap,.slice S.im.a m.im.length S.im.cap,.slice S.ep.a m.ep.length S.ep.cap,.slice S.st.a m.st.length S.st.cap,.slice S.ex.a m.ex.length S.ex.cap]
theorem OwnMd.expr {w:World} {base:Nat} {S:Sv} {m:Md} (h:OwnMd w base S m) {i:Nat} (A:i<m.ex.length): ∃g,S.ex.a=some ⟨g,0,none⟩∧g<w.heap.size∧w.cell? ⟨g,i*6,none⟩=some (.int .i64 (m.ex.getD i zh).kind)∧w.cell? ⟨g,i*6+1,none⟩=some (.int .i64 (m.ex.getD i zh).num)∧w.cell? ⟨g,i*6+2,none⟩=some (.string (m.ex.getD i zh).name)∧w.cell? ⟨g,i*6+3,none⟩=some (.string (m.ex.getD i zh).field)∧w.cell? ⟨g,i*6+4,none⟩=some (.int .i64 (m.ex.getD i zh).l)∧w.cell? ⟨g,i*6+5,none⟩=some (.int .i64 (m.ex.getD i zh).r):=by
 obtain⟨g,z,q⟩:=OwnR.elem (f:=exL) (m:=6) (fun _=>rfl) h.ex (List.getElem?_eq_getElem A)
 rw[zen A]
 exact⟨g,z,(h.ex.typed (by rw[Rw.blk,z];rfl)).2.1,q 0 (by omega),q 1 (by omega),q 2 (by omega),q 3 (by omega),q 4 (by omega),q 5 (by omega)⟩
def SameOut (P:Prop) (e:Ending):Prop:=∃b,e= .returned (.bool b)∧(b=true↔P)
theorem zbw {α:Type} {l:List α} {j:Nat} (h:j<l.length): ∃x,l[j]? =some x:=⟨_,List.getElem?_eq_getElem h⟩
theorem zds {α:Type} {l1 q:List α} {j:Nat} {x:α} (h:l1.take j=q.take j) (w:l1[j]? =some x) (z:q[j]? =some x):l1.take (j+1)=q.take (j+1):=by
 obtain⟨a,rfl⟩:=List.getElem?_eq_some_iff.1 w
 obtain⟨b,A⟩:=List.getElem?_eq_some_iff.1 z
 rw[List.take_succ_eq_append_getElem a,List.take_succ_eq_append_getElem b,h,A]
theorem zdt {α:Type} {l1 q:List α} (w:l1.length=q.length) (h:l1.take l1.length=q.take l1.length):l1=q:=by
 rw[List.take_length,w,List.take_length] at h
 exact h
theorem zfG {a b:ByteArray} (h:(a.toList==b.toList)=true):a=b:=(zei a b).1 h
def zhP (x y:ByteArray):Bool:=x.toList==y.toList
theorem zg4 {x y:ByteArray}:zhP x y=true↔x=y:=⟨fun h=>zfG h,fun h=>by rw[h];exact beq_self_eq_true _⟩
theorem zph (E H:Option Addr) (q z I A:Nat) (w:World) (h:(q:Int)≠(z:Int)):Calls Tryz.prog 173 #[.slice E q I,.slice H z A] w fun e D=>e= .returned (.bool false)∧Below w.heap.size w D:=by
 go_enter Tryz.func173,Tryz.ntmps173
 go_wp2
 go_ret
 exact⟨rfl,Below.refl _ _⟩
theorem zpi (z A:Option Addr) (D h:Nat) (w:World):Calls Tryz.prog 173 #[.slice z 0 D,.slice A 0 h] w fun e q=>e= .returned (.bool true)∧Below w.heap.size w q:=by
 go_enter Tryz.func173,Tryz.ntmps173
 go_wp2
 go_loopg [13] 1 (fun k i wr=>k=1∧i= .int .i64 0∧wr=w)
 case atStart=>exact⟨rfl,rfl,rfl⟩
 case round=>
  obtain⟨rfl,rfl,rfl⟩:=hrel
  go_wp2
  go_ret
  exact⟨rfl,Below.refl _ _⟩
theorem zpj (b1 b2 Y V:Nat) (N r2:Rw) (l1 z:List ByteArray) (w:World) (I:OwnR w b1 9 1 N l1.length (l1.flatMap (fun x=>[Value.string x]))) (D:OwnR w b2 9 1 r2 z.length (z.flatMap (fun x=>[Value.string x]))) (e1:N.a=some ⟨Y,0,none⟩) (e2:r2.a=some ⟨V,0,none⟩) (hl:l1.length=z.length) (U:l1.length≤4294967296):
  Calls Tryz.prog 173 #[.slice (some ⟨Y,0,none⟩) l1.length N.cap,.slice (some ⟨V,0,none⟩) l1.length r2.cap] w fun e w'=>SameOut (l1=z) e∧Below w.heap.size w w':=by
 have H1:=zc I
 have H2:=zc D
 have E1:=zc e1
 have E2:=zc e2
 have HL:=zc hl
 clear I D e1 e2 hl
 go_enter Tryz.func173,Tryz.ntmps173
 go_wp2
 go_loopg [13] l1.length (fun k i wr=>∃j:Nat,i= .int .i64 j∧j+k=l1.length∧l1.take j=z.take j∧Below w.heap.size w wr)
 case atStart=>exact⟨0,rfl,by omega,rfl,Below.refl _ _⟩
 case round=>
  obtain⟨j,rfl,hj,ht,U⟩:=hrel
  have H:=zc U
  have HT:=zc ht
  clear U ht
  by_cases A:j<l1.length
  ·have K:(j:Int)<(l1.length:Int):=by omega
   obtain⟨x,hx⟩:=zbw A
   obtain⟨y,Z⟩:=zbw (show j<z.length by rw[←HL.out];exact A)
   obtain⟨X,ga,I⟩:=OwnR.elem (f:=(fun x=>[Value.string x])) (m:=1) (fun _=>rfl) (H1.out.keep fun k g=>H.out.block k (H1.out.typed g).2.1) hx
   obtain rfl:X=Y:=by have:=ga.symm.trans E1.out;simpa using this
   obtain⟨X,gb,D⟩:=OwnR.elem (f:=(fun x=>[Value.string x])) (m:=1) (fun _=>rfl) (H2.out.keep fun k g=>H.out.block k (H2.out.typed g).2.1) Z
   obtain rfl:X=V:=by have:=gb.symm.trans E2.out;simpa using this
   have C0:=zc (I 0 (by omega))
   have D0:=zc (D 0 (by omega))
   have HX:=zc hx
   have HY:=zc Z
   clear I D ga gb hx Z
   obtain⟨L,E⟩: ∃L,L=j+1:=⟨_,rfl⟩
   have ej:(j:Int)+1=(L:Int):=by omega
   have HJ:=zc E
   clear E
   obtain⟨b,h⟩: ∃b,zhP x y=b:=⟨_,rfl⟩
   have aa:(x.toList==y.toList)=b:=h
   go_wp2
   have k0:=cell_regrown C0.out
   have m0:=cell_regrown D0.out
   simp only[Nat.add_zero,Nat.mul_one] at k0 m0
   refine wp_region_quiet_below (by kernel_rfl) (by kernel_rfl) ?_
   repeat (go_big_quiet_step (fail))
   refine wpQuiet_nil ?_
   intro w2 M
   obtain⟨⟨dq,O⟩,q⟩:=M
   have J:Hid (Below w.heap.size w w2):=by show Below _ _ _;rw[q];exact H.out.trans ((below_regrown wr dq O).mono H.out.size)
   clear q k0 m0 C0 D0
   cases b with
   |true=>
    go_wp2
    go_roundg (gk-1)
    case rel=>exact⟨L,rfl,by have:=HJ.out;omega,by rw[HJ.out];have e:=zg4.1 h;exact zds HT.out HX.out (by rw[e];exact HY.out),J.out⟩
    case measure=>omega
   |false=>
    go_wp2
    go_ret
    exact⟨⟨false,rfl,⟨fun k=>(by cases k),fun k=>(by have e:=HX.out;rw[k,HY.out] at e;cases e;rw[zg4.2 rfl] at h;cases h)⟩⟩,J.out⟩
  ·have K: ¬(j:Int)<(l1.length:Int):=by omega
   obtain rfl:j=l1.length:=by omega
   go_wp2
   go_ret
   exact⟨⟨true,rfl,⟨fun _=>zdt HL.out HT.out,fun _=>rfl⟩⟩,H.out⟩
theorem zpk (I b2:Nat) (D A:Rw) (l1 h:List ByteArray) (w:World) (L:OwnR w I 9 1 D l1.length (l1.flatMap (fun x=>[Value.string x]))) (K:OwnR w b2 9 1 A h.length (h.flatMap (fun x=>[Value.string x]))) (U:l1.length≤4294967296):
  Calls Tryz.prog 173 #[.slice D.a l1.length D.cap,.slice A.a h.length A.cap] w fun e H=>SameOut (l1=h) e∧Below w.heap.size w H:=by
 by_cases q:l1.length=h.length
 ·rw[←q]
  by_cases z:l1.length=0
  ·rw[z]
   refine (zpi _ _ _ _ w).mono ?_
   rintro e H ⟨rfl,E⟩
   exact⟨⟨true,rfl,⟨fun _=>(by rw[List.eq_nil_of_length_eq_zero z,List.eq_nil_of_length_eq_zero (q.symm.trans z)]),fun _=>rfl⟩⟩,E⟩
  ·rcases L.nil_or with ⟨_,_,e⟩|⟨O,J⟩
   ·exact absurd e z
   ·rcases K.nil_or with ⟨_,_,e⟩|⟨N,M⟩
    ·exact absurd (q.trans e) z
    ·rw[J,M]
     exact zpj I b2 O N D A l1 h w L K J M q U
 ·refine (zph _ _ _ _ _ _ w (by omega)).mono ?_
  rintro e H ⟨rfl,E⟩
  exact⟨⟨false,rfl,⟨fun k=>(by cases k),fun k=>absurd (by rw[k]) q⟩⟩,E⟩
def zdu (x y:Im):Bool:=x.spec.toList==y.spec.toList&&x.first.toList==y.first.toList&&x.loc.toList==y.loc.toList
theorem zg5 {x y:Im}:zdu x y=true↔x=y:=by
 constructor
 ·intro h
  unfold zdu at h
  simp only[Bool.and_eq_true] at h
  obtain⟨⟨z,q⟩,w⟩:=h
  cases x
  cases y
  simp only at z q w
  congr 1<;>first|(apply zfG;assumption)|(apply eq_of_beq;assumption)
 ·intro h
  rw[h]
  simp[zdu]
theorem zpl (E H:Option Addr) (q z I A:Nat) (w:World) (h:(q:Int)≠(z:Int)):Calls Tryz.prog 174 #[.slice E q I,.slice H z A] w fun e D=>e= .returned (.bool false)∧Below w.heap.size w D:=by
 go_enter Tryz.func174,Tryz.ntmps174
 go_wp2
 go_ret
 exact⟨rfl,Below.refl _ _⟩
theorem zpm (z A:Option Addr) (D h:Nat) (w:World):Calls Tryz.prog 174 #[.slice z 0 D,.slice A 0 h] w fun e q=>e= .returned (.bool true)∧Below w.heap.size w q:=by
 go_enter Tryz.func174,Tryz.ntmps174
 go_wp2
 go_loopg [13] 1 (fun k i wr=>k=1∧i= .int .i64 0∧wr=w)
 case atStart=>exact⟨rfl,rfl,rfl⟩
 case round=>
  obtain⟨rfl,rfl,rfl⟩:=hrel
  go_wp2
  go_ret
  exact⟨rfl,Below.refl _ _⟩
theorem zpn (U: ∀(x y:Im) (W:World),Sem.run Tryz.prog (binOp .neq 95 (.agg #[.string x.spec,.string x.first,.string x.loc]) (.agg #[.string y.spec,.string y.first,.string y.loc])) W= .ok (.bool (!zdu x y)) W) (N: ∀(K:BinOp) (a b:Operand) (x y:Im) (W:World),Sem.run Tryz.prog (eqGuard K 95 a b (.agg #[.string x.spec,.string x.first,.string x.loc]) (.agg #[.string y.spec,.string y.first,.string y.loc])) W= .ok () W) (b1 b2 g1 Z:Nat) (V r2:Rw) (l1 D:List Im) (w:World) (A:OwnR w b1 95 3 V l1.length (l1.flatMap imL)) (z:OwnR w b2 95 3 r2 D.length (D.flatMap imL)) (e1:V.a=some ⟨g1,0,none⟩) (e2:r2.a=some ⟨Z,0,none⟩) (hl:l1.length=D.length) (Y:l1.length≤4294967296):
  Calls Tryz.prog 174 #[.slice (some ⟨g1,0,none⟩) l1.length V.cap,.slice (some ⟨Z,0,none⟩) l1.length r2.cap] w fun e w'=>SameOut (l1=D) e∧Below w.heap.size w w':=by
 have H1:=zc A
 have H2:=zc z
 have E1:=zc e1
 have E2:=zc e2
 have HL:=zc hl
 clear A z e1 e2 hl
 go_enter Tryz.func174,Tryz.ntmps174
 go_wp2
 go_loopg [13] l1.length (fun k i wr=>∃j:Nat,i= .int .i64 j∧j+k=l1.length∧l1.take j=D.take j∧Below w.heap.size w wr)
 case atStart=>exact⟨0,rfl,by omega,rfl,Below.refl _ _⟩
 case round=>
  obtain⟨j,rfl,hj,ht,Y⟩:=hrel
  have I:=zc Y
  have HT:=zc ht
  clear Y ht
  by_cases E:j<l1.length
  ·have L:(j:Int)<(l1.length:Int):=by omega
   obtain⟨x,hx⟩:=zbw E
   obtain⟨y,hy⟩:=zbw (show j<D.length by rw[←HL.out];exact E)
   obtain⟨g',ga,A⟩:=OwnR.elem (f:=imL) (m:=3) (fun _=>rfl) (H1.out.keep fun k g=>I.out.block k (H1.out.typed g).2.1) hx
   obtain rfl:g'=g1:=by have:=ga.symm.trans E1.out;simpa using this
   obtain⟨g',gb,z⟩:=OwnR.elem (f:=imL) (m:=3) (fun _=>rfl) (H2.out.keep fun k g=>I.out.block k (H2.out.typed g).2.1) hy
   obtain rfl:g'=Z:=by have:=gb.symm.trans E2.out;simpa using this
   have C0:=zc (A 0 (by omega))
   have D0:=zc (z 0 (by omega))
   have C1:=zc (A 1 (by omega))
   have D1:=zc (z 1 (by omega))
   have C2:=zc (A 2 (by omega))
   have D2:=zc (z 2 (by omega))
   have HX:=zc hx
   have HY:=zc hy
   clear A z ga gb hx hy
   obtain⟨M,H⟩: ∃M,M=j+1:=⟨_,rfl⟩
   have ej:(j:Int)+1=(M:Int):=by omega
   have HJ:=zc H
   clear H
   obtain⟨b,h⟩: ∃b,zdu x y=b:=⟨_,rfl⟩
   have aa: ∀W:World,Sem.run Tryz.prog (binOp .neq 95 (.agg #[.string x.spec,.string x.first,.string x.loc]) (.agg #[.string y.spec,.string y.first,.string y.loc])) W= .ok (.bool !b) W:=fun W=>by rw[U,h]
   have ab: ∀(K:BinOp) (a b:Operand) (W:World),Sem.run Tryz.prog (eqGuard K 95 a b (.agg #[.string x.spec,.string x.first,.string x.loc]) (.agg #[.string y.spec,.string y.first,.string y.loc])) W= .ok () W:=fun K a b W=>N K a b x y W
   go_wp2
   have k0:=cell_regrown C0.out
   have m0:=cell_regrown D0.out
   have k1:=cell_regrown C1.out
   have m1:=cell_regrown D1.out
   have k2:=cell_regrown C2.out
   have m2:=cell_regrown D2.out
   simp only[Nat.add_zero] at k0 m0
   refine wp_region_quiet_below (by kernel_rfl) (by kernel_rfl) ?_
   repeat (go_big_quiet_step (fail))
   refine wpQuiet_nil ?_
   intro w2 O
   obtain⟨⟨dq,X⟩,q⟩:=O
   have J:Hid (Below w.heap.size w w2):=by show Below _ _ _;rw[q];exact I.out.trans ((below_regrown wr dq X).mono I.out.size)
   clear q k0 m0 C0 D0 k1 m1 C1 D1 k2 m2 C2 D2
   cases b with
   |true=>
    go_wp2
    go_roundg (gk-1)
    case rel=>exact⟨M,rfl,by have:=HJ.out;omega,by rw[HJ.out];have e:=zg5.1 h;exact zds HT.out HX.out (by rw[e];exact HY.out),J.out⟩
    case measure=>omega
   |false=>
    go_wp2
    go_ret
    exact⟨⟨false,rfl,⟨fun k=>(by cases k),fun k=>(by have e:=HX.out;rw[k,HY.out] at e;cases e;rw[zg5.2 rfl] at h;cases h)⟩⟩,J.out⟩
  ·have L: ¬(j:Int)<(l1.length:Int):=by omega
   obtain rfl:j=l1.length:=by omega
   go_wp2
   go_ret
   exact⟨⟨true,rfl,⟨fun _=>zdt HL.out HT.out,fun _=>rfl⟩⟩,I.out⟩
theorem zpo (I: ∀(x y:Im) (W:World),Sem.run Tryz.prog (binOp .neq 95 (.agg #[.string x.spec,.string x.first,.string x.loc]) (.agg #[.string y.spec,.string y.first,.string y.loc])) W= .ok (.bool (!zdu x y)) W) (H: ∀(V:BinOp) (a b:Operand) (x y:Im) (W:World),Sem.run Tryz.prog (eqGuard V 95 a b (.agg #[.string x.spec,.string x.first,.string x.loc]) (.agg #[.string y.spec,.string y.first,.string y.loc])) W= .ok () W) (K b2:Nat) (D A:Rw) (l1 h:List Im) (w:World) (N:OwnR w K 95 3 D l1.length (l1.flatMap imL)) (M:OwnR w b2 95 3 A h.length (h.flatMap imL)) (Y:l1.length≤4294967296):
  Calls Tryz.prog 174 #[.slice D.a l1.length D.cap,.slice A.a h.length A.cap] w fun e J=>SameOut (l1=h) e∧Below w.heap.size w J:=by
 by_cases q:l1.length=h.length
 ·rw[←q]
  by_cases z:l1.length=0
  ·rw[z]
   refine (zpm _ _ _ _ w).mono ?_
   rintro e J ⟨rfl,E⟩
   exact⟨⟨true,rfl,⟨fun _=>(by rw[List.eq_nil_of_length_eq_zero z,List.eq_nil_of_length_eq_zero (q.symm.trans z)]),fun _=>rfl⟩⟩,E⟩
  ·rcases N.nil_or with ⟨_,_,e⟩|⟨X,L⟩
   ·exact absurd e z
   ·rcases M.nil_or with ⟨_,_,e⟩|⟨U,O⟩
    ·exact absurd (q.trans e) z
    ·rw[L,O]
     exact zpn I H K b2 X U D A l1 h w N M L O q Y
 ·refine (zpl _ _ _ _ _ _ w (by omega)).mono ?_
  rintro e J ⟨rfl,E⟩
  exact⟨⟨false,rfl,⟨fun k=>(by cases k),fun k=>absurd (by rw[k]) q⟩⟩,E⟩
def zdv (x y:Ep):Bool:=x.kind==y.kind&&x.name.toList==y.name.toList&&x.loc.toList==y.loc.toList&&x.spec.toList==y.spec.toList
theorem zg6 {x y:Ep}:zdv x y=true↔x=y:=by
 constructor
 ·intro h
  unfold zdv at h
  simp only[Bool.and_eq_true] at h
  obtain⟨⟨⟨z,q⟩,w⟩,A⟩:=h
  cases x
  cases y
  simp only at z q w A
  congr 1<;>first|(apply zfG;assumption)|(apply eq_of_beq;assumption)
 ·intro h
  rw[h]
  simp[zdv]
theorem zpp (E H:Option Addr) (q z I A:Nat) (w:World) (h:(q:Int)≠(z:Int)):Calls Tryz.prog 175 #[.slice E q I,.slice H z A] w fun e D=>e= .returned (.bool false)∧Below w.heap.size w D:=by
 go_enter Tryz.func175,Tryz.ntmps175
 go_wp2
 go_ret
 exact⟨rfl,Below.refl _ _⟩
theorem zpq (z A:Option Addr) (D h:Nat) (w:World):Calls Tryz.prog 175 #[.slice z 0 D,.slice A 0 h] w fun e q=>e= .returned (.bool true)∧Below w.heap.size w q:=by
 go_enter Tryz.func175,Tryz.ntmps175
 go_wp2
 go_loopg [13] 1 (fun k i wr=>k=1∧i= .int .i64 0∧wr=w)
 case atStart=>exact⟨rfl,rfl,rfl⟩
 case round=>
  obtain⟨rfl,rfl,rfl⟩:=hrel
  go_wp2
  go_ret
  exact⟨rfl,Below.refl _ _⟩
theorem zpr (U: ∀(x y:Ep) (W:World),Sem.run Tryz.prog (binOp .neq 97 (.agg #[.int .i64 x.kind,.string x.name,.string x.loc,.string x.spec]) (.agg #[.int .i64 y.kind,.string y.name,.string y.loc,.string y.spec])) W= .ok (.bool (!zdv x y)) W) (N: ∀(K:BinOp) (a b:Operand) (x y:Ep) (W:World),Sem.run Tryz.prog (eqGuard K 97 a b (.agg #[.int .i64 x.kind,.string x.name,.string x.loc,.string x.spec]) (.agg #[.int .i64 y.kind,.string y.name,.string y.loc,.string y.spec])) W= .ok () W) (b1 b2 g1 Z:Nat) (V r2:Rw) (l1 D:List Ep) (w:World) (z:OwnR w b1 97 4 V l1.length (l1.flatMap epL)) (q:OwnR w b2 97 4 r2 D.length (D.flatMap epL)) (e1:V.a=some ⟨g1,0,none⟩) (e2:r2.a=some ⟨Z,0,none⟩) (hl:l1.length=D.length) (Y:l1.length≤4294967296):
  Calls Tryz.prog 175 #[.slice (some ⟨g1,0,none⟩) l1.length V.cap,.slice (some ⟨Z,0,none⟩) l1.length r2.cap] w fun e w'=>SameOut (l1=D) e∧Below w.heap.size w w':=by
 have H1:=zc z
 have H2:=zc q
 have E1:=zc e1
 have E2:=zc e2
 have HL:=zc hl
 clear z q e1 e2 hl
 go_enter Tryz.func175,Tryz.ntmps175
 go_wp2
 go_loopg [13] l1.length (fun k i wr=>∃j:Nat,i= .int .i64 j∧j+k=l1.length∧l1.take j=D.take j∧Below w.heap.size w wr)
 case atStart=>exact⟨0,rfl,by omega,rfl,Below.refl _ _⟩
 case round=>
  obtain⟨j,rfl,hj,ht,Y⟩:=hrel
  have I:=zc Y
  have HT:=zc ht
  clear Y ht
  by_cases E:j<l1.length
  ·have L:(j:Int)<(l1.length:Int):=by omega
   obtain⟨x,hx⟩:=zbw E
   obtain⟨y,hy⟩:=zbw (show j<D.length by rw[←HL.out];exact E)
   obtain⟨g',ga,z⟩:=OwnR.elem (f:=epL) (m:=4) (fun _=>rfl) (H1.out.keep fun k g=>I.out.block k (H1.out.typed g).2.1) hx
   obtain rfl:g'=g1:=by have:=ga.symm.trans E1.out;simpa using this
   obtain⟨g',gb,q⟩:=OwnR.elem (f:=epL) (m:=4) (fun _=>rfl) (H2.out.keep fun k g=>I.out.block k (H2.out.typed g).2.1) hy
   obtain rfl:g'=Z:=by have:=gb.symm.trans E2.out;simpa using this
   have C0:=zc (z 0 (by omega))
   have D0:=zc (q 0 (by omega))
   have C1:=zc (z 1 (by omega))
   have D1:=zc (q 1 (by omega))
   have C2:=zc (z 2 (by omega))
   have D2:=zc (q 2 (by omega))
   have C3:=zc (z 3 (by omega))
   have D3:=zc (q 3 (by omega))
   have HX:=zc hx
   have HY:=zc hy
   clear z q ga gb hx hy
   obtain⟨M,H⟩: ∃M,M=j+1:=⟨_,rfl⟩
   have ej:(j:Int)+1=(M:Int):=by omega
   have HJ:=zc H
   clear H
   obtain⟨b,h⟩: ∃b,zdv x y=b:=⟨_,rfl⟩
   have aa: ∀W:World,Sem.run Tryz.prog (binOp .neq 97 (.agg #[.int .i64 x.kind,.string x.name,.string x.loc,.string x.spec]) (.agg #[.int .i64 y.kind,.string y.name,.string y.loc,.string y.spec])) W= .ok (.bool !b) W:=fun W=>by rw[U,h]
   have ab: ∀(K:BinOp) (a b:Operand) (W:World),Sem.run Tryz.prog (eqGuard K 97 a b (.agg #[.int .i64 x.kind,.string x.name,.string x.loc,.string x.spec]) (.agg #[.int .i64 y.kind,.string y.name,.string y.loc,.string y.spec])) W= .ok () W:=fun K a b W=>N K a b x y W
   go_wp2
   have k0:=cell_regrown C0.out
   have m0:=cell_regrown D0.out
   have k1:=cell_regrown C1.out
   have m1:=cell_regrown D1.out
   have k2:=cell_regrown C2.out
   have m2:=cell_regrown D2.out
   have k3:=cell_regrown C3.out
   have m3:=cell_regrown D3.out
   simp only[Nat.add_zero] at k0 m0
   refine wp_region_quiet_below (by kernel_rfl) (by kernel_rfl) ?_
   repeat (go_big_quiet_step (fail))
   refine wpQuiet_nil ?_
   intro w2 O
   obtain⟨⟨dq,X⟩,A⟩:=O
   have J:Hid (Below w.heap.size w w2):=by show Below _ _ _;rw[A];exact I.out.trans ((below_regrown wr dq X).mono I.out.size)
   clear A k0 m0 C0 D0 k1 m1 C1 D1 k2 m2 C2 D2 k3 m3 C3 D3
   cases b with
   |true=>
    go_wp2
    go_roundg (gk-1)
    case rel=>exact⟨M,rfl,by have:=HJ.out;omega,by rw[HJ.out];have e:=zg6.1 h;exact zds HT.out HX.out (by rw[e];exact HY.out),J.out⟩
    case measure=>omega
   |false=>
    go_wp2
    go_ret
    exact⟨⟨false,rfl,⟨fun k=>(by cases k),fun k=>(by have e:=HX.out;rw[k,HY.out] at e;cases e;rw[zg6.2 rfl] at h;cases h)⟩⟩,J.out⟩
  ·have L: ¬(j:Int)<(l1.length:Int):=by omega
   obtain rfl:j=l1.length:=by omega
   go_wp2
   go_ret
   exact⟨⟨true,rfl,⟨fun _=>zdt HL.out HT.out,fun _=>rfl⟩⟩,I.out⟩
theorem zps (I: ∀(x y:Ep) (W:World),Sem.run Tryz.prog (binOp .neq 97 (.agg #[.int .i64 x.kind,.string x.name,.string x.loc,.string x.spec]) (.agg #[.int .i64 y.kind,.string y.name,.string y.loc,.string y.spec])) W= .ok (.bool (!zdv x y)) W) (H: ∀(V:BinOp) (a b:Operand) (x y:Ep) (W:World),Sem.run Tryz.prog (eqGuard V 97 a b (.agg #[.int .i64 x.kind,.string x.name,.string x.loc,.string x.spec]) (.agg #[.int .i64 y.kind,.string y.name,.string y.loc,.string y.spec])) W= .ok () W) (K b2:Nat) (D A:Rw) (l1 h:List Ep) (w:World) (N:OwnR w K 97 4 D l1.length (l1.flatMap epL)) (M:OwnR w b2 97 4 A h.length (h.flatMap epL)) (Y:l1.length≤4294967296):
  Calls Tryz.prog 175 #[.slice D.a l1.length D.cap,.slice A.a h.length A.cap] w fun e J=>SameOut (l1=h) e∧Below w.heap.size w J:=by
 by_cases q:l1.length=h.length
 ·rw[←q]
  by_cases z:l1.length=0
  ·rw[z]
   refine (zpq _ _ _ _ w).mono ?_
   rintro e J ⟨rfl,E⟩
   exact⟨⟨true,rfl,⟨fun _=>(by rw[List.eq_nil_of_length_eq_zero z,List.eq_nil_of_length_eq_zero (q.symm.trans z)]),fun _=>rfl⟩⟩,E⟩
  ·rcases N.nil_or with ⟨_,_,e⟩|⟨X,L⟩
   ·exact absurd e z
   ·rcases M.nil_or with ⟨_,_,e⟩|⟨U,O⟩
    ·exact absurd (q.trans e) z
    ·rw[L,O]
     exact zpr I H K b2 X U D A l1 h w N M L O q Y
 ·refine (zpp _ _ _ _ _ _ w (by omega)).mono ?_
  rintro e J ⟨rfl,E⟩
  exact⟨⟨false,rfl,⟨fun k=>(by cases k),fun k=>absurd (by rw[k]) q⟩⟩,E⟩
def zdw (x y:Sm):Bool:=x.kind==y.kind&&x.name.toList==y.name.toList&&x.expr==y.expr
theorem zg7 {x y:Sm}:zdw x y=true↔x=y:=by
 constructor
 ·intro h
  unfold zdw at h
  simp only[Bool.and_eq_true] at h
  obtain⟨⟨z,q⟩,w⟩:=h
  cases x
  cases y
  simp only at z q w
  congr 1<;>first|(apply zfG;assumption)|(apply eq_of_beq;assumption)
 ·intro h
  rw[h]
  simp[zdw]
theorem zpt (E H:Option Addr) (q z I A:Nat) (w:World) (h:(q:Int)≠(z:Int)):Calls Tryz.prog 176 #[.slice E q I,.slice H z A] w fun e D=>e= .returned (.bool false)∧Below w.heap.size w D:=by
 go_enter Tryz.func176,Tryz.ntmps176
 go_wp2
 go_ret
 exact⟨rfl,Below.refl _ _⟩
theorem zpu (z A:Option Addr) (D h:Nat) (w:World):Calls Tryz.prog 176 #[.slice z 0 D,.slice A 0 h] w fun e q=>e= .returned (.bool true)∧Below w.heap.size w q:=by
 go_enter Tryz.func176,Tryz.ntmps176
 go_wp2
 go_loopg [13] 1 (fun k i wr=>k=1∧i= .int .i64 0∧wr=w)
 case atStart=>exact⟨rfl,rfl,rfl⟩
 case round=>
  obtain⟨rfl,rfl,rfl⟩:=hrel
  go_wp2
  go_ret
  exact⟨rfl,Below.refl _ _⟩
theorem zpv (U: ∀(x y:Sm) (W:World),Sem.run Tryz.prog (binOp .neq 102 (.agg #[.int .i64 x.kind,.string x.name,.int .i64 x.expr]) (.agg #[.int .i64 y.kind,.string y.name,.int .i64 y.expr])) W= .ok (.bool (!zdw x y)) W) (N: ∀(K:BinOp) (a b:Operand) (x y:Sm) (W:World),Sem.run Tryz.prog (eqGuard K 102 a b (.agg #[.int .i64 x.kind,.string x.name,.int .i64 x.expr]) (.agg #[.int .i64 y.kind,.string y.name,.int .i64 y.expr])) W= .ok () W) (b1 b2 g1 Z:Nat) (V r2:Rw) (l1 D:List Sm) (w:World) (A:OwnR w b1 102 3 V l1.length (l1.flatMap smL)) (z:OwnR w b2 102 3 r2 D.length (D.flatMap smL)) (e1:V.a=some ⟨g1,0,none⟩) (e2:r2.a=some ⟨Z,0,none⟩) (hl:l1.length=D.length) (Y:l1.length≤4294967296):
  Calls Tryz.prog 176 #[.slice (some ⟨g1,0,none⟩) l1.length V.cap,.slice (some ⟨Z,0,none⟩) l1.length r2.cap] w fun e w'=>SameOut (l1=D) e∧Below w.heap.size w w':=by
 have H1:=zc A
 have H2:=zc z
 have E1:=zc e1
 have E2:=zc e2
 have HL:=zc hl
 clear A z e1 e2 hl
 go_enter Tryz.func176,Tryz.ntmps176
 go_wp2
 go_loopg [13] l1.length (fun k i wr=>∃j:Nat,i= .int .i64 j∧j+k=l1.length∧l1.take j=D.take j∧Below w.heap.size w wr)
 case atStart=>exact⟨0,rfl,by omega,rfl,Below.refl _ _⟩
 case round=>
  obtain⟨j,rfl,hj,ht,Y⟩:=hrel
  have I:=zc Y
  have HT:=zc ht
  clear Y ht
  by_cases E:j<l1.length
  ·have L:(j:Int)<(l1.length:Int):=by omega
   obtain⟨x,hx⟩:=zbw E
   obtain⟨y,hy⟩:=zbw (show j<D.length by rw[←HL.out];exact E)
   obtain⟨g',ga,A⟩:=OwnR.elem (f:=smL) (m:=3) (fun _=>rfl) (H1.out.keep fun k g=>I.out.block k (H1.out.typed g).2.1) hx
   obtain rfl:g'=g1:=by have:=ga.symm.trans E1.out;simpa using this
   obtain⟨g',gb,z⟩:=OwnR.elem (f:=smL) (m:=3) (fun _=>rfl) (H2.out.keep fun k g=>I.out.block k (H2.out.typed g).2.1) hy
   obtain rfl:g'=Z:=by have:=gb.symm.trans E2.out;simpa using this
   have C0:=zc (A 0 (by omega))
   have D0:=zc (z 0 (by omega))
   have C1:=zc (A 1 (by omega))
   have D1:=zc (z 1 (by omega))
   have C2:=zc (A 2 (by omega))
   have D2:=zc (z 2 (by omega))
   have HX:=zc hx
   have HY:=zc hy
   clear A z ga gb hx hy
   obtain⟨M,H⟩: ∃M,M=j+1:=⟨_,rfl⟩
   have ej:(j:Int)+1=(M:Int):=by omega
   have HJ:=zc H
   clear H
   obtain⟨b,h⟩: ∃b,zdw x y=b:=⟨_,rfl⟩
   have aa: ∀W:World,Sem.run Tryz.prog (binOp .neq 102 (.agg #[.int .i64 x.kind,.string x.name,.int .i64 x.expr]) (.agg #[.int .i64 y.kind,.string y.name,.int .i64 y.expr])) W= .ok (.bool !b) W:=fun W=>by rw[U,h]
   have ab: ∀(K:BinOp) (a b:Operand) (W:World),Sem.run Tryz.prog (eqGuard K 102 a b (.agg #[.int .i64 x.kind,.string x.name,.int .i64 x.expr]) (.agg #[.int .i64 y.kind,.string y.name,.int .i64 y.expr])) W= .ok () W:=fun K a b W=>N K a b x y W
   go_wp2
   have k0:=cell_regrown C0.out
   have m0:=cell_regrown D0.out
   have k1:=cell_regrown C1.out
   have m1:=cell_regrown D1.out
   have k2:=cell_regrown C2.out
   have m2:=cell_regrown D2.out
   simp only[Nat.add_zero] at k0 m0
   refine wp_region_quiet_below (by kernel_rfl) (by kernel_rfl) ?_
   repeat (go_big_quiet_step (fail))
   refine wpQuiet_nil ?_
   intro w2 O
   obtain⟨⟨dq,X⟩,q⟩:=O
   have J:Hid (Below w.heap.size w w2):=by show Below _ _ _;rw[q];exact I.out.trans ((below_regrown wr dq X).mono I.out.size)
   clear q k0 m0 C0 D0 k1 m1 C1 D1 k2 m2 C2 D2
   cases b with
   |true=>
    go_wp2
    go_roundg (gk-1)
    case rel=>exact⟨M,rfl,by have:=HJ.out;omega,by rw[HJ.out];have e:=zg7.1 h;exact zds HT.out HX.out (by rw[e];exact HY.out),J.out⟩
    case measure=>omega
   |false=>
    go_wp2
    go_ret
    exact⟨⟨false,rfl,⟨fun k=>(by cases k),fun k=>(by have e:=HX.out;rw[k,HY.out] at e;cases e;rw[zg7.2 rfl] at h;cases h)⟩⟩,J.out⟩
  ·have L: ¬(j:Int)<(l1.length:Int):=by omega
   obtain rfl:j=l1.length:=by omega
   go_wp2
   go_ret
   exact⟨⟨true,rfl,⟨fun _=>zdt HL.out HT.out,fun _=>rfl⟩⟩,I.out⟩
theorem zpw (I: ∀(x y:Sm) (W:World),Sem.run Tryz.prog (binOp .neq 102 (.agg #[.int .i64 x.kind,.string x.name,.int .i64 x.expr]) (.agg #[.int .i64 y.kind,.string y.name,.int .i64 y.expr])) W= .ok (.bool (!zdw x y)) W) (H: ∀(V:BinOp) (a b:Operand) (x y:Sm) (W:World),Sem.run Tryz.prog (eqGuard V 102 a b (.agg #[.int .i64 x.kind,.string x.name,.int .i64 x.expr]) (.agg #[.int .i64 y.kind,.string y.name,.int .i64 y.expr])) W= .ok () W) (K b2:Nat) (D A:Rw) (l1 h:List Sm) (w:World) (N:OwnR w K 102 3 D l1.length (l1.flatMap smL)) (M:OwnR w b2 102 3 A h.length (h.flatMap smL)) (Y:l1.length≤4294967296):
  Calls Tryz.prog 176 #[.slice D.a l1.length D.cap,.slice A.a h.length A.cap] w fun e J=>SameOut (l1=h) e∧Below w.heap.size w J:=by
 by_cases q:l1.length=h.length
 ·rw[←q]
  by_cases z:l1.length=0
  ·rw[z]
   refine (zpu _ _ _ _ w).mono ?_
   rintro e J ⟨rfl,E⟩
   exact⟨⟨true,rfl,⟨fun _=>(by rw[List.eq_nil_of_length_eq_zero z,List.eq_nil_of_length_eq_zero (q.symm.trans z)]),fun _=>rfl⟩⟩,E⟩
  ·rcases N.nil_or with ⟨_,_,e⟩|⟨X,L⟩
   ·exact absurd e z
   ·rcases M.nil_or with ⟨_,_,e⟩|⟨U,O⟩
    ·exact absurd (q.trans e) z
    ·rw[L,O]
     exact zpv I H K b2 X U D A l1 h w N M L O q Y
 ·refine (zpt _ _ _ _ _ _ w (by omega)).mono ?_
  rintro e J ⟨rfl,E⟩
  exact⟨⟨false,rfl,⟨fun k=>(by cases k),fun k=>absurd (by rw[k]) q⟩⟩,E⟩
def zdx (x y:Ex):Bool:=x.kind==y.kind&&x.num==y.num&&x.name.toList==y.name.toList&&x.field.toList==y.field.toList&&x.l==y.l&&x.r==y.r
theorem zg8 {x y:Ex}:zdx x y=true↔x=y:=by
 constructor
 ·intro h
  unfold zdx at h
  simp only[Bool.and_eq_true] at h
  obtain⟨⟨⟨⟨⟨D,z⟩,q⟩,E⟩,w⟩,A⟩:=h
  cases x
  cases y
  simp only at D z q E w A
  congr 1<;>first|(apply zfG;assumption)|(apply eq_of_beq;assumption)
 ·intro h
  rw[h]
  simp[zdx]
theorem zpx (E H:Option Addr) (q z I A:Nat) (w:World) (h:(q:Int)≠(z:Int)):Calls Tryz.prog 177 #[.slice E q I,.slice H z A] w fun e D=>e= .returned (.bool false)∧Below w.heap.size w D:=by
 go_enter Tryz.func177,Tryz.ntmps177
 go_wp2
 go_ret
 exact⟨rfl,Below.refl _ _⟩
theorem zpy (z A:Option Addr) (D h:Nat) (w:World):Calls Tryz.prog 177 #[.slice z 0 D,.slice A 0 h] w fun e q=>e= .returned (.bool true)∧Below w.heap.size w q:=by
 go_enter Tryz.func177,Tryz.ntmps177
 go_wp2
 go_loopg [13] 1 (fun k i wr=>k=1∧i= .int .i64 0∧wr=w)
 case atStart=>exact⟨rfl,rfl,rfl⟩
 case round=>
  obtain⟨rfl,rfl,rfl⟩:=hrel
  go_wp2
  go_ret
  exact⟨rfl,Below.refl _ _⟩
theorem zpz (U: ∀(x y:Ex) (W:World),Sem.run Tryz.prog (binOp .neq 100 (.agg #[.int .i64 x.kind,.int .i64 x.num,.string x.name,.string x.field,.int .i64 x.l,.int .i64 x.r]) (.agg #[.int .i64 y.kind,.int .i64 y.num,.string y.name,.string y.field,.int .i64 y.l,.int .i64 y.r])) W= .ok (.bool (!zdx x y)) W) (N: ∀(K:BinOp) (a b:Operand) (x y:Ex) (W:World),Sem.run Tryz.prog (eqGuard K 100 a b (.agg #[.int .i64 x.kind,.int .i64 x.num,.string x.name,.string x.field,.int .i64 x.l,.int .i64 x.r]) (.agg #[.int .i64 y.kind,.int .i64 y.num,.string y.name,.string y.field,.int .i64 y.l,.int .i64 y.r])) W= .ok () W) (b1 b2 g1 Z:Nat) (V r2:Rw) (l1 D:List Ex) (w:World) (q:OwnR w b1 100 6 V l1.length (l1.flatMap exL)) (h:OwnR w b2 100 6 r2 D.length (D.flatMap exL)) (e1:V.a=some ⟨g1,0,none⟩) (e2:r2.a=some ⟨Z,0,none⟩) (hl:l1.length=D.length) (Y:l1.length≤4294967296):
  Calls Tryz.prog 177 #[.slice (some ⟨g1,0,none⟩) l1.length V.cap,.slice (some ⟨Z,0,none⟩) l1.length r2.cap] w fun e w'=>SameOut (l1=D) e∧Below w.heap.size w w':=by
 have H1:=zc q
 have H2:=zc h
 have E1:=zc e1
 have E2:=zc e2
 have HL:=zc hl
 clear q h e1 e2 hl
 go_enter Tryz.func177,Tryz.ntmps177
 go_wp2
 go_loopg [13] l1.length (fun k i wr=>∃j:Nat,i= .int .i64 j∧j+k=l1.length∧l1.take j=D.take j∧Below w.heap.size w wr)
 case atStart=>exact⟨0,rfl,by omega,rfl,Below.refl _ _⟩
 case round=>
  obtain⟨j,rfl,hj,ht,Y⟩:=hrel
  have I:=zc Y
  have HT:=zc ht
  clear Y ht
  by_cases E:j<l1.length
  ·have L:(j:Int)<(l1.length:Int):=by omega
   obtain⟨x,hx⟩:=zbw E
   obtain⟨y,hy⟩:=zbw (show j<D.length by rw[←HL.out];exact E)
   obtain⟨g',ga,q⟩:=OwnR.elem (f:=exL) (m:=6) (fun _=>rfl) (H1.out.keep fun k g=>I.out.block k (H1.out.typed g).2.1) hx
   obtain rfl:g'=g1:=by have:=ga.symm.trans E1.out;simpa using this
   obtain⟨g',gb,h⟩:=OwnR.elem (f:=exL) (m:=6) (fun _=>rfl) (H2.out.keep fun k g=>I.out.block k (H2.out.typed g).2.1) hy
   obtain rfl:g'=Z:=by have:=gb.symm.trans E2.out;simpa using this
   have C0:=zc (q 0 (by omega))
   have D0:=zc (h 0 (by omega))
   have C1:=zc (q 1 (by omega))
   have D1:=zc (h 1 (by omega))
   have C2:=zc (q 2 (by omega))
   have D2:=zc (h 2 (by omega))
   have C3:=zc (q 3 (by omega))
   have D3:=zc (h 3 (by omega))
   have C4:=zc (q 4 (by omega))
   have D4:=zc (h 4 (by omega))
   have C5:=zc (q 5 (by omega))
   have D5:=zc (h 5 (by omega))
   have HX:=zc hx
   have HY:=zc hy
   clear q h ga gb hx hy
   obtain⟨M,H⟩: ∃M,M=j+1:=⟨_,rfl⟩
   have ej:(j:Int)+1=(M:Int):=by omega
   have HJ:=zc H
   clear H
   obtain⟨b,z⟩: ∃b,zdx x y=b:=⟨_,rfl⟩
   have aa: ∀W:World,Sem.run Tryz.prog (binOp .neq 100 (.agg #[.int .i64 x.kind,.int .i64 x.num,.string x.name,.string x.field,.int .i64 x.l,.int .i64 x.r]) (.agg #[.int .i64 y.kind,.int .i64 y.num,.string y.name,.string y.field,.int .i64 y.l,.int .i64 y.r])) W= .ok (.bool !b) W:=fun W=>by rw[U,z]
   have ab: ∀(K:BinOp) (a b:Operand) (W:World),Sem.run Tryz.prog (eqGuard K 100 a b (.agg #[.int .i64 x.kind,.int .i64 x.num,.string x.name,.string x.field,.int .i64 x.l,.int .i64 x.r]) (.agg #[.int .i64 y.kind,.int .i64 y.num,.string y.name,.string y.field,.int .i64 y.l,.int .i64 y.r])) W= .ok () W:=fun K a b W=>N K a b x y W
   go_wp2
   have k0:=cell_regrown C0.out
   have m0:=cell_regrown D0.out
   have k1:=cell_regrown C1.out
   have m1:=cell_regrown D1.out
   have k2:=cell_regrown C2.out
   have m2:=cell_regrown D2.out
   have k3:=cell_regrown C3.out
   have m3:=cell_regrown D3.out
   have k4:=cell_regrown C4.out
   have m4:=cell_regrown D4.out
   have k5:=cell_regrown C5.out
   have m5:=cell_regrown D5.out
   simp only[Nat.add_zero] at k0 m0
   refine wp_region_quiet_below (by kernel_rfl) (by kernel_rfl) ?_
   repeat (go_big_quiet_step (fail))
   refine wpQuiet_nil ?_
   intro w2 O
   obtain⟨⟨dq,X⟩,A⟩:=O
   have J:Hid (Below w.heap.size w w2):=by show Below _ _ _;rw[A];exact I.out.trans ((below_regrown wr dq X).mono I.out.size)
   clear A k0 m0 C0 D0 k1 m1 C1 D1 k2 m2 C2 D2 k3 m3 C3 D3 k4 m4 C4 D4 k5 m5 C5 D5
   cases b with
   |true=>
    go_wp2
    go_roundg (gk-1)
    case rel=>exact⟨M,rfl,by have:=HJ.out;omega,by rw[HJ.out];have e:=zg8.1 z;exact zds HT.out HX.out (by rw[e];exact HY.out),J.out⟩
    case measure=>omega
   |false=>
    go_wp2
    go_ret
    exact⟨⟨false,rfl,⟨fun k=>(by cases k),fun k=>(by have e:=HX.out;rw[k,HY.out] at e;cases e;rw[zg8.2 rfl] at z;cases z)⟩⟩,J.out⟩
  ·have L: ¬(j:Int)<(l1.length:Int):=by omega
   obtain rfl:j=l1.length:=by omega
   go_wp2
   go_ret
   exact⟨⟨true,rfl,⟨fun _=>zdt HL.out HT.out,fun _=>rfl⟩⟩,I.out⟩
theorem zp0 (I: ∀(x y:Ex) (W:World),Sem.run Tryz.prog (binOp .neq 100 (.agg #[.int .i64 x.kind,.int .i64 x.num,.string x.name,.string x.field,.int .i64 x.l,.int .i64 x.r]) (.agg #[.int .i64 y.kind,.int .i64 y.num,.string y.name,.string y.field,.int .i64 y.l,.int .i64 y.r])) W= .ok (.bool (!zdx x y)) W) (H: ∀(V:BinOp) (a b:Operand) (x y:Ex) (W:World),Sem.run Tryz.prog (eqGuard V 100 a b (.agg #[.int .i64 x.kind,.int .i64 x.num,.string x.name,.string x.field,.int .i64 x.l,.int .i64 x.r]) (.agg #[.int .i64 y.kind,.int .i64 y.num,.string y.name,.string y.field,.int .i64 y.l,.int .i64 y.r])) W= .ok () W) (K b2:Nat) (D A:Rw) (l1 h:List Ex) (w:World) (N:OwnR w K 100 6 D l1.length (l1.flatMap exL)) (M:OwnR w b2 100 6 A h.length (h.flatMap exL)) (Y:l1.length≤4294967296):
  Calls Tryz.prog 177 #[.slice D.a l1.length D.cap,.slice A.a h.length A.cap] w fun e J=>SameOut (l1=h) e∧Below w.heap.size w J:=by
 by_cases q:l1.length=h.length
 ·rw[←q]
  by_cases z:l1.length=0
  ·rw[z]
   refine (zpy _ _ _ _ w).mono ?_
   rintro e J ⟨rfl,E⟩
   exact⟨⟨true,rfl,⟨fun _=>(by rw[List.eq_nil_of_length_eq_zero z,List.eq_nil_of_length_eq_zero (q.symm.trans z)]),fun _=>rfl⟩⟩,E⟩
  ·rcases N.nil_or with ⟨_,_,e⟩|⟨X,L⟩
   ·exact absurd e z
   ·rcases M.nil_or with ⟨_,_,e⟩|⟨U,O⟩
    ·exact absurd (q.trans e) z
    ·rw[L,O]
     exact zpz I H K b2 X U D A l1 h w N M L O q Y
 ·refine (zpx _ _ _ _ _ _ w (by omega)).mono ?_
  rintro e J ⟨rfl,E⟩
  exact⟨⟨false,rfl,⟨fun k=>(by cases k),fun k=>absurd (by rw[k]) q⟩⟩,E⟩
end Go.Proofs.YtgcbmogmniahjaaGreat
