/-
  What slices.Index and slices.Contains answer over a row of texts,and strings.Clone: the walks.
  What request of impl's parser answers: the walks.
  What nameOrCall of impl's parser answers: the walk.
  What part of impl's parser answers: the walk.
  What product and sum of impl's parser answer: the walks.
  What statement of impl's parser answers: the walk.
  What the small items of impl's parser,itemWord and exportLast answer: the walks.
  Rows beside impl's parser: lists of names under way. No program is spoken of but for the numbers of its types.
  A program in memory,of any size. No program is spoken of but for the numbers of its types.
-/
import Derived.Test.YtlnohpdiiileeaaGreatClImplParseHToImplParseI
import Derived.Test.YtlnohpdiiileeaaGreatClShelf
import Derived.Test.YtlnohpdiiileeaaGreatClDrawBaseToTokMem
import Derived.Test.YtlnohpdiiileeaaGreatClParseMemToModMem
namespace Go.Proofs.YtlnohpdiiileeaaGreat
set_option maxRecDepth 100000
set_option maxHeartbeats 3200000
open Go.RowKit Go.PlainAid Go.Sort
theorem zvp (s:ByteArray) (w:World) (h:s.size≤281474976710656):
  Calls Tryz.prog 56 #[.string s] w fun e w'=>e= .returned (.string s)∧Below w.heap.size w w':=by
 go_enter Tryz.func56,Tryz.ntmps56
 go_wp2_with fail
 refine (Tryz.stringslite_Clone _ _ h).mono ?_
 rintro e w1 ⟨rfl,hb⟩
 go_wp2
 go_ret
 exact⟨rfl,hb⟩
theorem OwnR.text {w:World} {base n:Nat} {r:Rw} {l:List ByteArray} (h:OwnR w base 9 1 r n (l.map .string)) {j:Nat} (hj:j<n): ∃g,r.a=some ⟨g,0,none⟩∧w.cell? ⟨g,j,none⟩=some (.string (l.getD j sNone)):=by
 rcases h.2 with ⟨_,hn⟩|⟨g,cap,cur,hv,_⟩
 ·omega
 ·simp only[Value.slice.injEq] at hv
  have h':=h
  unfold OwnR at h'
  rw[hv.1,hv.2.2] at h'
  have hl:l.length=n:=by have:=h.1;simpa using this
  refine⟨g,hv.1,?_⟩
  rw[World.ownsRow.cellAt h' j (by omega)]
  simp only[List.getElem?_map,List.getD]
  rw[List.getElem?_eq_getElem (by omega)]
  rfl
theorem zblk {l:List ByteArray} {x:ByteArray} {j:Nat} (hj:j<l.length):hasS (l.drop j) x=((l.getD j sNone).toList==x.toList||hasS (l.drop (j+1)) x):=by
 rw[List.drop_eq_getElem_cons hj]
 simp only[hasS,List.any_cons,List.getD,List.getElem?_eq_getElem hj,Option.getD_some]
theorem zbll (base g:Nat) (r:Rw) (l:List ByteArray) (x:ByteArray) (w:World) (h:OwnR w base 9 1 r l.length (l.map .string)) (hl:l.length≤1000000) (hg:r.a=some ⟨g,0,none⟩):
  Calls Tryz.prog 213 #[.slice (some ⟨g,0,none⟩) l.length r.cap,.string x] w fun e w'=>(∃v:Int,e= .returned (.int .i64 v)∧decide (0≤v)=hasS l x)∧w'=w:=by
 have HO:=hidI h
 have HGG:=hidI hg
 clear h hg
 go_enter Tryz.func213,Tryz.ntmps213
 go_wp2
 go_loopg [8] (l.length+1) (fun k i wr=>∃j:Nat,i= .int .i64 j∧j+k=l.length+1∧hasS (l.drop j) x=hasS l x∧wr=w)
 case atStart=>exact⟨0,rfl,by omega,by simp,rfl⟩
 case round=>
  obtain⟨j,rfl,hj,he,rfl⟩:=hrel
  have HE:=hidI he
  clear he
  by_cases hlt:j<l.length
  ·have hlti:(j:Int)<(l.length:Int):=by omega
   obtain⟨g',hg',hc⟩:=HO.out.text hlt
   have eg:g'=g:=by have:=hg'.symm.trans HGG.out;simpa using this
   subst eg
   clear hg'
   obtain⟨j1,hj1⟩: ∃j1,j1=j+1:=⟨_,rfl⟩
   have ej:(j:Int)+1=(j1:Int):=by omega
   have HJ:=hidI hj1
   clear hj1
   have HS:Hid (hasS (l.drop j) x=((l.getD j sNone).toList==x.toList||hasS (l.drop (j+1)) x)):=zblk hlt
   generalize l.getD j sNone=y at hc HS
   cases ey:(x.toList==y.toList) with
   |true=>
    go_wp2
    go_ret
    refine⟨⟨_,rfl,?_⟩,rfl⟩
    have e2:(y.toList==x.toList)=true:=by rw[beq_iff_eq] at ey ⊢;exact ey.symm
    rw[←HE.out,HS.out,e2]
    simp
   |false=>
    go_wp2
    go_roundg (gk-1)
    case rel=>
     have e2:(y.toList==x.toList)=false:=by
      rw[beq_eq_false_iff_ne] at ey ⊢;exact fun e=>ey e.symm
     refine⟨j1,rfl,by have:=HJ.out;omega,?_,rfl⟩
     rw[←HE.out,HS.out,e2,HJ.out]
     simp
    case measure=>omega
  ·have hlti: ¬(j:Int)<(l.length:Int):=by omega
   go_wp2
   go_ret
   refine⟨⟨_,rfl,?_⟩,rfl⟩
   rw[←HE.out,List.drop_eq_nil_of_le (by omega)]
   rfl
theorem zblm (x:ByteArray) (w:World):
  Calls Tryz.prog 213 #[.slice none 0 0,.string x] w fun e w'=>e= .returned (.int .i64 (-1))∧w'=w:=by
 go_enter Tryz.func213,Tryz.ntmps213
 go_wp2
 go_loopg [8] 1 (fun k i wr=>k=1∧i= .int .i64 0∧wr=w)
 case atStart=>exact⟨rfl,rfl,rfl⟩
 case round=>
  obtain⟨rfl,rfl,rfl⟩:=hrel
  go_wp2
  go_ret
  exact⟨rfl,rfl⟩
theorem zbln (base:Nat) (r:Rw) (l:List ByteArray) (x:ByteArray) (w:World) (h:OwnR w base 9 1 r l.length (l.map .string)) (hl:l.length≤1000000):
  Calls Tryz.prog 213 #[.slice r.a l.length r.cap,.string x] w fun e w'=>(∃v:Int,e= .returned (.int .i64 v)∧decide (0≤v)=hasS l x)∧w'=w:=by
 rcases h.nil_or with ⟨e1,e2,e3⟩|⟨g,hg⟩
 ·rw[e1,e2,e3]
  refine (zblm x w).mono ?_
  rintro e w1 ⟨rfl,rfl⟩
  have:l=[]:=List.length_eq_zero_iff.1 e3
  subst this
  exact⟨⟨_,rfl,rfl⟩,rfl⟩
 ·rw[hg]
  exact zbll base g r l x w h hl hg
theorem znn (base:Nat) (r:Rw) (l:List ByteArray) (x:ByteArray) (w:World) (h:OwnR w base 9 1 r l.length (l.map .string)) (hl:l.length≤1000000):
  Calls Tryz.prog 131 #[.slice r.a l.length r.cap,.string x] w fun e w'=>e= .returned (.bool (hasS l x))∧w'=w:=by
 have HO:=hidI h
 clear h
 go_enter Tryz.func131,Tryz.ntmps131
 go_wp2_with fail
 refine (zbln base r l x _ HO.out hl).mono ?_
 rintro e w1 ⟨⟨v,rfl,hv⟩,rfl⟩
 have HV:=hidI hv
 clear hv
 go_wp2
 go_ret
 exact⟨zi HV.out,rfl⟩
theorem Tryz.infoText:(Tryz.prog.info? 9).map (fun i=>(i.zero,i.size,i.bytes))=some (some (.string {data:=#[]}),1,16):=by kernel_rfl
/-- No token's text is longer than a text may be. -/
def zgb (C:Cx):Prop:=∀i,(zd C i).text.size≤281474976710656
theorem zbpe (x:ByteArray): ∀u∈[Value.string x],u.oneCell'=true:=by
 intro u hu
 simp at hu
 rw[hu]
 rfl
theorem zbem (C:Cx) (gt cap base gp:Nat) (S:Sv) (q:PS) (w:World) (h:IM C gt cap base gp S q w) (hC:zgb C) (hk:((zd C q.pos).kind==3)=true) (hs:hasS q.rq (zd C q.pos).text=false) (hn:q.rq.length<40):
  Calls Tryz.prog 281 #[.pointer (some ⟨gp,0,none⟩)] w fun e w'=>e= .returned (.string (zd C q.pos).text)∧∃S',IM C gt cap base gp S' {adv q with rq:=q.rq++[(zd C q.pos).text]} w'∧IS gp S w S' w':=by
 obtain⟨i0,hi,hz0,hz1,hz2⟩:=info_parts Tryz.infoText
 have HH:=hidI h
 have hf1:=zey
 have hsz:=hC q.pos
 clear h
 go_enter Tryz.func281,Tryz.ntmps281
 go_wp2_with fail
 refine (zju C gt cap base gp S q 3 _ HH.out hk (by decide)).mono ?_
 rintro e w1 ⟨rfl,m1,s1⟩
 have H1:=hidI m1
 have HS1:=hidI s1
 clear m1 s1
 unfold tkV
 obtain⟨c0,c1,c2,c3,c4,c5,c6,c7,c8,c9,cf⟩:=zbe H1.out.cells
 rw[show (adv q).rq=q.rq from rfl] at c4
 generalize htx:(zd C q.pos).text=tx at hs hsz ⊢
 have HTX:=hidI htx
 clear htx
 go_wp2_with fail
 refine (znn base S.rq q.rq tx _ H1.out.mem.own.rq (by omega)).mono ?_
 rintro e w1' ⟨rfl,hw⟩
 rw[hs,hw]
 clear hw w1'
 go_wp2_with fail
 refine (zjv gp q.rq.length 40 _ (by omega)).mono ?_
 rintro e w1' ⟨rfl,hw⟩
 rw[hw]
 clear hw w1'
 have HN:Hid (some gp≠S.rq.blk):=fun e=>H1.out.free (.inl e.symm)
 go_wp2_with fail
 go_region_law (first|(refine znm rfl (.tmp 28) (.tmp 31) 22 rfl base 9 i0 _ 1 16 Tryz.underlying22 hi hz0 hz1 hz2 rfl (by decide) (by decide) S.rq q.rq.length (q.rq.map .string) (by rfl) (by exact H3.out.mem.own.rq.alloc _) w3.heap.size [.string tx] (by rfl) (by exact heap_alloc_new w3 _) rfl (zbpe tx) (by omega) (by exact (H3.out.alloc _).mem.base) ?_;intro r' w2 hr hgr hat;have g2:=(hgr.block gp (by exact (H3.out.alloc _).lt) HN.out).trans (by exact (H3.out.alloc _).cells);obtain⟨d0,d1,d2,d3,d4,d5,d6,d7,d8,d9,df⟩:=zbe g2)|(go_simp;go_wp2_with (go_at_call 56;refine (zvp _ _ hsz).mono ?_;rintro e w3 ⟨rfl,hb3⟩;have H3:Hid (IM C gt cap base gp S (adv q) w3):=H1.out.drew.later hb3;have HB3:Hid (Below w1.heap.size w1 w3):=(Below.refl w1.heap.size w1).drew.trans hb3;obtain⟨e0,e1,e2,e3,e4,e5,e6,e7,e8,e9,ef⟩:=zbe H3.out.cells;rw[show (adv q).rq=q.rq from rfl] at e4;have hlt3:=H3.out.lt;clear hb3)))
 all_goals
  have HR:=hidI hr
  have HGR:=hidI hgr
  have HAT:=hidI hat
  clear hr hgr hat g2 c0 c1 c2 c3 c4 c5 c6 c7 c8 c9 cf e0 e1 e2 e3 e4 e5 e6 e7 e8 e9 ef
  go_wp2
  go_ret
  obtain⟨m',s'⟩:=H3.out.grow_rq (x:=tx) ((Below.refl _ _).alloc (Nat.le_refl _) _) HGR.out HR.out HAT.out hn
  rw[HTX.out]
  exact⟨rfl,_,m',HS1.out.trans (s'.grownI HB3.out)⟩
theorem zmd (C:Cx) (gt cap base gp:Nat) (S:Sv) (q:PS) (w:World) (h:IM C gt cap base gp S q w) (hC:zgb C):
  Calls Tryz.prog 281 #[.pointer (some ⟨gp,0,none⟩)] w (IOut C gt cap base gp (zbf C q) (·.1) (fun a=>.string a.2) S w):=by
 cases hk:((zd C q.pos).kind==3) with
 |false=>
  have HH:=hidI h
  have HV:Hid (zbf C q= .error (here C q.pos)):=by show _=_;rw[zbf,hk];rfl
  clear h
  go_enter Tryz.func281,Tryz.ntmps281
  go_wp2_with fail
  refine (zbgh C gt cap base gp S q 3 _ HH.out hk).mono ?_
  rintro e w1 ⟨rfl,hb⟩
  have HB:Hid (Below base w w1):=hb.mono HH.out.mem.base
  clear hb
  unfold Pan
  go_wp2
  refine⟨rfl,?_⟩
  rw[HV.out]
  exact⟨rfl,HB.out⟩
 |true=>
  cases hs:hasS q.rq (zd C q.pos).text with
  |true=>
   have HH:=hidI h
   have HV:Hid (zbf C q= .ok (adv q,(zd C q.pos).text)):=by show _=_;rw[zbf,hk,hs];rfl
   have hf1:=zey
   have hin:=h.mem.inv.rq
   clear h
   go_enter Tryz.func281,Tryz.ntmps281
   go_wp2_with fail
   refine (zju C gt cap base gp S q 3 _ HH.out hk (by decide)).mono ?_
   rintro e w1 ⟨rfl,m1,s1⟩
   have H1:=hidI m1
   have HS1:=hidI s1
   clear m1 s1
   unfold tkV
   obtain⟨c0,c1,c2,c3,c4,c5,c6,c7,c8,c9,cf⟩:=zbe H1.out.cells
   rw[show (adv q).rq=q.rq from rfl] at c4
   go_wp2_with fail
   refine (znn base S.rq q.rq (zd C q.pos).text _ H1.out.mem.own.rq (by omega)).mono ?_
   rintro e w1' ⟨rfl,hw⟩
   rw[hs,hw]
   clear hw w1'
   go_wp2
   go_ret
   rw[HV.out]
   exact⟨rfl,S,H1.out,HS1.out⟩
  |false=>
   by_cases hn:q.rq.length<40
   ·refine (zbem C gt cap base gp S q w h hC hk hs hn).mono ?_
    rintro e w1 ⟨rfl,S1,m1,s1⟩
    rw[zbf,hk,hs,if_pos rfl,if_neg (by decide),if_neg (by omega)]
    exact⟨rfl,S1,m1,s1⟩
   ·have HH:Hid (IM C gt cap base gp S q w):=h
    have HV:Hid (zbf C q= .error (here C q.pos)):=by show _=_;rw[zbf,hk,hs,if_pos rfl,if_neg (by decide),if_pos (by omega)]
    have hf1:=zey
    have hin:=h.mem.inv.rq
    clear h
    go_enter Tryz.func281,Tryz.ntmps281
    go_wp2_with fail
    refine (zju C gt cap base gp S q 3 _ HH.out hk (by decide)).mono ?_
    rintro e w1 ⟨rfl,m1,s1⟩
    have H1:=hidI m1
    have HS1:=hidI s1
    clear m1 s1
    unfold tkV
    obtain⟨c0,c1,c2,c3,c4,c5,c6,c7,c8,c9,cf⟩:=zbe H1.out.cells
    rw[show (adv q).rq=q.rq from rfl] at c4
    go_wp2_with fail
    refine (znn base S.rq q.rq (zd C q.pos).text _ H1.out.mem.own.rq (by omega)).mono ?_
    rintro e w1' ⟨rfl,hw⟩
    rw[hs,hw]
    clear hw w1'
    go_wp2_with fail
    refine (zng C gt cap base gp S (adv q) q.rq.length 40 _ H1.out (by omega) (by rw[zr];omega)).mono ?_
    rintro e w2 ⟨rfl,hb⟩
    have HB:Hid (Below base w w2):=(HH.out.back HS1.out).trans (hb.mono H1.out.mem.base)
    clear hb
    unfold Pan
    go_wp2
    refine⟨rfl,?_⟩
    rw[HV.out]
    exact⟨rfl,HB.out⟩
theorem bdO {α β:Type} {Y:Except Nat β} {x:Except Nat α} {f:α→Except Nat β} {a:α} (h:Y=bd x f) (hx:x= .ok a):Y=f a:=by rw[h,hx];rfl
theorem bdE {α β:Type} {Y:Except Nat β} {x:Except Nat α} {f:α→Except Nat β} {p:Nat} (h:Y=bd x f) (hx:x= .error p):Y= .error p:=by rw[h,hx];rfl
theorem znh {α:Type} (x:Except Nat α):bd x .ok=x:=by cases x<;>rfl
abbrev cCall:ByteArray:={data:=#[40,41,123]}
abbrev cShutSemi:ByteArray:={data:=#[41,59]}
abbrev cSemiRight:ByteArray:={data:=#[59,125]}
theorem zya (C:Cx) (b:UInt8) (q:PS):zcu C {data:=#[b]} 1 0 q=tokP C 4 {data:=#[b]} q:=by
 have e:({data:=#[b]}:ByteArray).extract 0 (0+1)={data:=#[b]}:=by simp[ByteArray.extract,ByteArray.copySlice]
 rw[zcu,e]
 exact znh _
theorem zyb (C:Cx) (b c:UInt8) (q:PS):zcu C {data:=#[b,c]} 2 0 q=bd (tokP C 4 {data:=#[b]} q) (tokP C 4 {data:=#[c]}):=by
 have e:({data:=#[b,c]}:ByteArray).extract 0 (0+1)={data:=#[b]}:=by simp[ByteArray.extract,ByteArray.copySlice]
 have e2:({data:=#[b,c]}:ByteArray).extract (0+1) (0+1+1)={data:=#[c]}:=by simp[ByteArray.extract,ByteArray.copySlice]
 rw[zcu,e]
 refine zbd fun a _=>?_
 rw[zcu,e2]
 exact znh _
theorem zben (C:Cx) (b c d:UInt8) (q:PS):zcu C {data:=#[b,c,d]} 3 0 q=bd (tokP C 4 {data:=#[b]} q) fun a=>bd (tokP C 4 {data:=#[c]} a) (tokP C 4 {data:=#[d]}):=by
 have e:({data:=#[b,c,d]}:ByteArray).extract 0 (0+1)={data:=#[b]}:=by simp[ByteArray.extract,ByteArray.copySlice]
 have e2:({data:=#[b,c,d]}:ByteArray).extract (0+1) (0+1+1)={data:=#[c]}:=by simp[ByteArray.extract,ByteArray.copySlice]
 have e3:({data:=#[b,c,d]}:ByteArray).extract (0+1+1) (0+1+1+1)={data:=#[d]}:=by simp[ByteArray.extract,ByteArray.copySlice]
 rw[zcu,e]
 refine zbd fun a _=>?_
 rw[zcu,e2]
 refine zbd fun a _=>?_
 rw[zcu,e3]
 exact znh _
/-- passSigns of a text whose signs are known. -/
theorem zbbj (C:Cx) (gt cap base gp:Nat) (S:Sv) (q:PS) (s:ByteArray) (f:PS→PR) (w:World) (h:IM C gt cap base gp S q w) (hf:zcu C s s.size 0 q=f q) (hs:s.size≤100):
  Calls Tryz.prog 234 #[.pointer (some ⟨gp,0,none⟩),.string s] w (IOut C gt cap base gp (f q) id (fun _=>.tuple #[]) S w):=by
 rw[←hf]
 exact zmo C gt cap base gp S q s w h hs
theorem zfi (C:Cx) (gt cap base gp:Nat) (S:Sv) (q:PS) (b:UInt8) (w:World) (h:IM C gt cap base gp S q w):
  Calls Tryz.prog 234 #[.pointer (some ⟨gp,0,none⟩),.string {data:=#[b]}] w (IOut C gt cap base gp (tokP C 4 {data:=#[b]} q) id (fun _=>.tuple #[]) S w):=
 zbbj C gt cap base gp S q {data:=#[b]} (tokP C 4 {data:=#[b]}) w h (zya C b q) (by show 1≤100;omega)
structure Six (w:World) (b:Nat) (v0 v1 v2 v3 v4 v5:Value):Prop where
 c0:w.cell? ⟨b,0,none⟩=some v0
 c1:w.cell? ⟨b,1,none⟩=some v1
 c2:w.cell? ⟨b,2,none⟩=some v2
 c3:w.cell? ⟨b,3,none⟩=some v3
 c4:w.cell? ⟨b,4,none⟩=some v4
 c5:w.cell? ⟨b,5,none⟩=some v5
 fz: ∀i,w.frozen? ⟨b,i,none⟩=false
theorem zx {w:World} {b:Nat} {t:TypeId} {v0 v1 v2 v3 v4 v5:Value} (h:w.heap[b]? =some (.cells #[v0,v1,v2,v3,v4,v5] t (0,0))):Six w b v0 v1 v2 v3 v4 v5:=by
 constructor<;>simp[World.cell?,World.frozen?,h]
/-- A block that the way does not touch: laid ahead of it. -/
theorem IS.kept {C:Cx} {gt cap base gp b:Nat} {S S':Sv} {q:PS} {w w':World} {o:Obj} (h:IM C gt cap base gp S q w) (s:IS gp S (w.alloc o) S' w') (hb:b=w.heap.size):w'.heap[b]? =some o:=by
 subst hb
 refine (s.block _ (by rw[zq];omega) (fun g=>?_) (by have:=h.lt;omega)).trans (heap_alloc_new w _)
 have:=(h.mem.own.has g).2
 omega
theorem IS.from {gp:Nat} {S S':Sv} {w w':World} {o:Obj} (s:IS gp S (w.alloc o) S' w'):IS gp S w S' w':=(IS.below ((Below.refl _ _).alloc (Nat.le_refl _) _)).trans s
theorem IS.free {C:Cx} {gt cap base gp:Nat} {S S':Sv} {q:PS} {w w':World} {o:Obj} (h:IM C gt cap base gp S q w) (s:IS gp S (w.alloc o) S' w'): ¬S'.has w.heap.size:=by
 intro g
 rcases s.sub _ g with k|k
 ·have:=(h.mem.own.has k).2
  omega
 ·rw[zq] at k
  omega
def zgc (C:Cx) (x:Ex) (call:Int) (q:PS):PR:=if isT C q.pos 4 cOpen then bd (tokP C 4 zbw (adv q)) (zbm C ⟨call,x.num,x.name,x.field,x.l,x.r⟩) else zbm C x q
theorem zhs (C:Cx) (gt cap base gp:Nat) (S:Sv) (q:PS) (x:Ex) (call:Int) (w:World) (h:IM C gt cap base gp S q w) (hp:0<q.pos):
  Calls Tryz.prog 324 #[.pointer (some ⟨gp,0,none⟩),exV x,.int .i64 call] w (IOut C gt cap base gp (zgc C x call q) id (fun q'=>.int .i64 ((q'.ex.length:Int)-1)) S w):=by
 have HH:=hidI h
 clear h
 cases hi:isT C q.pos 4 cOpen with
 |false=>
  have HY:Hid (zgc C x call q=zbm C x q):=by show _=_;rw[zgc,hi];rfl
  unfold exV
  go_enter Tryz.func324,Tryz.ntmps324
  go_wp2_with fail
  refine (zm C gt cap base gp S q 4 cOpen _ (HH.out.alloc _) (by decide)).mono ?_
  rintro e w1 ⟨rfl,m,s⟩
  rw[hi] at m ⊢
  have HM1:=hidI m
  have HS1:Hid (IS gp S w S w1):=s.from
  have HG1:Hid (w1.heap[w.heap.size]? =some (.cells #[.int .i64 x.kind,.int .i64 x.num,.string x.name,.string x.field,.int .i64 x.l,.int .i64 x.r] 145 (0,0))):=IS.kept HH.out s rfl
  obtain⟨b0,b1,b2,b3,b4,b5,bf⟩:=zx HG1.out
  clear m s
  go_wp2_with fail
  refine (zij C gt cap base gp S q x _ HM1.out hp).mono ?_
  cases hn2:zbm C x q with
  |error p=>
   rintro e w2 ⟨rfl,hb⟩
   have HB:Hid (Below base w w2):=(HH.out.back HS1.out).trans hb
   have HX:Hid (zgc C x call q= .error p):=HY.out.trans hn2
   unfold Pan
   go_wp2
   refine⟨rfl,?_⟩
   rw[HX.out]
   exact⟨rfl,HB.out⟩
  |ok a2=>
   rintro e w2 ⟨rfl,S2,m,s⟩
   have HM2:=hidI m
   have HS2:Hid (IS gp S w S2 w2):=HS1.out.trans s
   clear m s
   have HX:=hidI (HY.out.trans hn2)
   go_wp2
   go_ret
   rw[HX.out]
   exact⟨rfl,S2,HM2.out,HS2.out⟩
 |true=>
  have HY:Hid (zgc C x call q=bd (tokP C 4 zbw (adv q)) (zbm C ⟨call,x.num,x.name,x.field,x.l,x.r⟩)):=by show _=_;rw[zgc,hi];rfl
  unfold exV
  go_enter Tryz.func324,Tryz.ntmps324
  go_wp2_with fail
  refine (zm C gt cap base gp S q 4 cOpen _ (HH.out.alloc _) (by decide)).mono ?_
  rintro e w1 ⟨rfl,m,s⟩
  rw[hi] at m ⊢
  have HM1:=hidI m
  have HT1:=hidI s
  clear m s
  go_wp2_with fail
  refine (zfi C gt cap base gp S (adv q) 41 _ HM1.out).mono ?_
  cases hn2:tokP C 4 zbw (adv q) with
  |error p=>
   rintro e w2 ⟨rfl,hb⟩
   have HB:Hid (Below base w w2):=(HH.out.back HT1.out.from).trans hb
   have HX:Hid (zgc C x call q= .error p):=bdE HY.out hn2
   unfold Pan
   go_wp2
   refine⟨rfl,?_⟩
   rw[HX.out]
   exact⟨rfl,HB.out⟩
  |ok a2=>
   rintro e w2 ⟨rfl,S2,m,s⟩
   have HM2:=hidI m
   have HT2:Hid (IS gp S (w.alloc (.cells #[.int .i64 x.kind,.int .i64 x.num,.string x.name,.string x.field,.int .i64 x.l,.int .i64 x.r] 145)) S2 w2):=HT1.out.trans s
   have HG2:Hid (w2.heap[w.heap.size]? =some (.cells #[.int .i64 x.kind,.int .i64 x.num,.string x.name,.string x.field,.int .i64 x.l,.int .i64 x.r] 145 (0,0))):=IS.kept HH.out HT2.out rfl
   have HP2:Hid (a2=adv (adv q)):=(zdf hn2).1
   have HF2:Hid (¬S2.has w.heap.size):=IS.free HH.out HT2.out
   have hgp:gp<w.heap.size:=HH.out.lt
   have hgt:gt<w.heap.size:=(zbr HH.out.mem.tok).1
   clear m s
   have HY2:=hidI (bdO HY.out hn2)
   obtain⟨b0,b1,b2,b3,b4,b5,bf⟩:=zx HG2.out
   go_wp2_with fail
   refine (zij C gt cap base gp S2 a2 ⟨call,x.num,x.name,x.field,x.l,x.r⟩ _ (HM2.out.set (by omega) (by omega) HF2.out _ _) (by rw[HP2.out];show 0<q.pos+1+1;omega)).mono ?_
   cases hn3:zbm C ⟨call,x.num,x.name,x.field,x.l,x.r⟩ a2 with
   |error p=>
    rintro e w3 ⟨rfl,hb⟩
    have HB:Hid (Below base w w3):=(HH.out.back (HT2.out.from.new (Nat.le_refl _) _ _)).trans hb
    have HX:Hid (zgc C x call q= .error p):=HY2.out.trans hn3
    unfold Pan
    go_wp2
    refine⟨rfl,?_⟩
    rw[HX.out]
    exact⟨rfl,HB.out⟩
   |ok a3=>
    rintro e w3 ⟨rfl,S3,m,s⟩
    have HM3:=hidI m
    have HS3:Hid (IS gp S w S3 w3):=(HT2.out.from.new (Nat.le_refl _) _ _).trans s
    clear m s
    have HX:=hidI (HY2.out.trans hn3)
    go_wp2
    go_ret
    rw[HX.out]
    exact⟨rfl,S3,HM3.out,HS3.out⟩
def exI (q:PS):Value:=.int .i64 ((q.ex.length:Int)-1)
def SumI (C:Cx) (gt cap base gp m:Nat):Prop:=∀(d:Nat) (S:Sv) (q:PS) (w:World),C.ts.length-q.pos<m→d≤20→IM C gt cap base gp S q w→
 Calls Tryz.prog 292 #[.pointer (some ⟨gp,0,none⟩),.int .i64 d] w (IOut C gt cap base gp (pE C .sum d q) id exI S w)
theorem zbgj (C:Cx) (n:ByteArray) (q:PS):zcr C n q=zgc C ⟨2,0,n,sNone,0,0⟩ 3 q:=by
 unfold zcr zgc
 cases hi:isT C q.pos 4 cOpen with
 |true=>rw[zer hi];rfl
 |false=>rfl
theorem zbvv (C:Cx) (n f:ByteArray) (q:PS):memP C n f q=zgc C ⟨4,0,n,f,0,0⟩ 5 q:=by
 unfold memP zgc
 cases hi:isT C q.pos 4 cOpen with
 |true=>rw[zer hi];rfl
 |false=>rfl
theorem zbsl {x y:ByteArray} (h:(x.toList==y.toList)=true):x=y:=by
 rw[beq_iff_eq,Lib.toList_data,Lib.toList_data] at h
 cases x
 cases y
 simp only at h
 rw[Array.toList_inj.1 h]
theorem zug {C:Cx} {i:Nat} {k:Int} {x:ByteArray} (h:isT C i k x=true):(zd C i).text=x:=by
 simp only[isT,Bool.and_eq_true] at h
 exact zbsl h.2
theorem zoh {C:Cx} {i:Nat} {k:Int} {x:ByteArray} (h:isT C i k x=true):((zd C i).kind==k)=true:=by
 simp only[isT,Bool.and_eq_true] at h
 exact h.1
theorem zbpf {C:Cx} {d:Nat} {q:PS} (h:((zd C q.pos).kind==2)=true):pE C .part d q=zbm C ⟨1,(zd C q.pos).num,sNone,sNone,0,0⟩ (adv q):=by rw[zdw,h];rfl
theorem zblo {C:Cx} {d:Nat} {q:PS} (h:((zd C q.pos).kind==2)=false) (h1:isT C q.pos 4 cOpen=true) (hd:20≤d):pE C .part d q= .error (here C q.pos):=by rw[zdw,h,h1,if_neg (by decide),if_pos rfl,if_pos hd]
theorem zblp {C:Cx} {d:Nat} {q:PS} (h:((zd C q.pos).kind==2)=false) (h1:isT C q.pos 4 cOpen=true) (hd: ¬20≤d):pE C .part d q=bd (pE C .sum (d+1) (adv q)) (tokP C 4 zbw):=by rw[zdw,h,h1,if_neg (by decide),if_pos rfl,if_neg hd]
theorem zbil {C:Cx} {d:Nat} {q:PS} (h:((zd C q.pos).kind==2)=false) (h1:isT C q.pos 4 cOpen=false) (h2:C.scr=true) (h3:isT C q.pos 1 sUndef=true):pE C .part d q=zgc C ⟨2,0,sUndef,sNone,0,0⟩ 3 (adv q):=by
 rw[zdw,h,h1,h2,h3,if_neg (by decide),if_neg (by decide),if_pos (by decide),zbgj]
theorem zyc {C:Cx} {d:Nat} {q:PS} (h:((zd C q.pos).kind==2)=false) (h1:isT C q.pos 4 cOpen=false) (h2:(C.scr&&isT C q.pos 1 sUndef)=false):
  pE C .part d q=bd (zk C false q) fun x=>if isT C x.1.pos 4 cPoint then bd (zk C true (adv x.1)) fun y=>zgc C ⟨4,0,x.2,y.2,0,0⟩ 5 y.1 else zgc C ⟨2,0,x.2,sNone,0,0⟩ 3 x.1:=by
 rw[zdw,h,h1,h2,if_neg (by decide),if_neg (by decide),if_neg (by decide)]
 simp only[zbgj,zbvv]
theorem zbvw (C:Cx) (gt cap base gp d:Nat) (S:Sv) (q:PS) (w:World) (h:IM C gt cap base gp S q w) (hk:((zd C q.pos).kind==2)=true):
  Calls Tryz.prog 323 #[.pointer (some ⟨gp,0,none⟩),.int .i64 d] w (IOut C gt cap base gp (pE C .part d q) id exI S w):=by
 have HH:=hidI h
 have hf0:=zfq
 have hf1:=zey
 have hf2:=zjc
 clear h
 have HY:=hidI (zbpf (d:=d) hk)
 go_enter Tryz.func323,Tryz.ntmps323
 go_wp2_with fail
 refine (zdl C gt cap base gp S q _ HH.out).mono ?_
 rintro e w1 ⟨rfl,hb⟩
 unfold tkV
 have HM1:Hid (IM C gt cap base gp S q w1):=HH.out.later hb
 have HS1:Hid (IS gp S w S w1):=IS.below hb
 clear hb
 go_wp2_with fail
 refine (zju C gt cap base gp S q 2 _ HM1.out hk (by decide)).mono ?_
 rintro e w2 ⟨rfl,m,s⟩
 have HM2:=hidI m
 have HS2:Hid (IS gp S w S w2):=HS1.out.trans s
 clear m s
 unfold tkV
 go_wp2_with fail
 refine (zij C gt cap base gp S (adv q) ⟨1,(zd C q.pos).num,sNone,sNone,0,0⟩ _ HM2.out (by rw[zr];omega)).mono ?_
 cases hn3:zbm C ⟨1,(zd C q.pos).num,sNone,sNone,0,0⟩ (adv q) with
 |error p=>
  rintro e w3 ⟨rfl,hb⟩
  have HB:Hid (Below base w w3):=(HH.out.back HS2.out).trans hb
  have HX:Hid (pE C .part d q= .error p):=HY.out.trans hn3
  unfold Pan
  go_wp2
  refine⟨rfl,?_⟩
  rw[HX.out]
  exact⟨rfl,HB.out⟩
 |ok a3=>
  rintro e w3 ⟨rfl,S3,m,s⟩
  have HM3:=hidI m
  have HS3:Hid (IS gp S w S3 w3):=HS2.out.trans s
  clear m s
  have HY3:=hidI (HY.out.trans hn3)
  go_wp2
  go_ret
  rw[HY3.out]
  exact⟨rfl,S3,HM3.out,HS3.out⟩
theorem zbvx (C:Cx) (gt cap base gp d:Nat) (S:Sv) (q:PS) (w:World) (h:IM C gt cap base gp S q w) (hk:((zd C q.pos).kind==2)=false) (h1:isT C q.pos 4 cOpen=true) (hd:20≤d):
  Calls Tryz.prog 323 #[.pointer (some ⟨gp,0,none⟩),.int .i64 d] w (IOut C gt cap base gp (pE C .part d q) id exI S w):=by
 have HH:=hidI h
 have hf0:=zfq
 have hf1:=zey
 have hf2:=zjc
 clear h
 have HY:=hidI (zblo (d:=d) hk h1 hd)
 have hdi:(20:Int)≤(d:Int):=by omega
 go_enter Tryz.func323,Tryz.ntmps323
 go_wp2_with fail
 refine (zdl C gt cap base gp S q _ HH.out).mono ?_
 rintro e w1 ⟨rfl,hb⟩
 unfold tkV
 have HM1:Hid (IM C gt cap base gp S q w1):=HH.out.later hb
 have HS1:Hid (IS gp S w S w1):=IS.below hb
 clear hb
 go_wp2_with fail
 refine (zm C gt cap base gp S q 4 cOpen _ HM1.out (by decide)).mono ?_
 rintro e w2 ⟨rfl,m,s⟩
 rw[h1] at m ⊢
 have HM2:=hidI m
 have HS2:Hid (IS gp S w S w2):=HS1.out.trans s
 clear m s
 go_wp2_with fail
 refine (zng C gt cap base gp S (adv q) d 20 _ HM2.out (by omega) (by rw[zr];omega)).mono ?_
 rintro e w3 ⟨rfl,hb⟩
 have HB:Hid (Below base w w3):=(HH.out.back HS2.out).trans (hb.mono HM2.out.mem.base)
 have HX:Hid (pE C .part d q= .error (here C q.pos)):=HY.out
 unfold Pan
 go_wp2
 refine⟨rfl,?_⟩
 rw[HX.out]
 exact⟨rfl,HB.out⟩
theorem zbvy (C:Cx) (gt cap base gp m d:Nat) (S:Sv) (q:PS) (w:World) (h:IM C gt cap base gp S q w) (hk:((zd C q.pos).kind==2)=false) (h1:isT C q.pos 4 cOpen=true) (hd:d<20) (hS:SumI C gt cap base gp m) (hm:C.ts.length-q.pos≤m):
  Calls Tryz.prog 323 #[.pointer (some ⟨gp,0,none⟩),.int .i64 d] w (IOut C gt cap base gp (pE C .part d q) id exI S w):=by
 have HH:=hidI h
 have hf0:=zfq
 have hf1:=zey
 have hf2:=zjc
 clear h
 have HY:=hidI (zblp (d:=d) hk h1 (by omega))
 have hdi: ¬(20:Int)≤(d:Int):=by omega
 have hlt:=zcm h1 (by decide)
 obtain⟨d1,hd1⟩: ∃d1:Nat,d1=d+1:=⟨_,rfl⟩
 have ed:(d:Int)+1=(d1:Int):=by omega
 rw[←hd1] at HY
 have hd2:d1≤20:=by omega
 clear hd1
 go_enter Tryz.func323,Tryz.ntmps323
 go_wp2_with fail
 refine (zdl C gt cap base gp S q _ HH.out).mono ?_
 rintro e w1 ⟨rfl,hb⟩
 unfold tkV
 have HM1:Hid (IM C gt cap base gp S q w1):=HH.out.later hb
 have HS1:Hid (IS gp S w S w1):=IS.below hb
 clear hb
 go_wp2_with fail
 refine (zm C gt cap base gp S q 4 cOpen _ HM1.out (by decide)).mono ?_
 rintro e w2 ⟨rfl,m,s⟩
 rw[h1] at m ⊢
 have HM2:=hidI m
 have HS2:Hid (IS gp S w S w2):=HS1.out.trans s
 clear m s
 go_wp2_with fail
 refine (zjv gp d 20 _ (by omega)).mono ?_
 rintro e w' ⟨rfl,hw⟩
 rw[hw]
 clear hw w'
 go_wp2_with fail
 refine (hS d1 S (adv q) _ (by rw[zr];omega) hd2 HM2.out).mono ?_
 cases hn3:pE C .sum d1 (adv q) with
 |error p=>
  rintro e w3 ⟨rfl,hb⟩
  have HB:Hid (Below base w w3):=(HH.out.back HS2.out).trans hb
  have HX:Hid (pE C .part d q= .error p):=bdE HY.out hn3
  unfold Pan
  go_wp2
  refine⟨rfl,?_⟩
  rw[HX.out]
  exact⟨rfl,HB.out⟩
 |ok a3=>
  rintro e w3 ⟨rfl,S3,m,s⟩
  have HM3:=hidI m
  have HS3:Hid (IS gp S w S3 w3):=HS2.out.trans s
  clear m s
  have HY3:=hidI (bdO HY.out hn3)
  unfold exI
  go_wp2_with fail
  refine (zfi C gt cap base gp S3 a3 41 _ HM3.out).mono ?_
  cases hn4:tokP C 4 zbw a3 with
  |error p=>
   rintro e w4 ⟨rfl,hb⟩
   have HB:Hid (Below base w w4):=(HH.out.back HS3.out).trans hb
   have HX:Hid (pE C .part d q= .error p):=HY3.out.trans hn4
   unfold Pan
   go_wp2
   refine⟨rfl,?_⟩
   rw[HX.out]
   exact⟨rfl,HB.out⟩
  |ok a4=>
   rintro e w4 ⟨rfl,S4,m,s⟩
   have HM4:=hidI m
   have HS4:Hid (IS gp S w S4 w4):=HS3.out.trans s
   clear m s
   have HY4:=hidI (HY3.out.trans hn4)
   have HP:Hid (a4=adv a3):=(zdf hn4).1
   go_wp2
   go_ret
   rw[HY4.out]
   exact⟨by rw[HP.out];rfl,S4,HM4.out,HS4.out⟩
theorem zbvz (C:Cx) (gt cap base gp d:Nat) (S:Sv) (q:PS) (w:World) (h:IM C gt cap base gp S q w) (hk:((zd C q.pos).kind==2)=false) (h1:isT C q.pos 4 cOpen=false) (h2:C.scr=true) (h3:isT C q.pos 1 sUndef=true):
  Calls Tryz.prog 323 #[.pointer (some ⟨gp,0,none⟩),.int .i64 d] w (IOut C gt cap base gp (pE C .part d q) id exI S w):=by
 have HH:=hidI h
 have hf0:=zfq
 have hf1:=zey
 have hf2:=zjc
 clear h
 have HY:=hidI (zbil (d:=d) hk h1 h2 h3)
 go_enter Tryz.func323,Tryz.ntmps323
 go_wp2_with fail
 refine (zdl C gt cap base gp S q _ HH.out).mono ?_
 rintro e w1 ⟨rfl,hb⟩
 unfold tkV
 have HM1:Hid (IM C gt cap base gp S q w1):=HH.out.later hb
 have HS1:Hid (IS gp S w S w1):=IS.below hb
 clear hb
 go_wp2_with fail
 refine (zm C gt cap base gp S q 4 cOpen _ HM1.out (by decide)).mono ?_
 rintro e w2 ⟨rfl,m,s⟩
 rw[h1] at m ⊢
 have HM2:=hidI m
 have HS2:Hid (IS gp S w S w2):=HS1.out.trans s
 clear m s
 obtain⟨_,_,_,c3,_,_,_,_,_,_,cf⟩:=zbe HM2.out.cells
 rw[h2] at c3
 go_wp2_with fail
 refine (zek C gt cap base gp S q 1 sUndef _ HM2.out).mono ?_
 rintro e w3 ⟨rfl,hb⟩
 rw[h3]
 have HM3:Hid (IM C gt cap base gp S q w3):=HM2.out.later hb
 have HS3:Hid (IS gp S w S w3):=(HS2.out.trans (IS.below hb))
 clear hb
 go_wp2_with fail
 refine (zju C gt cap base gp S q 1 _ HM3.out (zoh h3) (by decide)).mono ?_
 rintro e w4 ⟨rfl,m,s⟩
 have HM4:=hidI m
 have HS4:Hid (IS gp S w S w4):=HS3.out.trans s
 clear m s
 unfold tkV
 rw[zug h3]
 go_wp2_with fail
 refine (zhs C gt cap base gp S (adv q) ⟨2,0,sUndef,sNone,0,0⟩ 3 _ HM4.out (by rw[zr];omega)).mono ?_
 cases hn5:zgc C ⟨2,0,sUndef,sNone,0,0⟩ 3 (adv q) with
 |error p=>
  rintro e w5 ⟨rfl,hb⟩
  have HB:Hid (Below base w w5):=(HH.out.back HS4.out).trans hb
  have HX:Hid (pE C .part d q= .error p):=HY.out.trans hn5
  unfold Pan
  go_wp2
  refine⟨rfl,?_⟩
  rw[HX.out]
  exact⟨rfl,HB.out⟩
 |ok a5=>
  rintro e w5 ⟨rfl,S5,m,s⟩
  have HM5:=hidI m
  have HS5:Hid (IS gp S w S5 w5):=HS4.out.trans s
  clear m s
  have HY5:=hidI (HY.out.trans hn5)
  go_wp2
  go_ret
  rw[HY5.out]
  exact⟨rfl,S5,HM5.out,HS5.out⟩
theorem zbwa (C:Cx) (gt cap base gp d:Nat) (S:Sv) (q:PS) (w:World) (h:IM C gt cap base gp S q w) (hk:((zd C q.pos).kind==2)=false) (h1:isT C q.pos 4 cOpen=false) (h2:C.scr=true) (h3:isT C q.pos 1 sUndef=false):
  Calls Tryz.prog 323 #[.pointer (some ⟨gp,0,none⟩),.int .i64 d] w (IOut C gt cap base gp (pE C .part d q) id exI S w):=by
 have HH:=hidI h
 have hf0:=zfq
 have hf1:=zey
 have hf2:=zjc
 clear h
 have HY:=hidI (zyc (d:=d) hk h1 (by rw[h2,h3];rfl))
 go_enter Tryz.func323,Tryz.ntmps323
 go_wp2_with fail
 refine (zdl C gt cap base gp S q _ HH.out).mono ?_
 rintro e w1 ⟨rfl,hb⟩
 unfold tkV
 have HM1:Hid (IM C gt cap base gp S q w1):=HH.out.later hb
 have HS1:Hid (IS gp S w S w1):=IS.below hb
 clear hb
 go_wp2_with fail
 refine (zm C gt cap base gp S q 4 cOpen _ HM1.out (by decide)).mono ?_
 rintro e w2 ⟨rfl,m,s⟩
 rw[h1] at m ⊢
 have HM2:=hidI m
 have HS2:Hid (IS gp S w S w2):=HS1.out.trans s
 clear m s
 obtain⟨_,_,_,c3,_,_,_,_,_,_,cf⟩:=zbe HM2.out.cells
 rw[h2] at c3
 go_wp2_with fail
 refine (zek C gt cap base gp S q 1 sUndef _ HM2.out).mono ?_
 rintro e w3 ⟨rfl,hb⟩
 rw[h3]
 have HM3:Hid (IM C gt cap base gp S q w3):=HM2.out.later hb
 have HS3:Hid (IS gp S w S w3):=(HS2.out.trans (IS.below hb))
 clear hb
 go_wp2_with fail
 refine (zeo C gt cap base gp S q _ HM3.out).mono ?_
 cases hn4:zk C false q with
 |error p=>
  rintro e w4 ⟨rfl,hb⟩
  have HB:Hid (Below base w w4):=(HH.out.back HS3.out).trans hb
  have HX:Hid (pE C .part d q= .error p):=bdE HY.out hn4
  unfold Pan
  go_wp2
  refine⟨rfl,?_⟩
  rw[HX.out]
  exact⟨rfl,HB.out⟩
 |ok a4=>
  rintro e w4 ⟨rfl,S4,m,s⟩
  have HM4:=hidI m
  have HS4:Hid (IS gp S w S4 w4):=HS3.out.trans s
  clear m s
  have HY4:=hidI (bdO HY.out hn4)
  have hpos:0<a4.1.pos:=by rw[(zcj hn4).1];exact Nat.succ_pos _
  cases hd:isT C a4.1.pos 4 cPoint with
  |true=>
   have HZ:=hidI (HY4.out.trans (if_pos hd))
   go_wp2_with fail
   refine (zm C gt cap base gp S4 (a4.1) 4 cPoint _ HM4.out (by decide)).mono ?_
   rintro e w5 ⟨rfl,m,s⟩
   rw[hd] at m ⊢
   have HM5:=hidI m
   have HS5:Hid (IS gp S w S4 w5):=HS4.out.trans s
   clear m s
   go_wp2_with fail
   refine (zfv C gt cap base gp S4 (adv (a4.1)) _ HM5.out).mono ?_
   cases hn6:zk C true (adv (a4.1)) with
   |error p=>
    rintro e w6 ⟨rfl,hb⟩
    have HB:Hid (Below base w w6):=(HH.out.back HS5.out).trans hb
    have HX:Hid (pE C .part d q= .error p):=bdE HZ.out hn6
    unfold Pan
    go_wp2
    refine⟨rfl,?_⟩
    rw[HX.out]
    exact⟨rfl,HB.out⟩
   |ok a6=>
    rintro e w6 ⟨rfl,S6,m,s⟩
    have HM6:=hidI m
    have HS6:Hid (IS gp S w S6 w6):=HS5.out.trans s
    clear m s
    have HY6:=hidI (bdO HZ.out hn6)
    go_wp2_with fail
    refine (zhs C gt cap base gp S6 (a6.1) ⟨4,0,a4.2,a6.2,0,0⟩ 5 _ HM6.out (by rw[(zcj hn6).1];exact Nat.succ_pos _)).mono ?_
    cases hn7:zgc C ⟨4,0,a4.2,a6.2,0,0⟩ 5 (a6.1) with
    |error p=>
     rintro e w7 ⟨rfl,hb⟩
     have HB:Hid (Below base w w7):=(HH.out.back HS6.out).trans hb
     have HX:Hid (pE C .part d q= .error p):=HY6.out.trans hn7
     unfold Pan
     go_wp2
     refine⟨rfl,?_⟩
     rw[HX.out]
     exact⟨rfl,HB.out⟩
    |ok a7=>
     rintro e w7 ⟨rfl,S7,m,s⟩
     have HM7:=hidI m
     have HS7:Hid (IS gp S w S7 w7):=HS6.out.trans s
     clear m s
     have HY7:=hidI (HY6.out.trans hn7)
     go_wp2
     go_ret
     rw[HY7.out]
     exact⟨rfl,S7,HM7.out,HS7.out⟩
  |false=>
   have HZ:=hidI (HY4.out.trans (if_neg (by rw[hd];decide)))
   go_wp2_with fail
   refine (zm C gt cap base gp S4 (a4.1) 4 cPoint _ HM4.out (by decide)).mono ?_
   rintro e w5 ⟨rfl,m,s⟩
   rw[hd] at m ⊢
   have HM5:=hidI m
   have HS5:Hid (IS gp S w S4 w5):=HS4.out.trans s
   clear m s
   go_wp2_with fail
   refine (zhs C gt cap base gp S4 (a4.1) ⟨2,0,a4.2,sNone,0,0⟩ 3 _ HM5.out hpos).mono ?_
   cases hn6:zgc C ⟨2,0,a4.2,sNone,0,0⟩ 3 (a4.1) with
   |error p=>
    rintro e w6 ⟨rfl,hb⟩
    have HB:Hid (Below base w w6):=(HH.out.back HS5.out).trans hb
    have HX:Hid (pE C .part d q= .error p):=HZ.out.trans hn6
    unfold Pan
    go_wp2
    refine⟨rfl,?_⟩
    rw[HX.out]
    exact⟨rfl,HB.out⟩
   |ok a6=>
    rintro e w6 ⟨rfl,S6,m,s⟩
    have HM6:=hidI m
    have HS6:Hid (IS gp S w S6 w6):=HS5.out.trans s
    clear m s
    have HY6:=hidI (HZ.out.trans hn6)
    go_wp2
    go_ret
    rw[HY6.out]
    exact⟨rfl,S6,HM6.out,HS6.out⟩
theorem zbwb (C:Cx) (gt cap base gp d:Nat) (S:Sv) (q:PS) (w:World) (h:IM C gt cap base gp S q w) (hk:((zd C q.pos).kind==2)=false) (h1:isT C q.pos 4 cOpen=false) (h2:C.scr=false):
  Calls Tryz.prog 323 #[.pointer (some ⟨gp,0,none⟩),.int .i64 d] w (IOut C gt cap base gp (pE C .part d q) id exI S w):=by
 have HH:=hidI h
 have hf0:=zfq
 have hf1:=zey
 have hf2:=zjc
 clear h
 have HY:=hidI (zyc (d:=d) hk h1 (by rw[h2];rfl))
 go_enter Tryz.func323,Tryz.ntmps323
 go_wp2_with fail
 refine (zdl C gt cap base gp S q _ HH.out).mono ?_
 rintro e w1 ⟨rfl,hb⟩
 unfold tkV
 have HM1:Hid (IM C gt cap base gp S q w1):=HH.out.later hb
 have HS1:Hid (IS gp S w S w1):=IS.below hb
 clear hb
 go_wp2_with fail
 refine (zm C gt cap base gp S q 4 cOpen _ HM1.out (by decide)).mono ?_
 rintro e w2 ⟨rfl,m,s⟩
 rw[h1] at m ⊢
 have HM2:=hidI m
 have HS2:Hid (IS gp S w S w2):=HS1.out.trans s
 clear m s
 obtain⟨_,_,_,c3,_,_,_,_,_,_,cf⟩:=zbe HM2.out.cells
 rw[h2] at c3
 go_wp2_with fail
 refine (zeo C gt cap base gp S q _ HM2.out).mono ?_
 cases hn3:zk C false q with
 |error p=>
  rintro e w3 ⟨rfl,hb⟩
  have HB:Hid (Below base w w3):=(HH.out.back HS2.out).trans hb
  have HX:Hid (pE C .part d q= .error p):=bdE HY.out hn3
  unfold Pan
  go_wp2
  refine⟨rfl,?_⟩
  rw[HX.out]
  exact⟨rfl,HB.out⟩
 |ok a3=>
  rintro e w3 ⟨rfl,S3,m,s⟩
  have HM3:=hidI m
  have HS3:Hid (IS gp S w S3 w3):=HS2.out.trans s
  clear m s
  have HY3:=hidI (bdO HY.out hn3)
  have hpos:0<a3.1.pos:=by rw[(zcj hn3).1];exact Nat.succ_pos _
  cases hd:isT C a3.1.pos 4 cPoint with
  |true=>
   have HZ:=hidI (HY3.out.trans (if_pos hd))
   go_wp2_with fail
   refine (zm C gt cap base gp S3 (a3.1) 4 cPoint _ HM3.out (by decide)).mono ?_
   rintro e w4 ⟨rfl,m,s⟩
   rw[hd] at m ⊢
   have HM4:=hidI m
   have HS4:Hid (IS gp S w S3 w4):=HS3.out.trans s
   clear m s
   go_wp2_with fail
   refine (zfv C gt cap base gp S3 (adv (a3.1)) _ HM4.out).mono ?_
   cases hn5:zk C true (adv (a3.1)) with
   |error p=>
    rintro e w5 ⟨rfl,hb⟩
    have HB:Hid (Below base w w5):=(HH.out.back HS4.out).trans hb
    have HX:Hid (pE C .part d q= .error p):=bdE HZ.out hn5
    unfold Pan
    go_wp2
    refine⟨rfl,?_⟩
    rw[HX.out]
    exact⟨rfl,HB.out⟩
   |ok a5=>
    rintro e w5 ⟨rfl,S5,m,s⟩
    have HM5:=hidI m
    have HS5:Hid (IS gp S w S5 w5):=HS4.out.trans s
    clear m s
    have HY5:=hidI (bdO HZ.out hn5)
    go_wp2_with fail
    refine (zhs C gt cap base gp S5 (a5.1) ⟨4,0,a3.2,a5.2,0,0⟩ 5 _ HM5.out (by rw[(zcj hn5).1];exact Nat.succ_pos _)).mono ?_
    cases hn6:zgc C ⟨4,0,a3.2,a5.2,0,0⟩ 5 (a5.1) with
    |error p=>
     rintro e w6 ⟨rfl,hb⟩
     have HB:Hid (Below base w w6):=(HH.out.back HS5.out).trans hb
     have HX:Hid (pE C .part d q= .error p):=HY5.out.trans hn6
     unfold Pan
     go_wp2
     refine⟨rfl,?_⟩
     rw[HX.out]
     exact⟨rfl,HB.out⟩
    |ok a6=>
     rintro e w6 ⟨rfl,S6,m,s⟩
     have HM6:=hidI m
     have HS6:Hid (IS gp S w S6 w6):=HS5.out.trans s
     clear m s
     have HY6:=hidI (HY5.out.trans hn6)
     go_wp2
     go_ret
     rw[HY6.out]
     exact⟨rfl,S6,HM6.out,HS6.out⟩
  |false=>
   have HZ:=hidI (HY3.out.trans (if_neg (by rw[hd];decide)))
   go_wp2_with fail
   refine (zm C gt cap base gp S3 (a3.1) 4 cPoint _ HM3.out (by decide)).mono ?_
   rintro e w4 ⟨rfl,m,s⟩
   rw[hd] at m ⊢
   have HM4:=hidI m
   have HS4:Hid (IS gp S w S3 w4):=HS3.out.trans s
   clear m s
   go_wp2_with fail
   refine (zhs C gt cap base gp S3 (a3.1) ⟨2,0,a3.2,sNone,0,0⟩ 3 _ HM4.out hpos).mono ?_
   cases hn5:zgc C ⟨2,0,a3.2,sNone,0,0⟩ 3 (a3.1) with
   |error p=>
    rintro e w5 ⟨rfl,hb⟩
    have HB:Hid (Below base w w5):=(HH.out.back HS4.out).trans hb
    have HX:Hid (pE C .part d q= .error p):=HZ.out.trans hn5
    unfold Pan
    go_wp2
    refine⟨rfl,?_⟩
    rw[HX.out]
    exact⟨rfl,HB.out⟩
   |ok a5=>
    rintro e w5 ⟨rfl,S5,m,s⟩
    have HM5:=hidI m
    have HS5:Hid (IS gp S w S5 w5):=HS4.out.trans s
    clear m s
    have HY5:=hidI (HZ.out.trans hn5)
    go_wp2
    go_ret
    rw[HY5.out]
    exact⟨rfl,S5,HM5.out,HS5.out⟩
theorem zbbk (C:Cx) (gt cap base gp m d:Nat) (S:Sv) (q:PS) (w:World) (h:IM C gt cap base gp S q w) (hd:d≤20) (hS:SumI C gt cap base gp m) (hm:C.ts.length-q.pos≤m):
  Calls Tryz.prog 323 #[.pointer (some ⟨gp,0,none⟩),.int .i64 d] w (IOut C gt cap base gp (pE C .part d q) id exI S w):=by
 cases hk:((zd C q.pos).kind==2) with
 |true=>exact zbvw C gt cap base gp d S q w h hk
 |false=>
  cases h1:isT C q.pos 4 cOpen with
  |true=>
   by_cases hdd:20≤d
   ·exact zbvx C gt cap base gp d S q w h hk h1 hdd
   ·exact zbvy C gt cap base gp m d S q w h hk h1 (by omega) hS hm
  |false=>
   cases h2:C.scr with
   |true=>
    cases h3:isT C q.pos 1 sUndef with
    |true=>exact zbvz C gt cap base gp d S q w h hk h1 h2 h3
    |false=>exact zbwa C gt cap base gp d S q w h hk h1 h2 h3
   |false=>exact zbwb C gt cap base gp d S q w h hk h1 h2
theorem zbpg {C:Cx} {d:Nat} {q:PS} (h:isT C q.pos 4 zw=false):pE C .prodT d q= .ok q:=by rw[zlk,if_neg (by rw[h];decide)]
theorem zblq {C:Cx} {d:Nat} {q:PS} (h:isT C q.pos 4 zw=true):pE C .prodT d q=bd (pE C .part d (adv q)) fun a=>bd (zbm C ⟨8,0,sNone,sNone,(q.ex.length:Int)-1,(a.ex.length:Int)-1⟩ a) (pE C .prodT d):=by rw[zlk,if_pos h,zbt]
theorem zbsm {C:Cx} {d:Nat} {q:PS} (h:isT C q.pos 4 zcy=false) (h2:isT C q.pos 4 zfo=false):pE C .sumT d q= .ok q:=by rw[zlj,if_neg (by rw[h,h2];decide)]
theorem zbim {C:Cx} {d:Nat} {q:PS} (h:isT C q.pos 4 zcy=true):pE C .sumT d q=bd (pE C .prod d (adv q)) fun a=>bd (zbm C ⟨7,0,sNone,sNone,(q.ex.length:Int)-1,(a.ex.length:Int)-1⟩ a) (pE C .sumT d):=by
 rw[zlj,if_pos (by rw[h];exact Bool.or_true _),zbt,zeu,if_pos h]
theorem zblr {C:Cx} {d:Nat} {q:PS} (h:isT C q.pos 4 zcy=false) (h2:isT C q.pos 4 zfo=true):pE C .sumT d q=bd (pE C .prod d (adv q)) fun a=>bd (zbm C ⟨6,0,sNone,sNone,(q.ex.length:Int)-1,(a.ex.length:Int)-1⟩ a) (pE C .sumT d):=by
 rw[zlj,if_pos (by rw[h2];rfl),zbt,zeu,if_neg (by rw[h];decide)]
theorem zor (C:Cx) (gt cap base gp m d:Nat) (S:Sv) (q:PS) (w:World) (h:IM C gt cap base gp S q w) (hd:d≤20) (hS:SumI C gt cap base gp m) (hm:C.ts.length-q.pos≤m):
  Calls Tryz.prog 316 #[.pointer (some ⟨gp,0,none⟩),.int .i64 d] w (IOut C gt cap base gp (pE C .prod d q) id exI S w):=by
 have HH:=hidI h
 have HY:=hidI (zpa C d q)
 clear h
 go_enter Tryz.func316,Tryz.ntmps316
 go_wp2_with fail
 refine (zbbk C gt cap base gp m d S q _ HH.out hd hS hm).mono ?_
 cases hn1:pE C .part d q with
 |error p=>
  rintro e w1 ⟨rfl,hb⟩
  have HB:Hid (Below base w w1):=(HH.out.back (IS.refl _ _ _)).trans hb
  have HX:Hid (pE C .prod d q= .error p):=bdE HY.out hn1
  unfold Pan
  go_wp2
  refine⟨rfl,?_⟩
  rw[HX.out]
  exact⟨rfl,HB.out⟩
 |ok a1=>
  rintro e w1 ⟨rfl,S1,m,s⟩
  have HM1:=hidI m
  have HS1:=hidI s
  clear m s
  have HY1:=hidI (bdO HY.out hn1)
  unfold exI
  have hle:=zen hn1
  go_wp2
  go_loopg [5] (C.ts.length+1) (fun k l wr=>∃(S':Sv) (q':PS),l=exI q'∧pE C .prod d q=pE C .prodT d q'∧C.ts.length-q'.pos<k∧C.ts.length-q'.pos≤m∧IM C gt cap base gp S' q' wr∧IS gp S w S' wr)
  case atStart=>exact⟨S1,a1,rfl,HY1.out,by omega,by omega,HM1.out,HS1.out⟩
  case round=>
   obtain⟨S',q',rfl,hy,hk,hm',m',s'⟩:=hrel
   have HYr:=hidI hy
   have HMr:Hid (IM C gt cap base gp S' q' wr):=m'
   have HSr:Hid (IS gp S w S' wr):=s'
   clear hy m' s'
   unfold exI
   cases hi:isT C q'.pos 4 zw with
   |false=>
    have HZ:=hidI (HYr.out.trans (zbpg hi))
    go_wp2_with fail
    refine (zm C gt cap base gp S' q' 4 zw _ HMr.out (by decide)).mono ?_
    rintro e w2 ⟨rfl,m,s⟩
    rw[hi] at m ⊢
    have HM2:=hidI m
    have HS2:Hid (IS gp S w S' w2):=HSr.out.trans s
    clear m s
    go_wp2
    go_ret
    rw[HZ.out]
    exact⟨rfl,S',HM2.out,HS2.out⟩
   |true=>
    have hlt:=zcm hi (by decide)
    have HZ:=hidI (HYr.out.trans (zblq hi))
    go_wp2_with fail
    refine (zm C gt cap base gp S' q' 4 zw _ HMr.out (by decide)).mono ?_
    rintro e w2 ⟨rfl,m,s⟩
    rw[hi] at m ⊢
    have HM2:=hidI m
    have HS2:Hid (IS gp S w S' w2):=HSr.out.trans s
    clear m s
    go_wp2_with fail
    refine (zbbk C gt cap base gp m d S' (adv q') _ HM2.out hd hS (by rw[zr];omega)).mono ?_
    cases hn3:pE C .part d (adv q') with
    |error p=>
     rintro e w3 ⟨rfl,hb⟩
     have HB:Hid (Below base w w3):=(HH.out.back HS2.out).trans hb
     have HX:Hid (pE C .prod d q= .error p):=bdE HZ.out hn3
     unfold Pan
     go_wp2
     refine⟨rfl,?_⟩
     rw[HX.out]
     exact⟨rfl,HB.out⟩
    |ok a3=>
     rintro e w3 ⟨rfl,S3,m,s⟩
     have HM3:=hidI m
     have HS3:Hid (IS gp S w S3 w3):=HS2.out.trans s
     clear m s
     have HY3:=hidI (bdO HZ.out hn3)
     unfold exI
     have hle2:=zen hn3
     rw[zr] at hle2
     have hp2:0<a3.pos:=by omega
     go_wp2_with fail
     refine (zij C gt cap base gp S3 a3 ⟨8,0,sNone,sNone,(q'.ex.length:Int)-1,(a3.ex.length:Int)-1⟩ _ HM3.out hp2).mono ?_
     cases hn4:zbm C ⟨8,0,sNone,sNone,(q'.ex.length:Int)-1,(a3.ex.length:Int)-1⟩ a3 with
     |error p=>
      rintro e w4 ⟨rfl,hb⟩
      have HB:Hid (Below base w w4):=(HH.out.back HS3.out).trans hb
      have HX:Hid (pE C .prod d q= .error p):=bdE HY3.out hn4
      unfold Pan
      go_wp2
      refine⟨rfl,?_⟩
      rw[HX.out]
      exact⟨rfl,HB.out⟩
     |ok a4=>
      rintro e w4 ⟨rfl,S4,m,s⟩
      have HM4:=hidI m
      have HS4:Hid (IS gp S w S4 w4):=HS3.out.trans s
      clear m s
      have HY4:=hidI (bdO HY3.out hn4)
      have HP:Hid (a4.pos=a3.pos):=by show _=_;rw[(zdg hn4).1]
      go_wp2
      go_roundg (gk-1)
      case rel=>exact⟨S4,a4,rfl,HY4.out,by have:=HP.out;omega,by have:=HP.out;omega,HM4.out,HS4.out⟩
      case measure=>omega
theorem zbsn (C:Cx) (gt cap base gp m d:Nat) (S:Sv) (q:PS) (w:World) (h:IM C gt cap base gp S q w) (hd:d≤20) (hS:SumI C gt cap base gp m) (hm:C.ts.length-q.pos≤m):
  Calls Tryz.prog 292 #[.pointer (some ⟨gp,0,none⟩),.int .i64 d] w (IOut C gt cap base gp (pE C .sum d q) id exI S w):=by
 have HH:=hidI h
 have HY:=hidI (zbau C d q)
 clear h
 go_enter Tryz.func292,Tryz.ntmps292
 go_wp2_with fail
 refine (zor C gt cap base gp m d S q _ HH.out hd hS hm).mono ?_
 cases hn1:pE C .prod d q with
 |error p=>
  rintro e w1 ⟨rfl,hb⟩
  have HB:Hid (Below base w w1):=(HH.out.back (IS.refl _ _ _)).trans hb
  have HX:Hid (pE C .sum d q= .error p):=bdE HY.out hn1
  unfold Pan
  go_wp2
  refine⟨rfl,?_⟩
  rw[HX.out]
  exact⟨rfl,HB.out⟩
 |ok a1=>
  rintro e w1 ⟨rfl,S1,m,s⟩
  have HM1:=hidI m
  have HS1:=hidI s
  clear m s
  have HY1:=hidI (bdO HY.out hn1)
  unfold exI
  have hle:=zen hn1
  go_wp2
  go_loopg [5] (C.ts.length+1) (fun k l wr=>∃(S':Sv) (q':PS),l=exI q'∧pE C .sum d q=pE C .sumT d q'∧C.ts.length-q'.pos<k∧C.ts.length-q'.pos≤m∧IM C gt cap base gp S' q' wr∧IS gp S w S' wr)
  case atStart=>exact⟨S1,a1,rfl,HY1.out,by omega,by omega,HM1.out,HS1.out⟩
  case round=>
   obtain⟨S',q',rfl,hy,hk,hm',m',s'⟩:=hrel
   have HYr:=hidI hy
   have HMr:Hid (IM C gt cap base gp S' q' wr):=m'
   have HSr:Hid (IS gp S w S' wr):=s'
   clear hy m' s'
   unfold exI
   have hfew:=HMr.out.mem.few
   cases hi:isT C q'.pos 4 zcy with
   |true=>
    have hlt:=zcm hi (by decide)
    have HZ:=hidI (HYr.out.trans (zbim hi))
    go_wp2_with fail
    refine (zek C gt cap base gp S' q' 4 zcy _ HMr.out).mono ?_
    rintro e w2 ⟨rfl,hb⟩
    rw[hi]
    have HM2:Hid (IM C gt cap base gp S' q' w2):=HMr.out.later hb
    have HS2:Hid (IS gp S w S' w2):=(HSr.out.trans (IS.below hb))
    clear hb
    obtain⟨c0,c1,c2,c3,c4,c5,c6,c7,c8,c9,cf⟩:=zbe HM2.out.cells
    go_wp2_with fail
    have HM3:Hid (IM C gt cap base gp S' (adv q') (w2.setCell ⟨gp,1,none⟩ (.int .i64 ((q'.pos:Int)+1)))):=HM2.out.adv hlt
    have HS3:Hid (IS gp S w S' (w2.setCell ⟨gp,1,none⟩ (.int .i64 ((q'.pos:Int)+1)))):=HS2.out.set _ _
    refine (zor C gt cap base gp m d S' (adv q') _ HM3.out hd hS (by rw[zr];omega)).mono ?_
    cases hn4:pE C .prod d (adv q') with
    |error p=>
     rintro e w4 ⟨rfl,hb⟩
     have HB:Hid (Below base w w4):=(HH.out.back HS3.out).trans hb
     have HX:Hid (pE C .sum d q= .error p):=bdE HZ.out hn4
     unfold Pan
     go_wp2
     refine⟨rfl,?_⟩
     rw[HX.out]
     exact⟨rfl,HB.out⟩
    |ok a4=>
     rintro e w4 ⟨rfl,S4,m,s⟩
     have HM4:=hidI m
     have HS4:Hid (IS gp S w S4 w4):=HS3.out.trans s
     clear m s
     have HY4:=hidI (bdO HZ.out hn4)
     unfold exI
     have hle2:=zen hn4
     rw[zr] at hle2
     have hp2:0<a4.pos:=by omega
     go_wp2_with fail
     refine (zij C gt cap base gp S4 a4 ⟨7,0,sNone,sNone,(q'.ex.length:Int)-1,(a4.ex.length:Int)-1⟩ _ HM4.out hp2).mono ?_
     cases hn5:zbm C ⟨7,0,sNone,sNone,(q'.ex.length:Int)-1,(a4.ex.length:Int)-1⟩ a4 with
     |error p=>
      rintro e w5 ⟨rfl,hb⟩
      have HB:Hid (Below base w w5):=(HH.out.back HS4.out).trans hb
      have HX:Hid (pE C .sum d q= .error p):=bdE HY4.out hn5
      unfold Pan
      go_wp2
      refine⟨rfl,?_⟩
      rw[HX.out]
      exact⟨rfl,HB.out⟩
     |ok a5=>
      rintro e w5 ⟨rfl,S5,m,s⟩
      have HM5:=hidI m
      have HS5:Hid (IS gp S w S5 w5):=HS4.out.trans s
      clear m s
      have HY5:=hidI (bdO HY4.out hn5)
      have HP:Hid (a5.pos=a4.pos):=by show _=_;rw[(zdg hn5).1]
      go_wp2
      go_roundg (gk-1)
      case rel=>exact⟨S5,a5,rfl,HY5.out,by have:=HP.out;omega,by have:=HP.out;omega,HM5.out,HS5.out⟩
      case measure=>omega
   |false=>
    cases hj:isT C q'.pos 4 zfo with
    |true=>
     have hlt:=zcm hj (by decide)
     have HZ:=hidI (HYr.out.trans (zblr hi hj))
     go_wp2_with fail
     refine (zek C gt cap base gp S' q' 4 zcy _ HMr.out).mono ?_
     rintro e w2 ⟨rfl,hb⟩
     rw[hi]
     have HM2:Hid (IM C gt cap base gp S' q' w2):=HMr.out.later hb
     have HS2:Hid (IS gp S w S' w2):=(HSr.out.trans (IS.below hb))
     clear hb
     go_wp2_with fail
     refine (zek C gt cap base gp S' q' 4 zfo _ HM2.out).mono ?_
     rintro e w3 ⟨rfl,hb⟩
     rw[hj]
     have HM3:Hid (IM C gt cap base gp S' q' w3):=HM2.out.later hb
     have HS3:Hid (IS gp S w S' w3):=(HS2.out.trans (IS.below hb))
     clear hb
     obtain⟨c0,c1,c2,c3,c4,c5,c6,c7,c8,c9,cf⟩:=zbe HM3.out.cells
     go_wp2_with fail
     have HM4:Hid (IM C gt cap base gp S' (adv q') (w3.setCell ⟨gp,1,none⟩ (.int .i64 ((q'.pos:Int)+1)))):=HM3.out.adv hlt
     have HS4:Hid (IS gp S w S' (w3.setCell ⟨gp,1,none⟩ (.int .i64 ((q'.pos:Int)+1)))):=HS3.out.set _ _
     refine (zor C gt cap base gp m d S' (adv q') _ HM4.out hd hS (by rw[zr];omega)).mono ?_
     cases hn5:pE C .prod d (adv q') with
     |error p=>
      rintro e w5 ⟨rfl,hb⟩
      have HB:Hid (Below base w w5):=(HH.out.back HS4.out).trans hb
      have HX:Hid (pE C .sum d q= .error p):=bdE HZ.out hn5
      unfold Pan
      go_wp2
      refine⟨rfl,?_⟩
      rw[HX.out]
      exact⟨rfl,HB.out⟩
     |ok a5=>
      rintro e w5 ⟨rfl,S5,m,s⟩
      have HM5:=hidI m
      have HS5:Hid (IS gp S w S5 w5):=HS4.out.trans s
      clear m s
      have HY5:=hidI (bdO HZ.out hn5)
      unfold exI
      have hle2:=zen hn5
      rw[zr] at hle2
      have hp2:0<a5.pos:=by omega
      go_wp2_with fail
      refine (zij C gt cap base gp S5 a5 ⟨6,0,sNone,sNone,(q'.ex.length:Int)-1,(a5.ex.length:Int)-1⟩ _ HM5.out hp2).mono ?_
      cases hn6:zbm C ⟨6,0,sNone,sNone,(q'.ex.length:Int)-1,(a5.ex.length:Int)-1⟩ a5 with
      |error p=>
       rintro e w6 ⟨rfl,hb⟩
       have HB:Hid (Below base w w6):=(HH.out.back HS5.out).trans hb
       have HX:Hid (pE C .sum d q= .error p):=bdE HY5.out hn6
       unfold Pan
       go_wp2
       refine⟨rfl,?_⟩
       rw[HX.out]
       exact⟨rfl,HB.out⟩
      |ok a6=>
       rintro e w6 ⟨rfl,S6,m,s⟩
       have HM6:=hidI m
       have HS6:Hid (IS gp S w S6 w6):=HS5.out.trans s
       clear m s
       have HY6:=hidI (bdO HY5.out hn6)
       have HP:Hid (a6.pos=a5.pos):=by show _=_;rw[(zdg hn6).1]
       go_wp2
       go_roundg (gk-1)
       case rel=>exact⟨S6,a6,rfl,HY6.out,by have:=HP.out;omega,by have:=HP.out;omega,HM6.out,HS6.out⟩
       case measure=>omega
    |false=>
     have HZ:=hidI (HYr.out.trans (zbsm hi hj))
     go_wp2_with fail
     refine (zek C gt cap base gp S' q' 4 zcy _ HMr.out).mono ?_
     rintro e w2 ⟨rfl,hb⟩
     rw[hi]
     have HM2:Hid (IM C gt cap base gp S' q' w2):=HMr.out.later hb
     have HS2:Hid (IS gp S w S' w2):=(HSr.out.trans (IS.below hb))
     clear hb
     go_wp2_with fail
     refine (zek C gt cap base gp S' q' 4 zfo _ HM2.out).mono ?_
     rintro e w3 ⟨rfl,hb⟩
     rw[hj]
     have HM3:Hid (IM C gt cap base gp S' q' w3):=HM2.out.later hb
     have HS3:Hid (IS gp S w S' w3):=(HS2.out.trans (IS.below hb))
     clear hb
     go_wp2
     go_ret
     rw[HZ.out]
     exact⟨rfl,S',HM3.out,HS3.out⟩
theorem zbph (C:Cx) (gt cap base gp m:Nat):SumI C gt cap base gp m:=by
 induction m with
 |zero=>intro d S q w hlt;omega
 |succ m ih=>intro d S q w hlt hd h;exact zbsn C gt cap base gp m d S q w h hd ih (by omega)
theorem zbso (C:Cx) (gt cap base gp d:Nat) (S:Sv) (q:PS) (w:World) (h:IM C gt cap base gp S q w) (hd:d≤20):
  Calls Tryz.prog 292 #[.pointer (some ⟨gp,0,none⟩),.int .i64 d] w (IOut C gt cap base gp (pE C .sum d q) id exI S w):=zbph C gt cap base gp _ d S q w (Nat.lt_succ_self _) hd h
theorem zyd {C:Cx} {s:ByteArray} (n:Nat): ∀{k:Nat} {q b:PS},zcu C s n k q= .ok b→b={q with pos:=q.pos+n}:=by
 induction n with
 |zero=>intro k q b h;cases h;rfl
 |succ n ih=>
  intro k q b h
  rw[zcu] at h
  obtain⟨a,h1,h2⟩:=zc h
  rw[ih h2,(zdf h1).1]
  show ({q with pos:=q.pos+1+n}:PS)=_
  congr 1
  omega
theorem zbsp (x:Sm): ∀u∈smL x,u.oneCell'=true:=by
 intro u hu
 simp[smL] at hu
 rcases hu with rfl|rfl|rfl<;>rfl
def stmtI (C:Cx) (k:Int) (n s:ByteArray) (q:PS):PR:=bd (pE C .sum 0 q) fun a=>bd (zcu C s s.size 0 a) fun b=>zbi C k n b
theorem zgg (C:Cx) (gt cap base gp:Nat) (S:Sv) (q:PS) (kd:Int) (n s:ByteArray) (w:World) (h:IM C gt cap base gp S q w) (hs:s.size≤100) (h0:0<s.size):
  Calls Tryz.prog 235 #[.pointer (some ⟨gp,0,none⟩),.int .i64 kd,.string n,.string s] w (IOut C gt cap base gp (stmtI C kd n s q) id (fun _=>.tuple #[]) S w):=by
 obtain⟨i0,hi,hz0,hz1,hz2⟩:=info_parts Tryz.infoStmt
 have HH:=hidI h
 have HY:=hidI (stmtI.eq_1 C kd n s q)
 clear h
 go_enter Tryz.func235,Tryz.ntmps235
 go_wp2_with fail
 refine (zbso C gt cap base gp 0 S q _ HH.out (by omega)).mono ?_
 cases hn1:pE C .sum 0 q with
 |error p=>
  rintro e w1 ⟨rfl,hb⟩
  have HB:Hid (Below base w w1):=(HH.out.back (IS.refl _ _ _)).trans hb
  have HX:Hid (stmtI C kd n s q= .error p):=bdE HY.out hn1
  unfold Pan
  go_wp2
  refine⟨rfl,?_⟩
  rw[HX.out]
  exact⟨rfl,HB.out⟩
 |ok a1=>
  rintro e w1 ⟨rfl,S1,m,s⟩
  have HM1:=hidI m
  have HS1:=hidI s
  clear m s
  have HY1:=hidI (bdO HY.out hn1)
  unfold exI
  go_wp2_with fail
  refine (zmo C gt cap base gp S1 a1 s _ HM1.out hs).mono ?_
  cases hn2:zcu C s s.size 0 a1 with
  |error p=>
   rintro e w2 ⟨rfl,hb⟩
   have HB:Hid (Below base w w2):=(HH.out.back HS1.out).trans hb
   have HX:Hid (stmtI C kd n s q= .error p):=bdE HY1.out hn2
   unfold Pan
   go_wp2
   refine⟨rfl,?_⟩
   rw[HX.out]
   exact⟨rfl,HB.out⟩
  |ok a2=>
   rintro e w2 ⟨rfl,S2,m,s⟩
   have HM2:=hidI m
   have HS2:Hid (IS gp S w S2 w2):=HS1.out.trans s
   clear m s
   have HY2:=hidI (bdO HY1.out hn2)
   have hb2:=zyd _ hn2
   have hpos:0<a2.pos:=by rw[hb2];show 0<a1.pos+s.size;omega
   have HE:Hid (a2.ex=a1.ex):=by show _=_;rw[hb2]
   clear hb2
   have hin:=HM2.out.mem.inv.st
   obtain⟨c0,c1,c2,c3,c4,c5,c6,c7,c8,c9,cf⟩:=zbe HM2.out.cells
   go_wp2_with fail
   by_cases hn:a2.st.length<80
   ·have HZ:=hidI (HY2.out.trans (show zbi C kd n a2=_ from if_neg (by omega)))
    refine (zjv gp a2.st.length 80 _ (by omega)).mono ?_
    rintro e w' ⟨rfl,hw⟩
    rw[hw]
    clear hw w'
    have HN:Hid (some gp≠S2.st.blk):=fun e=>HM2.out.free (.inr (.inr (.inr (.inl e.symm))))
    have hlt:=HM2.out.lt
    have hown:=fun o1=>(HM2.out.mem.own.st.alloc o1)
    have hsz:=fun o1=>(HM2.out.alloc o1).mem.base
    have hgl:=fun o1=>(HM2.out.alloc o1).lt
    have hcl:=fun o1=>(HM2.out.alloc o1).cells
    go_wp2_with (at_builtin;refine zhp _ rfl _ _ 56 rfl base 61 i0 _ 3 32 Tryz.underlying56 hi hz0 hz1 hz2 rfl (by decide) (by decide) S2.st a2.st.length _ (by rfl) (hown _) w2.heap.size (smL ⟨kd,n,(a1.ex.length:Int)-1⟩) (by rfl) (by exact heap_alloc_new w2 _) rfl (zbsp _) (by omega) (hsz _) ?_;intro r' wz hr hgr hat;have g2:=(hgr.block gp (hgl _) HN.out).trans (hcl _);obtain⟨d0,d1,d2,d3,d4,d5,d6,d7,d8,d9,df⟩:=zbe g2;have HR:Hid (OwnR wz base 61 3 r' (a2.st.length+1) _):=hr;have HGR:Hid (World.grownBy _ wz _):=hgr;have HAT:Hid (_∨_):=hat;clear hr hgr hat g2 c0 c1 c2 c3 c4 c5 c6 c7 c8 c9 cf hown hsz hgl hcl)
    go_wp2
    go_end0
    obtain⟨m',s'⟩:=HM2.out.grow_st ((Below.refl _ _).alloc (Nat.le_refl _) _) HGR.out HR.out HAT.out hn
    rw[HZ.out]
    rw[←HE.out] at m'
    exact⟨rfl,_,m',HS2.out.trans s'⟩
   ·have HZ:Hid (stmtI C kd n s q= .error (here C (a2.pos-1))):=HY2.out.trans (if_pos (by omega))
    refine (zng C gt cap base gp S2 a2 a2.st.length 80 _ HM2.out (by omega) hpos).mono ?_
    rintro e wz ⟨rfl,hb⟩
    have HB:Hid (Below base w wz):=(HH.out.back HS2.out).trans (hb.mono HM2.out.mem.base)
    have HX:Hid (stmtI C kd n s q= .error (here C (a2.pos-1))):=HZ.out
    unfold Pan
    go_wp2
    refine⟨rfl,?_⟩
    rw[HX.out]
    exact⟨rfl,HB.out⟩
def letJ (C:Cx) (k:Int) (q:PS):PR:=bd (zk C false q) fun a=>bd (tokP C 4 cEq a.1) fun b=>stmtI C k a.2 cSemi b
def fnI (C:Cx) (q:PS):PR:=bd (zk C false q) fun a=>bd (zcu C cCall cCall.size 0 a.1) fun b=>bd (tokP C 1 ziz b) fun c=>stmtI C 2 a.2 cSemiRight c
def printI (C:Cx) (q:PS):PR:=bd (tokP C 4 cOpen q) fun a=>stmtI C 4 sNone cShutSemi a
theorem zos (C:Cx) (gt cap base gp:Nat) (S:Sv) (q:PS) (w:World) (h:IM C gt cap base gp S q w):
  Calls Tryz.prog 225 #[.pointer (some ⟨gp,0,none⟩)] w (IOut C gt cap base gp (letJ C 1 q) id (fun _=>.tuple #[]) S w):=by
 have HH:=hidI h
 have HY:=hidI (letJ.eq_1 C 1 q)
 clear h
 go_enter Tryz.func225,Tryz.ntmps225
 go_wp2_with fail
 refine (zeo C gt cap base gp S q _ HH.out).mono ?_
 cases hn1:zk C false q with
 |error p=>
  rintro e w1 ⟨rfl,hb⟩
  have HB:Hid (Below base w w1):=(HH.out.back (IS.refl _ _ _)).trans hb
  have HX:Hid (letJ C 1 q= .error p):=bdE HY.out hn1
  unfold Pan
  go_wp2
  refine⟨rfl,?_⟩
  rw[HX.out]
  exact⟨rfl,HB.out⟩
 |ok a1=>
  rintro e w1 ⟨rfl,S1,m,s⟩
  have HM1:=hidI m
  have HS1:=hidI s
  clear m s
  have HY1:=hidI (bdO HY.out hn1)
  go_wp2_with fail
  refine (zfi C gt cap base gp S1 (a1.1) 61 _ HM1.out).mono ?_
  cases hn2:tokP C 4 cEq (a1.1) with
  |error p=>
   rintro e w2 ⟨rfl,hb⟩
   have HB:Hid (Below base w w2):=(HH.out.back HS1.out).trans hb
   have HX:Hid (letJ C 1 q= .error p):=bdE HY1.out hn2
   unfold Pan
   go_wp2
   refine⟨rfl,?_⟩
   rw[HX.out]
   exact⟨rfl,HB.out⟩
  |ok a2=>
   rintro e w2 ⟨rfl,S2,m,s⟩
   have HM2:=hidI m
   have HS2:Hid (IS gp S w S2 w2):=HS1.out.trans s
   clear m s
   have HY2:=hidI (bdO HY1.out hn2)
   go_wp2_with fail
   refine (zgg C gt cap base gp S2 a2 1 a1.2 cSemi _ HM2.out (by decide) (by decide)).mono ?_
   cases hn3:stmtI C 1 a1.2 cSemi a2 with
   |error p=>
    rintro e w3 ⟨rfl,hb⟩
    have HB:Hid (Below base w w3):=(HH.out.back HS2.out).trans hb
    have HX:Hid (letJ C 1 q= .error p):=HY2.out.trans hn3
    unfold Pan
    go_wp2
    refine⟨rfl,?_⟩
    rw[HX.out]
    exact⟨rfl,HB.out⟩
   |ok a3=>
    rintro e w3 ⟨rfl,S3,m,s⟩
    have HM3:=hidI m
    have HS3:Hid (IS gp S w S3 w3):=HS2.out.trans s
    clear m s
    have HY3:=hidI (HY2.out.trans hn3)
    go_wp2
    go_end0
    rw[HY3.out]
    exact⟨rfl,S3,HM3.out,HS3.out⟩
theorem zto (C:Cx) (gt cap base gp:Nat) (S:Sv) (q:PS) (w:World) (h:IM C gt cap base gp S q w):
  Calls Tryz.prog 146 #[.pointer (some ⟨gp,0,none⟩)] w (IOut C gt cap base gp (letJ C 3 q) id (fun _=>.tuple #[]) S w):=by
 have HH:=hidI h
 have HY:=hidI (letJ.eq_1 C 3 q)
 clear h
 go_enter Tryz.func146,Tryz.ntmps146
 go_wp2_with fail
 refine (zeo C gt cap base gp S q _ HH.out).mono ?_
 cases hn1:zk C false q with
 |error p=>
  rintro e w1 ⟨rfl,hb⟩
  have HB:Hid (Below base w w1):=(HH.out.back (IS.refl _ _ _)).trans hb
  have HX:Hid (letJ C 3 q= .error p):=bdE HY.out hn1
  unfold Pan
  go_wp2
  refine⟨rfl,?_⟩
  rw[HX.out]
  exact⟨rfl,HB.out⟩
 |ok a1=>
  rintro e w1 ⟨rfl,S1,m,s⟩
  have HM1:=hidI m
  have HS1:=hidI s
  clear m s
  have HY1:=hidI (bdO HY.out hn1)
  go_wp2_with fail
  refine (zfi C gt cap base gp S1 (a1.1) 61 _ HM1.out).mono ?_
  cases hn2:tokP C 4 cEq (a1.1) with
  |error p=>
   rintro e w2 ⟨rfl,hb⟩
   have HB:Hid (Below base w w2):=(HH.out.back HS1.out).trans hb
   have HX:Hid (letJ C 3 q= .error p):=bdE HY1.out hn2
   unfold Pan
   go_wp2
   refine⟨rfl,?_⟩
   rw[HX.out]
   exact⟨rfl,HB.out⟩
  |ok a2=>
   rintro e w2 ⟨rfl,S2,m,s⟩
   have HM2:=hidI m
   have HS2:Hid (IS gp S w S2 w2):=HS1.out.trans s
   clear m s
   have HY2:=hidI (bdO HY1.out hn2)
   go_wp2_with fail
   refine (zgg C gt cap base gp S2 a2 3 a1.2 cSemi _ HM2.out (by decide) (by decide)).mono ?_
   cases hn3:stmtI C 3 a1.2 cSemi a2 with
   |error p=>
    rintro e w3 ⟨rfl,hb⟩
    have HB:Hid (Below base w w3):=(HH.out.back HS2.out).trans hb
    have HX:Hid (letJ C 3 q= .error p):=HY2.out.trans hn3
    unfold Pan
    go_wp2
    refine⟨rfl,?_⟩
    rw[HX.out]
    exact⟨rfl,HB.out⟩
   |ok a3=>
    rintro e w3 ⟨rfl,S3,m,s⟩
    have HM3:=hidI m
    have HS3:Hid (IS gp S w S3 w3):=HS2.out.trans s
    clear m s
    have HY3:=hidI (HY2.out.trans hn3)
    go_wp2
    go_end0
    rw[HY3.out]
    exact⟨rfl,S3,HM3.out,HS3.out⟩
theorem zjw (C:Cx) (gt cap base gp:Nat) (S:Sv) (q:PS) (w:World) (h:IM C gt cap base gp S q w):
  Calls Tryz.prog 226 #[.pointer (some ⟨gp,0,none⟩)] w (IOut C gt cap base gp (fnI C q) id (fun _=>.tuple #[]) S w):=by
 have HH:=hidI h
 have HY:=hidI (fnI.eq_1 C q)
 clear h
 go_enter Tryz.func226,Tryz.ntmps226
 go_wp2_with fail
 refine (zeo C gt cap base gp S q _ HH.out).mono ?_
 cases hn1:zk C false q with
 |error p=>
  rintro e w1 ⟨rfl,hb⟩
  have HB:Hid (Below base w w1):=(HH.out.back (IS.refl _ _ _)).trans hb
  have HX:Hid (fnI C q= .error p):=bdE HY.out hn1
  unfold Pan
  go_wp2
  refine⟨rfl,?_⟩
  rw[HX.out]
  exact⟨rfl,HB.out⟩
 |ok a1=>
  rintro e w1 ⟨rfl,S1,m,s⟩
  have HM1:=hidI m
  have HS1:=hidI s
  clear m s
  have HY1:=hidI (bdO HY.out hn1)
  go_wp2_with fail
  refine (zmo C gt cap base gp S1 (a1.1) cCall _ HM1.out (by decide)).mono ?_
  cases hn2:zcu C cCall cCall.size 0 (a1.1) with
  |error p=>
   rintro e w2 ⟨rfl,hb⟩
   have HB:Hid (Below base w w2):=(HH.out.back HS1.out).trans hb
   have HX:Hid (fnI C q= .error p):=bdE HY1.out hn2
   unfold Pan
   go_wp2
   refine⟨rfl,?_⟩
   rw[HX.out]
   exact⟨rfl,HB.out⟩
  |ok a2=>
   rintro e w2 ⟨rfl,S2,m,s⟩
   have HM2:=hidI m
   have HS2:Hid (IS gp S w S2 w2):=HS1.out.trans s
   clear m s
   have HY2:=hidI (bdO HY1.out hn2)
   go_wp2_with fail
   refine (zhr C gt cap base gp S2 a2 ziz _ HM2.out).mono ?_
   cases hn3:tokP C 1 ziz a2 with
   |error p=>
    rintro e w3 ⟨rfl,hb⟩
    have HB:Hid (Below base w w3):=(HH.out.back HS2.out).trans hb
    have HX:Hid (fnI C q= .error p):=bdE HY2.out hn3
    unfold Pan
    go_wp2
    refine⟨rfl,?_⟩
    rw[HX.out]
    exact⟨rfl,HB.out⟩
   |ok a3=>
    rintro e w3 ⟨rfl,S3,m,s⟩
    have HM3:=hidI m
    have HS3:Hid (IS gp S w S3 w3):=HS2.out.trans s
    clear m s
    have HY3:=hidI (bdO HY2.out hn3)
    go_wp2_with fail
    refine (zgg C gt cap base gp S3 a3 2 a1.2 cSemiRight _ HM3.out (by decide) (by decide)).mono ?_
    cases hn4:stmtI C 2 a1.2 cSemiRight a3 with
    |error p=>
     rintro e w4 ⟨rfl,hb⟩
     have HB:Hid (Below base w w4):=(HH.out.back HS3.out).trans hb
     have HX:Hid (fnI C q= .error p):=HY3.out.trans hn4
     unfold Pan
     go_wp2
     refine⟨rfl,?_⟩
     rw[HX.out]
     exact⟨rfl,HB.out⟩
    |ok a4=>
     rintro e w4 ⟨rfl,S4,m,s⟩
     have HM4:=hidI m
     have HS4:Hid (IS gp S w S4 w4):=HS3.out.trans s
     clear m s
     have HY4:=hidI (HY3.out.trans hn4)
     go_wp2
     go_end0
     rw[HY4.out]
     exact⟨rfl,S4,HM4.out,HS4.out⟩
theorem zrg (C:Cx) (gt cap base gp:Nat) (S:Sv) (q:PS) (w:World) (h:IM C gt cap base gp S q w):
  Calls Tryz.prog 227 #[.pointer (some ⟨gp,0,none⟩)] w (IOut C gt cap base gp (printI C q) id (fun _=>.tuple #[]) S w):=by
 have HH:=hidI h
 have HY:=hidI (printI.eq_1 C q)
 clear h
 go_enter Tryz.func227,Tryz.ntmps227
 go_wp2_with fail
 refine (zfi C gt cap base gp S q 40 _ HH.out).mono ?_
 cases hn1:tokP C 4 cOpen q with
 |error p=>
  rintro e w1 ⟨rfl,hb⟩
  have HB:Hid (Below base w w1):=(HH.out.back (IS.refl _ _ _)).trans hb
  have HX:Hid (printI C q= .error p):=bdE HY.out hn1
  unfold Pan
  go_wp2
  refine⟨rfl,?_⟩
  rw[HX.out]
  exact⟨rfl,HB.out⟩
 |ok a1=>
  rintro e w1 ⟨rfl,S1,m,s⟩
  have HM1:=hidI m
  have HS1:=hidI s
  clear m s
  have HY1:=hidI (bdO HY.out hn1)
  go_wp2_with fail
  refine (zgg C gt cap base gp S1 a1 4 sNone cShutSemi _ HM1.out (by decide) (by decide)).mono ?_
  cases hn2:stmtI C 4 sNone cShutSemi a1 with
  |error p=>
   rintro e w2 ⟨rfl,hb⟩
   have HB:Hid (Below base w w2):=(HH.out.back HS1.out).trans hb
   have HX:Hid (printI C q= .error p):=HY1.out.trans hn2
   unfold Pan
   go_wp2
   refine⟨rfl,?_⟩
   rw[HX.out]
   exact⟨rfl,HB.out⟩
  |ok a2=>
   rintro e w2 ⟨rfl,S2,m,s⟩
   have HM2:=hidI m
   have HS2:Hid (IS gp S w S2 w2):=HS1.out.trans s
   clear m s
   have HY2:=hidI (HY1.out.trans hn2)
   go_wp2
   go_end0
   rw[HY2.out]
   exact⟨rfl,S2,HM2.out,HS2.out⟩
theorem zrh (C:Cx) (gt cap base gp:Nat) (S:Sv) (q:PS) (w:World) (h:IM C gt cap base gp S q w):
  Calls Tryz.prog 228 #[.pointer (some ⟨gp,0,none⟩)] w (IOut C gt cap base gp (stmtI C 5 sNone cSemi q) id (fun _=>.tuple #[]) S w):=by
 have HH:=hidI h
 clear h
 go_enter Tryz.func228,Tryz.ntmps228
 go_wp2_with fail
 refine (zgg C gt cap base gp S q 5 sNone cSemi _ HH.out (by decide) (by decide)).mono ?_
 cases hn:stmtI C 5 sNone cSemi q with
 |error p=>
  rintro e w1 ⟨rfl,hb⟩
  unfold Pan
  go_wp2
  refine⟨rfl,?_⟩
  rw[hn]
  exact⟨rfl,hb⟩
 |ok a=>
  rintro e w1 ⟨rfl,S1,m,s⟩
  have HM:=hidI m
  have HS:=hidI s
  clear m s
  go_wp2
  go_end0
  rw[hn]
  exact⟨rfl,S1,HM.out,HS.out⟩
theorem zbbl (C:Cx) (gt cap base gp:Nat) (S:Sv) (q:PS) (w:World) (h:IM C gt cap base gp S q w):
  Calls Tryz.prog 229 #[.pointer (some ⟨gp,0,none⟩)] w (IOut C gt cap base gp (stmtI C 6 sNone cSemi q) id (fun _=>.tuple #[]) S w):=by
 have HH:=hidI h
 clear h
 go_enter Tryz.func229,Tryz.ntmps229
 go_wp2_with fail
 refine (zgg C gt cap base gp S q 6 sNone cSemi _ HH.out (by decide) (by decide)).mono ?_
 cases hn:stmtI C 6 sNone cSemi q with
 |error p=>
  rintro e w1 ⟨rfl,hb⟩
  unfold Pan
  go_wp2
  refine⟨rfl,?_⟩
  rw[hn]
  exact⟨rfl,hb⟩
 |ok a=>
  rintro e w1 ⟨rfl,S1,m,s⟩
  have HM:=hidI m
  have HS:=hidI s
  clear m s
  go_wp2
  go_end0
  rw[hn]
  exact⟨rfl,S1,HM.out,HS.out⟩
def zfd (C:Cx) (i:Nat):ByteArray:=if (zd C i).kind==1 then (zd C i).text else sNone
theorem zrr (C:Cx) (gt cap base gp:Nat) (S:Sv) (q:PS) (w:World) (h:IM C gt cap base gp S q w):
  Calls Tryz.prog 145 #[.pointer (some ⟨gp,0,none⟩)] w fun e w'=>e= .returned (.string (zfd C q.pos))∧Below w.heap.size w w':=by
 have HH:=hidI h
 clear h
 cases hk:((zd C q.pos).kind==1) with
 |true=>
  have HV:Hid (zfd C q.pos=(zd C q.pos).text):=by show _=_;rw[zfd,hk];rfl
  go_enter Tryz.func145,Tryz.ntmps145
  go_wp2_with fail
  refine (zdl C gt cap base gp S q _ HH.out).mono ?_
  rintro e w1 ⟨rfl,hb⟩
  unfold tkV
  go_wp2
  go_ret
  rw[HV.out]
  exact⟨rfl,hb.alloc hb.size _⟩
 |false=>
  have HV:Hid (zfd C q.pos=sNone):=by show _=_;rw[zfd,hk];rfl
  go_enter Tryz.func145,Tryz.ntmps145
  go_wp2_with fail
  refine (zdl C gt cap base gp S q _ HH.out).mono ?_
  rintro e w1 ⟨rfl,hb⟩
  unfold tkV
  go_wp2
  go_ret
  rw[HV.out]
  exact⟨rfl,hb.alloc hb.size _⟩
theorem OwnR.stmtName {w:World} {base:Nat} {r:Rw} {l:List Sm} {x:Sm} (h:OwnR w base 61 3 r (l++[x]).length ((l++[x]).flatMap smL)): ∃g,r.a=some ⟨g,0,none⟩∧w.cell? ⟨g,l.length*3+1,none⟩=some (.string x.name):=by
 rcases h.2 with ⟨_,hn⟩|⟨g,cap,cur,hv,_⟩
 ·simp at hn
 ·simp only[Value.slice.injEq] at hv
  have h':=h
  unfold OwnR at h'
  rw[hv.1,hv.2.2] at h'
  refine⟨g,hv.1,?_⟩
  rw[World.ownsRow.cellAt h' _ (by simp;omega)]
  have hl: ∀l:List Sm,(l.flatMap smL).length=l.length*3:=by
   intro l
   induction l with
   |nil=>rfl
   |cons y l ih=>simp[List.flatMap_cons,smL,ih] at ih ⊢;omega
  rw[List.flatMap_append,List.getElem?_append_right (by rw[hl];omega),hl]
  simp[smL]
theorem zxa (C:Cx) (gt cap base gp:Nat) (S:Sv) (q:PS) (l:List Sm) (x:Sm) (w:World) (h:IM C gt cap base gp S q w) (hx:q.st=l++[x]) (hsz:x.name.size≤281474976710656) (hp:0<q.pos):
  Calls Tryz.prog 288 #[.pointer (some ⟨gp,0,none⟩)] w (IOut C gt cap base gp (zo C ⟨1,x.name,x.name,sNone⟩ q) id (fun _=>.tuple #[]) S w):=by
 have HH:=hidI h
 obtain⟨_,_,_,_,_,_,_,c7,_,_,_⟩:=zbe h.cells
 have ho:=h.mem.own.st
 rw[hx] at ho c7
 obtain⟨g,hg,hc⟩:=ho.stmtName
 have hin:=h.mem.inv.st
 rw[hx] at hin
 have hlen:(l++[x]).length=l.length+1:=by simp
 rw[hlen] at c7 hin
 rw[hg] at c7
 have C7:=hidI c7
 have CN:=hidI hc
 have e1:((l.length+1:Nat):Int)-1=(l.length:Int):=by omega
 have e2:(l.length:Int)+1-1=(l.length:Int):=by omega
 have hwr:IntKind.i64.wrap (l.length:Int)=(l.length:Int):=IntWalk.i64_in _ ⟨by omega,by omega⟩
 have hlt1:(l.length:Int)<((l.length+1:Nat):Int):=by omega
 have hlt2:(l.length:Int)<(l.length:Int)+1:=by omega
 have cC: ∀d os,Calls Tryz.prog 56 #[.string x.name] (grow (redrawn w d) os) fun e w''=>e= .returned (.string x.name)∧∃p:Regrown,w''=grow (redrawn w p.d) p.os:=fun d os=>Calls.regrown_of (zvp _ _ hsz)
 clear h c7 hc ho hg hx
 go_enter Tryz.func288,Tryz.ntmps288
 go_wp2_with fail
 have k7:=cell_regrown C7.out
 have kN:=cell_regrown CN.out
 refine wp_region_quiet_below (by kernel_rfl) (by kernel_rfl) ?_
 repeat (go_big_quiet_step (exact cC _ _))
 refine wpQuiet_nil ?_
 intro w1 hw'
 obtain⟨⟨dq,osq⟩,hw''⟩:=hw'
 have HB1:Hid (Below w.heap.size w w1):=by show Below _ _ _;rw[hw''];exact below_regrown _ _ _
 clear hw'' k7 kN cC C7 CN
 have HM1:Hid (IM C gt cap base gp S q w1):=HH.out.later HB1.out
 go_wp2_with fail
 refine (zkw C gt cap base gp S q ⟨1,x.name,x.name,sNone⟩ _ HM1.out hp).mono ?_
 cases hn:zo C ⟨1,x.name,x.name,sNone⟩ q with
 |error p=>
  rintro e w2 ⟨rfl,hb⟩
  have HB:Hid (Below base w w2):=(HB1.out.mono HH.out.mem.base).trans hb
  unfold Pan
  go_wp2
  refine⟨rfl,?_⟩
  rw[hn]
  exact⟨rfl,HB.out⟩
 |ok a=>
  rintro e w2 ⟨rfl,S1,m,s⟩
  have HM:=hidI m
  have HS:Hid (IS gp S w S1 w2):=(IS.below HB1.out).trans s
  clear m s
  go_wp2
  go_end0
  rw[hn]
  exact⟨rfl,S1,HM.out,HS.out⟩
/-- A row that is none of the parser's. -/
def Fr (e:TypeId) (size:Nat) (w:World) (b:Nat) (r:Rw) (n:Nat) (xs:List Value) (S:Sv):Prop:=OwnR w b e size r n xs∧∀k,r.blk=some k→¬S.has k
theorem Fr.ngp {C:Cx} {gt cap base gp size b n:Nat} {S:Sv} {q:PS} {w:World} {e:TypeId} {r:Rw} {xs:List Value} (f:Fr e size w b r n xs S) (h:IM C gt cap base gp S q w) (he:e≠120) {k:Nat} (hk:r.blk=some k):k≠gp:=by
 rintro rfl
 obtain⟨_,_,c,g⟩:=f.1.typed hk
 rw[h.cells] at g
 simp only[Option.some.injEq,Obj.cells.injEq] at g
 exact he g.2.1.symm
theorem Fr.ngt {C:Cx} {gt cap base gp size b n:Nat} {S:Sv} {q:PS} {w:World} {e:TypeId} {r:Rw} {xs:List Value} (f:Fr e size w b r n xs S) (h:IM C gt cap base gp S q w) (he:e≠80) {k:Nat} (hk:r.blk=some k):k≠gt:=by
 rintro rfl
 obtain⟨_,_,c,g⟩:=f.1.typed hk
 obtain⟨c',g'⟩:=zmu h.mem.tok
 rw[g'] at g
 simp only[Option.some.injEq,Obj.cells.injEq] at g
 exact he g.2.1.symm
theorem Fr.step {C:Cx} {gt cap base gp size b n:Nat} {S S':Sv} {q:PS} {w w':World} {e:TypeId} {r:Rw} {xs:List Value} (f:Fr e size w b r n xs S) (h:IM C gt cap base gp S q w) (he:e≠120) (s:IS gp S w S' w'):Fr e size w' b r n xs S':=by
 refine⟨f.1.keep fun k g=>s.block k (f.1.typed g).2.1 (f.2 k g) (f.ngp h he g),fun k g hs=>?_⟩
 rcases s.sub k hs with g'|g'
 ·exact f.2 k g g'
 ·have:=(f.1.typed g).2.1
  omega
theorem Fr.low {size b b' n:Nat} {S:Sv} {w:World} {e:TypeId} {r:Rw} {xs:List Value} (f:Fr e size w b r n xs S) (hb:b'≤b):Fr e size w b' r n xs S:=⟨f.1.low hb,f.2⟩
theorem Fr.later {size b n:Nat} {S:Sv} {w w':World} {e:TypeId} {r:Rw} {xs:List Value} (f:Fr e size w b r n xs S) (hb:Below w.heap.size w w'):Fr e size w' b r n xs S:=⟨f.1.keep fun k g=>hb.block k (f.1.typed g).2.1,f.2⟩
/-- What is written elsewhere leaves the parser as it is. -/
theorem IM.aside {C:Cx} {gt cap base gp:Nat} {S:Sv} {q:PS} {W w2:World} {b:Option Nat} (h:IM C gt cap base gp S q W) (hg:W.grownBy w2 b) (hb: ∀k,b=some k→¬S.has k∧k≠gp∧k≠gt):IM C gt cap base gp S q w2:=by
 refine⟨⟨h.mem.own.keep fun k g=>hg.block k (h.mem.own.has g).2 fun e=>(hb k e.symm).1 g,h.mem.inv,zdb h.mem.tok (hg.block gt (zbr h.mem.tok).1 fun e=>(hb gt e.symm).2.2 rfl),h.mem.few,Nat.le_trans h.mem.base hg.size⟩,(hg.block gp h.lt fun e=>(hb gp e.symm).2.1 rfl).trans h.cells,h.ge⟩
theorem IS.aside {gp:Nat} {S S1:Sv} {w W w2:World} {b:Option Nat} (s:IS gp S w S1 W) (hg:W.grownBy w2 b) (hb: ∀k,b=some k→w.heap.size≤k):IS gp S w S1 w2:=
 ⟨hg.os.trans s.os,hg.tape.trans s.tape,hg.output.trans s.output,Nat.le_trans s.size hg.size,fun k hk hn hg'=>(hg.block k (Nat.lt_of_lt_of_le hk s.size) fun e=>by have:=hb k e.symm;omega).trans (s.block k hk hn hg'),s.sub⟩
/-- A row beside the parser grows. -/
theorem Fr.grown {size b n:Nat} {S:Sv} {W w2:World} {e:TypeId} {r r':Rw} {xs ys:List Value} {C:Cx} {gt cap base gp:Nat} {q:PS} (f:Fr e size W b r n xs S) (h:IM C gt cap base gp S q W) (hr:OwnR w2 b e size r' (n+1) ys) (hat:r'.blk=r.blk∨r'.blk=some W.heap.size):Fr e size w2 b r' (n+1) ys S:=by
 refine⟨hr,fun k g hs=>?_⟩
 rcases hat with e'|e'
 ·exact f.2 k (e'.symm.trans g) hs
 ·have h1:W.heap.size=k:=Option.some.inj (e'.symm.trans g)
  have:=(h.mem.own.has hs).2
  omega
theorem flat_len {α:Type} (f:α→List Value) (m:Nat) (hf: ∀x,(f x).length=m) (l:List α):(l.flatMap f).length=l.length*m:=by
 induction l with
 |nil=>simp
 |cons y l ih=>rw[List.flatMap_cons,List.length_append,hf,ih,List.length_cons,Nat.succ_mul];omega
theorem zbpi {α:Type} (f:α→List Value) (m:Nat) (hf: ∀x,(f x).length=m): ∀(l:List α) (j i:Nat) (x:α),l[j]? =some x→i<m→(l.flatMap f)[j*m+i]? =(f x)[i]?:=by
 intro l
 induction l with
 |nil=>intro j i x h;simp at h
 |cons y l ih=>
  intro j i x h hi
  rw[List.flatMap_cons]
  match j with
  |0=>
   simp only[List.getElem?_cons_zero,Option.some.injEq] at h
   subst h
   rw[Nat.zero_mul,Nat.zero_add,List.getElem?_append_left (by rw[hf];exact hi)]
  |j+1=>
   simp only[List.getElem?_cons_succ] at h
   rw[List.getElem?_append_right (by rw[hf,Nat.succ_mul];omega),hf,←ih j i x h hi]
   congr 1
   rw[Nat.succ_mul]
   omega
theorem OwnR.elem {α:Type} {f:α→List Value} {m:Nat} (hf: ∀x,(f x).length=m) {w:World} {base:Nat} {e:TypeId} {r:Rw} {l:List α} (h:OwnR w base e m r l.length (l.flatMap f)) {j:Nat} {x:α} (hj:l[j]? =some x): ∃g,r.a=some ⟨g,0,none⟩∧∀i,i<m→w.cell? ⟨g,j*m+i,none⟩=(f x)[i]?:=by
 have hlt:j<l.length:=(List.getElem?_eq_some_iff.1 hj).1
 rcases h.2 with ⟨_,hn⟩|⟨g,cap,cur,hv,_⟩
 ·omega
 ·simp only[Value.slice.injEq] at hv
  have h':=h
  unfold OwnR at h'
  rw[hv.1,hv.2.2] at h'
  refine⟨g,hv.1,fun i hi=>?_⟩
  have hb:j*m+i<l.length*m:=by
   have:=Nat.mul_le_mul_right m hlt
   rw[Nat.succ_mul] at this
   omega
  rw[World.ownsRow.cellAt h' _ hb]
  exact zbpi f m hf l j i x hj hi
structure OwnMd (w:World) (base:Nat) (S:Sv) (m:Md):Prop where
 rq:OwnR w base 9 1 S.rq m.rq.length (m.rq.map .string)
 im:OwnR w base 141 3 S.im m.im.length (m.im.flatMap imL)
 ep:OwnR w base 143 4 S.ep m.ep.length (m.ep.flatMap epL)
 st:OwnR w base 61 3 S.st m.st.length (m.st.flatMap smL)
 ex:OwnR w base 145 6 S.ex m.ex.length (m.ex.flatMap exL)
theorem OwnMod.md {w:World} {base:Nat} {S:Sv} {q:PS} (h:OwnMod w base S q):OwnMd w base S (mdOf q):=⟨h.rq,h.im,h.ep,h.st,h.ex⟩
theorem OwnMd.later {w w':World} {base:Nat} {S:Sv} {m:Md} (h:OwnMd w base S m) (hb:Below w.heap.size w w'):OwnMd w' base S m:=
 ⟨h.rq.keep fun k g=>hb.block k (h.rq.typed g).2.1,h.im.keep fun k g=>hb.block k (h.im.typed g).2.1,h.ep.keep fun k g=>hb.block k (h.ep.typed g).2.1,h.st.keep fun k g=>hb.block k (h.st.typed g).2.1,h.ex.keep fun k g=>hb.block k (h.ex.typed g).2.1⟩
theorem OwnMd.alloc {w:World} {base:Nat} {S:Sv} {m:Md} (h:OwnMd w base S m) (o:Obj):OwnMd (w.alloc o) base S m:=h.later ((Below.refl _ _).alloc (Nat.le_refl _) _)
def modD (S:Sv) (m:Md):Value:=.agg #[.slice S.rq.a m.rq.length S.rq.cap,.slice S.im.a m.im.length S.im.cap,.slice S.ep.a m.ep.length S.ep.cap,.slice S.st.a m.st.length S.st.cap,.slice S.ex.a m.ex.length S.ex.cap]
/-- The six cells of an expression of the row. -/
theorem OwnMd.expr {w:World} {base:Nat} {S:Sv} {m:Md} (h:OwnMd w base S m) {i:Nat} (hi:i<m.ex.length): ∃g,S.ex.a=some ⟨g,0,none⟩∧g<w.heap.size∧w.cell? ⟨g,i*6,none⟩=some (.int .i64 (m.ex.getD i exNo).kind)∧w.cell? ⟨g,i*6+1,none⟩=some (.int .i64 (m.ex.getD i exNo).num)∧w.cell? ⟨g,i*6+2,none⟩=some (.string (m.ex.getD i exNo).name)∧w.cell? ⟨g,i*6+3,none⟩=some (.string (m.ex.getD i exNo).field)∧w.cell? ⟨g,i*6+4,none⟩=some (.int .i64 (m.ex.getD i exNo).l)∧w.cell? ⟨g,i*6+5,none⟩=some (.int .i64 (m.ex.getD i exNo).r):=by
 obtain⟨g,hg,hc⟩:=OwnR.elem (f:=exL) (m:=6) (fun _=>rfl) h.ex (List.getElem?_eq_getElem hi)
 rw[zpb hi]
 exact⟨g,hg,(h.ex.typed (by rw[Rw.blk,hg];rfl)).2.1,hc 0 (by omega),hc 1 (by omega),hc 2 (by omega),hc 3 (by omega),hc 4 (by omega),hc 5 (by omega)⟩
end Go.Proofs.YtlnohpdiiileeaaGreat
