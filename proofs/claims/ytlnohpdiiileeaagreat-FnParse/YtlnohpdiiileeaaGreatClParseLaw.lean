/-
 What laws.FnParse answers of a code that is not too long: the walk.
-/
import Derived.Test.YtlnohpdiiileeaaGreatClDrawProgAToPrintText
import Derived.Test.YtlnohpdiiileeaaGreatClTreePrintToSizeMath
import Derived.Test.YtlnohpdiiileeaaGreatClTwoModToSameSpec
import Derived.Test.YtlnohpdiiileeaaGreatClModOkImplToSpecBox
import Derived.Test.YtlnohpdiiileeaaGreatClSpecParsePToBig
import Derived.Test.YtlnohpdiiileeaaGreatClSpecLexAll
namespace Go.Proofs.YtlnohpdiiileeaaGreat
set_option maxRecDepth 100000
set_option maxHeartbeats 12800000
open Go.RowKit Go.PlainAid Go.Sort
theorem zob {α:Type} {c:α→Nat} {B:Nat} (l:List α) (h: ∀x∈l,c x≤B):zcq c l≤l.length*B:=by
 induction l with
 |nil=>exact Nat.zero_le _
 |cons x l ih=>
  have h1:=h x (List.mem_cons_self ..)
  have h2:=ih fun y hy=>h y (List.mem_cons_of_mem _ hy)
  unfold zcq at*
  rw[List.map_cons,List.sum_cons,List.length_cons,Nat.succ_mul]
  omega
/-- What was read of a short text is small, and so is its text. -/
structure Few (m:Md):Prop where
 small:Small m
 text:Tree m→(zje m).size≤4294967296∧(zhl m).size≤4294967296
 same:zhl m=zje m
 tree:Tree m
theorem zboq {s:ByteArray} {scr:Bool} {q:PS} (h:zct s scr (.ok q)) (hs:s.size≤20000):Few (mdOf q):=by
 obtain⟨sts,hp⟩:=zyl h
 have hb:=zbqh h hs (by omega)
 have l1:=hp.nrq
 have l2:=hp.nim
 have l3:=hp.nep
 have l4:=hp.nst
 have l5:=hp.nex
 have le:(mdOf q).ep.length≤40:=by show (q.ep++q.la).length≤40;rw[List.length_append];exact l3
 have hep: ∀x∈(mdOf q).ep,OkEp 20000 x:=fun x hx=>(List.mem_append.1 (show x∈q.ep++q.la from hx)).elim (hb.ep x) (hb.la x)
 have hn:Nums (mdOf q).ex:=fun x hx=>by
  have:=hb.ex x hx
  unfold OkEx at this
  omega
 have ht:=zbci hp
 refine⟨⟨fun x hx=>?_,fun x hx=>?_,fun x hx=>?_,fun x hx=>?_,hn,?_,?_,?_,?_,?_⟩,fun t=>?_,zbmy (zbjl h),ht⟩
 ·have:=hb.rq x hx;omega
 ·have:=hb.im x hx;omega
 ·have:=hep x hx;unfold OkEp at this;omega
 ·have:=hb.st x hx;omega
 ·show q.rq.length≤_;omega
 ·show q.im.length≤_;omega
 ·omega
 ·show q.st.length≤_;omega
 ·show q.ex.length≤_;omega
 ·have h0:=zbjh t hn
  have h1:=zob (c:=zlu) (B:=20000) q.rq fun x hx=>hb.rq x hx
  have h2:=zob (c:=zkz) (B:=60000) q.im fun x hx=>by have:=hb.im x hx;unfold zkz;omega
  have h3:=zob (c:=zla) (B:=60000) (mdOf q).ep fun x hx=>by have:=hep x hx;unfold OkEp at this;unfold zla;omega
  have h4:=zob (c:=zpj) (B:=20000) q.st fun x hx=>hb.st x hx
  have h5:=zob (c:=znr) (B:=40000) q.ex fun x hx=>by have:=hb.ex x hx;unfold OkEx at this;unfold znr;omega
  have e:zbai (mdOf q)=(q.rq.length+zcq zlu q.rq)+(q.im.length+zcq zkz q.im)+((mdOf q).ep.length+zcq zla (mdOf q).ep)+(q.st.length+zcq zpj q.st)+(q.ex.length+zcq znr q.ex):=rfl
  have k1:q.rq.length*20000≤40*20000:=Nat.mul_le_mul_right _ l1
  have k2:q.im.length*60000≤40*60000:=Nat.mul_le_mul_right _ l2
  have k3:(mdOf q).ep.length*60000≤40*60000:=Nat.mul_le_mul_right _ le
  have k4:q.st.length*20000≤80*20000:=Nat.mul_le_mul_right _ l4
  have k5:q.ex.length*40000≤300*40000:=Nat.mul_le_mul_right _ l5
  omega
/-- What is printed of it is read as it. -/
theorem zbfz {s:ByteArray} {scr:Bool} {q:PS} (h:zct s scr (.ok q)): ∃q2,zct (zje (mdOf q)) scr (.ok q2)∧mdOf q2=mdOf q:=by
 obtain⟨sts,hp⟩:=zyl h
 exact zbex hp
theorem zxu (ts:List Tk) (j i:Nat) (hi:i<4) (t:Tk) (h:ts[j]? =some t):(ts.flatMap tkL)[j*4+i]? =(tkL t)[i]?:=by
 induction ts generalizing j with
 |nil=>cases h
 |cons u ts ih=>
  rw[List.flatMap_cons]
  cases j with
  |zero=>
   cases h
   rw[Nat.zero_mul,Nat.zero_add,List.getElem?_append_left (by show i<4;exact hi)]
  |succ j=>
   rw[List.getElem?_append_right (by show 4≤_;omega),show (j+1)*4+i-(tkL u).length=j*4+i from by show (j+1)*4+i-4=_;omega]
   exact ih j h
/-- The cells of one token. -/
theorem zbrt {w:World} {base g n cap:Nat} {e:TypeId} {ts:List Tk} (h:OwnT w base e g n cap ts) {j:Nat} {t:Tk} (hj:ts[j]? =some t):
  w.cell? ⟨g,j*4,none⟩=some (.int .i64 t.kind)∧w.cell? ⟨g,j*4+1,none⟩=some (.string t.text)∧w.cell? ⟨g,j*4+2,none⟩=some (.int .i64 t.num):=by
 have hl:j<n:=by rw[h.2];exact (List.getElem?_eq_some_iff.1 hj).1
 refine⟨?_,?_,?_⟩
 ·rw[h.1.cellAt _ (by omega)];exact zxu ts j 0 (by omega) t hj
 ·rw[h.1.cellAt _ (by omega)];exact zxu ts j 1 (by omega) t hj
 ·rw[h.1.cellAt _ (by omega)];exact zxu ts j 2 (by omega) t hj
/-- A token's text and what is passed over behind it. -/
def sepS (z:Int):ByteArray:=if z%3=0 then {data:=#[32]} else if z%3=1 then {data:=#[10]} else {data:=#[32,47,47,32,120,10]}
theorem zpp (z:Int):zsv (sepS z).data.toList∧(sepS z).size≤6:=by
 unfold sepS
 split
 ·exact⟨.inl rfl,by decide⟩
 ·split
  ·exact⟨.inr (.inl rfl),by decide⟩
  ·exact⟨.inr (.inr rfl),by decide⟩
theorem zwv (z:Int):[Value.string {data:=#[32]},Value.string {data:=#[10]},Value.string {data:=#[32,47,47,32,120,10]}][(z%3).toNat]? =some (.string (sepS z))∧(sepS z).size≤6:=by
 refine⟨?_,(zpp z).2⟩
 obtain h|h|h:z%3=0∨z%3=1∨z%3=2:=by omega
 ·simp[sepS,h]
 ·simp[sepS,h]
 ·simp[sepS,h]
theorem CodeW.allocP {S:Src} {w:World} (h:CodeW S w) (hl:S.lim≤w.heap.size) (o:Obj):CodeW S (w.alloc o):=zig h ((Below.refl w.heap.size w).alloc (Nat.le_refl _) _) hl
theorem zbga (S:Src) (hS:S.ok) (w:World) (hc:CodeW S w) (hl:S.lim≤w.heap.size) (hlen:S.len≤1048576):
  Calls Tryz.prog 10 #[.slice S.a S.len S.cap] w fun e w'=>e= .returned (.bool true)∧Below w.heap.size w w':=by
 have hbig:decide ((1048576:Int)<S.len)=false:=by simp;omega
 have HC:=hidI hc
 clear hc
 go_enter Tryz.func10,Tryz.ntmps10
 go_wp2_with fail
 refine (zbhx _ _ _ _ (by omega)).mono ?_
 rintro e w' ⟨rfl,hw⟩
 rw[hw,hbig]
 clear hw
 go_wp2_with fail
 refine (zxb S hS w HC.out hl).mono ?_
 rintro e w1 ⟨s,scr,rfl,hs,hb⟩
 have B1:=hidI hb
 clear hb hbig
 go_wp2_with fail
 refine (znc s scr w1 (by omega)).mono ?_
 rintro e w2 ⟨hpo,hb⟩
 have B2:=hidI (B1.out.trans (hb.mono B1.out.size))
 clear hb B1
 rcases hpo.md with ⟨q,V,n,hy,hn,rfl,hown,hfew⟩|⟨p,hy,rfl⟩
 ·have FW:Hid (Few n):=by rw[hn];exact zboq hy hs
  have AG:Hid (∃q2,zct (zje n) scr (.ok q2)∧mdOf q2=n):=by rw[hn];exact zbfz hy
  have HY:=hidI hy
  have HN:=hidI hn
  have NF:=hidI hfew
  have O2:=hidI hown
  clear hy hn hfew hown hpo
  unfold modD
  go_upto_region 5 with fail
  have HW:Hid (Below w2.heap.size w2 (w2.alloc (.cells #[.slice V.rq.a n.rq.length V.rq.cap,.slice V.im.a n.im.length V.im.cap,.slice V.ep.a n.ep.length V.ep.cap,.slice V.st.a n.st.length V.st.cap,.slice V.ex.a n.ex.length V.ex.cap] 59))):=(Below.refl _ _).alloc (Nat.le_refl _) _
  refine zbk (R:=fun W=>W.heap[w2.heap.size]? =some (.cells #[.slice V.rq.a n.rq.length V.rq.cap,.slice V.im.a n.im.length V.im.cap,.slice V.ep.a n.ep.length V.ep.cap,.slice V.st.a n.st.length V.st.cap,.slice V.ex.a n.ex.length V.ex.cap] 59 (0,0))∧OwnMd W w1.heap.size V n∧Below w.heap.size w W) ⟨heap_alloc_new w2 _,O2.out.later HW.out,B2.out.trans (HW.out.mono B2.out.size)⟩ ?_
  obtain⟨gm,hgm⟩: ∃gm,gm=w2.heap.size:=⟨_,rfl⟩
  rw[←hgm]
  rintro w3 ⟨hx,ho,hb⟩
  have X3:=hidI hx
  have O3:=hidI ho
  have B3:=hidI hb
  clear hx ho hb HW O2 B2 hgm
  go_wp2_with fail
  refine (zwu s scr w3 (by omega)).mono ?_
  rintro e w4 ⟨hpo,hb⟩
  have X4:=hidI ((hb.block _ (Array.getElem?_eq_some_iff.1 X3.out).1).trans X3.out)
  have O4:=hidI (O3.out.later hb)
  have B4:=hidI (B3.out.trans (hb.mono B3.out.size))
  clear hb X3 O3 B3
  rcases hpo.md with ⟨q',V',n',hy',hn',rfl,hown',hfew'⟩|⟨p',hy',rfl⟩
  ·clear hpo hy' hn' hown' hfew'
   unfold modD
   go_upto_region 6 with fail
   have HW:Hid (Below w4.heap.size w4 (w4.alloc (.cells #[.slice V'.rq.a n'.rq.length V'.rq.cap,.slice V'.im.a n'.im.length V'.im.cap,.slice V'.ep.a n'.ep.length V'.ep.cap,.slice V'.st.a n'.st.length V'.st.cap,.slice V'.ex.a n'.ex.length V'.ex.cap] 59))):=(Below.refl _ _).alloc (Nat.le_refl _) _
   refine zbk (R:=fun W=>W.heap[gm]? =some (.cells #[.slice V.rq.a n.rq.length V.rq.cap,.slice V.im.a n.im.length V.im.cap,.slice V.ep.a n.ep.length V.ep.cap,.slice V.st.a n.st.length V.st.cap,.slice V.ex.a n.ex.length V.ex.cap] 59 (0,0))∧OwnMd W w1.heap.size V n∧Below w.heap.size w W) ⟨(HW.out.block _ (Array.getElem?_eq_some_iff.1 X4.out).1).trans X4.out,O4.out.later HW.out,B4.out.trans (HW.out.mono B4.out.size)⟩ ?_
   obtain⟨gt,hgt⟩: ∃gt,gt=w4.heap.size:=⟨_,rfl⟩
   rw[←hgt]
   rintro w5 ⟨hx,ho,hb⟩
   have X5:=hidI hx
   have O5:=hidI ho
   have B5:=hidI hb
   clear hx ho hb HW X4 O4 B4 hgt
   obtain⟨c0,c1,c2,c3,c4,cf⟩:=zbh X5.out
   go_wp2_with fail
   refine (zwi w1.heap.size V n scr w5 O5.out FW.out.small (fun t=>Nat.le_trans (FW.out.text t).2 (by omega))).mono ?_
   rintro e w6 ⟨hpo,hb⟩
   obtain⟨t1,hpr,rfl⟩:=hpo.form
   have T1:Hid (t1=zje n):=by
    rcases hpr with ⟨_,e⟩|⟨k,_⟩
    ·exact e.trans FW.out.same
    ·exact absurd FW.out.tree k
   have hts:t1.size≤4294967296:=by rw[T1.out];exact (FW.out.text FW.out.tree).1
   have X6:=hidI ((hb.block _ (Array.getElem?_eq_some_iff.1 X5.out).1).trans X5.out)
   have O6:=hidI (O5.out.later hb)
   have B6:=hidI (B5.out.trans (hb.mono B5.out.size))
   clear hb hpo hpr X5 O5 B5 c0 c1 c2 c3 c4 cf
   go_wp2_with fail
   refine (znc t1 scr w6 hts).mono ?_
   rintro e w7 ⟨hpo,hb⟩
   have X7:=hidI ((hb.block _ (Array.getElem?_eq_some_iff.1 X6.out).1).trans X6.out)
   have O7:=hidI (O6.out.later hb)
   have B7:=hidI (B6.out.trans (hb.mono B6.out.size))
   clear hb X6 O6 B6
   rcases hpo.md with ⟨q3,V3,n3,hy3,hn3,rfl,hown3,hfew3⟩|⟨p3,hy3,rfl⟩
   ·obtain rfl:n3=n:=by
     obtain⟨q2,h1,h2⟩:=AG.out
     rw[←T1.out] at h1
     cases zgm hy3 h1
     rw[hn3]
     exact h2
    have P7:=hidI hown3
    clear hpo hy3 hn3 hown3 hfew3
    unfold modD
    go_upto_region 11 with fail
    have HW:Hid (Below w7.heap.size w7 (w7.alloc (.cells #[.slice V3.rq.a n3.rq.length V3.rq.cap,.slice V3.im.a n3.im.length V3.im.cap,.slice V3.ep.a n3.ep.length V3.ep.cap,.slice V3.st.a n3.st.length V3.st.cap,.slice V3.ex.a n3.ex.length V3.ex.cap] 59))):=(Below.refl _ _).alloc (Nat.le_refl _) _
    refine zbk (R:=fun W=>W.heap[gm]? =some (.cells #[.slice V.rq.a n3.rq.length V.rq.cap,.slice V.im.a n3.im.length V.im.cap,.slice V.ep.a n3.ep.length V.ep.cap,.slice V.st.a n3.st.length V.st.cap,.slice V.ex.a n3.ex.length V.ex.cap] 59 (0,0))∧W.heap[w7.heap.size]? =some (.cells #[.slice V3.rq.a n3.rq.length V3.rq.cap,.slice V3.im.a n3.im.length V3.im.cap,.slice V3.ep.a n3.ep.length V3.ep.cap,.slice V3.st.a n3.st.length V3.st.cap,.slice V3.ex.a n3.ex.length V3.ex.cap] 59 (0,0))∧OwnMd W w1.heap.size V n3∧OwnMd W w6.heap.size V3 n3∧Below w.heap.size w W) ⟨(HW.out.block _ (Array.getElem?_eq_some_iff.1 X7.out).1).trans X7.out,heap_alloc_new w7 _,O7.out.later HW.out,P7.out.later HW.out,B7.out.trans (HW.out.mono B7.out.size)⟩ ?_
    obtain⟨gx,hgx⟩: ∃gx,gx=w7.heap.size:=⟨_,rfl⟩
    rw[←hgx]
    intro w8 h8
    have T8:=hidI h8
    clear h8 HW X7 O7 P7 B7 hgx
    go_wp2_with fail
    refine (zbbg s scr w8 (by omega)).mono ?_
    rintro e w9 ⟨⟨r,hr,hout⟩,hb⟩
    have T9:Hid (Below w8.heap.size w8 w9):=hb
    obtain⟨ts,hlx⟩:=zbmt HY.out
    obtain rfl:=ztz hr hlx
    obtain⟨g0,n0,cap0,rfl,own0⟩:=hout
    have OT:=hidI own0
    have LX:=hidI hlx
    have hn0:n0≤4000:=by rw[own0.2];exact zpv hlx
    have hnt:=hidI own0.2
    have GT:=hidI (zbms hlx)
    have hg0:=(zbr own0).1
    have hcap:=(zbr own0).2.2
    have CW:Hid (CodeW S w9):=zig HC.out (T8.out.2.2.2.2.trans (hb.mono T8.out.2.2.2.2.size)) hl
    have hlim:S.lim≤w9.heap.size:=Nat.le_trans hl (Nat.le_trans T8.out.2.2.2.2.size hb.size)
    clear hr hlx own0 hb
    go_wp2
    go_loopw [11,14] (fun t i wr=>∃(k:Nat) (T:ByteArray),k≤n0∧i= .int .i64 k∧t= .string T∧zvy scr (ts.take k) T∧T.size≤k*20100∧Below w9.heap.size w9 wr) (fun _ i _=>(n0-intOf i).toNat)
    case atStart=>exact⟨0,sNone,Nat.zero_le _,rfl,rfl,zbmr scr,Nat.zero_le _,Below.refl _ _⟩
    case round=>
     obtain⟨k,T,hk,rfl,rfl,hbt,hTs,hb⟩:=hrel
     have BT:=hidI hbt
     have BW:=hidI hb
     clear hbt
     by_cases hlt:k<n0
     ·obtain⟨t,htk⟩: ∃t,ts[k]? =some t:=⟨_,List.getElem?_eq_getElem (by rw[←hnt.out];exact hlt)⟩
      obtain⟨c0,c1,c2⟩:=zbrt (zds OT.out hb) htk
      have hgd:=GT.out.1 t (List.mem_of_getElem? htk)
      have hsz:=GT.out.2 t (List.mem_of_getElem? htk)
      have hTB:T.size≤80400000:=Nat.le_trans hTs (Nat.le_trans (Nat.mul_le_mul_right _ (Nat.le_trans hk hn0)) (by omega))
      have TK:Hid (ts.take (k+1)=ts.take k++[t]):=by
       obtain⟨h1,rfl⟩:=List.getElem?_eq_some_iff.1 htk
       exact List.take_succ_eq_append_getElem h1
      have hgw:g0<wr.heap.size:=Nat.lt_of_lt_of_le hg0 hb.size
      have CK:Hid (CodeW S wr):=zig CW.out hb hlim
      have hlw:S.lim≤wr.heap.size:=Nat.le_trans hlim hb.size
      obtain⟨kd,tx,nm,ps⟩:=t
      have GD:=hidI hgd
      simp only at c0 c1 c2 hsz
      have hkd:kd=1∨kd=2∨kd=3∨kd=4:=by
       generalize hT:stpT ⟨kd,tx,nm,ps⟩=U at hgd
       have e:kd=U.kind:=by rw[←hT];rfl
       rw[e]
       cases hgd<;>simp
      clear hgd htk hb
      rcases hkd with rfl|rfl|rfl|rfl
      ·have hT1:(T++tx).size≤90000000:=by rw[ByteArray.size_append];omega
       go_wp2_with (go_at_call 44;refine (zvq S hS k _ (CK.out.allocP hlw _) (by omega)).mono ?_;rintro e w2 ⟨⟨z,rfl,hz0,hz1⟩,hw2⟩;obtain⟨hz4,hz5⟩:=zwv z)
       refine⟨⟨k+1,_,hlt,by go_num,rfl,by rw[TK.out];exact zmz BT.out GD.out rfl (zpp z).1,?_,BW.out.alloc BW.out.size _⟩,by simp[intOf];omega⟩
       rw[ByteArray.size_append,ByteArray.size_append]
       omega
      ·have hds:=zpt nm (by omega) (by omega)
       have hT1:(T++strOfNums (decL nm)).size≤90000000:=by rw[ByteArray.size_append];omega
       go_wp2_with (first|(go_at_call 43;refine (zub nm _ ⟨by omega,by omega⟩).mono ?_;rintro e wd ⟨rfl,hbd⟩;have CK2:=hidI (zig CK.out hbd hlw);have hlw2:=Nat.le_trans hlw hbd.size;have BW2:=hidI (BW.out.trans (hbd.mono BW.out.size));clear hbd c0 c1 c2)|(go_at_call 44;refine (zvq S hS k _ (CK2.out.allocP hlw2 _) (by omega)).mono ?_;rintro e w2 ⟨⟨z,rfl,hz0,hz1⟩,hw2⟩;obtain⟨hz4,hz5⟩:=zwv z))
       refine⟨⟨k+1,_,hlt,by go_num,rfl,by rw[TK.out];exact zmz BT.out GD.out rfl (zpp z).1,?_,BW2.out.alloc BW2.out.size _⟩,by simp[intOf];omega⟩
       rw[ByteArray.size_append,ByteArray.size_append]
       omega
      ·have hq1:({data:=#[34]}:ByteArray).size=1:=rfl
       have hT1:(T++({data:=#[34]}:ByteArray)).size≤90000000:=by rw[ByteArray.size_append,hq1];omega
       have hT2:(T++({data:=#[34]}:ByteArray)++tx).size≤90000000:=by rw[ByteArray.size_append,ByteArray.size_append,hq1];omega
       have hT3:(T++({data:=#[34]}:ByteArray)++tx++({data:=#[34]}:ByteArray)).size≤90000000:=by rw[ByteArray.size_append,ByteArray.size_append,ByteArray.size_append,hq1];omega
       go_wp2_with (go_at_call 44;refine (zvq S hS k _ (CK.out.allocP hlw _) (by omega)).mono ?_;rintro e w2 ⟨⟨z,rfl,hz0,hz1⟩,hw2⟩;obtain⟨hz4,hz5⟩:=zwv z)
       refine⟨⟨k+1,_,hlt,by go_num,rfl,?_,?_,BW.out.alloc BW.out.size _⟩,by simp[intOf];omega⟩
       ·rw[TK.out,show T++({data:=#[34]}:ByteArray)++tx++({data:=#[34]}:ByteArray)=T++(({data:=#[34]}:ByteArray)++(tx++({data:=#[34]}:ByteArray))) from zoc (by simp only[zis,List.append_assoc])]
        exact zmz BT.out GD.out (by simp only[zis];rfl) (zpp z).1
       ·rw[ByteArray.size_append,ByteArray.size_append,ByteArray.size_append,ByteArray.size_append,hq1]
        omega
      ·have hT1:(T++tx).size≤90000000:=by rw[ByteArray.size_append];omega
       go_wp2_with (go_at_call 44;refine (zvq S hS k _ (CK.out.allocP hlw _) (by omega)).mono ?_;rintro e w2 ⟨⟨z,rfl,hz0,hz1⟩,hw2⟩;obtain⟨hz4,hz5⟩:=zwv z)
       refine⟨⟨k+1,_,hlt,by go_num,rfl,by rw[TK.out];exact zmz BT.out GD.out rfl (zpp z).1,?_,BW.out.alloc BW.out.size _⟩,by simp[intOf];omega⟩
       rw[ByteArray.size_append,ByteArray.size_append]
       omega
     ·have hTB:T.size≤80400000:=Nat.le_trans hTs (Nat.le_trans (Nat.mul_le_mul_right _ (Nat.le_trans hk hn0)) (by omega))
      have PT:Hid (zct T scr (.ok q)):=by
       have hb2:=BT.out
       rw[List.take_of_length_le (by rw[←hnt.out];omega)] at hb2
       exact zbey LX.out hb2 HY.out
      have X0:Hid (wr.heap[gm]? =some (.cells #[.slice V.rq.a n3.rq.length V.rq.cap,.slice V.im.a n3.im.length V.im.cap,.slice V.ep.a n3.ep.length V.ep.cap,.slice V.st.a n3.st.length V.st.cap,.slice V.ex.a n3.ex.length V.ex.cap] 59 (0,0))∧wr.heap[gx]? =some (.cells #[.slice V3.rq.a n3.rq.length V3.rq.cap,.slice V3.im.a n3.im.length V3.im.cap,.slice V3.ep.a n3.ep.length V3.ep.cap,.slice V3.st.a n3.st.length V3.st.cap,.slice V3.ex.a n3.ex.length V3.ex.cap] 59 (0,0))∧OwnMd wr w1.heap.size V n3∧OwnMd wr w6.heap.size V3 n3∧Below w.heap.size w wr):=by
       obtain⟨a1,a2,a3,a4,a5⟩:=T8.out
       have k1:=T9.out.trans (hb.mono T9.out.size)
       exact⟨(k1.block _ (Array.getElem?_eq_some_iff.1 a1).1).trans a1,(k1.block _ (Array.getElem?_eq_some_iff.1 a2).1).trans a2,a3.later k1,a4.later k1,a5.trans (k1.mono a5.size)⟩
      clear hb BW T8 T9 OT CW hg0 hcap
      go_wp2_with fail
      refine (znc T scr wr (by omega)).mono ?_
      rintro e w10 ⟨hpo,hb⟩
      have X1:Hid (w10.heap[gm]? =some (.cells #[.slice V.rq.a n3.rq.length V.rq.cap,.slice V.im.a n3.im.length V.im.cap,.slice V.ep.a n3.ep.length V.ep.cap,.slice V.st.a n3.st.length V.st.cap,.slice V.ex.a n3.ex.length V.ex.cap] 59 (0,0))∧w10.heap[gx]? =some (.cells #[.slice V3.rq.a n3.rq.length V3.rq.cap,.slice V3.im.a n3.im.length V3.im.cap,.slice V3.ep.a n3.ep.length V3.ep.cap,.slice V3.st.a n3.st.length V3.st.cap,.slice V3.ex.a n3.ex.length V3.ex.cap] 59 (0,0))∧OwnMd w10 w1.heap.size V n3∧OwnMd w10 w6.heap.size V3 n3∧Below w.heap.size w w10):=by
       obtain⟨a1,a2,a3,a4,a5⟩:=X0.out
       exact⟨(hb.block _ (Array.getElem?_eq_some_iff.1 a1).1).trans a1,(hb.block _ (Array.getElem?_eq_some_iff.1 a2).1).trans a2,a3.later hb,a4.later hb,a5.trans (hb.mono a5.size)⟩
      clear hb X0
      rcases hpo.md with ⟨q4,V4,n4,hy4,hn4,rfl,hown4,hfew4⟩|⟨p4,hy4,rfl⟩
      ·obtain rfl:n4=n3:=by
        cases zgm hy4 PT.out
        rw[hn4]
        exact HN.out.symm
       have P4:=hidI hown4
       clear hpo hy4 hn4 hown4 hfew4
       unfold modD
       go_upto_region 24 with fail
       have HW:Hid (Below w10.heap.size w10 (w10.alloc (.cells #[.slice V4.rq.a n4.rq.length V4.rq.cap,.slice V4.im.a n4.im.length V4.im.cap,.slice V4.ep.a n4.ep.length V4.ep.cap,.slice V4.st.a n4.st.length V4.st.cap,.slice V4.ex.a n4.ex.length V4.ex.cap] 59))):=(Below.refl _ _).alloc (Nat.le_refl _) _
       refine zbk (R:=fun W=>W.heap[gm]? =some (.cells #[.slice V.rq.a n4.rq.length V.rq.cap,.slice V.im.a n4.im.length V.im.cap,.slice V.ep.a n4.ep.length V.ep.cap,.slice V.st.a n4.st.length V.st.cap,.slice V.ex.a n4.ex.length V.ex.cap] 59 (0,0))∧W.heap[gx]? =some (.cells #[.slice V3.rq.a n4.rq.length V3.rq.cap,.slice V3.im.a n4.im.length V3.im.cap,.slice V3.ep.a n4.ep.length V3.ep.cap,.slice V3.st.a n4.st.length V3.st.cap,.slice V3.ex.a n4.ex.length V3.ex.cap] 59 (0,0))∧W.heap[w10.heap.size]? =some (.cells #[.slice V4.rq.a n4.rq.length V4.rq.cap,.slice V4.im.a n4.im.length V4.im.cap,.slice V4.ep.a n4.ep.length V4.ep.cap,.slice V4.st.a n4.st.length V4.st.cap,.slice V4.ex.a n4.ex.length V4.ex.cap] 59 (0,0))∧OwnMd W w1.heap.size V n4∧OwnMd W w6.heap.size V3 n4∧OwnMd W wr.heap.size V4 n4∧Below w.heap.size w W) ⟨(HW.out.block _ (Array.getElem?_eq_some_iff.1 X1.out.1).1).trans X1.out.1,(HW.out.block _ (Array.getElem?_eq_some_iff.1 X1.out.2.1).1).trans X1.out.2.1,heap_alloc_new w10 _,X1.out.2.2.1.later HW.out,X1.out.2.2.2.1.later HW.out,P4.out.later HW.out,X1.out.2.2.2.2.trans (HW.out.mono X1.out.2.2.2.2.size)⟩ ?_
       obtain⟨gy,hgy⟩: ∃gy,gy=w10.heap.size:=⟨_,rfl⟩
       rw[←hgy]
       rintro w11 ⟨hx,hxx,hxy,ho,hox,hoy,hb⟩
       have XM:=hidI hx
       have XX:=hidI hxx
       have XY:=hidI hxy
       have OM:=hidI ho
       have OX:=hidI hox
       have OY:=hidI hoy
       have BB:=hidI hb
       clear hx hxx hxy ho hox hoy hb HW X1 P4 hgy
       obtain⟨c0,c1,c2,c3,c4,cf⟩:=zbh XM.out
       obtain⟨d0,d1,d2,d3,d4,df⟩:=zbh XX.out
       go_wp2_with fail
       refine (zsc zbjm zbjn zbjo zbjp zbjq zbjr zbjs zbjt w6.heap.size w1.heap.size V3 V n4 _ OX.out OM.out NF.out).mono ?_
       rintro e w12 ⟨rfl,hb⟩
       have XM2:=hidI ((hb.block _ (Array.getElem?_eq_some_iff.1 XM.out).1).trans XM.out)
       have XY2:=hidI ((hb.block _ (Array.getElem?_eq_some_iff.1 XY.out).1).trans XY.out)
       have OM2:=hidI (OM.out.later hb)
       have OY2:=hidI (OY.out.later hb)
       have BB2:=hidI (BB.out.trans (hb.mono BB.out.size))
       clear hb c0 c1 c2 c3 c4 cf d0 d1 d2 d3 d4 df XM XX XY OM OX OY BB
       obtain⟨c0,c1,c2,c3,c4,cf⟩:=zbh XM2.out
       go_wp2_with fail
       refine (zbko w1.heap.size V n4 scr w12 OM2.out FW.out.small (fun t=>(FW.out.text t).2)).mono ?_
       rintro e w13 ⟨⟨t2,p2,r2,rfl,i2⟩,hb⟩
       obtain rfl:r2=true:=i2.2 (by
        obtain⟨q2,h1,h2⟩:=AG.out
        have e2:t2=zje n4:=by
         rcases p2 with ⟨_,e⟩|⟨k2,_⟩
         ·exact e.trans FW.out.same
         ·exact absurd FW.out.tree k2
        rw[e2]
        exact⟨q2,h1,h2⟩)
       have XM3:=hidI ((hb.block _ (Array.getElem?_eq_some_iff.1 XM2.out).1).trans XM2.out)
       have XY3:=hidI ((hb.block _ (Array.getElem?_eq_some_iff.1 XY2.out).1).trans XY2.out)
       have OM3:=hidI (OM2.out.later hb)
       have OY3:=hidI (OY2.out.later hb)
       have BB3:=hidI (BB2.out.trans (hb.mono BB2.out.size))
       clear hb p2 i2 c0 c1 c2 c3 c4 cf XM2 XY2 OM2 OY2 BB2
       obtain⟨c0,c1,c2,c3,c4,cf⟩:=zbh XM3.out
       obtain⟨d0,d1,d2,d3,d4,df⟩:=zbh XY3.out
       go_wp2_with fail
       refine (zsc zbjm zbjn zbjo zbjp zbjq zbjr zbjs zbjt wr.heap.size w1.heap.size V4 V n4 _ OY3.out OM3.out NF.out).mono ?_
       rintro e w14 ⟨rfl,hb⟩
       have BB4:=hidI (BB3.out.trans (hb.mono BB3.out.size))
       clear hb c0 c1 c2 c3 c4 cf d0 d1 d2 d3 d4 df XM3 XY3 OM3 OY3 BB3
       go_wp2
       go_ret
       exact⟨rfl,BB4.out⟩
      ·cases zgm hy4 PT.out
   ·obtain⟨q2,h1,h2⟩:=AG.out
    rw[←T1.out] at h1
    cases zgm hy3 h1
  ·cases zgm hy' HY.out
 ·have HY:=hidI hy
  have hp:p≤s.size:=zbmq hy
  clear hy hpo
  go_upto_region 5 with fail
  refine zbk (R:=fun W=>W.heap[w2.heap.size]? =some (.cells #[.slice none 0 0,.slice none 0 0,.slice none 0 0,.slice none 0 0,.slice none 0 0] 59 (0,0))∧Below w.heap.size w W) ⟨heap_alloc_new w2 _,B2.out.alloc B2.out.size _⟩ ?_
  obtain⟨gm,hgm⟩: ∃gm,gm=w2.heap.size:=⟨_,rfl⟩
  rw[←hgm]
  rintro w3 ⟨hx,hb⟩
  have X3:=hidI hx
  have B3:=hidI hb
  clear hx hb B2 hgm
  go_wp2_with fail
  refine (zwu s scr w3 (by omega)).mono ?_
  rintro e w4 ⟨hpo,hb⟩
  have X4:=hidI ((hb.block _ (Array.getElem?_eq_some_iff.1 X3.out).1).trans X3.out)
  have B4:=hidI (B3.out.trans (hb.mono B3.out.size))
  clear hb X3 B3
  rcases hpo.md with ⟨q',V',n',hy',hn',rfl,hown',hfew'⟩|⟨p',hy',rfl⟩
  ·cases zgm hy' HY.out
  ·cases zgm hy' HY.out
   clear hpo hy'
   go_upto_region 6 with fail
   refine zbk (R:=fun W=>W.heap[gm]? =some (.cells #[.slice none 0 0,.slice none 0 0,.slice none 0 0,.slice none 0 0,.slice none 0 0] 59 (0,0))∧Below w.heap.size w W) ⟨(((Below.refl _ _).alloc (Nat.le_refl _) _:Below w4.heap.size w4 (w4.alloc (.cells #[.slice none 0 0,.slice none 0 0,.slice none 0 0,.slice none 0 0,.slice none 0 0] 59))).block _ (Array.getElem?_eq_some_iff.1 X4.out).1).trans X4.out,B4.out.alloc B4.out.size _⟩ ?_
   obtain⟨gt,hgt⟩: ∃gt,gt=w4.heap.size:=⟨_,rfl⟩
   rw[←hgt]
   rintro w5 ⟨hx,hb⟩
   obtain⟨c0,c1,c2,c3,c4,cf⟩:=zbh hx
   have hpi:(p:Int)≤(s.size:Int):=by omega
   go_wp2
   go_ret
   exact⟨rfl,hb⟩
end Go.Proofs.YtlnohpdiiileeaaGreat