/-
 What laws.FnParse answers of a code that is not too long: the walk.
-/
import Derived.Test.YthfeoomfiafldaaGreatCdProgReadToSizeMath
import Derived.Test.YthfeoomfiafldaaGreatCdSpecParseQToBig
namespace Go.Proofs.YthfeoomfiafldaaGreat
set_option maxRecDepth 100000
set_option maxHeartbeats 12800000
open Go.RowKit Go.PlainAid Go.Sort
theorem zgl {α:Type} {c:α→Nat} {B:Nat} (l:List α) (h: ∀x∈l,c x≤B):zbb c l≤l.length*B:=by
 induction l with
 |nil=>exact Nat.zero_le _
 |cons x l o=>
  have D:=h x (List.mem_cons_self ..)
  have z:=o fun y j=>h y (List.mem_cons_of_mem _ j)
  unfold zbb at*
  rw[List.map_cons,List.sum_cons,List.length_cons,Nat.succ_mul]
  omega
structure Few (m:Md):Prop where
 small:Small m
 text:Tree m→(zcx m).size≤4294967296∧(zbZ m).size≤4294967296
 same:zbZ m=zcx m
 tree:Tree m
theorem zv1 {s:ByteArray} {scr:Bool} {q:PS} (h:za8 s scr (.ok q)) (K:s.size≤20000):Few (zaS q):=by
 obtain⟨M,z⟩:=zkE h
 have o:=zq5 h K (by omega)
 have L:=z.nrq
 have I:=z.nim
 have N:=z.nep
 have H:=z.nst
 have O:=z.nex
 have J:(zaS q).ep.length≤40:=by show (q.ep++q.la).length≤40;rw[List.length_append];exact N
 have D: ∀x∈(zaS q).ep,zdg 20000 x:=fun x j=>(List.mem_append.1 (show x∈q.ep++q.la from j)).elim (o.ep x) (o.la x)
 have E:zeL (zaS q).ex:=fun x j=>by
  have:=o.ex x j
  unfold zfR at this
  omega
 have Q:=zqQ z
 refine⟨⟨fun x j=>?_,fun x j=>?_,fun x j=>?_,fun x j=>?_,E,?_,?_,?_,?_,?_⟩,fun t=>?_,zrF (zr9 h),Q⟩
 ·have:=o.rq x j;omega
 ·have:=o.im x j;omega
 ·have:=D x j;unfold zdg at this;omega
 ·have:=o.st x j;omega
 ·show q.rq.length≤_;omega
 ·show q.im.length≤_;omega
 ·omega
 ·show q.st.length≤_;omega
 ·show q.ex.length≤_;omega
 ·have h0:=zqX t E
  have V:=zgl (c:=ze5) (B:=20000) q.rq fun x j=>o.rq x j
  have U:=zgl (c:=zdB) (B:=60000) q.im fun x j=>by have:=o.im x j;unfold zdB;omega
  have h3:=zgl (c:=zdC) (B:=60000) (zaS q).ep fun x j=>by have:=D x j;unfold zdg at this;unfold zdC;omega
  have Z:=zgl (c:=zfm) (B:=20000) q.st fun x j=>o.st x j
  have h5:=zgl (c:=ze6) (B:=40000) q.ex fun x j=>by have:=o.ex x j;unfold zfR at this;unfold ze6;omega
  have e:zha (zaS q)=(q.rq.length+zbb ze5 q.rq)+(q.im.length+zbb zdB q.im)+((zaS q).ep.length+zbb zdC (zaS q).ep)+(q.st.length+zbb zfm q.st)+(q.ex.length+zbb ze6 q.ex):=rfl
  have X:q.rq.length*20000≤40*20000:=Nat.mul_le_mul_right _ L
  have k2:q.im.length*60000≤40*60000:=Nat.mul_le_mul_right _ I
  have k3:(zaS q).ep.length*60000≤40*60000:=Nat.mul_le_mul_right _ J
  have Y:q.st.length*20000≤80*20000:=Nat.mul_le_mul_right _ H
  have k5:q.ex.length*40000≤300*40000:=Nat.mul_le_mul_right _ O
  omega
theorem zv2 {s:ByteArray} {scr:Bool} {q:PS} (h:za8 s scr (.ok q)): ∃j,za8 (zcx (zaS q)) scr (.ok j)∧zaS j=zaS q:=by
 obtain⟨o,z⟩:=zkE h
 exact zqu z
theorem zjm (o:List Tk) (j i:Nat) (D:i<4) (t:Tk) (h:o[j]? =some t):(o.flatMap tkL)[j*4+i]? =(tkL t)[i]?:=by
 induction o generalizing j with
 |nil=>cases h
 |cons u o z=>
  rw[List.flatMap_cons]
  cases j with
  |zero=>
   cases h
   rw[Nat.zero_mul,Nat.zero_add,List.getElem?_append_left (by show i<4;exact D)]
  |succ j=>
   rw[List.getElem?_append_right (by show 4≤_;omega),show (j+1)*4+i-(tkL u).length=j*4+i from by show (j+1)*4+i-4=_;omega]
   exact z j h
theorem zv3 {w:World} {z g n E:Nat} {e:TypeId} {o:List Tk} (h:OwnT w z e g n E o) {j:Nat} {t:Tk} (D:o[j]? =some t):
  w.cell? ⟨g,j*4,none⟩=some (.int .i64 t.kind)∧w.cell? ⟨g,j*4+1,none⟩=some (.string t.text)∧w.cell? ⟨g,j*4+2,none⟩=some (.int .i64 t.num):=by
 have H:j<n:=by rw[h.2];exact (List.getElem?_eq_some_iff.1 D).1
 refine⟨?_,?_,?_⟩
 ·rw[h.1.cellAt _ (by omega)];exact zjm o j 0 (by omega) t D
 ·rw[h.1.cellAt _ (by omega)];exact zjm o j 1 (by omega) t D
 ·rw[h.1.cellAt _ (by omega)];exact zjm o j 2 (by omega) t D
def zdU (z:Int):ByteArray:=if z%3=0 then {data:=#[32]} else if z%3=1 then {data:=#[10]} else {data:=#[32,47,47,32,120,10]}
theorem zgm (z:Int):zeY (zdU z).data.toList∧(zdU z).size≤6:=by
 unfold zdU
 split
 ·exact⟨.inl rfl,by decide⟩
 ·split
  ·exact⟨.inr (.inl rfl),by decide⟩
  ·exact⟨.inr (.inr rfl),by decide⟩
theorem zhu (z:Int):[Value.string {data:=#[32]},Value.string {data:=#[10]},Value.string {data:=#[32,47,47,32,120,10]}][(z%3).toNat]? =some (.string (zdU z))∧(zdU z).size≤6:=by
 refine⟨?_,(zgm z).2⟩
 obtain h|h|h:z%3=0∨z%3=1∨z%3=2:=by omega
 ·simp[zdU,h]
 ·simp[zdU,h]
 ·simp[zdU,h]
theorem CodeW.allocP {S:Src} {w:World} (h:CodeW S w) (j:S.lim≤w.heap.size) (o:Obj):CodeW S (w.alloc o):=zeG h ((Below.refl w.heap.size w).alloc (Nat.le_refl _) _) j
theorem zv4 (S:Src) (hS:S.ok) (w:World) (hc:CodeW S w) (hl:S.lim≤w.heap.size) (bl:S.len≤1048576):
  Calls Tryz.prog 3 #[.slice S.a S.len S.cap] w fun e w'=>e= .returned (.bool true)∧Below w.heap.size w w':=by
 have au:decide ((1048576:Int)<S.len)=false:=by simp;omega
 have HC:=zc hc
 clear hc
 go_enter Tryz.func3,Tryz.ntmps3
 go_wp2_with fail
 refine (zmM _ _ _ _ (by omega)).mono ?_
 rintro e w' ⟨rfl,hw⟩
 rw[hw,au]
 clear hw
 go_wp2_with fail
 refine (zoW S hS w HC.out hl).mono ?_
 rintro e w1 ⟨s,I,rfl,hs,j⟩
 have B1:=zc j
 clear j au
 go_wp2_with fail
 refine (zhq s I w1 (by omega)).mono ?_
 rintro e Q ⟨E,j⟩
 have B2:=zc (B1.out.trans (j.mono B1.out.size))
 clear j B1
 rcases E.md with ⟨q,V,n,hy,hn,rfl,ar,ap⟩|⟨p,hy,rfl⟩
 ·have FW:Hid (Few n):=by rw[hn];exact zv1 hy hs
  have AG:Hid (∃q2,za8 (zcx n) I (.ok q2)∧zaS q2=n):=by rw[hn];exact zv2 hy
  have HY:=zc hy
  have HN:=zc hn
  have NF:=zc ap
  have O2:=zc ar
  clear hy hn ap ar E
  unfold zbM
  go_upto_region 5 with fail
  have K:Hid (Below Q.heap.size Q (Q.alloc (.cells #[.slice V.rq.a n.rq.length V.rq.cap,.slice V.im.a n.im.length V.im.cap,.slice V.ep.a n.ep.length V.ep.cap,.slice V.st.a n.st.length V.st.cap,.slice V.ex.a n.ex.length V.ex.cap] 32))):=(Below.refl _ _).alloc (Nat.le_refl _) _
  refine zaA (R:=fun W=>W.heap[Q.heap.size]? =some (.cells #[.slice V.rq.a n.rq.length V.rq.cap,.slice V.im.a n.im.length V.im.cap,.slice V.ep.a n.ep.length V.ep.cap,.slice V.st.a n.st.length V.st.cap,.slice V.ex.a n.ex.length V.ex.cap] 32 (0,0))∧OwnMd W w1.heap.size V n∧Below w.heap.size w W) ⟨heap_alloc_new Q _,O2.out.later K.out,B2.out.trans (K.out.mono B2.out.size)⟩ ?_
  obtain⟨Y,ab⟩: ∃Y,Y=Q.heap.size:=⟨_,rfl⟩
  rw[←ab]
  rintro w3 ⟨O,ho,j⟩
  have X3:=zc O
  have O3:=zc ho
  have B3:=zc j
  clear O ho j K O2 B2 ab
  go_wp2_with fail
  refine (zmL s I w3 (by omega)).mono ?_
  rintro e w4 ⟨E,j⟩
  have X4:=zc ((j.block _ (Array.getElem?_eq_some_iff.1 X3.out).1).trans X3.out)
  have O4:=zc (O3.out.later j)
  have B4:=zc (B3.out.trans (j.mono B3.out.size))
  clear j X3 O3 B3
  rcases E.md with ⟨q',Z,n',N,aR,rfl,af,ad⟩|⟨p',N,rfl⟩
  ·clear E N aR af ad
   unfold zbM
   go_upto_region 6 with fail
   have K:Hid (Below w4.heap.size w4 (w4.alloc (.cells #[.slice Z.rq.a n'.rq.length Z.rq.cap,.slice Z.im.a n'.im.length Z.im.cap,.slice Z.ep.a n'.ep.length Z.ep.cap,.slice Z.st.a n'.st.length Z.st.cap,.slice Z.ex.a n'.ex.length Z.ex.cap] 32))):=(Below.refl _ _).alloc (Nat.le_refl _) _
   refine zaA (R:=fun W=>W.heap[Y]? =some (.cells #[.slice V.rq.a n.rq.length V.rq.cap,.slice V.im.a n.im.length V.im.cap,.slice V.ep.a n.ep.length V.ep.cap,.slice V.st.a n.st.length V.st.cap,.slice V.ex.a n.ex.length V.ex.cap] 32 (0,0))∧OwnMd W w1.heap.size V n∧Below w.heap.size w W) ⟨(K.out.block _ (Array.getElem?_eq_some_iff.1 X4.out).1).trans X4.out,O4.out.later K.out,B4.out.trans (K.out.mono B4.out.size)⟩ ?_
   obtain⟨gt,al⟩: ∃gt,gt=w4.heap.size:=⟨_,rfl⟩
   rw[←al]
   rintro w5 ⟨O,ho,j⟩
   have X5:=zc O
   have O5:=zc ho
   have B5:=zc j
   clear O ho j K X4 O4 B4 al
   obtain⟨c0,c1,c2,c3,c4,cf⟩:=zaa X5.out
   go_wp2_with fail
   refine (zlR w1.heap.size V n I w5 O5.out FW.out.small (fun t=>Nat.le_trans (FW.out.text t).2 (by omega))).mono ?_
   rintro e w6 ⟨E,j⟩
   obtain⟨t1,aP,rfl⟩:=E.form
   have T1:Hid (t1=zcx n):=by
    rcases aP with ⟨_,e⟩|⟨k,_⟩
    ·exact e.trans FW.out.same
    ·exact absurd FW.out.tree k
   have bj:t1.size≤4294967296:=by rw[T1.out];exact (FW.out.text FW.out.tree).1
   have X6:=zc ((j.block _ (Array.getElem?_eq_some_iff.1 X5.out).1).trans X5.out)
   have O6:=zc (O5.out.later j)
   have B6:=zc (B5.out.trans (j.mono B5.out.size))
   clear j E aP X5 O5 B5 c0 c1 c2 c3 c4 cf
   go_wp2_with fail
   refine (zhq t1 I w6 bj).mono ?_
   rintro e w7 ⟨E,j⟩
   have X7:=zc ((j.block _ (Array.getElem?_eq_some_iff.1 X6.out).1).trans X6.out)
   have O7:=zc (O6.out.later j)
   have B7:=zc (B6.out.trans (j.mono B6.out.size))
   clear j X6 O6 B6
   rcases E.md with ⟨q3,o,D,an,aX,rfl,ag,aA⟩|⟨p3,an,rfl⟩
   ·obtain rfl:D=n:=by
     obtain⟨q2,h1,h2⟩:=AG.out
     rw[←T1.out] at h1
     cases zdy an h1
     rw[aX]
     exact h2
    have P7:=zc ag
    clear E an aX ag aA
    unfold zbM
    go_upto_region 11 with fail
    have K:Hid (Below w7.heap.size w7 (w7.alloc (.cells #[.slice o.rq.a D.rq.length o.rq.cap,.slice o.im.a D.im.length o.im.cap,.slice o.ep.a D.ep.length o.ep.cap,.slice o.st.a D.st.length o.st.cap,.slice o.ex.a D.ex.length o.ex.cap] 32))):=(Below.refl _ _).alloc (Nat.le_refl _) _
    refine zaA (R:=fun W=>W.heap[Y]? =some (.cells #[.slice V.rq.a D.rq.length V.rq.cap,.slice V.im.a D.im.length V.im.cap,.slice V.ep.a D.ep.length V.ep.cap,.slice V.st.a D.st.length V.st.cap,.slice V.ex.a D.ex.length V.ex.cap] 32 (0,0))∧W.heap[w7.heap.size]? =some (.cells #[.slice o.rq.a D.rq.length o.rq.cap,.slice o.im.a D.im.length o.im.cap,.slice o.ep.a D.ep.length o.ep.cap,.slice o.st.a D.st.length o.st.cap,.slice o.ex.a D.ex.length o.ex.cap] 32 (0,0))∧OwnMd W w1.heap.size V D∧OwnMd W w6.heap.size o D∧Below w.heap.size w W) ⟨(K.out.block _ (Array.getElem?_eq_some_iff.1 X7.out).1).trans X7.out,heap_alloc_new w7 _,O7.out.later K.out,P7.out.later K.out,B7.out.trans (K.out.mono B7.out.size)⟩ ?_
    obtain⟨gx,ba⟩: ∃gx,gx=w7.heap.size:=⟨_,rfl⟩
    rw[←ba]
    intro w8 h8
    have T8:=zc h8
    clear h8 K X7 O7 P7 B7 ba
    go_wp2_with fail
    refine (zjN s I w8 (by omega)).mono ?_
    rintro e w9 ⟨⟨r,hr,aH⟩,j⟩
    have T9:Hid (Below w8.heap.size w8 w9):=j
    obtain⟨ts,ae⟩:=zqJ HY.out
    obtain rfl:=zh5 hr ae
    obtain⟨g0,n0,bk,rfl,M⟩:=aH
    have OT:=zc M
    have LX:=zc ae
    have a8:n0≤4000:=by rw[M.2];exact zg0 ae
    have a7:=zc M.2
    have GT:=zc (zqI ae)
    have a9:=(zan M).1
    have aS:=(zan M).2.2
    have CW:Hid (CodeW S w9):=zeG HC.out (T8.out.2.2.2.2.trans (j.mono T8.out.2.2.2.2.size)) hl
    have aq:S.lim≤w9.heap.size:=Nat.le_trans hl (Nat.le_trans T8.out.2.2.2.2.size j.size)
    clear hr ae M j
    go_wp2
    go_loopw [11,14] (fun t i wr=>∃(k:Nat) (T:ByteArray),k≤n0∧i= .int .i64 k∧t= .string T∧zfV I (ts.take k) T∧T.size≤k*20100∧Below w9.heap.size w9 wr) (fun _ i _=>(n0-intOf i).toNat)
    case atStart=>exact⟨0,sNone,Nat.zero_le _,rfl,rfl,zqG I,Nat.zero_le _,Below.refl _ _⟩
    case round=>
     obtain⟨k,T,hk,rfl,rfl,aZ,a6,j⟩:=hrel
     have BT:=zc aZ
     have BW:=zc j
     clear aZ
     by_cases ac:k<n0
     ·obtain⟨t,X⟩: ∃t,ts[k]? =some t:=⟨_,List.getElem?_eq_getElem (by rw[←a7.out];exact ac)⟩
      obtain⟨c0,c1,c2⟩:=zv3 (zcn OT.out j) X
      have ai:=GT.out.1 t (List.mem_of_getElem? X)
      have bf:=GT.out.2 t (List.mem_of_getElem? X)
      have bi:T.size≤80400000:=Nat.le_trans a6 (Nat.le_trans (Nat.mul_le_mul_right _ (Nat.le_trans hk a8)) (by omega))
      have TK:Hid (ts.take (k+1)=ts.take k++[t]):=by
       obtain⟨h1,rfl⟩:=List.getElem?_eq_some_iff.1 X
       exact List.take_succ_eq_append_getElem h1
      have bq:g0<wr.heap.size:=Nat.lt_of_lt_of_le a9 j.size
      have CK:Hid (CodeW S wr):=zeG CW.out j aq
      have aa:S.lim≤wr.heap.size:=Nat.le_trans aq j.size
      obtain⟨kd,tx,nm,ps⟩:=t
      have GD:=zc ai
      simp only at c0 c1 c2 bf
      have bc:kd=1∨kd=2∨kd=3∨kd=4:=by
       generalize hT:zbE ⟨kd,tx,nm,ps⟩=U at ai
       have e:kd=U.kind:=by rw[←hT];rfl
       rw[e]
       cases ai using GoodT.elim<;>simp
      clear ai X j
      rcases bc with rfl|rfl|rfl|rfl
      ·have aF:(T++tx).size≤90000000:=by rw[ByteArray.size_append];omega
       go_wp2_with (go_at_call 11;refine (zgC S hS k _ (CK.out.allocP aa _) (by omega)).mono ?_;rintro e Q ⟨⟨z,rfl,aG,az⟩,aC⟩;obtain⟨aE,aD⟩:=zhu z)
       refine⟨⟨k+1,_,ac,by go_num,rfl,by rw[TK.out];exact zgZ BT.out GD.out rfl (zgm z).1,?_,BW.out.alloc BW.out.size _⟩,by simp[intOf];omega⟩
       rw[ByteArray.size_append,ByteArray.size_append]
       omega
      ·have bt:=zgx nm (by omega) (by omega)
       have aF:(T++strOfNums (zaN nm)).size≤90000000:=by rw[ByteArray.size_append];omega
       go_wp2_with (first|(go_at_call 10;refine (zh8 nm _ ⟨by omega,by omega⟩).mono ?_;rintro e wd ⟨rfl,am⟩;have be:=zc (zeG CK.out am aa);have aV:=Nat.le_trans aa am.size;have a0:=zc (BW.out.trans (am.mono BW.out.size));clear am c0 c1 c2)|(go_at_call 11;refine (zgC S hS k _ (be.out.allocP aV _) (by omega)).mono ?_;rintro e Q ⟨⟨z,rfl,aG,az⟩,aC⟩;obtain⟨aE,aD⟩:=zhu z))
       refine⟨⟨k+1,_,ac,by go_num,rfl,by rw[TK.out];exact zgZ BT.out GD.out rfl (zgm z).1,?_,a0.out.alloc a0.out.size _⟩,by simp[intOf];omega⟩
       rw[ByteArray.size_append,ByteArray.size_append]
       omega
      ·have aj:({data:=#[34]}:ByteArray).size=1:=rfl
       have aF:(T++({data:=#[34]}:ByteArray)).size≤90000000:=by rw[ByteArray.size_append,aj];omega
       have bo:(T++({data:=#[34]}:ByteArray)++tx).size≤90000000:=by rw[ByteArray.size_append,ByteArray.size_append,aj];omega
       have bm:(T++({data:=#[34]}:ByteArray)++tx++({data:=#[34]}:ByteArray)).size≤90000000:=by rw[ByteArray.size_append,ByteArray.size_append,ByteArray.size_append,aj];omega
       go_wp2_with (go_at_call 11;refine (zgC S hS k _ (CK.out.allocP aa _) (by omega)).mono ?_;rintro e Q ⟨⟨z,rfl,aG,az⟩,aC⟩;obtain⟨aE,aD⟩:=zhu z)
       refine⟨⟨k+1,_,ac,by go_num,rfl,?_,?_,BW.out.alloc BW.out.size _⟩,by simp[intOf];omega⟩
       ·rw[TK.out,show T++({data:=#[34]}:ByteArray)++tx++({data:=#[34]}:ByteArray)=T++(({data:=#[34]}:ByteArray)++(tx++({data:=#[34]}:ByteArray))) from zgo (by simp only[zfN,List.append_assoc])]
        exact zgZ BT.out GD.out (by simp only[zfN];rfl) (zgm z).1
       ·rw[ByteArray.size_append,ByteArray.size_append,ByteArray.size_append,ByteArray.size_append,aj]
        omega
      ·have aF:(T++tx).size≤90000000:=by rw[ByteArray.size_append];omega
       go_wp2_with (go_at_call 11;refine (zgC S hS k _ (CK.out.allocP aa _) (by omega)).mono ?_;rintro e Q ⟨⟨z,rfl,aG,az⟩,aC⟩;obtain⟨aE,aD⟩:=zhu z)
       refine⟨⟨k+1,_,ac,by go_num,rfl,by rw[TK.out];exact zgZ BT.out GD.out rfl (zgm z).1,?_,BW.out.alloc BW.out.size _⟩,by simp[intOf];omega⟩
       rw[ByteArray.size_append,ByteArray.size_append]
       omega
     ·have bi:T.size≤80400000:=Nat.le_trans a6 (Nat.le_trans (Nat.mul_le_mul_right _ (Nat.le_trans hk a8)) (by omega))
      have PT:Hid (za8 T I (.ok q)):=by
       have aU:=BT.out
       rw[List.take_of_length_le (by rw[←a7.out];omega)] at aU
       exact zqH LX.out aU HY.out
      have X0:Hid (wr.heap[Y]? =some (.cells #[.slice V.rq.a D.rq.length V.rq.cap,.slice V.im.a D.im.length V.im.cap,.slice V.ep.a D.ep.length V.ep.cap,.slice V.st.a D.st.length V.st.cap,.slice V.ex.a D.ex.length V.ex.cap] 32 (0,0))∧wr.heap[gx]? =some (.cells #[.slice o.rq.a D.rq.length o.rq.cap,.slice o.im.a D.im.length o.im.cap,.slice o.ep.a D.ep.length o.ep.cap,.slice o.st.a D.st.length o.st.cap,.slice o.ex.a D.ex.length o.ex.cap] 32 (0,0))∧OwnMd wr w1.heap.size V D∧OwnMd wr w6.heap.size o D∧Below w.heap.size w wr):=by
       obtain⟨a1,a2,a3,a4,a5⟩:=T8.out
       have k1:=T9.out.trans (j.mono T9.out.size)
       exact⟨(k1.block _ (Array.getElem?_eq_some_iff.1 a1).1).trans a1,(k1.block _ (Array.getElem?_eq_some_iff.1 a2).1).trans a2,a3.later k1,a4.later k1,a5.trans (k1.mono a5.size)⟩
      clear j BW T8 T9 OT CW a9 aS
      go_wp2_with fail
      refine (zhq T I wr (by omega)).mono ?_
      rintro e J ⟨E,j⟩
      have X1:Hid (J.heap[Y]? =some (.cells #[.slice V.rq.a D.rq.length V.rq.cap,.slice V.im.a D.im.length V.im.cap,.slice V.ep.a D.ep.length V.ep.cap,.slice V.st.a D.st.length V.st.cap,.slice V.ex.a D.ex.length V.ex.cap] 32 (0,0))∧J.heap[gx]? =some (.cells #[.slice o.rq.a D.rq.length o.rq.cap,.slice o.im.a D.im.length o.im.cap,.slice o.ep.a D.ep.length o.ep.cap,.slice o.st.a D.st.length o.st.cap,.slice o.ex.a D.ex.length o.ex.cap] 32 (0,0))∧OwnMd J w1.heap.size V D∧OwnMd J w6.heap.size o D∧Below w.heap.size w J):=by
       obtain⟨a1,a2,a3,a4,a5⟩:=X0.out
       exact⟨(j.block _ (Array.getElem?_eq_some_iff.1 a1).1).trans a1,(j.block _ (Array.getElem?_eq_some_iff.1 a2).1).trans a2,a3.later j,a4.later j,a5.trans (j.mono a5.size)⟩
      clear j X0
      rcases E.md with ⟨q4,L,H,ak,aJ,rfl,ah,aw⟩|⟨p4,ak,rfl⟩
      ·obtain rfl:H=D:=by
        cases zdy ak PT.out
        rw[aJ]
        exact HN.out.symm
       have P4:=zc ah
       clear E ak aJ ah aw
       unfold zbM
       go_upto_region 24 with fail
       have K:Hid (Below J.heap.size J (J.alloc (.cells #[.slice L.rq.a H.rq.length L.rq.cap,.slice L.im.a H.im.length L.im.cap,.slice L.ep.a H.ep.length L.ep.cap,.slice L.st.a H.st.length L.st.cap,.slice L.ex.a H.ex.length L.ex.cap] 32))):=(Below.refl _ _).alloc (Nat.le_refl _) _
       refine zaA (R:=fun W=>W.heap[Y]? =some (.cells #[.slice V.rq.a H.rq.length V.rq.cap,.slice V.im.a H.im.length V.im.cap,.slice V.ep.a H.ep.length V.ep.cap,.slice V.st.a H.st.length V.st.cap,.slice V.ex.a H.ex.length V.ex.cap] 32 (0,0))∧W.heap[gx]? =some (.cells #[.slice o.rq.a H.rq.length o.rq.cap,.slice o.im.a H.im.length o.im.cap,.slice o.ep.a H.ep.length o.ep.cap,.slice o.st.a H.st.length o.st.cap,.slice o.ex.a H.ex.length o.ex.cap] 32 (0,0))∧W.heap[J.heap.size]? =some (.cells #[.slice L.rq.a H.rq.length L.rq.cap,.slice L.im.a H.im.length L.im.cap,.slice L.ep.a H.ep.length L.ep.cap,.slice L.st.a H.st.length L.st.cap,.slice L.ex.a H.ex.length L.ex.cap] 32 (0,0))∧OwnMd W w1.heap.size V H∧OwnMd W w6.heap.size o H∧OwnMd W wr.heap.size L H∧Below w.heap.size w W) ⟨(K.out.block _ (Array.getElem?_eq_some_iff.1 X1.out.1).1).trans X1.out.1,(K.out.block _ (Array.getElem?_eq_some_iff.1 X1.out.2.1).1).trans X1.out.2.1,heap_alloc_new J _,X1.out.2.2.1.later K.out,X1.out.2.2.2.1.later K.out,P4.out.later K.out,X1.out.2.2.2.2.trans (K.out.mono X1.out.2.2.2.2.size)⟩ ?_
       obtain⟨gy,aY⟩: ∃gy,gy=J.heap.size:=⟨_,rfl⟩
       rw[←aY]
       rintro br ⟨O,aM,aL,ho,aT,aK,j⟩
       have XM:=zc O
       have XX:=zc aM
       have XY:=zc aL
       have OM:=zc ho
       have OX:=zc aT
       have OY:=zc aK
       have BB:=zc j
       clear O aM aL ho aT aK j K X1 P4 aY
       obtain⟨c0,c1,c2,c3,c4,cf⟩:=zaa XM.out
       obtain⟨d0,d1,d2,d3,d4,df⟩:=zaa XX.out
       go_wp2_with fail
       refine (zlg ziB ziC ziD ziE ziF ziG ziH ziI w6.heap.size w1.heap.size o V H _ OX.out OM.out NF.out).mono ?_
       rintro e bb ⟨rfl,j⟩
       have ao:=zc ((j.block _ (Array.getElem?_eq_some_iff.1 XM.out).1).trans XM.out)
       have aB:=zc ((j.block _ (Array.getElem?_eq_some_iff.1 XY.out).1).trans XY.out)
       have ay:=zc (OM.out.later j)
       have aQ:=zc (OY.out.later j)
       have ax:=zc (BB.out.trans (j.mono BB.out.size))
       clear j c0 c1 c2 c3 c4 cf d0 d1 d2 d3 d4 df XM XX XY OM OX OY BB
       obtain⟨c0,c1,c2,c3,c4,cf⟩:=zaa ao.out
       go_wp2_with fail
       refine (zuq w1.heap.size V H I bb ay.out FW.out.small (fun t=>(FW.out.text t).2)).mono ?_
       rintro e bs ⟨⟨t2,p2,r2,rfl,i2⟩,j⟩
       obtain rfl:r2=true:=i2.2 (by
        obtain⟨q2,h1,h2⟩:=AG.out
        have e2:t2=zcx H:=by
         rcases p2 with ⟨_,e⟩|⟨k2,_⟩
         ·exact e.trans FW.out.same
         ·exact absurd FW.out.tree k2
        rw[e2]
        exact⟨q2,h1,h2⟩)
       have aW:=zc ((j.block _ (Array.getElem?_eq_some_iff.1 ao.out).1).trans ao.out)
       have aO:=zc ((j.block _ (Array.getElem?_eq_some_iff.1 aB.out).1).trans aB.out)
       have aI:=zc (ay.out.later j)
       have aN:=zc (aQ.out.later j)
       have av:=zc (ax.out.trans (j.mono ax.out.size))
       clear j p2 i2 c0 c1 c2 c3 c4 cf ao aB ay aQ ax
       obtain⟨c0,c1,c2,c3,c4,cf⟩:=zaa aW.out
       obtain⟨d0,d1,d2,d3,d4,df⟩:=zaa aO.out
       go_wp2_with fail
       refine (zlg ziB ziC ziD ziE ziF ziG ziH ziI wr.heap.size w1.heap.size L V H _ aN.out aI.out NF.out).mono ?_
       rintro e bu ⟨rfl,j⟩
       have bg:=zc (av.out.trans (j.mono av.out.size))
       clear j c0 c1 c2 c3 c4 cf d0 d1 d2 d3 d4 df aW aO aI aN av
       go_wp2
       go_ret
       exact⟨rfl,bg.out⟩
      ·cases zdy ak PT.out
   ·obtain⟨q2,h1,h2⟩:=AG.out
    rw[←T1.out] at h1
    cases zdy an h1
  ·cases zdy N HY.out
 ·have HY:=zc hy
  have hp:p≤s.size:=zqF hy
  clear hy E
  go_upto_region 5 with fail
  refine zaA (R:=fun W=>W.heap[Q.heap.size]? =some (.cells #[.slice none 0 0,.slice none 0 0,.slice none 0 0,.slice none 0 0,.slice none 0 0] 32 (0,0))∧Below w.heap.size w W) ⟨heap_alloc_new Q _,B2.out.alloc B2.out.size _⟩ ?_
  obtain⟨Y,ab⟩: ∃Y,Y=Q.heap.size:=⟨_,rfl⟩
  rw[←ab]
  rintro w3 ⟨O,j⟩
  have X3:=zc O
  have B3:=zc j
  clear O j B2 ab
  go_wp2_with fail
  refine (zmL s I w3 (by omega)).mono ?_
  rintro e w4 ⟨E,j⟩
  have X4:=zc ((j.block _ (Array.getElem?_eq_some_iff.1 X3.out).1).trans X3.out)
  have B4:=zc (B3.out.trans (j.mono B3.out.size))
  clear j X3 B3
  rcases E.md with ⟨q',Z,n',N,aR,rfl,af,ad⟩|⟨p',N,rfl⟩
  ·cases zdy N HY.out
  ·cases zdy N HY.out
   clear E N
   go_upto_region 6 with fail
   refine zaA (R:=fun W=>W.heap[Y]? =some (.cells #[.slice none 0 0,.slice none 0 0,.slice none 0 0,.slice none 0 0,.slice none 0 0] 32 (0,0))∧Below w.heap.size w W) ⟨(((Below.refl _ _).alloc (Nat.le_refl _) _:Below w4.heap.size w4 (w4.alloc (.cells #[.slice none 0 0,.slice none 0 0,.slice none 0 0,.slice none 0 0,.slice none 0 0] 32))).block _ (Array.getElem?_eq_some_iff.1 X4.out).1).trans X4.out,B4.out.alloc B4.out.size _⟩ ?_
   obtain⟨gt,al⟩: ∃gt,gt=w4.heap.size:=⟨_,rfl⟩
   rw[←al]
   rintro w5 ⟨O,j⟩
   obtain⟨c0,c1,c2,c3,c4,cf⟩:=zaa O
   have bp:(p:Int)≤(s.size:Int):=by omega
   go_wp2
   go_ret
   exact⟨rfl,j⟩
end Go.Proofs.YthfeoomfiafldaaGreat