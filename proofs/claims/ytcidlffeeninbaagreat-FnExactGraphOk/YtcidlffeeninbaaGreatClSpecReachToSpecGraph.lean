/-
  What spec.l7Reach answers: the walk.
  The row of the type byte.
  What spec.l1In answers.
  What spec.l2Path and spec.Clean answer,at every text: the walks.
  What spec.GraphOk answers: the walk.
-/
import Derived.Test.YtcidlffeeninbaaGreatProg
import Derived.WalkKit
import Derived.WalkLawsBesides
import Derived.Test.YtcidlffeeninbaaGreatClLawLinkToSameSpec
import Derived.Test.YtcidlffeeninbaaGreatClSpecTwiceToSpecEarlyA
import Derived.Test.YtcidlffeeninbaaGreatClTwoModToFileMath
import Derived.Test.YtcidlffeeninbaaGreatClAidToTreeMath
namespace Go.Proofs.YtcidlffeeninbaaGreat
set_option maxRecDepth 100000
set_option maxHeartbeats 12800000
open Go.RowKit Go.PlainAid Go.Sort
def OwnBl (w:World) (base g n:Nat) (b:List Bool):Prop:=OwnR w base 4 1 ⟨some ⟨g,0,none⟩,n⟩ n (b.map .bool)
theorem OwnBl.len {w:World} {q g n:Nat} {b:List Bool} (h:OwnBl w q g n b):b.length=n:=by have:=h.1;rw[List.length_map] at this;omega
theorem OwnBl.cell {w:World} {q g n:Nat} {b:List Bool} (h:OwnBl w q g n b) {j:Nat} {v:Bool} (z:b[j]? =some v):w.cell? ⟨g,j,none⟩=some (.bool v):=by
 have E:=h.len
 have D:=(List.getElem?_eq_some_iff.1 z).1
 have A:w.ownsRow q 4 1 (.slice (some ⟨g,0,none⟩) n n) n (b.map .bool):=h
 rw[A.cellAt j (by omega),List.getElem?_map,z]
 rfl
theorem OwnBl.free {w:World} {q g n:Nat} {b:List Bool} (h:OwnBl w q g n b) (j:Nat):w.frozen? ⟨g,j,none⟩=false:=by
 have z:w.ownsRow q 4 1 (.slice (some ⟨g,0,none⟩) n n) n (b.map .bool):=h
 exact z.frozenAt j
theorem OwnBl.set {w:World} {q g n:Nat} {b:List Bool} (h:OwnBl w q g n b) (j:Nat) (v:Bool):OwnBl (w.setCell ⟨g,j,none⟩ (.bool v)) q g n (b.set j v):=by
 have z:w.ownsRow q 4 1 (.slice (some ⟨g,0,none⟩) n n) n (b.map .bool):=h
 unfold OwnBl OwnR
 rw[List.map_set]
 exact (z.stored j (.bool v)).1
theorem OwnBl.later {w z:World} {q g n:Nat} {b:List Bool} (h:OwnBl w q g n b) (A:Below w.heap.size w z):OwnBl z q g n b:=OwnR.later h A
theorem OwnBl.at {w:World} {q g n:Nat} {b:List Bool} (h:OwnBl w q g n b):q≤g∧g<w.heap.size:=⟨(h.typed rfl).1,(h.typed rfl).2.1⟩
theorem OwnBl.block {w:World} {q g n:Nat} {b:List Bool} (h:OwnBl w q g n b): ∃z,w.heap[g]? =some (.cells z 4 (0,0)):=(h.typed rfl).2.2
def zuW (w:World) (n:Nat) (b:List Bool) (e:Ending) (w':World):Prop:=∃g,e= .returned (.slice (some ⟨g,0,none⟩) n n)∧OwnBl w' w.heap.size g n b∧Below w.heap.size w w'
theorem Tryz.infoBl:(Tryz.prog.info? 4).map (fun i=>(i.zero,i.size,i.bytes))=some (some (.bool false),1,1):=by kernel_rfl
structure RchW (w W:World) (G:GS) (g:Gr) (gx gb n:Nat) (b:List Bool):Prop where
 x:Bk W gx (grC G g) 32
 r:OwnBl W w.heap.size gb n b
 ne:gx≠gb
 b:Below w.heap.size w W
theorem RchW.set {w W:World} {G:GS} {g:Gr} {z q n:Nat} {b:List Bool} (h:RchW w W G g z q n b) (j:Nat):RchW w (W.setCell ⟨q,j,none⟩ (.bool true)) G g z q n (b.set j true):=
 ⟨(heap_setCell_other W ⟨q,j,none⟩ z (.bool true) h.ne).trans h.x,h.r.set j true,h.ne,h.b.setCell h.r.at.1 _⟩
theorem zuX {ls:List Lk} {i:Nat} {l:Lk} (h:ls[i]? =some l) (b:List Bool):zbq (ls.take (i+1)) b=zce (zbq (ls.take i) b) l:=by
 obtain⟨q,rfl⟩:=List.getElem?_eq_some_iff.1 h
 rw[List.take_succ_eq_append_getElem q,zbq,List.foldl_append]
 rfl
theorem zuY (ag:Nat) (G:GS) (g:Gr) (w:World) (ho:GrOwn w ag G g) (hn:1≤g.ms.length) (au:g.ms.length≤8) (hl:g.ls.length≤1048576) (hr: ∀l∈g.ls,0≤l.frm∧l.frm<(g.ms.length:Int)∧0≤l.to∧l.to<(g.ms.length:Int)):
  Calls Tryz.prog 17 #[grD G g] w fun e w'=>zuW w g.ms.length (zaU g.ls g.ms.length (zaV g.ms.length)) e w':=by
 have HR:=zc (RowAt.of (f:=lkL) (m:=3) (fun _=>rfl) ho.ls)
 have HC:=zc hr
 clear ho hr
 obtain⟨i0,hi,am,al,ak⟩:=info_parts Tryz.infoBl
 unfold grD
 go_enter Tryz.func17,Tryz.ntmps17
 go_upto_region 1 with fail
 obtain⟨z,O⟩: ∃z,z=w.heap.size:=⟨_,rfl⟩
 rw[←O]
 refine zx (R:=fun W=>Bk W z (grC G g) 32∧Below w.heap.size w W) (by rw[O];exact⟨heap_alloc_new w _,zaN w _⟩) ?_
 rintro W0 ⟨hx,hb⟩
 have ao:w.heap.size≤z:=by omega
 clear O
 have X0:=zc hx
 have J:=zc hb
 have ae:z<W0.heap.size:=(Array.getElem?_eq_some_iff.1 hx).1
 clear hx hb
 obtain⟨c0,c1,K,Z⟩:=zq X0.out
 go_wp2_with (first|(at_make;refine wpList_make_full W0 rfl _ _ 52 rfl w.heap.size 4 i0 _ 1 Tryz.underlying52 hi am al .i64 .i64 _ _ g.ms.length (by rfl) (by rfl) rfl rfl (by rw[ak];omega) (by unfold maxLen;omega) J.out.size ?_))
 intro w1 q I
 have M:Below W0.heap.size W0 w1:=(Below.refl _ _).grown I (Nat.le_refl _) (fun k h=>by cases h)
 obtain⟨H,X⟩: ∃H,H=W0.heap.size:=⟨_,rfl⟩
 have RR:Hid (RchW w w1 G g z H g.ms.length (List.replicate g.ms.length false)):=by
  refine⟨X0.out.later M,?_,by omega,zar J.out M⟩
  unfold OwnBl OwnR
  rw[toList_madeCells_one] at q
  rw[X,List.map_replicate]
  exact q
 rw[←X]
 clear q I M X X0 J ae c0 c1 K Z
 obtain⟨c0,c1,K,Z⟩:=zq RR.out.x
 have f0:=RR.out.r.free 0
 have b0:=RR.out.r.cell (j:=0) (v:=false) (by rw[List.getElem?_replicate,if_pos (by omega)])
 have aq:(0:Int)<(g.ms.length:Int):=by omega
 have R1:=zc (RR.out.set 0)
 go_upto_region 3 with fail
 obtain⟨w2,aa⟩: ∃w2,w2=w1.setCell ⟨H,0,none⟩ (.bool true):=⟨_,rfl⟩
 rw[←aa] at R1 ⊢
 clear aa RR f0 b0 c0 c1 K Z
 have an:(List.replicate g.ms.length false).length=g.ms.length:=List.length_replicate ..
 change Hid (RchW w w2 G g z H g.ms.length (zaV g.ms.length)) at R1
 go_wp2
 go_loopg [4,5] g.ms.length (fun k s4 s5 wr=>∃r:Nat,s4= .int .i64 r∧r+k=g.ms.length∧RchW w wr G g z H g.ms.length (zaU g.ls r (zaV g.ms.length)))
 case atStart=>exact⟨0,rfl,by omega,R1.out⟩
 case round=>
  obtain⟨r,rfl,hr,hw⟩:=hrel
  have RW:=zc hw
  clear hw R1
  obtain⟨c0,c1,K,Z⟩:=zq RW.out.x
  by_cases av:r<g.ms.length
  ·have ad:(r:Int)<(g.ms.length:Int):=by omega
   obtain⟨Y,ab⟩: ∃Y,Y=r+1:=⟨_,rfl⟩
   have er:(r:Int)+1=(Y:Int):=by omega
   have V:=zc ab
   clear ab
   go_wp2
   clear c0 c1 K Z
   go_loopg [5] g.ls.length (fun k s5 wq=>∃i:Nat,s5= .int .i64 i∧i+k=g.ls.length∧RchW w wq G g z H g.ms.length (zbq (g.ls.take i) (zaU g.ls r (zaV g.ms.length))))
   case atStart=>exact⟨0,rfl,by omega,RW.out⟩
   case round=>
    obtain⟨i,rfl,aw,hw⟩:=hrel
    have A:=zc hw
    clear hw
    obtain⟨c0,c1,K,Z⟩:=zq A.out.x
    by_cases aj:i<g.ls.length
    ·have af:(i:Int)<(g.ls.length:Int):=by omega
     obtain⟨l,D⟩: ∃l,g.ls[i]? =some l:=⟨_,List.getElem?_eq_getElem aj⟩
     obtain⟨y0,y1,y2,y3⟩:=HC.out l (List.mem_of_getElem? D)
     obtain⟨bl,ar,ah,hc⟩:=(HR.out.later A.out.b).get D
     have k0:=hc 0 _ rfl
     have k2:=hc 2 _ rfl
     have HN:=zc (zuX D (zaU g.ls r (zaV g.ms.length)))
     simp only[Nat.add_zero] at k0
     clear hc D
     obtain⟨fr,N⟩: ∃fr:Nat,l.frm=fr:=⟨l.frm.toNat,by omega⟩
     obtain⟨U,L⟩: ∃U:Nat,l.to=U:=⟨l.to.toNat,by omega⟩
     obtain⟨b,hb⟩: ∃b,b=zbq (g.ls.take i) (zaU g.ls r (zaV g.ms.length)):=⟨_,rfl⟩
     rw[←hb] at A HN
     clear hb
     have ai:=A.out.r.len
     obtain⟨v,hv⟩: ∃v,b[fr]? =some v:=⟨_,List.getElem?_eq_getElem (by omega)⟩
     obtain⟨u,hu⟩: ∃u,b[U]? =some u:=⟨_,List.getElem?_eq_getElem (by omega)⟩
     have HS:Hid (zce b l=if v=true then b.set U true else b):=by
      show zce b l=_
      unfold zce
      rw[N,L,Int.toNat_natCast,Int.toNat_natCast,List.getD,hv]
      rfl
     have b0:=A.out.r.cell hv
     have b1:=A.out.r.cell hu
     have f1:=A.out.r.free U
     have ax:(fr:Int)<(g.ms.length:Int):=by omega
     have ap:(U:Int)<(g.ms.length:Int):=by omega
     have Q1:=zc (A.out.set U)
     rw[N] at k0
     rw[L] at k2
     rw[ah] at K
     clear N L ah hv hu ai y0 y1 y2 y3
     obtain⟨i1,ac⟩: ∃i1,i1=i+1:=⟨_,rfl⟩
     have ei:(i:Int)+1=(i1:Int):=by omega
     have E:=zc ac
     clear ac
     cases v with
     |true=>
      go_wp2
      go_roundg (gk-1)
      case rel=>exact⟨i1,rfl,by have:=E.out;omega,by rw[E.out,HN.out,HS.out];exact Q1.out⟩
      case measure=>omega
     |false=>
      go_wp2
      go_roundg (gk-1)
      case rel=>exact⟨i1,rfl,by have:=E.out;omega,by rw[E.out,HN.out,HS.out];exact A.out⟩
      case measure=>omega
    ·have af: ¬(i:Int)<(g.ls.length:Int):=by omega
     have QE:Hid (RchW w wr G g z H g.ms.length (zaU g.ls Y (zaV g.ms.length))):=by
      show RchW ..
      rw[V.out,zjB]
      have:=A.out
      rw[List.take_of_length_le (by omega)] at this
      exact this
     go_wp2
     go_roundg (g.ms.length-Y)
     case rel=>exact⟨Y,rfl,by have:=V.out;omega,QE.out⟩
     case measure=>have:=V.out;omega
  ·have ad: ¬(r:Int)<(g.ms.length:Int):=by omega
   obtain rfl:r=g.ms.length:=by omega
   go_wp2
   go_ret
   exact⟨H,rfl,RW.out.r,RW.out.b⟩
theorem zeZ (a b c:Int) (w:World):
  Calls Tryz.prog 12 #[.int .i64 a,.int .i64 b,.int .i64 c] w fun e z=>e= .returned (.bool (inB a b c))∧z=w:=by
 by_cases h:b≤a
 ·by_cases q:a≤c
  ·go_enter Tryz.func12,Tryz.ntmps12
   go_wp2
   go_ret
   exact⟨zh (zi3 h q).symm,rfl⟩
  ·go_enter Tryz.func12,Tryz.ntmps12
   go_wp2
   go_ret
   exact⟨zh (zgR (by omega)).symm,rfl⟩
 ·go_enter Tryz.func12,Tryz.ntmps12
  go_wp2
  go_ret
  exact⟨zh (zgR (by omega)).symm,rfl⟩
theorem zmi (s:ByteArray) (w:World) (_:s.size≤9223372036854775807):
  Calls Tryz.prog 30 #[.string s] w fun e J=>e= .returned (.bool (zaS s))∧J=w:=by
 by_cases hl:1≤s.size∧s.size≤40
 ·obtain⟨N,O⟩:=hl
  have K:=zi3 (a:=s.size) (b:=1) (c:=40) (by omega) (by omega)
  have hb:=get_bt s
  by_cases z:(bt s 0==47)=true
  ·have D:bt s 0=47:=by simpa using z
   have X:Hid (bt s 0=47):=D
   have U:(bt s 0 !=47)=false:=by simpa using D
   clear D
   go_enter Tryz.func30,Tryz.ntmps30
   go_wp2_with (go_at_call 12;refine (zeZ _ _ _ _).mono ?_;rintro e J ⟨rfl,rfl⟩)
   go_loop [3,4] (fun i _=>∃k:Nat,k≤s.size∧i= .int .i64 k∧∀j,j<k→okc (bt s j)) (fun i _=>(s.size-intOf i).toNat)
   case atStart=>exact⟨0,by omega,rfl,fun j Z=>by omega⟩
   case round=>
    obtain⟨k,hk,rfl,I⟩:=hrel
    have H:Hid (∀j,j<k→okc (bt s j)):=I
    clear I
    by_cases L:k<s.size
    ·have aa:=bt_nonneg s k
     have ab:=bt_le s k
     by_cases E:okc (bt s k)
     ·have A:Hid (∀j,j<k+1→okc (bt s j)):=fun j Z=>by
       by_cases e:j=k
       ·rw[e];exact E
       ·exact H.out j (by omega)
      have q:(97≤bt s k∧bt s k≤122)∨(48≤bt s k∧bt s k≤57)∨bt s k=46∨bt s k=95∨bt s k=45∨bt s k=47:=E
      clear E
      rcases q with ⟨a,b⟩|⟨a,b⟩|a|a|a|a
      all_goals
       go_wp2
       go_round
       case rel=>exact⟨k+1,by omega,by go_num,A.out⟩
       case measure=>simp[intOf];omega
     ·have A:Hid (¬zc1 s):=fun h=>E (h.2.2.2 k L)
      have q: ¬(97≤bt s k∧bt s k≤122)∧¬(48≤bt s k∧bt s k≤57)∧bt s k≠46∧bt s k≠95∧bt s k≠45∧bt s k≠47:=by
       unfold okc at E;omega
      obtain⟨V,M,c3,c4,Y,c6⟩:=q
      have d3:(bt s k==46)=false:=beq_eq_false_iff_ne.2 c3
      have d4:(bt s k==95)=false:=beq_eq_false_iff_ne.2 c4
      have d5:(bt s k==45)=false:=beq_eq_false_iff_ne.2 Y
      have d6:(bt s k==47)=false:=beq_eq_false_iff_ne.2 c6
      clear E c3 c4 Y c6
      by_cases g1:97≤bt s k
      ·have g2:122<bt s k:=by omega
       have q1:decide (bt s k≤122)=false:=decide_eq_false (by omega)
       have q2:decide (bt s k≤57)=false:=decide_eq_false (by omega)
       clear V M
       go_wp2
       go_ret
       exact⟨zh (zd3 A.out).symm,rfl⟩
      ·by_cases g3:48≤bt s k
       ·have g4:57<bt s k:=by omega
        have q2:decide (bt s k≤57)=false:=decide_eq_false (by omega)
        clear V M
        go_wp2
        go_ret
        exact⟨zh (zd3 A.out).symm,rfl⟩
       ·clear V M
        go_wp2
        go_ret
        exact⟨zh (zd3 A.out).symm,rfl⟩
    ·have HY:Hid (zc1 s):=⟨N,O,X.out,fun j Z=>H.out j (by omega)⟩
     go_wp2
     go_ret
     exact⟨zh (zjL HY.out).symm,rfl⟩
  ·have A:Hid (¬zc1 s):=fun h=>z (by rw[h.2.2.1];rfl)
   have U:(bt s 0 !=47)=true:=by simpa using z
   clear z
   go_enter Tryz.func30,Tryz.ntmps30
   go_wp2_with (go_at_call 12;refine (zeZ _ _ _ _).mono ?_;rintro e J ⟨rfl,rfl⟩)
   go_ret
   exact⟨zh (zd3 A.out).symm,rfl⟩
 ·have A:Hid (¬zc1 s):=fun h=>hl ⟨h.1,h.2.1⟩
  have K:=zgR (a:=s.size) (b:=1) (c:=40) (by omega)
  go_enter Tryz.func30,Tryz.ntmps30
  go_wp2_with (go_at_call 12;refine (zeZ _ _ _ _).mono ?_;rintro e J ⟨rfl,rfl⟩)
  go_ret
  exact⟨zh (zd3 A.out).symm,rfl⟩
theorem Tryz.infoStr:(Tryz.prog.info? 9).map (fun i=>(i.zero,i.size,i.bytes))=some (some (.string {data:=#[]}),1,16):=by kernel_rfl
theorem zuZ (c:UInt8):({data:=#[c]}:ByteArray).size=1:=rfl
theorem zva (s:ByteArray) (w:World) (hs:s.size≤9223372036854775807):
  Calls Tryz.prog 13 #[.string s] w fun e U=>e= .returned (.string (zaH s))∧Below w.heap.size w U:=by
 obtain⟨i0,hi,ak,aj,ai⟩:=info_parts Tryz.infoStr
 by_cases hp:zaS s=true
 ·have au:1≤s.size:=(zdD.1 hp).1
  have av:s.size≤40:=(zdD.1 hp).2.1
  have HP:Hid (zaS s=true):=hp
  have hb:=get_bt s
  go_enter Tryz.func13,Tryz.ntmps13
  go_wp2_with (go_at_call 30;refine (zmi _ _ hs).mono ?_;rintro e U ⟨rfl,rfl⟩)
  go_loopw [3,4,5,6] (fun l f i _ wr=>∃(k n g D:Nat) (q:List ByteArray) (E:Nat),k≤s.size+1∧i= .int .i64 k∧f= .int .i64 E∧l= .slice (some ⟨g,0,none⟩) n D∧zW s k=(E,q)∧zcm wr U.heap.size 9 g n D q∧Below U.heap.size U wr) (fun _ _ i _ _=>(s.size+1-intOf i).toNat)
  case atStart=>exact⟨0,0,U.heap.size,0,[],0,by omega,rfl,rfl,rfl,rfl,⟨World.ownsRow_lit U #[] 0 (Nat.le_refl _) (by unfold maxLen;omega) rfl,rfl⟩,(Below.refl _ _).alloc (Nat.le_refl _) _⟩
  case round=>
   obtain⟨k,n,g,D,q,E,hk,rfl,rfl,rfl,ab,h,z⟩:=hrel
   have HT:Hid (zW s k=(E,q)):=ab
   have X:=zh2 s k
   rw[ab] at X
   simp only at X
   have hn:=zgv h
   have K:=zh9 h
   have H:n≤42:=by omega
   have A:Hid (n=q.length):=hn
   clear ab hn
   have aw:E≤k:=X.1
   clear X
   have ah:=z.size
   by_cases ay:k≤s.size
   ·by_cases hc:k<s.size∧bt s k≠47
    ·obtain⟨ad,Z⟩:=hc
     have V:Hid (zW s (k+1)=(E,q)):=(zjM ad Z).trans HT.out
     have hq:(bt s k !=47)=true:=by simpa using Z
     clear Z
     go_wp2
     go_roundw
     case rel=>exact⟨k+1,n,g,D,q,E,by omega,by go_num,rfl,rfl,V.out,h,z⟩
     case measure=>simp[intOf];omega
    ·have V:Hid (zW s (k+1)=(k+1,upd (s.extract E k) q)):=by
      have:=zjN hc
      rw[HT.out] at this
      exact this
     by_cases an:k<s.size
     ·have hq:(bt s k !=47)=false:=by
       have:bt s k=47:=by
        rcases Classical.em (bt s k=47) with e|e
        ·exact e
        ·exact absurd ⟨an,e⟩ hc
       simp[this]
      clear hc
      by_cases p0:(s.extract E k).toList.isEmpty=true
      ·have I:Hid (zW s (k+1)=(k+1,q)):=by have:=V.out;rw[zgu p0] at this;exact this
       go_wp2
       go_roundw
       case rel=>exact⟨k+1,n,g,D,q,k+1,by omega,by go_num,by go_num,rfl,I.out,h,z⟩
       case measure=>simp[intOf];omega
      ·have N:(s.extract E k).toList.isEmpty=false:=by simpa using p0
       clear p0
       by_cases p1:((s.extract E k).toList==[46])=true
       ·have I:Hid (zW s (k+1)=(k+1,q)):=by have:=V.out;rw[zh3 p1] at this;exact this
        go_wp2
        go_roundw
        case rel=>exact⟨k+1,n,g,D,q,k+1,by omega,by go_num,by go_num,rfl,I.out,h,z⟩
        case measure=>simp[intOf];omega
       ·have O:((s.extract E k).toList==[46])=false:=by simpa using p1
        clear p1
        by_cases p2:((s.extract E k).toList==[46,46])=true
        ·have I:Hid (zW s (k+1)=(k+1,q.dropLast)):=by have:=V.out;rw[zh5 N O p2] at this;exact this
         match n,h,A,H,K with
         |0,h,A,H,K=>
          have HD:Hid (q.dropLast=q):=by
           show q.dropLast=q
           have:=A.out
           have e:q=[]:=List.length_eq_zero_iff.1 this.symm
           rw[e];rfl
          go_wp2
          go_roundw
          case rel=>exact⟨k+1,0,g,D,q,k+1,by omega,by go_num,by go_num,rfl,by rw[I.out,HD.out],h,z⟩
          case measure=>simp[intOf];omega
         |n+1,h,A,H,K=>
          have L:=zjR h
          have ad:n≤D:=by omega
          go_wp2
          go_roundw
          case rel=>exact⟨k+1,n,g,D,q.dropLast,k+1,by omega,by go_num,by go_num,rfl,I.out,L,z⟩
          case measure=>simp[intOf];omega
        ·have aa:((s.extract E k).toList==[46,46])=false:=by simpa using p2
         clear p2
         have I:Hid (zW s (k+1)=(k+1,q++[s.extract E k])):=by have:=V.out;rw[zh4 N O aa] at this;exact this
         go_wp2_with (first|(at_builtin;refine zgw wr rfl _ _ 22 rfl U.heap.size 9 i0 _ Tryz.underlying22 hi ak aj ai rfl g n D q (by rfl) h (s.extract E k) (by rfl) (by omega) ah ?_))
         intro g' M w2 J ae
         go_wp2
         go_roundw
         case rel=>exact⟨k+1,n+1,g',M,q++[s.extract E k],k+1,by omega,by go_num,by go_num,rfl,I.out,J,z.trans ae⟩
         case measure=>simp[intOf];omega
     ·clear hc
      by_cases p0:(s.extract E k).toList.isEmpty=true
      ·have I:Hid (zW s (k+1)=(k+1,q)):=by have:=V.out;rw[zgu p0] at this;exact this
       go_wp2
       go_roundw
       case rel=>exact⟨k+1,n,g,D,q,k+1,by omega,by go_num,by go_num,rfl,I.out,h,z⟩
       case measure=>simp[intOf];omega
      ·have N:(s.extract E k).toList.isEmpty=false:=by simpa using p0
       clear p0
       by_cases p1:((s.extract E k).toList==[46])=true
       ·have I:Hid (zW s (k+1)=(k+1,q)):=by have:=V.out;rw[zh3 p1] at this;exact this
        go_wp2
        go_roundw
        case rel=>exact⟨k+1,n,g,D,q,k+1,by omega,by go_num,by go_num,rfl,I.out,h,z⟩
        case measure=>simp[intOf];omega
       ·have O:((s.extract E k).toList==[46])=false:=by simpa using p1
        clear p1
        by_cases p2:((s.extract E k).toList==[46,46])=true
        ·have I:Hid (zW s (k+1)=(k+1,q.dropLast)):=by have:=V.out;rw[zh5 N O p2] at this;exact this
         match n,h,A,H,K with
         |0,h,A,H,K=>
          have HD:Hid (q.dropLast=q):=by
           show q.dropLast=q
           have:=A.out
           have e:q=[]:=List.length_eq_zero_iff.1 this.symm
           rw[e];rfl
          go_wp2
          go_roundw
          case rel=>exact⟨k+1,0,g,D,q,k+1,by omega,by go_num,by go_num,rfl,by rw[I.out,HD.out],h,z⟩
          case measure=>simp[intOf];omega
         |n+1,h,A,H,K=>
          have L:=zjR h
          have ad:n≤D:=by omega
          go_wp2
          go_roundw
          case rel=>exact⟨k+1,n,g,D,q.dropLast,k+1,by omega,by go_num,by go_num,rfl,I.out,L,z⟩
          case measure=>simp[intOf];omega
        ·have aa:((s.extract E k).toList==[46,46])=false:=by simpa using p2
         clear p2
         have I:Hid (zW s (k+1)=(k+1,q++[s.extract E k])):=by have:=V.out;rw[zh4 N O aa] at this;exact this
         go_wp2_with (first|(at_builtin;refine zgw wr rfl _ _ 22 rfl U.heap.size 9 i0 _ Tryz.underlying22 hi ak aj ai rfl g n D q (by rfl) h (s.extract E k) (by rfl) (by omega) ah ?_))
         intro g' M w2 J ae
         go_wp2
         go_roundw
         case rel=>exact⟨k+1,n+1,g',M,q++[s.extract E k],k+1,by omega,by go_num,by go_num,rfl,I.out,J,z.trans ae⟩
         case measure=>simp[intOf];omega
   ·obtain rfl:k=s.size+1:=by omega
    have ac:Hid (parts s=q):=by show (zW s (s.size+1)).2=q;rw[HT.out]
    have ag: ∀x∈q,x.size≤s.size:=by
     have:=zjO s (s.size+1)
     rw[HT.out] at this
     exact this
    have HX:Hid (∀x∈q,x.size≤s.size):=ag
    clear ag
    by_cases Y:n=0
    ·have HE:Hid (zaH s={data:=#[47]}):=zh7 HP.out (by rw[ac.out,←A.out];exact Y)
     have hq:((n:Int)==0)=true:=by rw[Y];rfl
     clear Y
     go_wp2
     go_ret
     exact⟨za6 HE.out.symm,z⟩
    ·have HE:Hid (zaH s=zcl q n):=by
      have:=zh8 HP.out (by rw[ac.out,←A.out];exact Y)
      rw[ac.out,←A.out] at this
      exact this
     have hq:((n:Int)==0)=false:=beq_eq_false_iff_ne.2 (by omega)
     go_wp2
     go_loop [7,8] (fun o i=>∃j:Nat,j≤n∧i= .int .i64 j∧o= .string (zcl q j)) (fun _ i=>(n-intOf i).toNat)
     case atStart=>exact⟨0,by omega,rfl,rfl⟩
     case round=>
      obtain⟨j,hj,rfl,rfl⟩:=hrel
      by_cases am:j<n
      ·have ap:=zhA h j am
       have ax:(zcl q j).size≤2000:=by
        have h1:=zjQ s q HX.out j
        have h2:j*(s.size+1)≤42*41:=Nat.mul_le_mul (by omega) (by omega)
        omega
       have ar:(q[j]?.getD {data:=#[]}).size≤40:=by
        have:=zjP s q HX.out j
        rw[List.getD_eq_getElem?_getD] at this
        omega
       have aq:(zcl q j++{data:=#[47]}).size≤2001:=by rw[ByteArray.size_append,zuZ];omega
       have HJ:Hid (zcl q (j+1)=zcl q j++{data:=#[47]}++q.getD j {data:=#[]}):=rfl
       go_wp2
       go_round
       case rel=>exact⟨j+1,by omega,by go_num,by rw[HJ.out,List.getD_eq_getElem?_getD]⟩
       case measure=>simp[intOf];omega
      ·have af:j=n:=by omega
       have al:Hid (zaH s=zcl q j):=by show zaH s=_;rw[HE.out,af]
       clear af
       go_wp2
       go_ret
       exact⟨za6 al.out.symm,z⟩
 ·have ao:zaS s=false:=by simpa using hp
  have HV:Hid (zaH s={data:=#[]}):=zh6 ao
  clear hp
  go_enter Tryz.func13,Tryz.ntmps13
  go_wp2_with (go_at_call 30;refine (zmi _ _ hs).mono ?_;rintro e U ⟨rfl,rfl⟩)
  go_ret
  exact⟨za6 HV.out.symm,Below.refl _ _⟩
structure GrW (w W:World) (G:GS) (g:Gr) (gx:Nat):Prop where
 x:Bk W gx (grC G g) 32
 b:Below w.heap.size w W
theorem GrW.later {w W q:World} {G:GS} {g:Gr} {A:Nat} (h:GrW w W G g A) (z:Below W.heap.size W q):GrW w q G g A:=⟨h.x.later z,zar h.b z⟩
theorem GrOwn.rows {w:World} {q:Nat} {G:GS} {g:Gr} (h:GrOwn w q G g):RowS w G.pr.a g.ps∧RowAt w G.mr.a mdL 5 (G.sv.zip g.ms)∧RowAt w G.lr.a lkL 3 g.ls:=
 ⟨RowAt.of (f:=fun x=>[Value.string x]) (m:=1) (fun _=>rfl) h.ps,RowAt.of (f:=mdL) (m:=5) (fun _=>rfl) (zeK h.len h.ms),RowAt.of (f:=lkL) (m:=3) (fun _=>rfl) h.ls⟩
def GrTo (g:Gr) (i:Nat):Prop:=(∀j,j<i→zeM g.ps j)∧∀(j:Nat) (m:Md),j<i→g.ms[j]? =some m→MOk m∧zaq m=0
theorem GrTo.next {g:Gr} {i:Nat} {m:Md} (h:GrTo g i) (E:g.ms[i]? =some m) (z:zeM g.ps i) (A:MOk m) (w:zaq m=0):GrTo g (i+1):=by
 refine⟨fun j D=>?_,fun j x D q=>?_⟩
 ·by_cases e:j=i
  ·rw[e];exact z
  ·exact h.1 j (by omega)
 ·by_cases e:j=i
  ·rw[e,E] at q;cases q;exact⟨A,w⟩
  ·exact h.2 j x (by omega) q
theorem zvb {g:Gr} {i:Nat} {m:Md} (w:i<g.ms.length) (q:g.ms[i]? =some m) (h: ¬(zeM g.ps i∧MOk m∧zaq m=0)): ¬GrS g:=fun k=>h ⟨k.2.2.1 i w,k.2.2.2.1 m (List.mem_of_getElem? q)⟩
def zgP (g:Gr) (i:Nat) (l:Lk):Prop:=0≤l.frm∧l.frm<((zC g).length:Int)∧0≤l.to∧l.to<((zC g).length:Int)∧(∃s∈(zC g).getD l.frm.toNat [],s.toList=l.spec.toList)∧∀(k:Nat) (x:Lk),k<i→g.ls[k]? =some x→zR x≠zR l
def LkTo (g:Gr) (i:Nat):Prop:=∀(j:Nat) (l:Lk),j<i→g.ls[j]? =some l→zgP g j l
theorem LkTo.next {g:Gr} {i:Nat} {l:Lk} (h:LkTo g i) (z:g.ls[i]? =some l) (w:zgP g i l):LkTo g (i+1):=by
 intro j x A q
 by_cases e:j=i
 ·rw[e,z] at q;cases q;rw[e];exact w
 ·exact h j x (by omega) q
theorem zix {g:Gr} {i:Nat} {l:Lk} (q:g.ls[i]? =some l) (h: ¬zgP g i l): ¬GrS g:=fun k=>h (k.2.2.2.2.1.2 i l q)
theorem zvc {g:Gr} {i:Nat} {l:Lk} (D:g.ls[i]? =some l):
  (decide (l.frm<0)=true∧¬GrS g)∨(decide (l.frm<0)=false∧((decide ((g.ms.length:Int)≤l.frm)=true∧¬GrS g)∨(decide ((g.ms.length:Int)≤l.frm)=false∧((decide (l.to<0)=true∧¬GrS g)∨(decide (l.to<0)=false∧((decide ((g.ms.length:Int)≤l.to)=true∧¬GrS g)∨decide ((g.ms.length:Int)≤l.to)=false)))))):=by
 have h:=zix D
 unfold zgP at h
 rw[zcp] at h
 by_cases w:l.frm<0
 ·exact .inl ⟨decide_eq_true w,h fun k=>by omega⟩
 ·refine .inr ⟨decide_eq_false w,?_⟩
  by_cases z:(g.ms.length:Int)≤l.frm
  ·exact .inl ⟨decide_eq_true z,h fun k=>by omega⟩
  ·refine .inr ⟨decide_eq_false z,?_⟩
   by_cases q:l.to<0
   ·exact .inl ⟨decide_eq_true q,h fun k=>by omega⟩
   ·refine .inr ⟨decide_eq_false q,?_⟩
    by_cases A:(g.ms.length:Int)≤l.to
    ·exact .inl ⟨decide_eq_true A,h fun k=>by omega⟩
    ·exact .inr (decide_eq_false A)
theorem zvd (x l:Lk):(x.frm=l.frm∧(x.spec.toList==l.spec.toList)=true∧zR x=zR l)∨(x.frm=l.frm∧(x.spec.toList==l.spec.toList)=false∧zR x≠zR l)∨(¬x.frm=l.frm∧zR x≠zR l):=by
 by_cases h:x.frm=l.frm
 ·cases q:(x.spec.toList==l.spec.toList) with
  |true=>exact .inl ⟨h,rfl,by unfold zR;rw[h,eq_of_beq q]⟩
  |false=>exact .inr (.inl ⟨h,rfl,fun e=>by rw[(Prod.mk.inj e).2] at q;simp at q⟩)
 ·exact .inr (.inr ⟨h,fun e=>h (Prod.mk.inj e).1⟩)
theorem zve {ls:List Lk} {j:Nat} {x l:Lk} (h: ∀(k:Nat) (x:Lk),k<j→ls[k]? =some x→zR x≠zR l) (z:ls[j]? =some x) (w:zR x≠zR l): ∀(k:Nat) (x:Lk),k<j+1→ls[k]? =some x→zR x≠zR l:=by
 intro k y A q
 by_cases e:k=j
 ·rw[e,z] at q;cases q;exact w
 ·exact h k y (by omega) q
theorem zvf {g:Gr} {i:Nat} {m:Md} {p:ByteArray} (K:i<g.ms.length) (H:g.ms[i]? =some m) (I:g.ps.getD i sNone=p) (J:GrTo g i):
  (p.toList.isEmpty=true∧¬GrS g)∨(p.toList.isEmpty=false∧((((zaH p).toList==p.toList)=false∧¬GrS g)∨(((zaH p).toList==p.toList)=true∧((inL (g.ps.take i) p=true∧¬GrS g)∨(inL (g.ps.take i) p=false∧((¬MOk m∧¬GrS g)∨(MOk m∧((¬zaq m=0∧¬GrS g)∨(zaq m=0∧GrTo g (i+1)))))))))):=by
 have h:=zvb K H
 have q:=fun a b c=>J.next H a b c
 unfold zeM at h q
 rw[I] at h q
 cases D:p.toList.isEmpty with
 |true=>exact .inl ⟨rfl,h fun k=>by rw[D] at k;exact absurd k.1.1 (by decide)⟩
 |false=>
  refine .inr ⟨rfl,?_⟩
  cases E:((zaH p).toList==p.toList) with
  |false=>exact .inl ⟨rfl,h fun k=>by rw[E] at k;exact absurd k.1.2.1 (by decide)⟩
  |true=>
   refine .inr ⟨rfl,?_⟩
   cases A:inL (g.ps.take i) p with
   |true=>exact .inl ⟨rfl,h fun k=>by rw[A] at k;exact absurd k.1.2.2 (by decide)⟩
   |false=>
    refine .inr ⟨rfl,?_⟩
    by_cases w:MOk m
    ·refine .inr ⟨w,?_⟩
     by_cases z:zaq m=0
     ·exact .inr ⟨z,q ⟨D,E,A⟩ w z⟩
     ·exact .inl ⟨z,h fun k=>z k.2.2⟩
    ·exact .inl ⟨w,h fun k=>w k.2.1⟩
theorem zvg (ah:zf5 15) (ag:zf6 16) (N:Nat) (G:GS) (g:Gr) (w:World) (ho:GrOwn w N G g) (hg:GdG g):
  Calls Tryz.prog 5 #[grD G g] w fun e w'=>SameOut (GrS g) e∧Below w.heap.size w w':=by
 have HO:=zc ho
 have HG:=zc hg
 have CM:=zc ah
 have CE:=zc ag
 have aN:=hg.pl
 have aO:=hg.ml
 have aF:=hg.ll
 clear ho hg ah ag
 unfold grD
 go_enter Tryz.func5,Tryz.ntmps5
 go_upto_region 1 with fail
 obtain⟨gx,aj⟩: ∃gx,gx=w.heap.size:=⟨_,rfl⟩
 rw[←aj]
 refine zx (R:=fun W=>GrW w W G g gx) (by rw[aj];exact⟨heap_alloc_new w _,zaN w _⟩) ?_
 intro W0 hW
 have X0:=zc hW
 clear hW aj
 obtain⟨c0,c1,c2,cf⟩:=zq X0.out.x
 by_cases hn:1≤g.ms.length∧g.ms.length≤8
 case neg=>
  have HN:Hid (¬GrS g):=fun k=>hn k.1
  have D:inB (g.ms.length:Int) 1 8=false:=by unfold inB;simp;omega
  go_wp2_with (first|(go_at_call 12;refine (zeZ _ _ _ _).mono ?_;rintro e w' ⟨rfl,rfl⟩;rw[D]))
  go_ret
  exact⟨zbt HN.out rfl,X0.out.b⟩
 have D:inB (g.ms.length:Int) 1 8=true:=by unfold inB;simp;omega
 obtain⟨ap,av⟩:=hn
 by_cases hp:g.ps.length=g.ms.length
 case neg=>
  have HN:Hid (¬GrS g):=fun k=>hp k.2.1
  have aB: ¬(g.ps.length:Int)=(g.ms.length:Int):=by omega
  go_wp2_with (first|(go_at_call 12;refine (zeZ _ _ _ _).mono ?_;rintro e w' ⟨rfl,rfl⟩;rw[D]))
  go_ret
  exact⟨zbt HN.out rfl,X0.out.b⟩
 have aB:(g.ps.length:Int)=(g.ms.length:Int):=by omega
 go_wp2_with (first|(go_at_call 12;refine (zeZ _ _ _ _).mono ?_;rintro e w' ⟨rfl,rfl⟩;rw[D]))
 have ar:Hid (∀k,zao ((zC g).take k)≤1048576):=fun k=>Nat.le_trans (zhE _ _) HG.out.rq
 clear c0 c1 c2 cf D
 go_loopg [4,5] g.ms.length (fun k s4 s5 wr=>∃i:Nat,s5= .int .i64 i∧s4= .int .i64 (zao ((zC g).take i):Nat)∧i+k=g.ms.length∧GrTo g i∧GrW w wr G g gx)
 case atStart=>exact⟨0,rfl,rfl,by omega,⟨fun j hj=>absurd hj (Nat.not_lt_zero j),fun j m hj=>absurd hj (Nat.not_lt_zero j)⟩,X0.out⟩
 case round=>
  obtain⟨i,rfl,rfl,hi,ht,hw⟩:=hrel
  have X:=zc hw
  have TO:=zc ht
  clear hw ht X0
  have aP:=ar.out i
  by_cases af:i<g.ms.length
  ·have ad:(i:Int)<(g.ms.length:Int):=by omega
   have aI:(i:Int)<(g.ps.length:Int):=by omega
   obtain⟨p,ae⟩: ∃p,g.ps[i]? =some p:=⟨_,List.getElem?_eq_getElem (by omega)⟩
   obtain⟨m,Z⟩: ∃m,g.ms[i]? =some m:=⟨_,List.getElem?_eq_getElem af⟩
   obtain⟨S,hS⟩:=zdH HO.out.len Z
   have OW:=zc (HO.out.later X.out.b)
   have OM:=zc (OW.out.md _ (List.mem_of_getElem? hS))
   have GM:=zc (HG.out.ms m (List.mem_of_getElem? Z))
   have HM:=zc Z
   have PD:Hid (g.ps.getD i sNone=p):=by show _=_;rw[List.getD,ae];rfl
   have RQ:Hid ((zC g)[i]? =some m.rq):=by show _=_;rw[zC,List.getElem?_map,Z];rfl
   obtain⟨b1,o1,e1,k1⟩:=OW.out.rows.1.get ae
   obtain⟨b2,o2,e2,k2⟩:=OW.out.rows.2.1.get hS
   have aJ:(i:Int)≤(G.pr.cap:Int):=by have:=OW.out.ps.cap;omega
   have C0:=zc (k1 0 _ rfl)
   have D0:=zc (k2 0 _ rfl)
   have D1:=zc (k2 1 _ rfl)
   have D2:=zc (k2 2 _ rfl)
   have D3:=zc (k2 3 _ rfl)
   have D4:=zc (k2 4 _ rfl)
   have aA:p.size≤9223372036854775807:=by have:=HG.out.ps p (List.mem_of_getElem? ae);omega
   have RT:Hid (RowS wr G.pr.a (g.ps.take i)):=OW.out.rows.1.take i
   have ao:i=(g.ps.take i).length:=by rw[List.length_take];omega
   have cC: ∀d I,Calls Tryz.prog 13 #[.string p] (grow (redrawn wr d) I) fun e H=>e= .returned (.string (zaH p))∧∃q:Regrown,H=grow (redrawn wr q.d) q.os:=fun d I=>Calls.regrown_of (zva p _ aA)
   have cI: ∀d I,Calls Tryz.prog 14 #[.slice (some ⟨b1,o1,none⟩) i G.pr.cap,.string p] (grow (redrawn wr d) I) fun e H=>e= .returned (.bool (inL (g.ps.take i) p))∧∃q:Regrown,H=grow (redrawn wr q.d) q.os:=fun d I=>Calls.regrown_of ((zfH (some ⟨b1,o1,none⟩) G.pr.cap i (g.ps.take i) p _ ao (e1▸RT.out.later (below_regrown wr d I)) (by omega)).mono fun e w' h=>⟨h.1,by rw[h.2];exact Below.refl _ _⟩)
   have cM: ∀(b:Bool),(b=true↔MOk m)→∀d I,Calls Tryz.prog 15 #[zn S m,.bool false] (grow (redrawn wr d) I) fun e H=>e= .returned (.bool b)∧∃q:Regrown,H=grow (redrawn wr q.d) q.os:=fun b hb d I=>Calls.regrown_of ((CM.out N S m _ (OM.out.later (below_regrown wr d I)) GM.out).mono fun e w' h=>⟨h.1.of hb,h.2⟩)
   have cE:MOk m→∀d I,Calls Tryz.prog 16 #[zn S m,.bool false] (grow (redrawn wr d) I) fun e H=>e= .returned (.int .i64 (zaq m))∧∃q:Regrown,H=grow (redrawn wr q.d) q.os:=fun O d I=>Calls.regrown_of (CE.out N S m _ (OM.out.later (below_regrown wr d I)) GM.out O)
   unfold zn at cM cE
   obtain⟨C1,C2,C3,cf⟩:=zq X.out.x
   rw[e1] at C1
   rw[e2] at C2
   have Y1:=zc C1
   have Y2:=zc C2
   clear ae Z hS k1 k2 e1 e2 C1 C2 C3 cf ao
   have an:=zvf af HM.out PD.out TO.out
   rcases an with ⟨h1,A⟩|⟨h1,⟨h2,A⟩|⟨h2,⟨h3,A⟩|⟨h3,⟨h4,A⟩|⟨h4,⟨h5,A⟩|⟨h5,A⟩⟩⟩⟩⟩
   all_goals have HX:=zc A
   all_goals clear A
   case' inr.inr.inr.inr.inl=>
    have q1:decide (zaq m=0)=false:=decide_eq_false h5
    have q2:(zaq m==0)=false:=q1
    have q3:(zaq m !=0)=true:=by rw[bne,q2];rfl
   all_goals (
    go_wp2
    have z0:=cell_regrown C0.out
    have z1:=cell_regrown Y1.out
    have z2:=cell_regrown Y2.out
    have d0:=cell_regrown D0.out
    have d1:=cell_regrown D1.out
    have d2:=cell_regrown D2.out
    have d3:=cell_regrown D3.out
    have d4:=cell_regrown D4.out
    simp only[Nat.add_zero,Nat.mul_one] at z0 d0
    refine wp_region_quiet_below (by kernel_rfl) (by kernel_rfl) ?_
    repeat (go_big_quiet_step (first|with_reducible exact cC _ _|with_reducible exact cI _ _|with_reducible exact cM true (iff_of_true rfl h4) _ _|with_reducible exact cM false (by simp[h4]) _ _|with_reducible exact cE h4 _ _))
    refine wpQuiet_nil ?_
    intro w2 E
    obtain⟨q,z⟩:=E
    have Y:=zc (X.out.later (zdI z))
    clear z0 z1 z2 d0 d1 d2 d3 d4)
   all_goals first
    |(go_wp2;go_ret;exact⟨zbt HX.out rfl,Y.out.b⟩)
    |(
     have E1:w2.cell? ⟨gx,1,none⟩=some (.slice (some ⟨b2,o2,none⟩) g.ms.length G.mr.cap):=by rw[z];exact cell_regrown Y2.out _ _
     have E0:w2.cell? ⟨b2,o2+i*5,none⟩=some (.slice S.rq.a m.rq.length S.rq.cap):=by rw[z];exact cell_regrown D0.out _ _
     obtain⟨V,J⟩: ∃V,V=i+1:=⟨_,rfl⟩
     have ei:(i:Int)+1=(V:Int):=by omega
     have ac:=zc J
     have aQ:(zao ((zC g).take i):Int)+(m.rq.length:Int)=(zao ((zC g).take V):Nat):=by rw[J,zhD RQ.out];omega
     have aK:=ar.out V
     clear J z cC cI cM cE
     go_wp2
     go_roundg (gk-1)
     case rel=>exact⟨V,rfl,rfl,by have:=ac.out;omega,by rw[ac.out];exact HX.out,Y.out⟩
     case measure=>omega)
  ·have ad: ¬(i:Int)<(g.ms.length:Int):=by omega
   obtain rfl:i=g.ms.length:=by omega
   have HT:Hid (zao ((zC g).take g.ms.length)=zao (zC g)):=by show _=_;rw[List.take_of_length_le (by rw[zcp];exact Nat.le_refl _)]
   obtain⟨c0,c1,c2,cf⟩:=zq X.out.x
   by_cases M:zao ((zC g).take g.ms.length)=g.ls.length
   case neg=>
    have HN:Hid (¬GrS g):=fun k=>M (HT.out.trans k.2.2.2.2.1.1)
    have aG: ¬((zao ((zC g).take g.ms.length):Nat):Int)=(g.ls.length:Int):=by omega
    clear M
    go_wp2
    go_ret
    exact⟨zbt HN.out rfl,X.out.b⟩
   have aG:((zao ((zC g).take g.ms.length):Nat):Int)=(g.ls.length:Int):=by omega
   have aH:=zc M
   clear M
   go_wp2
   have X1:=zc X.out
   clear c0 c1 c2 cf X
   go_loopg [6] g.ls.length (fun k s6 wr=>∃i:Nat,s6= .int .i64 i∧i+k=g.ls.length∧LkTo g i∧GrW w wr G g gx)
   case atStart=>exact⟨0,rfl,by omega,(fun j l hj=>absurd hj (Nat.not_lt_zero j)),X1.out⟩
   case round=>
    obtain⟨i,rfl,hi,ht,hw⟩:=hrel
    have X:=zc hw
    have LT:=zc ht
    clear hw ht X1
    obtain⟨c0,c1,c2,cf⟩:=zq X.out.x
    by_cases af:i<g.ls.length
    ·have ad:(i:Int)<(g.ls.length:Int):=by omega
     obtain⟨l,K⟩: ∃l,g.ls[i]? =some l:=⟨_,List.getElem?_eq_getElem af⟩
     have HL:=zc K
     obtain⟨b1,o1,e1,k1⟩:=(HO.out.later X.out.b).rows.2.2.get K
     have k0:=k1 0 _ rfl
     have k2:=k1 2 _ rfl
     have k3:=k1 1 _ rfl
     simp only[Nat.add_zero] at k0
     rw[e1] at c2
     clear K k1
     go_upto_region 17 with fail
     obtain⟨gl,al⟩: ∃gl,gl=wr.heap.size:=⟨_,rfl⟩
     rw[←al]
     refine zx (R:=fun W=>GrW w W G g gx∧Bk W gl #[.int .i64 l.frm,.string l.spec,.int .i64 l.to] 51) ⟨X.out.later (zaN wr _),by rw[al];exact heap_alloc_new wr _⟩ ?_
     clear al X k0 k2 k3 e1 c0 c1 c2 cf
     rintro w1 ⟨A,K⟩
     have X:=zc A
     have L:=zc K
     clear A K
     have Z0:=zc (zq L.out).1
     have Z1:=zc (zq L.out).2.1
     have Z2:=zc (zq L.out).2.2.1
     have Y1:=zc (zq X.out.x).2.1
     have ak:=zvc HL.out
     rcases ak with ⟨h1,A⟩|⟨h1,⟨h2,A⟩|⟨h2,⟨h3,A⟩|⟨h3,⟨h4,A⟩|h4⟩⟩⟩
     iterate 4
      ·have HX:=zc A
       clear A
       go_wp2
       have z0:=cell_regrown Z0.out
       have z2:=cell_regrown Z2.out
       have U:=cell_regrown Y1.out
       refine wp_region_quiet_below (by kernel_rfl) (by kernel_rfl) ?_
       repeat (go_big_quiet_step (fail))
       refine wpQuiet_nil ?_
       intro w2 E
       obtain⟨q,z⟩:=E
       have Y:=zc (X.out.later (zdI z))
       go_wp2
       go_ret
       exact⟨zbt HX.out rfl,Y.out.b⟩
     have g1: ¬l.frm<0:=of_decide_eq_false h1
     have g2: ¬(g.ms.length:Int)≤l.frm:=of_decide_eq_false h2
     have g3: ¬l.to<0:=of_decide_eq_false h3
     have g4: ¬(g.ms.length:Int)≤l.to:=of_decide_eq_false h4
     obtain⟨m,Z⟩: ∃m,g.ms[l.frm.toNat]? =some m:=⟨_,List.getElem?_eq_getElem (by omega)⟩
     obtain⟨S,hS⟩:=zdH HO.out.len Z
     have OW:=zc (HO.out.later X.out.b)
     obtain⟨b2,o2,e2,k2⟩:=OW.out.rows.2.1.get hS
     have D0:=zc (k2 0 _ rfl)
     have RS:=zc (RowS.of (OW.out.md _ (List.mem_of_getElem? hS)).rq)
     have ax:m.rq.length≤1048576:=by
      have:=(HG.out.ms m (List.mem_of_getElem? Z)).1
      unfold zb4 at this
      omega
     have g5:0≤l.frm:=by omega
     have g6:l.frm<(g.ms.length:Int):=by omega
     have cI: ∀d I,Calls Tryz.prog 14 #[.slice S.rq.a m.rq.length S.rq.cap,.string l.spec] (grow (redrawn w1 d) I) fun e H=>e= .returned (.bool (inL m.rq l.spec))∧∃q:Regrown,H=grow (redrawn w1 q.d) q.os:=fun d I=>Calls.regrown_of ((zfH S.rq.a S.rq.cap m.rq.length m.rq l.spec _ rfl (RS.out.later (below_regrown w1 d I)) ax).mono fun e w' h=>⟨h.1,by rw[h.2];exact Below.refl _ _⟩)
     have HI:Hid (inL m.rq l.spec=true↔∃s∈(zC g).getD l.frm.toNat [],s.toList=l.spec.toList):=by
      show _↔_
      rw[List.getD,zC,List.getElem?_map,Z,zgt]
      exact⟨fun h=>⟨_,h,rfl⟩,fun⟨s,h,e⟩=>zj7 e▸h⟩
     have U:=Y1.out
     rw[e2] at U
     have Y2:=zc U
     have G3:Hid (0≤l.to∧l.to<(g.ms.length:Int)):=⟨by omega,by omega⟩
     clear Z hS k2 e2 U g1 g2 g3 g4
     cases D:inL m.rq l.spec with
     |false=>
      have HX:Hid (¬GrS g):=zix HL.out fun k=>by rw[HI.out.2 k.2.2.2.2.1] at D;cases D
      go_wp2
      have z0:=cell_regrown Z0.out
      have z1:=cell_regrown Z1.out
      have z2:=cell_regrown Z2.out
      have U:=cell_regrown Y2.out
      have d0:=cell_regrown D0.out
      simp only[Nat.add_zero] at d0
      refine wp_region_quiet_below (by kernel_rfl) (by kernel_rfl) ?_
      repeat (go_big_quiet_step (with_reducible exact cI _ _))
      refine wpQuiet_nil ?_
      intro w2 E
      obtain⟨q,z⟩:=E
      have Y:=zc (X.out.later (zdI z))
      go_wp2
      go_ret
      exact⟨zbt HX.out rfl,Y.out.b⟩
     |true=>
      go_wp2
      have z0:=cell_regrown Z0.out
      have z1:=cell_regrown Z1.out
      have z2:=cell_regrown Z2.out
      have U:=cell_regrown Y2.out
      have d0:=cell_regrown D0.out
      simp only[Nat.add_zero] at d0
      refine wp_region_quiet_below (by kernel_rfl) (by kernel_rfl) ?_
      repeat (go_big_quiet_step (with_reducible exact cI _ _))
      refine wpQuiet_nil ?_
      intro w2 E
      obtain⟨q,z⟩:=E
      have Y:=zc (X.out.later (zdI z))
      have LE:=zc (L.out.later (zdI z))
      clear z z0 z1 z2 U d0
      go_wp2
      have aD:=zc D
      clear X L Z0 Z1 Z2 Y1 Y2 D0 OW RS cI D h1 h2 h3 h4
      have X2:=zc Y.out
      have L2:=zc LE.out
      clear Y LE
      go_loopg [8] i (fun k s8 wr=>∃j:Nat,s8= .int .i64 j∧j+k=i∧(∀(k:Nat) (x:Lk),k<j→g.ls[k]? =some x→zR x≠zR l)∧GrW w wr G g gx∧Bk wr gl #[.int .i64 l.frm,.string l.spec,.int .i64 l.to] 51)
      case atStart=>exact⟨0,rfl,by omega,(fun k x O=>absurd O (Nat.not_lt_zero k)),X2.out,L2.out⟩
      case round=>
       obtain⟨j,rfl,hj,O,A,K⟩:=hrel
       have X:=zc A
       have L:=zc K
       have KN:=zc O
       clear A K O X2 L2
       by_cases ay:j<i
       ·have am:(j:Int)<(i:Int):=by omega
        have aM:(j:Int)<(g.ls.length:Int):=by omega
        obtain⟨x,A⟩: ∃x,g.ls[j]? =some x:=⟨_,List.getElem?_eq_getElem (by omega)⟩
        obtain⟨b1,o1,e1,k1⟩:=(HO.out.later X.out.b).rows.2.2.get A
        have k0:=k1 0 _ rfl
        have k3:=k1 1 _ rfl
        obtain⟨c0,c1,c2,cf⟩:=zq X.out.x
        obtain⟨d0,d1,d2,df⟩:=zq L.out
        simp only[Nat.add_zero] at k0
        rw[e1] at c2
        have HX:=zc A
        clear A k1 e1
        obtain⟨j1,aa⟩: ∃j1,j1=j+1:=⟨_,rfl⟩
        have ej:(j:Int)+1=(j1:Int):=by omega
        have ab:=zc aa
        clear aa
        have ak:(x.frm=l.frm∧(x.spec.toList==l.spec.toList)=true∧zR x=zR l)∨(x.frm=l.frm∧(x.spec.toList==l.spec.toList)=false∧zR x≠zR l)∨(¬x.frm=l.frm∧zR x≠zR l):=zvd x l
        have C2:=zc c2
        have K0:=zc k0
        have K3:=zc k3
        have D0:=zc d0
        have D1:=zc d1
        clear c0 c1 c2 cf d0 d1 d2 df k0 k3
        rcases ak with ⟨U,y2,y3⟩|⟨U,y2,y3⟩|⟨U,y3⟩
        all_goals have Y3:=zc y3
        case' inl=>have q1:decide (x.frm=l.frm)=true:=decide_eq_true U
        case' inr.inl=>have q1:decide (x.frm=l.frm)=true:=decide_eq_true U
        case' inr.inr=>have q1:decide (x.frm=l.frm)=false:=decide_eq_false U
        all_goals (
         have q2:(x.frm==l.frm)=_:=q1
         clear U y3
         go_wp2
         have z0:=cell_regrown C2.out
         have z1:=cell_regrown K0.out
         have z2:=cell_regrown K3.out
         have z3:=cell_regrown D0.out
         have z4:=cell_regrown D1.out
         refine wp_region_quiet_below (by kernel_rfl) (by kernel_rfl) ?_
         repeat (go_big_quiet_step (fail))
         refine wpQuiet_nil ?_
         intro w2 E
         obtain⟨q,z⟩:=E
         have Y:=zc (X.out.later (zdI z))
         have LE:=zc (L.out.later (zdI z))
         clear z z0 z1 z2 z3 z4
         first
         |(have HN:Hid (¬GrS g):=zix HL.out fun k=>k.2.2.2.2.2 j x ay HX.out Y3.out
           go_wp2
           go_ret
           exact⟨zbt HN.out rfl,Y.out.b⟩)
         |(go_wp2
           go_roundg (gk-1)
           case rel=>exact⟨j1,rfl,by have:=ab.out;omega,(by rw[ab.out];exact zve KN.out HX.out Y3.out),Y.out,LE.out⟩
           case measure=>omega))
       ·have am: ¬(j:Int)<(i:Int):=by omega
        obtain rfl:j=i:=by omega
        obtain⟨V,J⟩: ∃V,V=j+1:=⟨_,rfl⟩
        have ei:(j:Int)+1=(V:Int):=by omega
        have ac:=zc J
        have az:Hid (LkTo g V):=by
         rw[J]
         exact LT.out.next HL.out ⟨g5,by rw[zcp];exact g6,G3.out.1,by rw[zcp];exact G3.out.2,HI.out.1 aD.out,KN.out⟩
        clear J
        go_wp2
        go_roundg (g.ls.length-V)
        case rel=>exact⟨V,rfl,by have:=ac.out;omega,az.out,X.out⟩
        case measure=>have:=ac.out;omega
    ·have ad: ¬(i:Int)<(g.ls.length:Int):=by omega
     obtain rfl:i=g.ls.length:=by omega
     have ai:Hid (zfx (zC g) g.ls):=⟨HT.out.symm.trans aH.out,fun i l K=>LT.out i l (List.getElem?_eq_some_iff.1 K).1 K⟩
     have OW:=zc (HO.out.later X.out.b)
     have RG:Hid (∀l∈g.ls,0≤l.frm∧l.frm<(g.ms.length:Int)∧0≤l.to∧l.to<(g.ms.length:Int)):=fun l K=>by
      obtain⟨i,hi⟩:=List.mem_iff_getElem?.1 K
      have:=ai.out.2 i l hi
      rw[zcp] at this
      exact⟨this.1,this.2.1,this.2.2.1,this.2.2.2.1⟩
     go_wp2_with fail
     have cR:=zuY N G g wr OW.out ap av aF RG.out
     unfold grD at cR
     rw[hp] at cR
     refine cR.mono ?_
     clear cR
     rintro e w2 ⟨gb,rfl,aw,hb⟩
     have OB:=zc aw
     have HB:=zc (zar X.out.b hb)
     clear aw hb c0 c1 c2 cf
     obtain⟨b,hb⟩: ∃b,b=zaU g.ls g.ms.length (zaV g.ms.length):=⟨_,rfl⟩
     have aq:=zc hb
     rw[←hb] at OB
     clear hb
     have aL:=OB.out.len
     go_wp2
     go_loopg [10] g.ms.length (fun k aC wr=>∃j:Nat,aC= .int .i64 j∧j+k=g.ms.length∧(∀k,k<j→b[k]? =some true)∧wr=w2)
     case atStart=>exact⟨0,rfl,by omega,(fun k O=>absurd O (Nat.not_lt_zero k)),rfl⟩
     case round=>
      obtain⟨j,rfl,hj,O,rfl⟩:=hrel
      have KN:=zc O
      clear O
      by_cases aE:j<g.ms.length
      ·have au:(j:Int)<(g.ms.length:Int):=by omega
       obtain⟨v,hv⟩: ∃v,b[j]? =some v:=⟨_,List.getElem?_eq_getElem (by omega)⟩
       have z0:=OB.out.cell hv
       have HV:=zc hv
       clear hv
       obtain⟨j1,aa⟩: ∃j1,j1=j+1:=⟨_,rfl⟩
       have ej:(j:Int)+1=(j1:Int):=by omega
       have ab:=zc aa
       clear aa
       cases v with
       |true=>
        have HK:Hid (∀k,k<j1→b[k]? =some true):=fun k O=>by
         by_cases e:k=j
         ·rw[e];exact HV.out
         ·exact KN.out k (by have:=ab.out;omega)
        go_wp2
        go_roundg (gk-1)
        case rel=>exact⟨j1,rfl,by have:=ab.out;omega,HK.out,rfl⟩
        case measure=>omega
       |false=>
        have HN:Hid (¬GrS g):=fun k=>by
         have h1:=k.2.2.2.2.2 j aE
         rw[←aq.out,HV.out] at h1
         cases h1
        go_wp2
        go_ret
        exact⟨zbt HN.out rfl,HB.out⟩
      ·have au: ¬(j:Int)<(g.ms.length:Int):=by omega
       obtain rfl:j=g.ms.length:=by omega
       have HY:Hid (GrS g):=⟨⟨ap,av⟩,hp,TO.out.1,(fun m Z=>by
        obtain⟨i,hi⟩:=List.mem_iff_getElem?.1 Z
        exact TO.out.2 i m (List.getElem?_eq_some_iff.1 hi).1 hi),ai.out,(fun k O=>by rw[←aq.out];exact KN.out k O)⟩
       go_wp2
       go_ret
       exact⟨⟨true,rfl,by simp[HY.out]⟩,HB.out⟩
end Go.Proofs.YtcidlffeeninbaaGreat
