/-
 What impl.Lex answers: the walk.
-/
import Derived.Test.YticdggnnpjachaaGreatCcImplLexB
import Derived.Test.YticdggnnpjachaaGreatCcSpecLexAll
import Derived.Test.YticdggnnpjachaaGreatCcLabels
namespace Go.Proofs.YticdggnnpjachaaGreat
set_option maxRecDepth 1000000
set_option maxHeartbeats 12800000
open Go.RowKit Go.PlainAid
def TC (w:World) (g:Nat) (k:Int) (x:ByteArray) (y u:Int):Prop:=w.heap[g]? =some (.cells #[.int .i64 k,.string x,.int .i64 y,.int .i64 u] 111 (0,0))
theorem TC.cells {w:World} {g:Nat} {k y u:Int} {x:ByteArray} (h:TC w g k x y u):
  w.cell? ⟨g,0,none⟩=some (.int .i64 k)∧w.cell? ⟨g,1,none⟩=some (.string x)∧w.cell? ⟨g,2,none⟩=some (.int .i64 y)∧w.cell? ⟨g,3,none⟩=some (.int .i64 u)
  ∧w.frozen? ⟨g,0,none⟩=false∧w.frozen? ⟨g,1,none⟩=false∧w.frozen? ⟨g,2,none⟩=false∧w.frozen? ⟨g,3,none⟩=false:=by
 unfold TC at h
 simp[World.cell?,World.frozen?,h]
theorem TC.lt {w:World} {g:Nat} {k y u:Int} {x:ByteArray} (h:TC w g k x y u):g<w.heap.size:=(Array.getElem?_eq_some_iff.1 h).1
theorem TC.later {w j:World} {g:Nat} {k y u:Int} {x:ByteArray} (h:TC w g k x y u) (n:Below w.heap.size w j):TC j g k x y u:=(n.block g h.lt).trans h
theorem TC.put {w:World} {g:Nat} {k y u n j q:Int} {x o:ByteArray} (h:TC w g k x y u):
  TC ((((w.setCell ⟨g,0,none⟩ (.int .i64 n)).setCell ⟨g,1,none⟩ (.string o)).setCell ⟨g,2,none⟩ (.int .i64 j)).setCell ⟨g,3,none⟩ (.int .i64 q)) g n o j q:=ziR h
theorem zfv {w:World} {j g n o I:Nat} {e:TypeId} {H:List Tk} (h:OwnT w j e g n o H) (A:g≠I) (i:Nat) (v:Value):OwnT (w.setCell ⟨I,i,none⟩ v) j e g n o H:=by
 refine⟨⟨h.1.1,?_⟩,h.2⟩
 rcases h.1.2 with k|⟨L,E,z,D,q,J,K⟩
 ·exact .inl k
 ·simp only[Value.slice.injEq,Option.some.injEq,Addr.mk.injEq,and_true,true_and] at D
  obtain⟨rfl,rfl⟩:=D
  exact .inr ⟨g,o,z,rfl,q,(Below.heap_setCell _ _ _ _ A).trans J,K⟩
theorem zdY {w:World} {o g n z q:Nat} {e:TypeId} {A:List Tk} (h:OwnT w o e g n z A) (j:g≠q) (H I D E:Value):OwnT ((((w.setCell ⟨q,0,none⟩ H).setCell ⟨q,1,none⟩ I).setCell ⟨q,2,none⟩ D).setCell ⟨q,3,none⟩ E) o e g n z A:=
 zfv (zfv (zfv (zfv h j _ _) j _ _) j _ _) j _ _
theorem zdZ {w W:World} {B j:Nat} (h:Below B w W) (n:B≤j) (z A o q:Value):Below B w ((((W.setCell ⟨j,0,none⟩ z).setCell ⟨j,1,none⟩ A).setCell ⟨j,2,none⟩ o).setCell ⟨j,3,none⟩ q):=
 (((h.setCell n _).setCell n _).setCell n _).setCell n _
theorem zop {P:Program} (w:World) {M:Array Oper} {rest:List Oper} {o:Oper} {a:Act} {Q:Exit→Act→World→Prop} (Z:o.guard=none) (s x:Operand) (t:TypeId)
  (ho:o.op= .call {callee:=.builtin .append,args:=#[s,x],argTypes:=#[t,t]})
  (A:Nat) (e:TypeId) (i:TypeInfo) (z:Value) (ht:P.underlying t=some (.slice e)) (hi:P.info? e=some i) (hz:i.zero=some z) (K:i.size=4) (Y:i.bytes=40) (O:z.cells.size=4)
  (g n N:Nat) (ts:List Tk) (hs:a.eval s= .slice (some ⟨g,0,none⟩) n N) (H:OwnT w A e g n N ts)
  (b:Tk) (gx:Nat) (U:gx=w.heap.size) (hx:a.eval x= .slice (some ⟨gx,0,none⟩) 1 1) (hn:n+1≤1000000) (L:A≤w.heap.size)
  (h: ∀I E J,OwnT J A e I (n+1) E (ts++[b])→Below A w J→(I=g∨w.heap.size≤I)→(∀k,k<w.heap.size→k≠g→J.heap[k]? =w.heap[k]?)→wpList P M Q rest (a.put o.dst (.slice (some ⟨I,0,none⟩) (n+1) E)) J):
  wpList P M Q (o::rest) a (w.alloc (.cells #[.int .i64 b.kind,.string b.text,.int .i64 b.num,.int .i64 b.pos] e)):=by
 subst U
 refine wpList_append_own_at _ Z s x t ho A e i z 4 40 ht hi hz K Y O (by decide) _ n _ hs (H.1.alloc _) ⟨w.heap.size,0,none⟩ 1 1 (tkL b) hx rfl ?_ ?_ ?_ ?_ ?_ ?_
 ·intro j u D
  match j,D with
  |0,D=>simp[tkL] at D;subst D;simp[Addr.add]
  |1,D=>simp[tkL] at D;subst D;simp[Addr.add]
  |2,D=>simp[tkL] at D;subst D;simp[Addr.add]
  |3,D=>simp[tkL] at D;subst D;simp[Addr.add]
  |j+4,D=>simp[tkL] at D
 ·intro u hu
  simp[tkL] at hu
  rcases hu with rfl|rfl|rfl|rfl<;>rfl
 ·unfold maxLen;omega
 ·omega
 ·simp;omega
 ·intro v' J h1 h2 h3 h4
  have hb:Below A w J:=((Below.refl A w).alloc L _).grown h2 (by simp;omega) (zgN H.1)
  rcases h1.2 with ⟨hv,_⟩|⟨I,E,aa,rfl,V⟩
  ·have:=(h3.1 hv).1
   simp at this
  ·refine h I E J ⟨?_,by rw[List.length_append];have:=H.2;simp;omega⟩ hb ?_ ?_
   ·rw[List.flatMap_append]
    simpa using h1
   ·rcases h4 with q|q
    ·left
     simpa [Value.ownBlock] using q
    ·right
     have:I=w.heap.size+1:=by simpa [Value.ownBlock] using q
     omega
   ·intro k hk X
    rw[h2.block k (by simp;omega) (by simpa [Value.ownBlock] using X),Below.heap_alloc _ _ _ hk]
def zoq (s:ByteArray) (scr:Bool) (k e n:Nat) (ts:List Tk) (kd:Int) (tx:ByteArray) (nm ps:Int):Nat→Prop
 |0=>∀b,Skip s k b→∀r,Lx s scr b n r→zac s scr (r.map (ts++ ·))
 |1=>k<s.size∧(∀r,Lx s scr k n r→zac s scr (r.map (ts++ ·)))∧zD (bt s k)=true
 |2=>k<s.size∧(∀r,Lx s scr k n r→zac s scr (r.map (ts++ ·)))∧zat (bt s k) scr=true
 |3=>k<s.size∧(∀r,Lx s scr k n r→zac s scr (r.map (ts++ ·)))∧bt s k=34
 |4=>k<s.size∧(∀r,Lx s scr k n r→zac s scr (r.map (ts++ ·)))∧zaS (bt s k)
 |5=>k<s.size∧(∀r,Lx s scr k n r→zac s scr (r.map (ts++ ·)))∧((∃t:Tk,kd=t.kind∧tx=t.text∧nm=t.num∧ps=t.pos∧Tok s scr k t e)∨(e=k∧∀t m,¬Tok s scr k t m))
 |_=>False
def zcD (s:ByteArray) (scr:Bool) (gt k e n g cap:Nat) (us:Nat→Value):Act:={tmps:=#[.string s,.bool scr,undef,undef,.slice none 0 0,.int .i64 0,.slice (some ⟨g,0,none⟩) n cap,.pointer (some ⟨gt,0,none⟩),.int .i64 k,.int .i64 e,us 10,us 11,us 12,us 13,us 14,us 15,us 16,us 17,us 18,us 19,us 20,us 21,us 22,us 23,us 24,us 25,us 26,us 27,us 28,us 29,us 30,us 31,us 32,us 33,us 34,us 35,us 36,us 37,us 38,us 39,us 40,us 41,us 42,us 43,us 44,us 45,us 46,us 47,us 48,us 49,us 50,us 51,us 52,us 53,us 54,us 55,us 56,us 57,us 58,us 59,us 60,us 61,us 62,us 63,us 64,us 65,us 66,us 67,us 68,us 69,us 70,us 71,us 72,us 73,us 74,us 75,us 76,us 77,us 78,us 79,us 80,us 81,us 82,us 83,us 84,us 85,us 86,us 87,us 88,us 89,us 90,us 91,us 92,us 93,us 94,us 95,us 96,us 97,us 98,us 99,us 100,us 101],defers:=[]}
theorem zbJ {a:Act} {s:ByteArray} {o:Bool} {q k e n g j:Nat} (h:a=zcD s o q k e n g j (fun i=>a.tmps.getD i undef)): ∃w,a=zcD s o q k e n g j w:=⟨_,h⟩
def zor (s:ByteArray) (scr:Bool) (w:World) (l:Nat) (a:Act) (wr:World):Prop:=
 ∃(k e n g cap:Nat) (kd:Int) (tx:ByteArray) (nm ps:Int) (ts:List Tk),(∃us,a=zcD s scr (w.heap.size+1) k e n g cap us)
  ∧k≤s.size∧n≤4000∧g≠w.heap.size+1∧OwnT wr w.heap.size 111 g n cap ts∧TC wr (w.heap.size+1) kd tx nm ps∧Below w.heap.size w wr∧zoq s scr k e n ts kd tx nm ps l
def zbK:Nat→Nat
 |0=>2
 |5=>0
 |_=>1
def zbL (s:ByteArray) (l:Nat) (a:Act) (_:World):Nat:=3*((s.size:Int)-intOf (a.tmps.getD 8 undef)).toNat+zbK l
def zos (s:ByteArray) (scr:Bool) (w:World) (e:Ending) (w':World):Prop:=
 ∃r,zac s scr r∧match r with
  | .ok ts=>∃g n cap,e= .returned (.tuple #[.slice (some ⟨g,0,none⟩) n cap,.int .i64 (-1)])∧OwnT w' w.heap.size 111 g n cap ts
  | .error p=>e= .returned (.tuple #[.slice none 0 0,.int .i64 p])
theorem zot (s:ByteArray) (h:Bool) (w:World) (hs:s.size≤4294967296):
  Calls Tryz.prog 22 #[.string s,.bool h] w fun e w'=>zos s h w e w'∧Below w.heap.size w w':=by
 obtain⟨i0,hi,aK,aR,aM⟩:=info_parts Tryz.infoTok
 have hb:=get_bt s
 go_enter Tryz.func22,Tryz.ntmps22
 go_wp2
 refine zoo (zor s h w) (zbL s) ?_ ?_
 ·intro l a' wr hJ IH
  obtain⟨k,e,n,g,U,kd,tx,nm,ps,Y,⟨us,rfl⟩,hk,hn,hg,L,X,A,Z⟩:=hJ
  have ak:=A.size
  have N:=bt_nonneg s k
  have M:=bt_le s k
  obtain rfl|rfl|rfl|rfl|rfl|rfl|aS:l=0∨l=1∨l=2∨l=3∨l=4∨l=5∨6≤l:=by omega
  ·have ao:Hid (∀b,Skip s k b→∀r,Lx s h b n r→zac s h (r.map (Y++ ·))):=Z
   clear Z IH
   refine⟨_,rfl,?_⟩
   unfold zcD
   by_cases am:k=s.size
   ·have HE:Hid (zac s h (.ok Y)):=zhf (ao.out s.size (by rw[am];exact .done)) rfl
    have q:((k:Int)==(s.size:Int))=true:=beq_iff_eq.2 (by omega)
    clear am
    go_wp2
    simp only[Leaves]
    go_ret2
    exact⟨⟨_,HE.out,g,n,U,rfl,L⟩,A⟩
   ·have o:k<s.size:=by omega
    have q:((k:Int)==(s.size:Int))=false:=beq_eq_false_iff_ne.2 (by omega)
    clear am
    cases aD:ze4 (bt s k) with
    |true=>
     have HX:Hid (∀b,Skip s (k+1) b→∀r,Lx s h b n r→zac s h (r.map (Y++ ·))):=fun b hb=>ao.out b (.blank o (of_decide_eq_true aD) hb)
     go_wp2_with fail
     refine (zdw _ _ N M).mono ?_
     rintro ev V ⟨rfl,rfl⟩
     obtain⟨k1,aQ⟩: ∃k1:Nat,(k:Int)+1=k1:=⟨k+1,by omega⟩
     go_wp2
     go_step3
     obtain rfl:k1=k+1:=by omega
     refine⟨⟨k+1,e,n,g,U,_,_,_,_,Y,zbJ (rfl),by omega,hn,hg,L,X,A,HX.out⟩,by simp only[zbL,zbK];simp[intOf]<;>omega⟩
    |false=>
     have ah:Hid (Lib.hasPrefix (s.extract k s.size).data.toList [47,47]=zft s k):=znT s k
     cases ab:zft s k with
     |true=>
      go_wp2_with fail
      refine (zdw _ _ N M).mono ?_
      rintro ev V ⟨rfl,rfl⟩
      go_wp2_with fail
      refine (Tryz.strings_HasPrefix _ _ _).mono ?_
      rintro ev V ⟨rfl,rfl⟩
      rw[ah.out]
      rw[ab]
      go_wp2_with fail
      refine (zok _ _ _ hk hs).mono ?_
      rintro ev V ⟨c,rfl,hc,rfl⟩
      have HX:Hid (∀b,Skip s c b→∀r,Lx s h b n r→zac s h (r.map (Y++ ·))):=fun b hb=>ao.out b (.comment o (of_decide_eq_true ab) hc hb)
      have aj:=znR o (of_decide_eq_true ab) hc
      have ai:=hc.2.1
      clear hc
      go_wp2
      go_step3
      refine⟨⟨c,e,n,g,U,_,_,_,_,Y,zbJ (rfl),ai,hn,hg,L,X,A,HX.out⟩,by simp only[zbL,zbK];simp[intOf]<;>omega⟩
     |false=>
      have H:Hid (∀r,Lx s h k n r→zac s h (r.map (Y++ ·))):=ao.out k (.stop o (of_decide_eq_false aD) (of_decide_eq_false ab))
      cases hd:zD (bt s k) with
      |true=>
       go_wp2_with fail
       refine (zdw _ _ N M).mono ?_
       rintro ev V ⟨rfl,rfl⟩
       go_wp2_with fail
       refine (Tryz.strings_HasPrefix _ _ _).mono ?_
       rintro ev V ⟨rfl,rfl⟩
       rw[ah.out]
       rw[ab]
       go_wp2_with fail
       refine (zbw _ _ N M).mono ?_
       rintro ev V ⟨rfl,rfl⟩
       go_wp2
       go_step3
       refine⟨⟨k,e,n,g,U,_,_,_,_,Y,zbJ (rfl),hk,hn,hg,L,X,A,⟨o,H.out,hd⟩⟩,by simp only[zbL,zbK];simp[intOf]<;>omega⟩
      |false=>
       cases hw:zE h (bt s k) with
       |true=>
        have HL:Hid (zat (bt s k) h=true):=by show _=_;simp[zE,hd] at hw;exact hw
        go_wp2_with fail
        refine (zdw _ _ N M).mono ?_
        rintro ev V ⟨rfl,rfl⟩
        go_wp2_with fail
        refine (Tryz.strings_HasPrefix _ _ _).mono ?_
        rintro ev V ⟨rfl,rfl⟩
        rw[ah.out]
        rw[ab]
        go_wp2_with fail
        refine (zbw _ _ N M).mono ?_
        rintro ev V ⟨rfl,rfl⟩
        go_wp2_with fail
        refine (zdU _ _ _ N M).mono ?_
        rintro ev V ⟨rfl,rfl⟩
        go_wp2
        go_step3
        refine⟨⟨k,e,n,g,U,_,_,_,_,Y,zbJ (rfl),hk,hn,hg,L,X,A,⟨o,H.out,HL.out⟩⟩,by simp only[zbL,zbK];simp[intOf]<;>omega⟩
       |false=>
        by_cases ad:bt s k=34
        ·have aP:Hid (bt s k=34):=ad
         have aU:(bt s k==34)=true:=beq_iff_eq.2 ad
         clear ad
         go_wp2_with fail
         refine (zdw _ _ N M).mono ?_
         rintro ev V ⟨rfl,rfl⟩
         go_wp2_with fail
         refine (Tryz.strings_HasPrefix _ _ _).mono ?_
         rintro ev V ⟨rfl,rfl⟩
         rw[ah.out]
         rw[ab]
         go_wp2_with fail
         refine (zbw _ _ N M).mono ?_
         rintro ev V ⟨rfl,rfl⟩
         go_wp2_with fail
         refine (zdU _ _ _ N M).mono ?_
         rintro ev V ⟨rfl,rfl⟩
         go_wp2
         go_step3
         refine⟨⟨k,e,n,g,U,_,_,_,_,Y,zbJ (rfl),hk,hn,hg,L,X,A,⟨o,H.out,aP.out⟩⟩,by simp only[zbL,zbK];simp[intOf]<;>omega⟩
        ·have aU:(bt s k==34)=false:=beq_eq_false_iff_ne.2 ad
         cases aF:ze5 (bt s k) with
         |true=>
          clear ad
          go_wp2_with fail
          refine (zdw _ _ N M).mono ?_
          rintro ev V ⟨rfl,rfl⟩
          go_wp2_with fail
          refine (Tryz.strings_HasPrefix _ _ _).mono ?_
          rintro ev V ⟨rfl,rfl⟩
          rw[ah.out]
          rw[ab]
          go_wp2_with fail
          refine (zbw _ _ N M).mono ?_
          rintro ev V ⟨rfl,rfl⟩
          go_wp2_with fail
          refine (zdU _ _ _ N M).mono ?_
          rintro ev V ⟨rfl,rfl⟩
          go_wp2_with fail
          refine (ziN _ _ N M).mono ?_
          rintro ev V ⟨rfl,rfl⟩
          go_wp2
          go_step3
          refine⟨⟨k,e,n,g,U,_,_,_,_,Y,zbJ (rfl),hk,hn,hg,L,X,A,⟨o,H.out,of_decide_eq_true aF⟩⟩,by simp only[zbL,zbK];simp[intOf]<;>omega⟩
         |false=>
          have HE:Hid (zac s h (.error k)):=zen H.out o (.inr (zhe (by simp[zE,hd] at hw;exact hw) hd ad (of_decide_eq_false aF)))
          clear ad
          go_wp2_with fail
          refine (zdw _ _ N M).mono ?_
          rintro ev V ⟨rfl,rfl⟩
          go_wp2_with fail
          refine (Tryz.strings_HasPrefix _ _ _).mono ?_
          rintro ev V ⟨rfl,rfl⟩
          rw[ah.out]
          rw[ab]
          go_wp2_with fail
          refine (zbw _ _ N M).mono ?_
          rintro ev V ⟨rfl,rfl⟩
          go_wp2_with fail
          refine (zdU _ _ _ N M).mono ?_
          rintro ev V ⟨rfl,rfl⟩
          go_wp2_with fail
          refine (ziN _ _ N M).mono ?_
          rintro ev V ⟨rfl,rfl⟩
          go_wp2
          simp only[Leaves]
          go_ret2
          exact⟨⟨_,HE.out,rfl⟩,A⟩
  ·obtain⟨o,O,j⟩:=Z
   have H:Hid (∀r,Lx s h k n r→zac s h (r.map (Y++ ·))):=O
   have HW:Hid (zD (bt s k)=true):=j
   clear O j
   clear IH
   refine⟨_,rfl,?_⟩
   unfold zcD
   go_wp2_with fail
   refine (zol _ _ h _ o HW.out hs).mono ?_
   rintro ev V ⟨v,z,rfl,al,D⟩
   have E:=X.later D
   obtain⟨av,aj,ai,aw,aq,ap,ar,an⟩:=E.cells
   have J:=A.trans (D.mono ak)
   have I:=zbO L D
   rcases al with ⟨⟨ae,af,ag,aa⟩,m,rfl,rfl,ht⟩|⟨rfl,⟨c1,c2,c3,c4,rfl⟩,ac⟩
   ·have HT:Hid (Tok s h k ⟨ae,af,ag,aa⟩ m):=ht
    clear ht
    simp only[tkV]
    go_wp2
    go_step3
    refine⟨⟨k,m,n,g,U,_,_,_,_,Y,zbJ (rfl),hk,hn,hg,zdY I hg _ _ _ _,E.put,zdZ J (Nat.le_succ _) _ _ _ _,⟨o,H.out,.inl ⟨⟨ae,af,ag,aa⟩,rfl,rfl,rfl,rfl,HT.out⟩⟩⟩,by simp only[zbL,zbK];simp[intOf]<;>omega⟩
   ·have ax:Hid (∀t m,¬Tok s h k t m):=ac
    clear ac
    go_wp2
    go_step3
    refine⟨⟨k,k,n,g,U,_,_,_,_,Y,zbJ (rfl),hk,hn,hg,zdY I hg _ _ _ _,E.put,zdZ J (Nat.le_succ _) _ _ _ _,⟨o,H.out,.inr ⟨rfl,ax.out⟩⟩⟩,by simp only[zbL,zbK];simp[intOf]<;>omega⟩
  ·obtain⟨o,O,j⟩:=Z
   have H:Hid (∀r,Lx s h k n r→zac s h (r.map (Y++ ·))):=O
   have HW:Hid (zat (bt s k) h=true):=j
   clear O j
   clear IH
   refine⟨_,rfl,?_⟩
   unfold zcD
   go_wp2_with fail
   refine (ziO _ _ _ _ hk hs).mono ?_
   rintro ev w0 ⟨m,rfl,hr,rfl⟩
   have HT:Hid (Tok s h k ⟨1,s.extract k m,0,k⟩ m):=.name HW.out hr
   have aH:=hr.1
   have aA:=hr.2.1
   clear hr
   go_wp2_with fail
   refine (zgr _ _ (by rw[zdX _ _ _ aA];omega)).mono ?_
   rintro ev V ⟨rfl,D⟩
   have E:=X.later D
   obtain⟨av,aj,ai,aw,aq,ap,ar,an⟩:=E.cells
   have J:=A.trans (D.mono ak)
   have I:=zbO L D
   go_wp2
   go_step3
   refine⟨⟨k,m,n,g,U,_,_,_,_,Y,zbJ (rfl),hk,hn,hg,zdY I hg _ _ _ _,E.put,zdZ J (Nat.le_succ _) _ _ _ _,⟨o,H.out,.inl ⟨⟨1,s.extract k m,0,k⟩,rfl,rfl,rfl,rfl,HT.out⟩⟩⟩,by simp only[zbL,zbK];simp[intOf]<;>omega⟩
  ·obtain⟨o,O,j⟩:=Z
   have H:Hid (∀r,Lx s h k n r→zac s h (r.map (Y++ ·))):=O
   have HW:Hid (bt s k=34):=j
   clear O j
   clear IH
   refine⟨_,rfl,?_⟩
   unfold zcD
   go_wp2_with fail
   refine (zon _ _ h _ o HW.out hs).mono ?_
   rintro ev V ⟨v,z,rfl,al,D⟩
   have E:=X.later D
   obtain⟨av,aj,ai,aw,aq,ap,ar,an⟩:=E.cells
   have J:=A.trans (D.mono ak)
   have I:=zbO L D
   rcases al with ⟨⟨ae,af,ag,aa⟩,m,rfl,rfl,ht⟩|⟨rfl,⟨c1,c2,c3,c4,rfl⟩,ac⟩
   ·have HT:Hid (Tok s h k ⟨ae,af,ag,aa⟩ m):=ht
    clear ht
    simp only[tkV]
    go_wp2
    go_step3
    refine⟨⟨k,m,n,g,U,_,_,_,_,Y,zbJ (rfl),hk,hn,hg,zdY I hg _ _ _ _,E.put,zdZ J (Nat.le_succ _) _ _ _ _,⟨o,H.out,.inl ⟨⟨ae,af,ag,aa⟩,rfl,rfl,rfl,rfl,HT.out⟩⟩⟩,by simp only[zbL,zbK];simp[intOf]<;>omega⟩
   ·have ax:Hid (∀t m,¬Tok s h k t m):=ac
    clear ac
    go_wp2
    go_step3
    refine⟨⟨k,k,n,g,U,_,_,_,_,Y,zbJ (rfl),hk,hn,hg,zdY I hg _ _ _ _,E.put,zdZ J (Nat.le_succ _) _ _ _ _,⟨o,H.out,.inr ⟨rfl,ax.out⟩⟩⟩,by simp only[zbL,zbK];simp[intOf]<;>omega⟩
  ·obtain⟨o,O,j⟩:=Z
   have H:Hid (∀r,Lx s h k n r→zac s h (r.map (Y++ ·))):=O
   have HW:Hid (zaS (bt s k)):=j
   clear O j
   have aI:Hid _:=IH
   clear IH
   refine⟨_,rfl,?_⟩
   unfold zcD
   obtain⟨k1,aB⟩: ∃k1:Nat,k1=k+1:=⟨_,rfl⟩
   have aQ:(k:Int)+1=k1:=by omega
   have aT:Hid (k1=k+1):=aB
   have aX:k≤k1:=by omega
   have aV:k1≤s.size:=by omega
   clear aB
   go_wp2_with fail
   refine (zgr _ _ (by rw[zdX _ _ _ aV];omega)).mono ?_
   rintro ev V ⟨rfl,D⟩
   have E:=X.later D
   obtain⟨av,aj,ai,aw,aq,ap,ar,an⟩:=E.cells
   have J:=A.trans (D.mono ak)
   have I:=zbO L D
   go_wp2
   go_step3
   rename_i K hK
   refine hK _ _ (aI.out 5 _ _ _ rfl ?_ ?_)
   ·exact⟨k,k1,n,g,U,_,_,_,_,Y,zbJ rfl,hk,hn,hg,zdY I hg _ _ _ _,E.put,zdZ J (Nat.le_succ _) _ _ _ _,⟨o,H.out,.inl ⟨⟨4,s.extract k k1,0,k⟩,rfl,rfl,rfl,rfl,by rw[aT.out];exact .sign HW.out⟩⟩⟩
   ·simp only[zbL,zbK,zcD];simp[intOf]
  ·obtain⟨o,O,j⟩:=Z
   have H:Hid (∀r,Lx s h k n r→zac s h (r.map (Y++ ·))):=O
   clear O IH
   obtain⟨av,aj,ai,aw,aq,ap,ar,an⟩:=X.cells
   have aN:=X.lt
   refine⟨_,rfl,?_⟩
   unfold zcD
   rcases j with ⟨⟨ae,af,ag,aa⟩,rfl,rfl,rfl,rfl,ht⟩|⟨rfl,ac⟩
   ·have aH:=(zd5 o ht).1
    have aA:=(zd5 o ht).2.1
    have HT:Hid (Tok s h k ⟨kd,tx,nm,aa⟩ e):=ht
    clear ht
    have q1:((e:Int)==(k:Int))=false:=beq_eq_false_iff_ne.2 (by omega)
    by_cases aC:n=4000
    ·have HE:Hid (zac s h (.error k)):=zen H.out o (.inl (by omega))
     have q2:((n:Int)==4000)=true:=beq_iff_eq.2 (by omega)
     clear aC
     go_wp2
     simp only[Leaves]
     go_ret2
     exact⟨⟨_,HE.out,rfl⟩,A⟩
    ·have HX:Hid (∀b,Skip s e b→∀r,Lx s h b (n+1) r→zac s h (r.map ((Y++[⟨kd,tx,nm,aa⟩])++ ·))):=fun b hb=>zhg H.out o (by omega) HT.out hb
     have q2:((n:Int)==4000)=false:=beq_eq_false_iff_ne.2 (by omega)
     have aL:n+1≤4000:=by omega
     clear aC
     go_wp2_with (first|(at_builtin;refine zop wr rfl _ _ 49 rfl w.heap.size 111 i0 _ Tryz.underlying49 hi aK aR aM rfl g n U Y (by rfl) L ⟨kd,tx,nm,aa⟩ wr.heap.size rfl (by rfl) (by omega) ak ?_))
     intro g2 aE w2 az aG aW au
     have aJ:g2≠w.heap.size+1:=by omega
     go_wp2
     go_step3
     refine⟨⟨e,e,n+1,g2,aE,_,_,_,_,_,zbJ (rfl),aA,aL,aJ,az,((au _ aN (Ne.symm hg)).trans X),A.trans aG,HX.out⟩,by simp only[zbL,zbK];simp[intOf]<;>omega⟩
   ·have HE:Hid (zac s h (.error e)):=zen H.out o (.inr ac)
    have q1:((e:Int)==(e:Int))=true:=beq_iff_eq.2 rfl
    clear ac
    go_wp2
    simp only[Leaves]
    go_ret2
    exact⟨⟨_,HE.out,rfl⟩,A⟩
  ·match l,aS,Z with
   |l+6,_,Z=>exact Z.elim
 ·intro ay
  go_wp2
  go_step3
  rename_i K hK
  refine hK _ _ (ay 0 _ _ _ rfl ?_)
  have aO:=((Below.refl w.heap.size w).alloc (Nat.le_refl _) (.cells #[] 111)).alloc (by rw[zj];omega) (.cells #[.int .i64 0,.string {data:=#[]},.int .i64 0,.int .i64 0] 111)
  have hT:TC ((w.alloc (.cells #[] 111)).alloc (.cells #[.int .i64 0,.string {data:=#[]},.int .i64 0,.int .i64 0] 111)) (w.heap.size+1) 0 {data:=#[]} 0 0:=by
   have:=heap_alloc_new (w.alloc (.cells #[] 111)) (.cells #[.int .i64 0,.string {data:=#[]},.int .i64 0,.int .i64 0] 111)
   rw[zj] at this
   exact this
  exact⟨0,0,0,w.heap.size,0,_,_,_,_,[],zbJ rfl,Nat.zero_le _,by omega,by omega,zbO (zfG w _ _ (Nat.le_refl _)) ((Below.refl _ _).alloc (Nat.le_refl _) _),hT,aO,fun b hb r hr=>⟨b,hb,by cases r<;>simpa [Except.map] using hr⟩⟩
end Go.Proofs.YticdggnnpjachaaGreat