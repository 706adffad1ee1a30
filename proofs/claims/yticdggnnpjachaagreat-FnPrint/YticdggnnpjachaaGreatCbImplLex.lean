/-
 What impl.Lex answers: the walk.
-/
import Derived.Test.YticdggnnpjachaaGreatCbImplLexB
import Derived.Test.YticdggnnpjachaaGreatCbSpecLexAll
import Derived.Test.YticdggnnpjachaaGreatCbLabels
import Derived.Maps.AppendAt
namespace Go.Proofs.YticdggnnpjachaaGreat
set_option maxRecDepth 1000000
set_option maxHeartbeats 12800000
open Go.RowKit Go.PlainAid
def TC (w:World) (g:Nat) (k:Int) (x:ByteArray) (y u:Int):Prop:=w.heap[g]? =some (.cells #[.int .i64 k,.string x,.int .i64 y,.int .i64 u] 111 (0,0))
theorem TC.cells {w:World} {g:Nat} {k y u:Int} {x:ByteArray} (h:TC w g k x y u):
  w.cell? ⟨g,0,none⟩=some (.int .i64 k)∧w.cell? ⟨g,1,none⟩=some (.string x)∧w.cell? ⟨g,2,none⟩=some (.int .i64 y)∧w.cell? ⟨g,3,none⟩=some (.int .i64 u)
  ∧w.frozen? ⟨g,0,none⟩=false∧w.frozen? ⟨g,1,none⟩=false∧w.frozen? ⟨g,2,none⟩=false∧w.frozen? ⟨g,3,none⟩=false:=by
 unfold TC at h
 simp[World.cell?,World.frozen?,h]
theorem TC.lt {w:World} {g:Nat} {k y u:Int} {x:ByteArray} (h:TC w g k x y u):g<w.heap.size:=(Array.getElem?_eq_some_iff.1 h).1
theorem TC.later {w j:World} {g:Nat} {k y u:Int} {x:ByteArray} (h:TC w g k x y u) (n:Below w.heap.size w j):TC j g k x y u:=(n.block g h.lt).trans h
theorem TC.put {w:World} {g:Nat} {k y u o j q:Int} {x n:ByteArray} (h:TC w g k x y u):
  TC ((((w.setCell ⟨g,0,none⟩ (.int .i64 o)).setCell ⟨g,1,none⟩ (.string n)).setCell ⟨g,2,none⟩ (.int .i64 j)).setCell ⟨g,3,none⟩ (.int .i64 q)) g o n j q:=zki h
theorem zfP {w:World} {j g n o D:Nat} {e:TypeId} {E:List Tk} (h:OwnT w j e g n o E) (A:g≠D) (i:Nat) (v:Value):OwnT (w.setCell ⟨D,i,none⟩ v) j e g n o E:=by
 refine⟨⟨h.1.1,?_⟩,h.2⟩
 rcases h.1.2 with k|⟨L,I,z,H,q,J,K⟩
 ·exact .inl k
 ·simp only[Value.slice.injEq,Option.some.injEq,Addr.mk.injEq,and_true,true_and] at H
  obtain⟨rfl,rfl⟩:=H
  exact .inr ⟨g,o,z,rfl,q,(Below.heap_setCell _ _ _ _ A).trans J,K⟩
theorem zex {w:World} {o g n z q:Nat} {e:TypeId} {A:List Tk} (h:OwnT w o e g n z A) (j:g≠q) (H E D I:Value):OwnT ((((w.setCell ⟨q,0,none⟩ H).setCell ⟨q,1,none⟩ E).setCell ⟨q,2,none⟩ D).setCell ⟨q,3,none⟩ I) o e g n z A:=
 zfP (zfP (zfP (zfP h j _ _) j _ _) j _ _) j _ _
theorem zey {w W:World} {B j:Nat} (h:Below B w W) (n:B≤j) (z q o A:Value):Below B w ((((W.setCell ⟨j,0,none⟩ z).setCell ⟨j,1,none⟩ q).setCell ⟨j,2,none⟩ o).setCell ⟨j,3,none⟩ A):=
 (((h.setCell n _).setCell n _).setCell n _).setCell n _
theorem zri {P:Program} (w:World) {M:Array Oper} {rest:List Oper} {o:Oper} {a:Act} {Q:Exit→Act→World→Prop} (V:o.guard=none) (s x:Operand) (t:TypeId)
  (ho:o.op= .call {callee:=.builtin .append,args:=#[s,x],argTypes:=#[t,t]})
  (A:Nat) (e:TypeId) (i:TypeInfo) (z:Value) (ht:P.underlying t=some (.slice e)) (hi:P.info? e=some i) (hz:i.zero=some z) (I:i.size=4) (U:i.bytes=40) (X:z.cells.size=4)
  (g n N:Nat) (ts:List Tk) (hs:a.eval s= .slice (some ⟨g,0,none⟩) n N) (H:OwnT w A e g n N ts)
  (b:Tk) (gx:Nat) (Z:gx=w.heap.size) (hx:a.eval x= .slice (some ⟨gx,0,none⟩) 1 1) (hn:n+1≤1000000) (J:A≤w.heap.size)
  (h: ∀K E L,OwnT L A e K (n+1) E (ts++[b])→Below A w L→(K=g∨w.heap.size≤K)→(∀k,k<w.heap.size→k≠g→L.heap[k]? =w.heap[k]?)→wpList P M Q rest (a.put o.dst (.slice (some ⟨K,0,none⟩) (n+1) E)) L):
  wpList P M Q (o::rest) a (w.alloc (.cells #[.int .i64 b.kind,.string b.text,.int .i64 b.num,.int .i64 b.pos] e)):=by
 subst Z
 refine wpList_append_own_at _ V s x t ho A e i z 4 40 ht hi hz I U X (by decide) _ n _ hs (H.1.alloc _) ⟨w.heap.size,0,none⟩ 1 1 (tkL b) hx rfl ?_ ?_ ?_ ?_ ?_ ?_
 ·intro j u D
  match j,D with
  |0,D=>simp[tkL] at D;subst D;simp[Addr.add]
  |1,D=>simp[tkL] at D;subst D;simp[Addr.add]
  |2,D=>simp[tkL] at D;subst D;simp[Addr.add]
  |3,D=>simp[tkL] at D;subst D;simp[Addr.add]
  |j+4,D=>simp[tkL] at D
 ·intro u hu
  simp[tkL] at hu
  rcases hu with rfl|rfl|rfl|rfl<;>rfl
 ·unfold maxLen;omega
 ·omega
 ·simp;omega
 ·intro v' L h1 h2 h3 h4
  have hb:Below A w L:=((Below.refl A w).alloc J _).grown h2 (by simp;omega) (zfj H.1)
  rcases h1.2 with ⟨hv,_⟩|⟨K,E,aa,rfl,O⟩
  ·have:=(h3.1 hv).1
   simp at this
  ·refine h K E L ⟨?_,by rw[List.length_append];have:=H.2;simp;omega⟩ hb ?_ ?_
   ·rw[List.flatMap_append]
    simpa using h1
   ·rcases h4 with q|q
    ·left
     simpa [Value.ownBlock] using q
    ·right
     have:K=w.heap.size+1:=by simpa [Value.ownBlock] using q
     omega
   ·intro k hk Y
    rw[h2.block k (by simp;omega) (by simpa [Value.ownBlock] using Y),Below.heap_alloc _ _ _ hk]
def zrj (s:ByteArray) (scr:Bool) (k e n:Nat) (ts:List Tk) (kd:Int) (tx:ByteArray) (nm ps:Int):Nat→Prop
 |0=>∀b,Skip s k b→∀r,Lx s scr b n r→zae s scr (r.map (ts++ ·))
 |1=>k<s.size∧(∀r,Lx s scr k n r→zae s scr (r.map (ts++ ·)))∧zF (bt s k)=true
 |2=>k<s.size∧(∀r,Lx s scr k n r→zae s scr (r.map (ts++ ·)))∧zav (bt s k) scr=true
 |3=>k<s.size∧(∀r,Lx s scr k n r→zae s scr (r.map (ts++ ·)))∧bt s k=34
 |4=>k<s.size∧(∀r,Lx s scr k n r→zae s scr (r.map (ts++ ·)))∧zba (bt s k)
 |5=>k<s.size∧(∀r,Lx s scr k n r→zae s scr (r.map (ts++ ·)))∧((∃t:Tk,kd=t.kind∧tx=t.text∧nm=t.num∧ps=t.pos∧Tok s scr k t e)∨(e=k∧∀t m,¬Tok s scr k t m))
 |_=>False
def zcT (s:ByteArray) (scr:Bool) (gt k e n g cap:Nat) (us:Nat→Value):Act:={tmps:=#[.string s,.bool scr,undef,undef,.slice none 0 0,.int .i64 0,.slice (some ⟨g,0,none⟩) n cap,.pointer (some ⟨gt,0,none⟩),.int .i64 k,.int .i64 e,us 10,us 11,us 12,us 13,us 14,us 15,us 16,us 17,us 18,us 19,us 20,us 21,us 22,us 23,us 24,us 25,us 26,us 27,us 28,us 29,us 30,us 31,us 32,us 33,us 34,us 35,us 36,us 37,us 38,us 39,us 40,us 41,us 42,us 43,us 44,us 45,us 46,us 47,us 48,us 49,us 50,us 51,us 52,us 53,us 54,us 55,us 56,us 57,us 58,us 59,us 60,us 61,us 62,us 63,us 64,us 65,us 66,us 67,us 68,us 69,us 70,us 71,us 72,us 73,us 74,us 75,us 76,us 77,us 78,us 79,us 80,us 81,us 82,us 83,us 84,us 85,us 86,us 87,us 88,us 89,us 90,us 91,us 92,us 93,us 94,us 95,us 96,us 97,us 98,us 99,us 100,us 101],defers:=[]}
theorem zbP {a:Act} {s:ByteArray} {o:Bool} {q k e n g j:Nat} (h:a=zcT s o q k e n g j (fun i=>a.tmps.getD i undef)): ∃z,a=zcT s o q k e n g j z:=⟨_,h⟩
def zrk (s:ByteArray) (scr:Bool) (w:World) (l:Nat) (a:Act) (wr:World):Prop:=
 ∃(k e n g cap:Nat) (kd:Int) (tx:ByteArray) (nm ps:Int) (ts:List Tk),(∃us,a=zcT s scr (w.heap.size+1) k e n g cap us)
  ∧k≤s.size∧n≤4000∧g≠w.heap.size+1∧OwnT wr w.heap.size 111 g n cap ts∧TC wr (w.heap.size+1) kd tx nm ps∧Below w.heap.size w wr∧zrj s scr k e n ts kd tx nm ps l
def zbQ:Nat→Nat
 |0=>2
 |5=>0
 |_=>1
def zbR (s:ByteArray) (l:Nat) (a:Act) (_:World):Nat:=3*((s.size:Int)-intOf (a.tmps.getD 8 undef)).toNat+zbQ l
def zrl (s:ByteArray) (scr:Bool) (w:World) (e:Ending) (w':World):Prop:=
 ∃r,zae s scr r∧match r with
  | .ok ts=>∃g n cap,e= .returned (.tuple #[.slice (some ⟨g,0,none⟩) n cap,.int .i64 (-1)])∧OwnT w' w.heap.size 111 g n cap ts
  | .error p=>e= .returned (.tuple #[.slice none 0 0,.int .i64 p])
theorem zrm (s:ByteArray) (j:Bool) (w:World) (hs:s.size≤4294967296):
  Calls Tryz.prog 22 #[.string s,.bool j] w fun e w'=>zrl s j w e w'∧Below w.heap.size w w':=by
 obtain⟨i0,hi,aP,aM,aV⟩:=info_parts Tryz.infoTok
 have hb:=get_bt s
 go_enter Tryz.func22,Tryz.ntmps22
 go_wp2
 refine zrh (zrk s j w) (zbR s) ?_ ?_
 ·intro l a' wr hJ IH
  obtain⟨k,e,n,g,Q,kd,tx,nm,ps,Y,⟨us,rfl⟩,hk,hn,hg,M,X,D,Z⟩:=hJ
  have ak:=D.size
  have N:=bt_nonneg s k
  have O:=bt_le s k
  obtain rfl|rfl|rfl|rfl|rfl|rfl|aU:l=0∨l=1∨l=2∨l=3∨l=4∨l=5∨6≤l:=by omega
  ·have ar:Hid (∀b,Skip s k b→∀r,Lx s j b n r→zae s j (r.map (Y++ ·))):=Z
   clear Z IH
   refine⟨_,rfl,?_⟩
   unfold zcT
   by_cases aj:k=s.size
   ·have HE:Hid (zae s j (.ok Y)):=zhV (ar.out s.size (by rw[aj];exact .done)) rfl
    have q:((k:Int)==(s.size:Int))=true:=beq_iff_eq.2 (by omega)
    clear aj
    go_wp2
    simp only[Leaves]
    go_ret2
    exact⟨⟨_,HE.out,g,n,Q,rfl,M⟩,D⟩
   ·have o:k<s.size:=by omega
    have q:((k:Int)==(s.size:Int))=false:=beq_eq_false_iff_ne.2 (by omega)
    clear aj
    cases aB:zfg (bt s k) with
    |true=>
     have HX:Hid (∀b,Skip s (k+1) b→∀r,Lx s j b n r→zae s j (r.map (Y++ ·))):=fun b hb=>ar.out b (.blank o (of_decide_eq_true aB) hb)
     go_wp2_with fail
     refine (zdK _ _ N O).mono ?_
     rintro ev V ⟨rfl,rfl⟩
     obtain⟨k1,aT⟩: ∃k1:Nat,(k:Int)+1=k1:=⟨k+1,by omega⟩
     go_wp2
     go_step3
     obtain rfl:k1=k+1:=by omega
     refine⟨⟨k+1,e,n,g,Q,_,_,_,_,Y,zbP (rfl),by omega,hn,hg,M,X,D,HX.out⟩,by simp only[zbR,zbQ];simp[intOf]<;>omega⟩
    |false=>
     have af:Hid (Lib.hasPrefix (s.extract k s.size).data.toList [47,47]=zfN s k):=zqM s k
     cases ab:zfN s k with
     |true=>
      go_wp2_with fail
      refine (zdK _ _ N O).mono ?_
      rintro ev V ⟨rfl,rfl⟩
      go_wp2_with fail
      refine (Tryz.strings_HasPrefix _ _ _).mono ?_
      rintro ev V ⟨rfl,rfl⟩
      rw[af.out]
      rw[ab]
      go_wp2_with fail
      refine (zrd _ _ _ hk hs).mono ?_
      rintro ev V ⟨c,rfl,hc,rfl⟩
      have HX:Hid (∀b,Skip s c b→∀r,Lx s j b n r→zae s j (r.map (Y++ ·))):=fun b hb=>ar.out b (.comment o (of_decide_eq_true ab) hc hb)
      have al:=zqK o (of_decide_eq_true ab) hc
      have ai:=hc.2.1
      clear hc
      go_wp2
      go_step3
      refine⟨⟨c,e,n,g,Q,_,_,_,_,Y,zbP (rfl),ai,hn,hg,M,X,D,HX.out⟩,by simp only[zbR,zbQ];simp[intOf]<;>omega⟩
     |false=>
      have J:Hid (∀r,Lx s j k n r→zae s j (r.map (Y++ ·))):=ar.out k (.stop o (of_decide_eq_false aB) (of_decide_eq_false ab))
      cases hd:zF (bt s k) with
      |true=>
       go_wp2_with fail
       refine (zdK _ _ N O).mono ?_
       rintro ev V ⟨rfl,rfl⟩
       go_wp2_with fail
       refine (Tryz.strings_HasPrefix _ _ _).mono ?_
       rintro ev V ⟨rfl,rfl⟩
       rw[af.out]
       rw[ab]
       go_wp2_with fail
       refine (zb8 _ _ N O).mono ?_
       rintro ev V ⟨rfl,rfl⟩
       go_wp2
       go_step3
       refine⟨⟨k,e,n,g,Q,_,_,_,_,Y,zbP (rfl),hk,hn,hg,M,X,D,⟨o,J.out,hd⟩⟩,by simp only[zbR,zbQ];simp[intOf]<;>omega⟩
      |false=>
       cases hw:zG j (bt s k) with
       |true=>
        have HL:Hid (zav (bt s k) j=true):=by show _=_;simp[zG,hd] at hw;exact hw
        go_wp2_with fail
        refine (zdK _ _ N O).mono ?_
        rintro ev V ⟨rfl,rfl⟩
        go_wp2_with fail
        refine (Tryz.strings_HasPrefix _ _ _).mono ?_
        rintro ev V ⟨rfl,rfl⟩
        rw[af.out]
        rw[ab]
        go_wp2_with fail
        refine (zb8 _ _ N O).mono ?_
        rintro ev V ⟨rfl,rfl⟩
        go_wp2_with fail
        refine (zet _ _ _ N O).mono ?_
        rintro ev V ⟨rfl,rfl⟩
        go_wp2
        go_step3
        refine⟨⟨k,e,n,g,Q,_,_,_,_,Y,zbP (rfl),hk,hn,hg,M,X,D,⟨o,J.out,HL.out⟩⟩,by simp only[zbR,zbQ];simp[intOf]<;>omega⟩
       |false=>
        by_cases ad:bt s k=34
        ·have aG:Hid (bt s k=34):=ad
         have aK:(bt s k==34)=true:=beq_iff_eq.2 ad
         clear ad
         go_wp2_with fail
         refine (zdK _ _ N O).mono ?_
         rintro ev V ⟨rfl,rfl⟩
         go_wp2_with fail
         refine (Tryz.strings_HasPrefix _ _ _).mono ?_
         rintro ev V ⟨rfl,rfl⟩
         rw[af.out]
         rw[ab]
         go_wp2_with fail
         refine (zb8 _ _ N O).mono ?_
         rintro ev V ⟨rfl,rfl⟩
         go_wp2_with fail
         refine (zet _ _ _ N O).mono ?_
         rintro ev V ⟨rfl,rfl⟩
         go_wp2
         go_step3
         refine⟨⟨k,e,n,g,Q,_,_,_,_,Y,zbP (rfl),hk,hn,hg,M,X,D,⟨o,J.out,aG.out⟩⟩,by simp only[zbR,zbQ];simp[intOf]<;>omega⟩
        ·have aK:(bt s k==34)=false:=beq_eq_false_iff_ne.2 ad
         cases aC:zfh (bt s k) with
         |true=>
          clear ad
          go_wp2_with fail
          refine (zdK _ _ N O).mono ?_
          rintro ev V ⟨rfl,rfl⟩
          go_wp2_with fail
          refine (Tryz.strings_HasPrefix _ _ _).mono ?_
          rintro ev V ⟨rfl,rfl⟩
          rw[af.out]
          rw[ab]
          go_wp2_with fail
          refine (zb8 _ _ N O).mono ?_
          rintro ev V ⟨rfl,rfl⟩
          go_wp2_with fail
          refine (zet _ _ _ N O).mono ?_
          rintro ev V ⟨rfl,rfl⟩
          go_wp2_with fail
          refine (zke _ _ N O).mono ?_
          rintro ev V ⟨rfl,rfl⟩
          go_wp2
          go_step3
          refine⟨⟨k,e,n,g,Q,_,_,_,_,Y,zbP (rfl),hk,hn,hg,M,X,D,⟨o,J.out,of_decide_eq_true aC⟩⟩,by simp only[zbR,zbQ];simp[intOf]<;>omega⟩
         |false=>
          have HE:Hid (zae s j (.error k)):=zeD J.out o (.inr (zhU (by simp[zG,hd] at hw;exact hw) hd ad (of_decide_eq_false aC)))
          clear ad
          go_wp2_with fail
          refine (zdK _ _ N O).mono ?_
          rintro ev V ⟨rfl,rfl⟩
          go_wp2_with fail
          refine (Tryz.strings_HasPrefix _ _ _).mono ?_
          rintro ev V ⟨rfl,rfl⟩
          rw[af.out]
          rw[ab]
          go_wp2_with fail
          refine (zb8 _ _ N O).mono ?_
          rintro ev V ⟨rfl,rfl⟩
          go_wp2_with fail
          refine (zet _ _ _ N O).mono ?_
          rintro ev V ⟨rfl,rfl⟩
          go_wp2_with fail
          refine (zke _ _ N O).mono ?_
          rintro ev V ⟨rfl,rfl⟩
          go_wp2
          simp only[Leaves]
          go_ret2
          exact⟨⟨_,HE.out,rfl⟩,D⟩
  ·obtain⟨o,U,A⟩:=Z
   have J:Hid (∀r,Lx s j k n r→zae s j (r.map (Y++ ·))):=U
   have HW:Hid (zF (bt s k)=true):=A
   clear U A
   clear IH
   refine⟨_,rfl,?_⟩
   unfold zcT
   go_wp2_with fail
   refine (zre _ _ j _ o HW.out hs).mono ?_
   rintro ev V ⟨v,z,rfl,am,E⟩
   have H:=X.later E
   obtain⟨au,al,ai,aw,ap,av,an,ao⟩:=H.cells
   have I:=D.trans (E.mono ak)
   have L:=zbV M E
   rcases am with ⟨⟨ae,ag,ah,aa⟩,m,rfl,rfl,ht⟩|⟨rfl,⟨c1,c2,c3,c4,rfl⟩,ac⟩
   ·have HT:Hid (Tok s j k ⟨ae,ag,ah,aa⟩ m):=ht
    clear ht
    simp only[tkV]
    go_wp2
    go_step3
    refine⟨⟨k,m,n,g,Q,_,_,_,_,Y,zbP (rfl),hk,hn,hg,zex L hg _ _ _ _,H.put,zey I (Nat.le_succ _) _ _ _ _,⟨o,J.out,.inl ⟨⟨ae,ag,ah,aa⟩,rfl,rfl,rfl,rfl,HT.out⟩⟩⟩,by simp only[zbR,zbQ];simp[intOf]<;>omega⟩
   ·have ax:Hid (∀t m,¬Tok s j k t m):=ac
    clear ac
    go_wp2
    go_step3
    refine⟨⟨k,k,n,g,Q,_,_,_,_,Y,zbP (rfl),hk,hn,hg,zex L hg _ _ _ _,H.put,zey I (Nat.le_succ _) _ _ _ _,⟨o,J.out,.inr ⟨rfl,ax.out⟩⟩⟩,by simp only[zbR,zbQ];simp[intOf]<;>omega⟩
  ·obtain⟨o,U,A⟩:=Z
   have J:Hid (∀r,Lx s j k n r→zae s j (r.map (Y++ ·))):=U
   have HW:Hid (zav (bt s k) j=true):=A
   clear U A
   clear IH
   refine⟨_,rfl,?_⟩
   unfold zcT
   go_wp2_with fail
   refine (zkf _ _ _ _ hk hs).mono ?_
   rintro ev w0 ⟨m,rfl,hr,rfl⟩
   have HT:Hid (Tok s j k ⟨1,s.extract k m,0,k⟩ m):=.name HW.out hr
   have aR:=hr.1
   have ay:=hr.2.1
   clear hr
   go_wp2_with fail
   refine (zhp _ _ (by rw[zew _ _ _ ay];omega)).mono ?_
   rintro ev V ⟨rfl,E⟩
   have H:=X.later E
   obtain⟨au,al,ai,aw,ap,av,an,ao⟩:=H.cells
   have I:=D.trans (E.mono ak)
   have L:=zbV M E
   go_wp2
   go_step3
   refine⟨⟨k,m,n,g,Q,_,_,_,_,Y,zbP (rfl),hk,hn,hg,zex L hg _ _ _ _,H.put,zey I (Nat.le_succ _) _ _ _ _,⟨o,J.out,.inl ⟨⟨1,s.extract k m,0,k⟩,rfl,rfl,rfl,rfl,HT.out⟩⟩⟩,by simp only[zbR,zbQ];simp[intOf]<;>omega⟩
  ·obtain⟨o,U,A⟩:=Z
   have J:Hid (∀r,Lx s j k n r→zae s j (r.map (Y++ ·))):=U
   have HW:Hid (bt s k=34):=A
   clear U A
   clear IH
   refine⟨_,rfl,?_⟩
   unfold zcT
   go_wp2_with fail
   refine (zrg _ _ j _ o HW.out hs).mono ?_
   rintro ev V ⟨v,z,rfl,am,E⟩
   have H:=X.later E
   obtain⟨au,al,ai,aw,ap,av,an,ao⟩:=H.cells
   have I:=D.trans (E.mono ak)
   have L:=zbV M E
   rcases am with ⟨⟨ae,ag,ah,aa⟩,m,rfl,rfl,ht⟩|⟨rfl,⟨c1,c2,c3,c4,rfl⟩,ac⟩
   ·have HT:Hid (Tok s j k ⟨ae,ag,ah,aa⟩ m):=ht
    clear ht
    simp only[tkV]
    go_wp2
    go_step3
    refine⟨⟨k,m,n,g,Q,_,_,_,_,Y,zbP (rfl),hk,hn,hg,zex L hg _ _ _ _,H.put,zey I (Nat.le_succ _) _ _ _ _,⟨o,J.out,.inl ⟨⟨ae,ag,ah,aa⟩,rfl,rfl,rfl,rfl,HT.out⟩⟩⟩,by simp only[zbR,zbQ];simp[intOf]<;>omega⟩
   ·have ax:Hid (∀t m,¬Tok s j k t m):=ac
    clear ac
    go_wp2
    go_step3
    refine⟨⟨k,k,n,g,Q,_,_,_,_,Y,zbP (rfl),hk,hn,hg,zex L hg _ _ _ _,H.put,zey I (Nat.le_succ _) _ _ _ _,⟨o,J.out,.inr ⟨rfl,ax.out⟩⟩⟩,by simp only[zbR,zbQ];simp[intOf]<;>omega⟩
  ·obtain⟨o,U,A⟩:=Z
   have J:Hid (∀r,Lx s j k n r→zae s j (r.map (Y++ ·))):=U
   have HW:Hid (zba (bt s k)):=A
   clear U A
   have aS:Hid _:=IH
   clear IH
   refine⟨_,rfl,?_⟩
   unfold zcT
   obtain⟨k1,aE⟩: ∃k1:Nat,k1=k+1:=⟨_,rfl⟩
   have aT:(k:Int)+1=k1:=by omega
   have aL:Hid (k1=k+1):=aE
   have aW:k≤k1:=by omega
   have aJ:k1≤s.size:=by omega
   clear aE
   go_wp2_with fail
   refine (zhp _ _ (by rw[zew _ _ _ aJ];omega)).mono ?_
   rintro ev V ⟨rfl,E⟩
   have H:=X.later E
   obtain⟨au,al,ai,aw,ap,av,an,ao⟩:=H.cells
   have I:=D.trans (E.mono ak)
   have L:=zbV M E
   go_wp2
   go_step3
   rename_i K hK
   refine hK _ _ (aS.out 5 _ _ _ rfl ?_ ?_)
   ·exact⟨k,k1,n,g,Q,_,_,_,_,Y,zbP rfl,hk,hn,hg,zex L hg _ _ _ _,H.put,zey I (Nat.le_succ _) _ _ _ _,⟨o,J.out,.inl ⟨⟨4,s.extract k k1,0,k⟩,rfl,rfl,rfl,rfl,by rw[aL.out];exact .sign HW.out⟩⟩⟩
   ·simp only[zbR,zbQ,zcT];simp[intOf]
  ·obtain⟨o,U,A⟩:=Z
   have J:Hid (∀r,Lx s j k n r→zae s j (r.map (Y++ ·))):=U
   clear U IH
   obtain⟨au,al,ai,aw,ap,av,an,ao⟩:=X.cells
   have aO:=X.lt
   refine⟨_,rfl,?_⟩
   unfold zcT
   rcases A with ⟨⟨ae,ag,ah,aa⟩,rfl,rfl,rfl,rfl,ht⟩|⟨rfl,ac⟩
   ·have aR:=(zdQ o ht).1
    have ay:=(zdQ o ht).2.1
    have HT:Hid (Tok s j k ⟨kd,tx,nm,aa⟩ e):=ht
    clear ht
    have q1:((e:Int)==(k:Int))=false:=beq_eq_false_iff_ne.2 (by omega)
    by_cases aF:n=4000
    ·have HE:Hid (zae s j (.error k)):=zeD J.out o (.inl (by omega))
     have q2:((n:Int)==4000)=true:=beq_iff_eq.2 (by omega)
     clear aF
     go_wp2
     simp only[Leaves]
     go_ret2
     exact⟨⟨_,HE.out,rfl⟩,D⟩
    ·have HX:Hid (∀b,Skip s e b→∀r,Lx s j b (n+1) r→zae s j (r.map ((Y++[⟨kd,tx,nm,aa⟩])++ ·))):=fun b hb=>zhW J.out o (by omega) HT.out hb
     have q2:((n:Int)==4000)=false:=beq_eq_false_iff_ne.2 (by omega)
     have aN:n+1≤4000:=by omega
     clear aF
     go_wp2_with (first|(at_builtin;refine zri wr rfl _ _ 49 rfl w.heap.size 111 i0 _ Tryz.underlying49 hi aP aM aV rfl g n Q Y (by rfl) M ⟨kd,tx,nm,aa⟩ wr.heap.size rfl (by rfl) (by omega) ak ?_))
     intro g2 aD w2 aA aI aX aq
     have aH:g2≠w.heap.size+1:=by omega
     go_wp2
     go_step3
     refine⟨⟨e,e,n+1,g2,aD,_,_,_,_,_,zbP (rfl),ay,aN,aH,aA,((aq _ aO (Ne.symm hg)).trans X),D.trans aI,HX.out⟩,by simp only[zbR,zbQ];simp[intOf]<;>omega⟩
   ·have HE:Hid (zae s j (.error e)):=zeD J.out o (.inr ac)
    have q1:((e:Int)==(e:Int))=true:=beq_iff_eq.2 rfl
    clear ac
    go_wp2
    simp only[Leaves]
    go_ret2
    exact⟨⟨_,HE.out,rfl⟩,D⟩
  ·match l,aU,Z with
   |l+6,_,Z=>exact Z.elim
 ·intro az
  go_wp2
  go_step3
  rename_i K hK
  refine hK _ _ (az 0 _ _ _ rfl ?_)
  have aQ:=((Below.refl w.heap.size w).alloc (Nat.le_refl _) (.cells #[] 111)).alloc (by rw[zk];omega) (.cells #[.int .i64 0,.string {data:=#[]},.int .i64 0,.int .i64 0] 111)
  have hT:TC ((w.alloc (.cells #[] 111)).alloc (.cells #[.int .i64 0,.string {data:=#[]},.int .i64 0,.int .i64 0] 111)) (w.heap.size+1) 0 {data:=#[]} 0 0:=by
   have:=heap_alloc_new (w.alloc (.cells #[] 111)) (.cells #[.int .i64 0,.string {data:=#[]},.int .i64 0,.int .i64 0] 111)
   rw[zk] at this
   exact this
  exact⟨0,0,0,w.heap.size,0,_,_,_,_,[],zbP rfl,Nat.zero_le _,by omega,by omega,zbV (zgr w _ _ (Nat.le_refl _)) ((Below.refl _ _).alloc (Nat.le_refl _) _),hT,aQ,fun b hb r hr=>⟨b,hb,by cases r<;>simpa [Except.map] using hr⟩⟩
end Go.Proofs.YticdggnnpjachaaGreat