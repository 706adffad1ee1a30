/-
 What impl.Lex answers: the walk.
-/
import Derived.Test.YtjdddblpfbmpaaaGreatCoImplLexB
import Derived.Test.YtjdddblpfbmpaaaGreatCoSpecLexAllToTokCells
import Derived.Test.YtjdddblpfbmpaaaGreatCoLabels
import Derived.Maps.AppendAt
namespace Go.Proofs.YtjdddblpfbmpaaaGreat
set_option maxRecDepth 1000000
set_option maxHeartbeats 12800000
open Go.RowKit Go.PlainAid
def TC (w:World) (g:Nat) (k:Int) (x:ByteArray) (y u:Int):Prop:=w.heap[g]? =some (.cells #[.int .i64 k,.string x,.int .i64 y,.int .i64 u] 143 (0,0))
theorem TC.cells {w:World} {g:Nat} {k y u:Int} {x:ByteArray} (h:TC w g k x y u):
  w.cell? ⟨g,0,none⟩=some (.int .i64 k)∧w.cell? ⟨g,1,none⟩=some (.string x)∧w.cell? ⟨g,2,none⟩=some (.int .i64 y)∧w.cell? ⟨g,3,none⟩=some (.int .i64 u)
  ∧w.frozen? ⟨g,0,none⟩=false∧w.frozen? ⟨g,1,none⟩=false∧w.frozen? ⟨g,2,none⟩=false∧w.frozen? ⟨g,3,none⟩=false:=by
 unfold TC at h
 simp[World.cell?,World.frozen?,h]
theorem TC.lt {w:World} {g:Nat} {k y u:Int} {x:ByteArray} (h:TC w g k x y u):g<w.heap.size:=(Array.getElem?_eq_some_iff.1 h).1
theorem TC.later {w j:World} {g:Nat} {k y u:Int} {x:ByteArray} (h:TC w g k x y u) (n:Below w.heap.size w j):TC j g k x y u:=(n.block g h.lt).trans h
theorem TC.put {w:World} {g:Nat} {k y u n z q:Int} {x j:ByteArray} (h:TC w g k x y u):
  TC ((((w.setCell ⟨g,0,none⟩ (.int .i64 n)).setCell ⟨g,1,none⟩ (.string j)).setCell ⟨g,2,none⟩ (.int .i64 z)).setCell ⟨g,3,none⟩ (.int .i64 q)) g n j z q:=ziU h
theorem zfs {w:World} {j g n z J:Nat} {e:TypeId} {E:List Tk} (h:OwnT w j e g n z E) (D:g≠J) (i:Nat) (v:Value):OwnT (w.setCell ⟨J,i,none⟩ v) j e g n z E:=by
 refine⟨⟨h.1.1,?_⟩,h.2⟩
 rcases h.1.2 with k|⟨M,I,A,H,q,L,K⟩
 ·exact .inl k
 ·simp only[Value.slice.injEq,Option.some.injEq,Addr.mk.injEq,and_true,true_and] at H
  obtain⟨rfl,rfl⟩:=H
  exact .inr ⟨g,z,A,rfl,q,(Below.heap_setCell _ _ _ _ D).trans L,K⟩
theorem zdV {w:World} {q g n z A:Nat} {e:TypeId} {D:List Tk} (h:OwnT w q e g n z D) (j:g≠A) (v0 v1 v2 v3:Value):OwnT ((((w.setCell ⟨A,0,none⟩ v0).setCell ⟨A,1,none⟩ v1).setCell ⟨A,2,none⟩ v2).setCell ⟨A,3,none⟩ v3) q e g n z D:=
 zfs (zfs (zfs (zfs h j _ _) j _ _) j _ _) j _ _
theorem zdW {w W:World} {B j:Nat} (h:Below B w W) (n:B≤j) (v0 v1 v2 v3:Value):Below B w ((((W.setCell ⟨j,0,none⟩ v0).setCell ⟨j,1,none⟩ v1).setCell ⟨j,2,none⟩ v2).setCell ⟨j,3,none⟩ v3):=
 (((h.setCell n _).setCell n _).setCell n _).setCell n _
theorem zoz {P:Program} (w:World) {N:Array Oper} {rest:List Oper} {o:Oper} {a:Act} {Q:Exit→Act→World→Prop} (O:o.guard=none) (s x:Operand) (t:TypeId)
  (ho:o.op= .call {callee:=.builtin .append,args:=#[s,x],argTypes:=#[t,t]})
  (A:Nat) (e:TypeId) (i:TypeInfo) (z:Value) (ht:P.underlying t=some (.slice e)) (hi:P.info? e=some i) (hz:i.zero=some z) (J:i.size=4) (V:i.bytes=40) (X:z.cells.size=4)
  (g n M:Nat) (ts:List Tk) (hs:a.eval s= .slice (some ⟨g,0,none⟩) n M) (H:OwnT w A e g n M ts)
  (b:Tk) (gx:Nat) (Z:gx=w.heap.size) (hx:a.eval x= .slice (some ⟨gx,0,none⟩) 1 1) (hn:n+1≤1000000) (K:A≤w.heap.size)
  (h: ∀L E I,OwnT I A e L (n+1) E (ts++[b])→Below A w I→(L=g∨w.heap.size≤L)→(∀k,k<w.heap.size→k≠g→I.heap[k]? =w.heap[k]?)→wpList P N Q rest (a.put o.dst (.slice (some ⟨L,0,none⟩) (n+1) E)) I):
  wpList P N Q (o::rest) a (w.alloc (.cells #[.int .i64 b.kind,.string b.text,.int .i64 b.num,.int .i64 b.pos] e)):=by
 subst Z
 refine wpList_append_own_at _ O s x t ho A e i z 4 40 ht hi hz J V X (by decide) _ n _ hs (H.1.alloc _) ⟨w.heap.size,0,none⟩ 1 1 (tkL b) hx rfl ?_ ?_ ?_ ?_ ?_ ?_
 ·intro j u D
  match j,D with
  |0,D=>simp[tkL] at D;subst D;simp[Addr.add]
  |1,D=>simp[tkL] at D;subst D;simp[Addr.add]
  |2,D=>simp[tkL] at D;subst D;simp[Addr.add]
  |3,D=>simp[tkL] at D;subst D;simp[Addr.add]
  |j+4,D=>simp[tkL] at D
 ·intro u hu
  simp[tkL] at hu
  rcases hu with rfl|rfl|rfl|rfl<;>rfl
 ·unfold maxLen;omega
 ·omega
 ·simp;omega
 ·intro v' I h1 h2 h3 h4
  have hb:Below A w I:=((Below.refl A w).alloc K _).grown h2 (by simp;omega) (zgK H.1)
  rcases h1.2 with ⟨hv,_⟩|⟨L,E,aa,rfl,Y⟩
  ·have:=(h3.1 hv).1
   simp at this
  ·refine h L E I ⟨?_,by rw[List.length_append];have:=H.2;simp;omega⟩ hb ?_ ?_
   ·rw[List.flatMap_append]
    simpa using h1
   ·rcases h4 with q|q
    ·left
     simpa [Value.ownBlock] using q
    ·right
     have:L=w.heap.size+1:=by simpa [Value.ownBlock] using q
     omega
   ·intro k hk U
    rw[h2.block k (by simp;omega) (by simpa [Value.ownBlock] using U),Below.heap_alloc _ _ _ hk]
def zo0 (s:ByteArray) (scr:Bool) (k e n:Nat) (ts:List Tk) (kd:Int) (tx:ByteArray) (nm ps:Int):Nat→Prop
 |0=>∀b,Skip s k b→∀r,Lx s scr b n r→zaa s scr (r.map (ts++ ·))
 |1=>k<s.size∧(∀r,Lx s scr k n r→zaa s scr (r.map (ts++ ·)))∧zD (bt s k)=true
 |2=>k<s.size∧(∀r,Lx s scr k n r→zaa s scr (r.map (ts++ ·)))∧zar (bt s k) scr=true
 |3=>k<s.size∧(∀r,Lx s scr k n r→zaa s scr (r.map (ts++ ·)))∧bt s k=34
 |4=>k<s.size∧(∀r,Lx s scr k n r→zaa s scr (r.map (ts++ ·)))∧zaP (bt s k)
 |5=>k<s.size∧(∀r,Lx s scr k n r→zaa s scr (r.map (ts++ ·)))∧((∃t:Tk,kd=t.kind∧tx=t.text∧nm=t.num∧ps=t.pos∧Tok s scr k t e)∨(e=k∧∀t m,¬Tok s scr k t m))
 |_=>False
def zcA (s:ByteArray) (scr:Bool) (gt k e n g cap:Nat) (us:Nat→Value):Act:={tmps:=#[.string s,.bool scr,undef,undef,.slice none 0 0,.int .i64 0,.slice (some ⟨g,0,none⟩) n cap,.pointer (some ⟨gt,0,none⟩),.int .i64 k,.int .i64 e,us 10,us 11,us 12,us 13,us 14,us 15,us 16,us 17,us 18,us 19,us 20,us 21,us 22,us 23,us 24,us 25,us 26,us 27,us 28,us 29,us 30,us 31,us 32,us 33,us 34,us 35,us 36,us 37,us 38,us 39,us 40,us 41,us 42,us 43,us 44,us 45,us 46,us 47,us 48,us 49,us 50,us 51,us 52,us 53,us 54,us 55,us 56,us 57,us 58,us 59,us 60,us 61,us 62,us 63,us 64,us 65,us 66,us 67,us 68,us 69,us 70,us 71,us 72,us 73,us 74,us 75,us 76,us 77,us 78,us 79,us 80,us 81,us 82,us 83,us 84,us 85,us 86,us 87,us 88,us 89,us 90,us 91,us 92,us 93,us 94,us 95,us 96,us 97,us 98,us 99,us 100,us 101],defers:=[]}
theorem zbF {a:Act} {s:ByteArray} {q:Bool} {w k e n g j:Nat} (h:a=zcA s q w k e n g j (fun i=>a.tmps.getD i undef)): ∃z,a=zcA s q w k e n g j z:=⟨_,h⟩
def zo1 (s:ByteArray) (scr:Bool) (w:World) (l:Nat) (a:Act) (wr:World):Prop:=
 ∃(k e n g cap:Nat) (kd:Int) (tx:ByteArray) (nm ps:Int) (ts:List Tk),(∃us,a=zcA s scr (w.heap.size+1) k e n g cap us)
  ∧k≤s.size∧n≤4000∧g≠w.heap.size+1∧OwnT wr w.heap.size 143 g n cap ts∧TC wr (w.heap.size+1) kd tx nm ps∧Below w.heap.size w wr∧zo0 s scr k e n ts kd tx nm ps l
def zbG:Nat→Nat
 |0=>2
 |5=>0
 |_=>1
def zbH (s:ByteArray) (l:Nat) (a:Act) (_:World):Nat:=3*((s.size:Int)-intOf (a.tmps.getD 8 undef)).toNat+zbG l
def zo2 (s:ByteArray) (scr:Bool) (w:World) (e:Ending) (w':World):Prop:=
 ∃r,zaa s scr r∧match r with
  | .ok ts=>∃g n cap,e= .returned (.tuple #[.slice (some ⟨g,0,none⟩) n cap,.int .i64 (-1)])∧OwnT w' w.heap.size 143 g n cap ts
  | .error p=>e= .returned (.tuple #[.slice none 0 0,.int .i64 p])
theorem zo3 (s:ByteArray) (h:Bool) (w:World) (hs:s.size≤4294967296):
  Calls Tryz.prog 118 #[.string s,.bool h] w fun e w'=>zo2 s h w e w'∧Below w.heap.size w w':=by
 obtain⟨i0,hi,aK,aV,aQ⟩:=info_parts Tryz.infoTok
 have hb:=get_bt s
 go_enter Tryz.func118,Tryz.ntmps118
 go_wp2
 refine zoy (zo1 s h w) (zbH s) ?_ ?_
 ·intro l a' wr hJ IH
  obtain⟨k,e,n,g,V,kd,tx,nm,ps,Z,⟨us,rfl⟩,hk,hn,hg,M,Y,D,aa⟩:=hJ
  have ak:=D.size
  have N:=bt_nonneg s k
  have O:=bt_le s k
  obtain rfl|rfl|rfl|rfl|rfl|rfl|aS:l=0∨l=1∨l=2∨l=3∨l=4∨l=5∨6≤l:=by omega
  ·have ao:Hid (∀b,Skip s k b→∀r,Lx s h b n r→zaa s h (r.map (Z++ ·))):=aa
   clear aa IH
   refine⟨_,rfl,?_⟩
   unfold zcA
   by_cases am:k=s.size
   ·have HE:Hid (zaa s h (.ok Z)):=zhc (ao.out s.size (by rw[am];exact .done)) rfl
    have q:((k:Int)==(s.size:Int))=true:=beq_iff_eq.2 (by omega)
    clear am
    go_wp2
    simp only[Leaves]
    go_ret2
    exact⟨⟨_,HE.out,g,n,V,rfl,M⟩,D⟩
   ·have j:k<s.size:=by omega
    have q:((k:Int)==(s.size:Int))=false:=beq_eq_false_iff_ne.2 (by omega)
    clear am
    cases aD:ze1 (bt s k) with
    |true=>
     have HX:Hid (∀b,Skip s (k+1) b→∀r,Lx s h b n r→zaa s h (r.map (Z++ ·))):=fun b hb=>ao.out b (.blank j (of_decide_eq_true aD) hb)
     go_wp2_with fail
     refine (zdu _ _ N O).mono ?_
     rintro ev X ⟨rfl,rfl⟩
     obtain⟨k1,aU⟩: ∃k1:Nat,(k:Int)+1=k1:=⟨k+1,by omega⟩
     go_wp2
     go_step3
     obtain rfl:k1=k+1:=by omega
     refine⟨⟨k+1,e,n,g,V,_,_,_,_,Z,zbF (rfl),by omega,hn,hg,M,Y,D,HX.out⟩,by simp only[zbH,zbG];simp[intOf]<;>omega⟩
    |false=>
     have ai:Hid (Lib.hasPrefix (s.extract k s.size).data.toList [47,47]=zfq s k):=zod s k
     cases ab:zfq s k with
     |true=>
      go_wp2_with fail
      refine (zdu _ _ N O).mono ?_
      rintro ev X ⟨rfl,rfl⟩
      go_wp2_with fail
      refine (Tryz.strings_HasPrefix _ _ _).mono ?_
      rintro ev X ⟨rfl,rfl⟩
      rw[ai.out]
      rw[ab]
      go_wp2_with fail
      refine (zou _ _ _ hk hs).mono ?_
      rintro ev X ⟨c,rfl,hc,rfl⟩
      have HX:Hid (∀b,Skip s c b→∀r,Lx s h b n r→zaa s h (r.map (Z++ ·))):=fun b hb=>ao.out b (.comment j (of_decide_eq_true ab) hc hb)
      have an:=zob j (of_decide_eq_true ab) hc
      have ah:=hc.2.1
      clear hc
      go_wp2
      go_step3
      refine⟨⟨c,e,n,g,V,_,_,_,_,Z,zbF (rfl),ah,hn,hg,M,Y,D,HX.out⟩,by simp only[zbH,zbG];simp[intOf]<;>omega⟩
     |false=>
      have J:Hid (∀r,Lx s h k n r→zaa s h (r.map (Z++ ·))):=ao.out k (.stop j (of_decide_eq_false aD) (of_decide_eq_false ab))
      cases hd:zD (bt s k) with
      |true=>
       go_wp2_with fail
       refine (zdu _ _ N O).mono ?_
       rintro ev X ⟨rfl,rfl⟩
       go_wp2_with fail
       refine (Tryz.strings_HasPrefix _ _ _).mono ?_
       rintro ev X ⟨rfl,rfl⟩
       rw[ai.out]
       rw[ab]
       go_wp2_with fail
       refine (zbt _ _ N O).mono ?_
       rintro ev X ⟨rfl,rfl⟩
       go_wp2
       go_step3
       refine⟨⟨k,e,n,g,V,_,_,_,_,Z,zbF (rfl),hk,hn,hg,M,Y,D,⟨j,J.out,hd⟩⟩,by simp only[zbH,zbG];simp[intOf]<;>omega⟩
      |false=>
       cases hw:zE h (bt s k) with
       |true=>
        have HL:Hid (zar (bt s k) h=true):=by show _=_;simp[zE,hd] at hw;exact hw
        go_wp2_with fail
        refine (zdu _ _ N O).mono ?_
        rintro ev X ⟨rfl,rfl⟩
        go_wp2_with fail
        refine (Tryz.strings_HasPrefix _ _ _).mono ?_
        rintro ev X ⟨rfl,rfl⟩
        rw[ai.out]
        rw[ab]
        go_wp2_with fail
        refine (zbt _ _ N O).mono ?_
        rintro ev X ⟨rfl,rfl⟩
        go_wp2_with fail
        refine (zdR _ _ _ N O).mono ?_
        rintro ev X ⟨rfl,rfl⟩
        go_wp2
        go_step3
        refine⟨⟨k,e,n,g,V,_,_,_,_,Z,zbF (rfl),hk,hn,hg,M,Y,D,⟨j,J.out,HL.out⟩⟩,by simp only[zbH,zbG];simp[intOf]<;>omega⟩
       |false=>
        by_cases ae:bt s k=34
        ·have aT:Hid (bt s k=34):=ae
         have aO:(bt s k==34)=true:=beq_iff_eq.2 ae
         clear ae
         go_wp2_with fail
         refine (zdu _ _ N O).mono ?_
         rintro ev X ⟨rfl,rfl⟩
         go_wp2_with fail
         refine (Tryz.strings_HasPrefix _ _ _).mono ?_
         rintro ev X ⟨rfl,rfl⟩
         rw[ai.out]
         rw[ab]
         go_wp2_with fail
         refine (zbt _ _ N O).mono ?_
         rintro ev X ⟨rfl,rfl⟩
         go_wp2_with fail
         refine (zdR _ _ _ N O).mono ?_
         rintro ev X ⟨rfl,rfl⟩
         go_wp2
         go_step3
         refine⟨⟨k,e,n,g,V,_,_,_,_,Z,zbF (rfl),hk,hn,hg,M,Y,D,⟨j,J.out,aT.out⟩⟩,by simp only[zbH,zbG];simp[intOf]<;>omega⟩
        ·have aO:(bt s k==34)=false:=beq_eq_false_iff_ne.2 ae
         cases aC:ze2 (bt s k) with
         |true=>
          clear ae
          go_wp2_with fail
          refine (zdu _ _ N O).mono ?_
          rintro ev X ⟨rfl,rfl⟩
          go_wp2_with fail
          refine (Tryz.strings_HasPrefix _ _ _).mono ?_
          rintro ev X ⟨rfl,rfl⟩
          rw[ai.out]
          rw[ab]
          go_wp2_with fail
          refine (zbt _ _ N O).mono ?_
          rintro ev X ⟨rfl,rfl⟩
          go_wp2_with fail
          refine (zdR _ _ _ N O).mono ?_
          rintro ev X ⟨rfl,rfl⟩
          go_wp2_with fail
          refine (ziQ _ _ N O).mono ?_
          rintro ev X ⟨rfl,rfl⟩
          go_wp2
          go_step3
          refine⟨⟨k,e,n,g,V,_,_,_,_,Z,zbF (rfl),hk,hn,hg,M,Y,D,⟨j,J.out,of_decide_eq_true aC⟩⟩,by simp only[zbH,zbG];simp[intOf]<;>omega⟩
         |false=>
          have HE:Hid (zaa s h (.error k)):=zek J.out j (.inr (zhb (by simp[zE,hd] at hw;exact hw) hd ae (of_decide_eq_false aC)))
          clear ae
          go_wp2_with fail
          refine (zdu _ _ N O).mono ?_
          rintro ev X ⟨rfl,rfl⟩
          go_wp2_with fail
          refine (Tryz.strings_HasPrefix _ _ _).mono ?_
          rintro ev X ⟨rfl,rfl⟩
          rw[ai.out]
          rw[ab]
          go_wp2_with fail
          refine (zbt _ _ N O).mono ?_
          rintro ev X ⟨rfl,rfl⟩
          go_wp2_with fail
          refine (zdR _ _ _ N O).mono ?_
          rintro ev X ⟨rfl,rfl⟩
          go_wp2_with fail
          refine (ziQ _ _ N O).mono ?_
          rintro ev X ⟨rfl,rfl⟩
          go_wp2
          simp only[Leaves]
          go_ret2
          exact⟨⟨_,HE.out,rfl⟩,D⟩
  ·obtain⟨j,U,A⟩:=aa
   have J:Hid (∀r,Lx s h k n r→zaa s h (r.map (Z++ ·))):=U
   have HW:Hid (zD (bt s k)=true):=A
   clear U A
   clear IH
   refine⟨_,rfl,?_⟩
   unfold zcA
   go_wp2_with fail
   refine (zov _ _ h _ j HW.out hs).mono ?_
   rintro ev X ⟨v,z,rfl,al,E⟩
   have H:=Y.later E
   obtain⟨av,an,ah,au,aw,ax,ar,ap⟩:=H.cells
   have L:=D.trans (E.mono ak)
   have I:=zbK M E
   rcases al with ⟨⟨aj,ag,af,ac⟩,m,rfl,rfl,ht⟩|⟨rfl,⟨c1,c2,c3,c4,rfl⟩,ad⟩
   ·have HT:Hid (Tok s h k ⟨aj,ag,af,ac⟩ m):=ht
    clear ht
    simp only[tkV]
    go_wp2
    go_step3
    refine⟨⟨k,m,n,g,V,_,_,_,_,Z,zbF (rfl),hk,hn,hg,zdV I hg _ _ _ _,H.put,zdW L (Nat.le_succ _) _ _ _ _,⟨j,J.out,.inl ⟨⟨aj,ag,af,ac⟩,rfl,rfl,rfl,rfl,HT.out⟩⟩⟩,by simp only[zbH,zbG];simp[intOf]<;>omega⟩
   ·have aA:Hid (∀t m,¬Tok s h k t m):=ad
    clear ad
    go_wp2
    go_step3
    refine⟨⟨k,k,n,g,V,_,_,_,_,Z,zbF (rfl),hk,hn,hg,zdV I hg _ _ _ _,H.put,zdW L (Nat.le_succ _) _ _ _ _,⟨j,J.out,.inr ⟨rfl,aA.out⟩⟩⟩,by simp only[zbH,zbG];simp[intOf]<;>omega⟩
  ·obtain⟨j,U,A⟩:=aa
   have J:Hid (∀r,Lx s h k n r→zaa s h (r.map (Z++ ·))):=U
   have HW:Hid (zar (bt s k) h=true):=A
   clear U A
   clear IH
   refine⟨_,rfl,?_⟩
   unfold zcA
   go_wp2_with fail
   refine (ziR _ _ _ _ hk hs).mono ?_
   rintro ev w0 ⟨m,rfl,hr,rfl⟩
   have HT:Hid (Tok s h k ⟨1,s.extract k m,0,k⟩ m):=.name HW.out hr
   have aW:=hr.1
   have aB:=hr.2.1
   clear hr
   go_wp2_with fail
   refine (zgo _ _ (by rw[zdU _ _ _ aB];omega)).mono ?_
   rintro ev X ⟨rfl,E⟩
   have H:=Y.later E
   obtain⟨av,an,ah,au,aw,ax,ar,ap⟩:=H.cells
   have L:=D.trans (E.mono ak)
   have I:=zbK M E
   go_wp2
   go_step3
   refine⟨⟨k,m,n,g,V,_,_,_,_,Z,zbF (rfl),hk,hn,hg,zdV I hg _ _ _ _,H.put,zdW L (Nat.le_succ _) _ _ _ _,⟨j,J.out,.inl ⟨⟨1,s.extract k m,0,k⟩,rfl,rfl,rfl,rfl,HT.out⟩⟩⟩,by simp only[zbH,zbG];simp[intOf]<;>omega⟩
  ·obtain⟨j,U,A⟩:=aa
   have J:Hid (∀r,Lx s h k n r→zaa s h (r.map (Z++ ·))):=U
   have HW:Hid (bt s k=34):=A
   clear U A
   clear IH
   refine⟨_,rfl,?_⟩
   unfold zcA
   go_wp2_with fail
   refine (zox _ _ h _ j HW.out hs).mono ?_
   rintro ev X ⟨v,z,rfl,al,E⟩
   have H:=Y.later E
   obtain⟨av,an,ah,au,aw,ax,ar,ap⟩:=H.cells
   have L:=D.trans (E.mono ak)
   have I:=zbK M E
   rcases al with ⟨⟨aj,ag,af,ac⟩,m,rfl,rfl,ht⟩|⟨rfl,⟨c1,c2,c3,c4,rfl⟩,ad⟩
   ·have HT:Hid (Tok s h k ⟨aj,ag,af,ac⟩ m):=ht
    clear ht
    simp only[tkV]
    go_wp2
    go_step3
    refine⟨⟨k,m,n,g,V,_,_,_,_,Z,zbF (rfl),hk,hn,hg,zdV I hg _ _ _ _,H.put,zdW L (Nat.le_succ _) _ _ _ _,⟨j,J.out,.inl ⟨⟨aj,ag,af,ac⟩,rfl,rfl,rfl,rfl,HT.out⟩⟩⟩,by simp only[zbH,zbG];simp[intOf]<;>omega⟩
   ·have aA:Hid (∀t m,¬Tok s h k t m):=ad
    clear ad
    go_wp2
    go_step3
    refine⟨⟨k,k,n,g,V,_,_,_,_,Z,zbF (rfl),hk,hn,hg,zdV I hg _ _ _ _,H.put,zdW L (Nat.le_succ _) _ _ _ _,⟨j,J.out,.inr ⟨rfl,aA.out⟩⟩⟩,by simp only[zbH,zbG];simp[intOf]<;>omega⟩
  ·obtain⟨j,U,A⟩:=aa
   have J:Hid (∀r,Lx s h k n r→zaa s h (r.map (Z++ ·))):=U
   have HW:Hid (zaP (bt s k)):=A
   clear U A
   have aJ:Hid _:=IH
   clear IH
   refine⟨_,rfl,?_⟩
   unfold zcA
   obtain⟨k1,aF⟩: ∃k1:Nat,k1=k+1:=⟨_,rfl⟩
   have aU:(k:Int)+1=k1:=by omega
   have aI:Hid (k1=k+1):=aF
   have aX:k≤k1:=by omega
   have aH:k1≤s.size:=by omega
   clear aF
   go_wp2_with fail
   refine (zgo _ _ (by rw[zdU _ _ _ aH];omega)).mono ?_
   rintro ev X ⟨rfl,E⟩
   have H:=Y.later E
   obtain⟨av,an,ah,au,aw,ax,ar,ap⟩:=H.cells
   have L:=D.trans (E.mono ak)
   have I:=zbK M E
   go_wp2
   go_step3
   rename_i K hK
   refine hK _ _ (aJ.out 5 _ _ _ rfl ?_ ?_)
   ·exact⟨k,k1,n,g,V,_,_,_,_,Z,zbF rfl,hk,hn,hg,zdV I hg _ _ _ _,H.put,zdW L (Nat.le_succ _) _ _ _ _,⟨j,J.out,.inl ⟨⟨4,s.extract k k1,0,k⟩,rfl,rfl,rfl,rfl,by rw[aI.out];exact .sign HW.out⟩⟩⟩
   ·simp only[zbH,zbG,zcA];simp[intOf]
  ·obtain⟨j,U,A⟩:=aa
   have J:Hid (∀r,Lx s h k n r→zaa s h (r.map (Z++ ·))):=U
   clear U IH
   obtain⟨av,an,ah,au,aw,ax,ar,ap⟩:=Y.cells
   have aP:=Y.lt
   refine⟨_,rfl,?_⟩
   unfold zcA
   rcases A with ⟨⟨aj,ag,af,ac⟩,rfl,rfl,rfl,rfl,ht⟩|⟨rfl,ad⟩
   ·have aW:=(zd3 j ht).1
    have aB:=(zd3 j ht).2.1
    have HT:Hid (Tok s h k ⟨kd,tx,nm,ac⟩ e):=ht
    clear ht
    have q1:((e:Int)==(k:Int))=false:=beq_eq_false_iff_ne.2 (by omega)
    by_cases aE:n=4000
    ·have HE:Hid (zaa s h (.error k)):=zek J.out j (.inl (by omega))
     have q2:((n:Int)==4000)=true:=beq_iff_eq.2 (by omega)
     clear aE
     go_wp2
     simp only[Leaves]
     go_ret2
     exact⟨⟨_,HE.out,rfl⟩,D⟩
    ·have HX:Hid (∀b,Skip s e b→∀r,Lx s h b (n+1) r→zaa s h (r.map ((Z++[⟨kd,tx,nm,ac⟩])++ ·))):=fun b hb=>zhd J.out j (by omega) HT.out hb
     have q2:((n:Int)==4000)=false:=beq_eq_false_iff_ne.2 (by omega)
     have aN:n+1≤4000:=by omega
     clear aE
     go_wp2_with (first|(at_builtin;refine zoz wr rfl _ _ 118 rfl w.heap.size 143 i0 _ Tryz.underlying118 hi aK aV aQ rfl g n V Z (by rfl) M ⟨kd,tx,nm,ac⟩ wr.heap.size rfl (by rfl) (by omega) ak ?_))
     intro g2 aG w2 ay aM aY aq
     have aL:g2≠w.heap.size+1:=by omega
     go_wp2
     go_step3
     refine⟨⟨e,e,n+1,g2,aG,_,_,_,_,_,zbF (rfl),aB,aN,aL,ay,((aq _ aP (Ne.symm hg)).trans Y),D.trans aM,HX.out⟩,by simp only[zbH,zbG];simp[intOf]<;>omega⟩
   ·have HE:Hid (zaa s h (.error e)):=zek J.out j (.inr ad)
    have q1:((e:Int)==(e:Int))=true:=beq_iff_eq.2 rfl
    clear ad
    go_wp2
    simp only[Leaves]
    go_ret2
    exact⟨⟨_,HE.out,rfl⟩,D⟩
  ·match l,aS,aa with
   |l+6,_,aa=>exact aa.elim
 ·intro az
  go_wp2
  go_step3
  rename_i K hK
  refine hK _ _ (az 0 _ _ _ rfl ?_)
  have aR:=((Below.refl w.heap.size w).alloc (Nat.le_refl _) (.cells #[] 143)).alloc (by rw[zk];omega) (.cells #[.int .i64 0,.string {data:=#[]},.int .i64 0,.int .i64 0] 143)
  have hT:TC ((w.alloc (.cells #[] 143)).alloc (.cells #[.int .i64 0,.string {data:=#[]},.int .i64 0,.int .i64 0] 143)) (w.heap.size+1) 0 {data:=#[]} 0 0:=by
   have:=heap_alloc_new (w.alloc (.cells #[] 143)) (.cells #[.int .i64 0,.string {data:=#[]},.int .i64 0,.int .i64 0] 143)
   rw[zk] at this
   exact this
  exact⟨0,0,0,w.heap.size,0,_,_,_,_,[],zbF rfl,Nat.zero_le _,by omega,by omega,zbK (zfD w _ _ (Nat.le_refl _)) ((Below.refl _ _).alloc (Nat.le_refl _) _),hT,aR,fun b hb r hr=>⟨b,hb,by cases r<;>simpa [Except.map] using hr⟩⟩
end Go.Proofs.YtjdddblpfbmpaaaGreat