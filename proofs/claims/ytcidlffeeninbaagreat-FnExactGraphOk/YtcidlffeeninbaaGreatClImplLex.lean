/-
 What impl.Lex answers: the walk.
-/
import Derived.Test.YtcidlffeeninbaaGreatClImplLexB
import Derived.Test.YtcidlffeeninbaaGreatClSpecLexAllToTokCells
import Derived.Test.YtcidlffeeninbaaGreatClLabels
import Derived.Maps.AppendAt
namespace Go.Proofs.YtcidlffeeninbaaGreat
set_option maxRecDepth 1000000
set_option maxHeartbeats 12800000
open Go.RowKit Go.PlainAid
def TC (w:World) (g:Nat) (k:Int) (x:ByteArray) (y u:Int):Prop:=w.heap[g]? =some (.cells #[.int .i64 k,.string x,.int .i64 y,.int .i64 u] 136 (0,0))
theorem TC.cells {w:World} {g:Nat} {k y u:Int} {x:ByteArray} (h:TC w g k x y u):
  w.cell? ⟨g,0,none⟩=some (.int .i64 k)∧w.cell? ⟨g,1,none⟩=some (.string x)∧w.cell? ⟨g,2,none⟩=some (.int .i64 y)∧w.cell? ⟨g,3,none⟩=some (.int .i64 u)
  ∧w.frozen? ⟨g,0,none⟩=false∧w.frozen? ⟨g,1,none⟩=false∧w.frozen? ⟨g,2,none⟩=false∧w.frozen? ⟨g,3,none⟩=false:=by
 unfold TC at h
 simp[World.cell?,World.frozen?,h]
theorem TC.lt {w:World} {g:Nat} {k y u:Int} {x:ByteArray} (h:TC w g k x y u):g<w.heap.size:=(Array.getElem?_eq_some_iff.1 h).1
theorem TC.later {w q:World} {g:Nat} {k y u:Int} {x:ByteArray} (h:TC w g k x y u) (z:Below w.heap.size w q):TC q g k x y u:=(z.block g h.lt).trans h
theorem TC.put {w:World} {g:Nat} {k y u q z D:Int} {x A:ByteArray} (h:TC w g k x y u):
  TC ((((w.setCell ⟨g,0,none⟩ (.int .i64 q)).setCell ⟨g,1,none⟩ (.string A)).setCell ⟨g,2,none⟩ (.int .i64 z)).setCell ⟨g,3,none⟩ (.int .i64 D)) g q A z D:=zlS h
theorem zgJ {w:World} {q g n A K:Nat} {e:TypeId} {H:List Tk} (h:OwnT w q e g n A H) (D:g≠K) (i:Nat) (v:Value):OwnT (w.setCell ⟨K,i,none⟩ v) q e g n A H:=by
 refine⟨⟨h.1.1,?_⟩,h.2⟩
 rcases h.1.2 with k|⟨N,I,E,J,z,L,M⟩
 ·exact .inl k
 ·simp only[Value.slice.injEq,Option.some.injEq,Addr.mk.injEq,and_true,true_and] at J
  obtain⟨rfl,rfl⟩:=J
  exact .inr ⟨g,A,E,rfl,z,(Below.heap_setCell _ _ _ _ D).trans L,M⟩
theorem zeW {w:World} {z g n A D:Nat} {e:TypeId} {E:List Tk} (h:OwnT w z e g n A E) (q:g≠D) (H K I J:Value):OwnT ((((w.setCell ⟨D,0,none⟩ H).setCell ⟨D,1,none⟩ K).setCell ⟨D,2,none⟩ I).setCell ⟨D,3,none⟩ J) z e g n A E:=
 zgJ (zgJ (zgJ (zgJ h q _ _) q _ _) q _ _) q _ _
theorem zeX {w W:World} {B q:Nat} (h:Below B w W) (z:B≤q) (A H D E:Value):Below B w ((((W.setCell ⟨q,0,none⟩ A).setCell ⟨q,1,none⟩ H).setCell ⟨q,2,none⟩ D).setCell ⟨q,3,none⟩ E):=
 (((h.setCell z _).setCell z _).setCell z _).setCell z _
theorem zuh {P:Program} (w:World) {M:Array Oper} {rest:List Oper} {o:Oper} {a:Act} {Q:Exit→Act→World→Prop} (V:o.guard=none) (s x:Operand) (t:TypeId)
  (ho:o.op= .call {callee:=.builtin .append,args:=#[s,x],argTypes:=#[t,t]})
  (A:Nat) (e:TypeId) (i:TypeInfo) (z:Value) (ht:P.underlying t=some (.slice e)) (hi:P.info? e=some i) (hz:i.zero=some z) (L:i.size=4) (U:i.bytes=40) (Y:z.cells.size=4)
  (g n N:Nat) (ts:List Tk) (hs:a.eval s= .slice (some ⟨g,0,none⟩) n N) (H:OwnT w A e g n N ts)
  (b:Tk) (gx:Nat) (X:gx=w.heap.size) (hx:a.eval x= .slice (some ⟨gx,0,none⟩) 1 1) (hn:n+1≤1000000) (I:A≤w.heap.size)
  (h: ∀K E J,OwnT J A e K (n+1) E (ts++[b])→Below A w J→(K=g∨w.heap.size≤K)→(∀k,k<w.heap.size→k≠g→J.heap[k]? =w.heap[k]?)→wpList P M Q rest (a.put o.dst (.slice (some ⟨K,0,none⟩) (n+1) E)) J):
  wpList P M Q (o::rest) a (w.alloc (.cells #[.int .i64 b.kind,.string b.text,.int .i64 b.num,.int .i64 b.pos] e)):=by
 subst X
 refine wpList_append_own_at _ V s x t ho A e i z 4 40 ht hi hz L U Y (by decide) _ n _ hs (H.1.alloc _) ⟨w.heap.size,0,none⟩ 1 1 (tkL b) hx rfl ?_ ?_ ?_ ?_ ?_ ?_
 ·intro j u D
  match j,D with
  |0,D=>simp[tkL] at D;subst D;simp[Addr.add]
  |1,D=>simp[tkL] at D;subst D;simp[Addr.add]
  |2,D=>simp[tkL] at D;subst D;simp[Addr.add]
  |3,D=>simp[tkL] at D;subst D;simp[Addr.add]
  |j+4,D=>simp[tkL] at D
 ·intro u hu
  simp[tkL] at hu
  rcases hu with rfl|rfl|rfl|rfl<;>rfl
 ·unfold maxLen;omega
 ·omega
 ·simp;omega
 ·intro v' J h1 h2 h3 h4
  have hb:Below A w J:=((Below.refl A w).alloc I _).grown h2 (by simp;omega) (zhc H.1)
  rcases h1.2 with ⟨hv,_⟩|⟨K,E,aa,rfl,O⟩
  ·have:=(h3.1 hv).1
   simp at this
  ·refine h K E J ⟨?_,by rw[List.length_append];have:=H.2;simp;omega⟩ hb ?_ ?_
   ·rw[List.flatMap_append]
    simpa using h1
   ·rcases h4 with q|q
    ·left
     simpa [Value.ownBlock] using q
    ·right
     have:K=w.heap.size+1:=by simpa [Value.ownBlock] using q
     omega
   ·intro k hk Z
    rw[h2.block k (by simp;omega) (by simpa [Value.ownBlock] using Z),Below.heap_alloc _ _ _ hk]
def zui (s:ByteArray) (scr:Bool) (k e n:Nat) (ts:List Tk) (kd:Int) (tx:ByteArray) (nm ps:Int):Nat→Prop
 |0=>∀b,Skip s k b→∀r,Lx s scr b n r→zaj s scr (r.map (ts++ ·))
 |1=>k<s.size∧(∀r,Lx s scr k n r→zaj s scr (r.map (ts++ ·)))∧zJ (bt s k)=true
 |2=>k<s.size∧(∀r,Lx s scr k n r→zaj s scr (r.map (ts++ ·)))∧za1 (bt s k) scr=true
 |3=>k<s.size∧(∀r,Lx s scr k n r→zaj s scr (r.map (ts++ ·)))∧bt s k=34
 |4=>k<s.size∧(∀r,Lx s scr k n r→zaj s scr (r.map (ts++ ·)))∧zbj (bt s k)
 |5=>k<s.size∧(∀r,Lx s scr k n r→zaj s scr (r.map (ts++ ·)))∧((∃t:Tk,kd=t.kind∧tx=t.text∧nm=t.num∧ps=t.pos∧Tok s scr k t e)∨(e=k∧∀t m,¬Tok s scr k t m))
 |_=>False
def zds (s:ByteArray) (scr:Bool) (gt k e n g cap:Nat) (us:Nat→Value):Act:={tmps:=#[.string s,.bool scr,undef,undef,.slice none 0 0,.int .i64 0,.slice (some ⟨g,0,none⟩) n cap,.pointer (some ⟨gt,0,none⟩),.int .i64 k,.int .i64 e,us 10,us 11,us 12,us 13,us 14,us 15,us 16,us 17,us 18,us 19,us 20,us 21,us 22,us 23,us 24,us 25,us 26,us 27,us 28,us 29,us 30,us 31,us 32,us 33,us 34,us 35,us 36,us 37,us 38,us 39,us 40,us 41,us 42,us 43,us 44,us 45,us 46,us 47,us 48,us 49,us 50,us 51,us 52,us 53,us 54,us 55,us 56,us 57,us 58,us 59,us 60,us 61,us 62,us 63,us 64,us 65,us 66,us 67,us 68,us 69,us 70,us 71,us 72,us 73,us 74,us 75,us 76,us 77,us 78,us 79,us 80,us 81,us 82,us 83,us 84,us 85,us 86,us 87,us 88,us 89,us 90,us 91,us 92,us 93,us 94,us 95,us 96,us 97,us 98,us 99,us 100,us 101],defers:=[]}
theorem zcq {a:Act} {s:ByteArray} {w:Bool} {z k e n g q:Nat} (h:a=zds s w z k e n g q (fun i=>a.tmps.getD i undef)): ∃A,a=zds s w z k e n g q A:=⟨_,h⟩
def zuj (s:ByteArray) (scr:Bool) (w:World) (l:Nat) (a:Act) (wr:World):Prop:=
 ∃(k e n g cap:Nat) (kd:Int) (tx:ByteArray) (nm ps:Int) (ts:List Tk),(∃us,a=zds s scr (w.heap.size+1) k e n g cap us)
  ∧k≤s.size∧n≤4000∧g≠w.heap.size+1∧OwnT wr w.heap.size 136 g n cap ts∧TC wr (w.heap.size+1) kd tx nm ps∧Below w.heap.size w wr∧zui s scr k e n ts kd tx nm ps l
def zcr:Nat→Nat
 |0=>2
 |5=>0
 |_=>1
def zcs (s:ByteArray) (l:Nat) (a:Act) (_:World):Nat:=3*((s.size:Int)-intOf (a.tmps.getD 8 undef)).toNat+zcr l
def zuk (s:ByteArray) (scr:Bool) (w:World) (e:Ending) (w':World):Prop:=
 ∃r,zaj s scr r∧match r with
  | .ok ts=>∃g n cap,e= .returned (.tuple #[.slice (some ⟨g,0,none⟩) n cap,.int .i64 (-1)])∧OwnT w' w.heap.size 136 g n cap ts
  | .error p=>e= .returned (.tuple #[.slice none 0 0,.int .i64 p])
theorem zul (s:ByteArray) (h:Bool) (w:World) (hs:s.size≤4294967296):
  Calls Tryz.prog 108 #[.string s,.bool h] w fun e w'=>zuk s h w e w'∧Below w.heap.size w w':=by
 obtain⟨i0,hi,aU,aT,aR⟩:=info_parts Tryz.infoTok
 have hb:=get_bt s
 go_enter Tryz.func108,Tryz.ntmps108
 go_wp2
 refine zug (zuj s h w) (zcs s) ?_ ?_
 ·intro l a' wr hJ IH
  obtain⟨k,e,n,g,X,kd,tx,nm,ps,ts,⟨us,rfl⟩,hk,hn,hg,N,Z,E,aa⟩:=hJ
  have al:=E.size
  have U:=bt_nonneg s k
  have O:=bt_le s k
  obtain rfl|rfl|rfl|rfl|rfl|rfl|aW:l=0∨l=1∨l=2∨l=3∨l=4∨l=5∨6≤l:=by omega
  ·have au:Hid (∀b,Skip s k b→∀r,Lx s h b n r→zaj s h (r.map (ts++ ·))):=aa
   clear aa IH
   refine⟨_,rfl,?_⟩
   unfold zds
   by_cases an:k=s.size
   ·have HE:Hid (zaj s h (.ok ts)):=zjb (au.out s.size (by rw[an];exact .done)) rfl
    have q:((k:Int)==(s.size:Int))=true:=beq_iff_eq.2 (by omega)
    clear an
    go_wp2
    simp only[Leaves]
    go_ret2
    exact⟨⟨_,HE.out,g,n,X,rfl,N⟩,E⟩
   ·have D:k<s.size:=by omega
    have q:((k:Int)==(s.size:Int))=false:=beq_eq_false_iff_ne.2 (by omega)
    clear an
    cases aD:zfF (bt s k) with
    |true=>
     have HX:Hid (∀b,Skip s (k+1) b→∀r,Lx s h b n r→zaj s h (r.map (ts++ ·))):=fun b hb=>au.out b (.blank D (of_decide_eq_true aD) hb)
     go_wp2_with fail
     refine (zew _ _ U O).mono ?_
     rintro ev Y ⟨rfl,rfl⟩
     obtain⟨k1,aQ⟩: ∃k1:Nat,(k:Int)+1=k1:=⟨k+1,by omega⟩
     go_wp2
     go_step3
     obtain rfl:k1=k+1:=by omega
     refine⟨⟨k+1,e,n,g,X,_,_,_,_,ts,zcq (rfl),by omega,hn,hg,N,Z,E,HX.out⟩,by simp only[zcs,zcr];simp[intOf]<;>omega⟩
    |false=>
     have ai:Hid (Lib.hasPrefix (s.extract k s.size).data.toList [47,47]=zgH s k):=ztL s k
     cases ac:zgH s k with
     |true=>
      go_wp2_with fail
      refine (zew _ _ U O).mono ?_
      rintro ev Y ⟨rfl,rfl⟩
      go_wp2_with fail
      refine (Tryz.strings_HasPrefix _ _ _).mono ?_
      rintro ev Y ⟨rfl,rfl⟩
      rw[ai.out]
      rw[ac]
      go_wp2_with fail
      refine (zuc _ _ _ hk hs).mono ?_
      rintro ev Y ⟨c,rfl,hc,rfl⟩
      have HX:Hid (∀b,Skip s c b→∀r,Lx s h b n r→zaj s h (r.map (ts++ ·))):=fun b hb=>au.out b (.comment D (of_decide_eq_true ac) hc hb)
      have ak:=ztJ D (of_decide_eq_true ac) hc
      have af:=hc.2.1
      clear hc
      go_wp2
      go_step3
      refine⟨⟨c,e,n,g,X,_,_,_,_,ts,zcq (rfl),af,hn,hg,N,Z,E,HX.out⟩,by simp only[zcs,zcr];simp[intOf]<;>omega⟩
     |false=>
      have M:Hid (∀r,Lx s h k n r→zaj s h (r.map (ts++ ·))):=au.out k (.stop D (of_decide_eq_false aD) (of_decide_eq_false ac))
      cases hd:zJ (bt s k) with
      |true=>
       go_wp2_with fail
       refine (zew _ _ U O).mono ?_
       rintro ev Y ⟨rfl,rfl⟩
       go_wp2_with fail
       refine (Tryz.strings_HasPrefix _ _ _).mono ?_
       rintro ev Y ⟨rfl,rfl⟩
       rw[ai.out]
       rw[ac]
       go_wp2_with fail
       refine (zbL _ _ U O).mono ?_
       rintro ev Y ⟨rfl,rfl⟩
       go_wp2
       go_step3
       refine⟨⟨k,e,n,g,X,_,_,_,_,ts,zcq (rfl),hk,hn,hg,N,Z,E,⟨D,M.out,hd⟩⟩,by simp only[zcs,zcr];simp[intOf]<;>omega⟩
      |false=>
       cases hw:zK h (bt s k) with
       |true=>
        have HL:Hid (za1 (bt s k) h=true):=by show _=_;simp[zK,hd] at hw;exact hw
        go_wp2_with fail
        refine (zew _ _ U O).mono ?_
        rintro ev Y ⟨rfl,rfl⟩
        go_wp2_with fail
        refine (Tryz.strings_HasPrefix _ _ _).mono ?_
        rintro ev Y ⟨rfl,rfl⟩
        rw[ai.out]
        rw[ac]
        go_wp2_with fail
        refine (zbL _ _ U O).mono ?_
        rintro ev Y ⟨rfl,rfl⟩
        go_wp2_with fail
        refine (zeS _ _ _ U O).mono ?_
        rintro ev Y ⟨rfl,rfl⟩
        go_wp2
        go_step3
        refine⟨⟨k,e,n,g,X,_,_,_,_,ts,zcq (rfl),hk,hn,hg,N,Z,E,⟨D,M.out,HL.out⟩⟩,by simp only[zcs,zcr];simp[intOf]<;>omega⟩
       |false=>
        by_cases ae:bt s k=34
        ·have aO:Hid (bt s k=34):=ae
         have aP:(bt s k==34)=true:=beq_iff_eq.2 ae
         clear ae
         go_wp2_with fail
         refine (zew _ _ U O).mono ?_
         rintro ev Y ⟨rfl,rfl⟩
         go_wp2_with fail
         refine (Tryz.strings_HasPrefix _ _ _).mono ?_
         rintro ev Y ⟨rfl,rfl⟩
         rw[ai.out]
         rw[ac]
         go_wp2_with fail
         refine (zbL _ _ U O).mono ?_
         rintro ev Y ⟨rfl,rfl⟩
         go_wp2_with fail
         refine (zeS _ _ _ U O).mono ?_
         rintro ev Y ⟨rfl,rfl⟩
         go_wp2
         go_step3
         refine⟨⟨k,e,n,g,X,_,_,_,_,ts,zcq (rfl),hk,hn,hg,N,Z,E,⟨D,M.out,aO.out⟩⟩,by simp only[zcs,zcr];simp[intOf]<;>omega⟩
        ·have aP:(bt s k==34)=false:=beq_eq_false_iff_ne.2 ae
         cases aG:zfG (bt s k) with
         |true=>
          clear ae
          go_wp2_with fail
          refine (zew _ _ U O).mono ?_
          rintro ev Y ⟨rfl,rfl⟩
          go_wp2_with fail
          refine (Tryz.strings_HasPrefix _ _ _).mono ?_
          rintro ev Y ⟨rfl,rfl⟩
          rw[ai.out]
          rw[ac]
          go_wp2_with fail
          refine (zbL _ _ U O).mono ?_
          rintro ev Y ⟨rfl,rfl⟩
          go_wp2_with fail
          refine (zeS _ _ _ U O).mono ?_
          rintro ev Y ⟨rfl,rfl⟩
          go_wp2_with fail
          refine (zlO _ _ U O).mono ?_
          rintro ev Y ⟨rfl,rfl⟩
          go_wp2
          go_step3
          refine⟨⟨k,e,n,g,X,_,_,_,_,ts,zcq (rfl),hk,hn,hg,N,Z,E,⟨D,M.out,of_decide_eq_true aG⟩⟩,by simp only[zcs,zcr];simp[intOf]<;>omega⟩
         |false=>
          have HE:Hid (zaj s h (.error k)):=zfm M.out D (.inr (zja (by simp[zK,hd] at hw;exact hw) hd ae (of_decide_eq_false aG)))
          clear ae
          go_wp2_with fail
          refine (zew _ _ U O).mono ?_
          rintro ev Y ⟨rfl,rfl⟩
          go_wp2_with fail
          refine (Tryz.strings_HasPrefix _ _ _).mono ?_
          rintro ev Y ⟨rfl,rfl⟩
          rw[ai.out]
          rw[ac]
          go_wp2_with fail
          refine (zbL _ _ U O).mono ?_
          rintro ev Y ⟨rfl,rfl⟩
          go_wp2_with fail
          refine (zeS _ _ _ U O).mono ?_
          rintro ev Y ⟨rfl,rfl⟩
          go_wp2_with fail
          refine (zlO _ _ U O).mono ?_
          rintro ev Y ⟨rfl,rfl⟩
          go_wp2
          simp only[Leaves]
          go_ret2
          exact⟨⟨_,HE.out,rfl⟩,E⟩
  ·obtain⟨D,V,A⟩:=aa
   have M:Hid (∀r,Lx s h k n r→zaj s h (r.map (ts++ ·))):=V
   have HW:Hid (zJ (bt s k)=true):=A
   clear V A
   clear IH
   refine⟨_,rfl,?_⟩
   unfold zds
   go_wp2_with fail
   refine (zud _ _ h _ D HW.out hs).mono ?_
   rintro ev Y ⟨v,z,rfl,am,H⟩
   have I:=Z.later H
   obtain⟨av,ak,af,ao,ap,ax,aq,ar⟩:=I.cells
   have L:=E.trans (H.mono al)
   have J:=zcx N H
   rcases am with ⟨⟨ag,aj,ah,ab⟩,m,rfl,rfl,ht⟩|⟨rfl,⟨c1,c2,c3,c4,rfl⟩,ad⟩
   ·have HT:Hid (Tok s h k ⟨ag,aj,ah,ab⟩ m):=ht
    clear ht
    simp only[tkV]
    go_wp2
    go_step3
    refine⟨⟨k,m,n,g,X,_,_,_,_,ts,zcq (rfl),hk,hn,hg,zeW J hg _ _ _ _,I.put,zeX L (Nat.le_succ _) _ _ _ _,⟨D,M.out,.inl ⟨⟨ag,aj,ah,ab⟩,rfl,rfl,rfl,rfl,HT.out⟩⟩⟩,by simp only[zcs,zcr];simp[intOf]<;>omega⟩
   ·have ay:Hid (∀t m,¬Tok s h k t m):=ad
    clear ad
    go_wp2
    go_step3
    refine⟨⟨k,k,n,g,X,_,_,_,_,ts,zcq (rfl),hk,hn,hg,zeW J hg _ _ _ _,I.put,zeX L (Nat.le_succ _) _ _ _ _,⟨D,M.out,.inr ⟨rfl,ay.out⟩⟩⟩,by simp only[zcs,zcr];simp[intOf]<;>omega⟩
  ·obtain⟨D,V,A⟩:=aa
   have M:Hid (∀r,Lx s h k n r→zaj s h (r.map (ts++ ·))):=V
   have HW:Hid (za1 (bt s k) h=true):=A
   clear V A
   clear IH
   refine⟨_,rfl,?_⟩
   unfold zds
   go_wp2_with fail
   refine (zlP _ _ _ _ hk hs).mono ?_
   rintro ev w0 ⟨m,rfl,hr,rfl⟩
   have HT:Hid (Tok s h k ⟨1,s.extract k m,0,k⟩ m):=.name HW.out hr
   have aS:=hr.1
   have az:=hr.2.1
   clear hr
   go_wp2_with fail
   refine (zih _ _ (by rw[zeV _ _ _ az];omega)).mono ?_
   rintro ev Y ⟨rfl,H⟩
   have I:=Z.later H
   obtain⟨av,ak,af,ao,ap,ax,aq,ar⟩:=I.cells
   have L:=E.trans (H.mono al)
   have J:=zcx N H
   go_wp2
   go_step3
   refine⟨⟨k,m,n,g,X,_,_,_,_,ts,zcq (rfl),hk,hn,hg,zeW J hg _ _ _ _,I.put,zeX L (Nat.le_succ _) _ _ _ _,⟨D,M.out,.inl ⟨⟨1,s.extract k m,0,k⟩,rfl,rfl,rfl,rfl,HT.out⟩⟩⟩,by simp only[zcs,zcr];simp[intOf]<;>omega⟩
  ·obtain⟨D,V,A⟩:=aa
   have M:Hid (∀r,Lx s h k n r→zaj s h (r.map (ts++ ·))):=V
   have HW:Hid (bt s k=34):=A
   clear V A
   clear IH
   refine⟨_,rfl,?_⟩
   unfold zds
   go_wp2_with fail
   refine (zuf _ _ h _ D HW.out hs).mono ?_
   rintro ev Y ⟨v,z,rfl,am,H⟩
   have I:=Z.later H
   obtain⟨av,ak,af,ao,ap,ax,aq,ar⟩:=I.cells
   have L:=E.trans (H.mono al)
   have J:=zcx N H
   rcases am with ⟨⟨ag,aj,ah,ab⟩,m,rfl,rfl,ht⟩|⟨rfl,⟨c1,c2,c3,c4,rfl⟩,ad⟩
   ·have HT:Hid (Tok s h k ⟨ag,aj,ah,ab⟩ m):=ht
    clear ht
    simp only[tkV]
    go_wp2
    go_step3
    refine⟨⟨k,m,n,g,X,_,_,_,_,ts,zcq (rfl),hk,hn,hg,zeW J hg _ _ _ _,I.put,zeX L (Nat.le_succ _) _ _ _ _,⟨D,M.out,.inl ⟨⟨ag,aj,ah,ab⟩,rfl,rfl,rfl,rfl,HT.out⟩⟩⟩,by simp only[zcs,zcr];simp[intOf]<;>omega⟩
   ·have ay:Hid (∀t m,¬Tok s h k t m):=ad
    clear ad
    go_wp2
    go_step3
    refine⟨⟨k,k,n,g,X,_,_,_,_,ts,zcq (rfl),hk,hn,hg,zeW J hg _ _ _ _,I.put,zeX L (Nat.le_succ _) _ _ _ _,⟨D,M.out,.inr ⟨rfl,ay.out⟩⟩⟩,by simp only[zcs,zcr];simp[intOf]<;>omega⟩
  ·obtain⟨D,V,A⟩:=aa
   have M:Hid (∀r,Lx s h k n r→zaj s h (r.map (ts++ ·))):=V
   have HW:Hid (zbj (bt s k)):=A
   clear V A
   have aK:Hid _:=IH
   clear IH
   refine⟨_,rfl,?_⟩
   unfold zds
   obtain⟨k1,aE⟩: ∃k1:Nat,k1=k+1:=⟨_,rfl⟩
   have aQ:(k:Int)+1=k1:=by omega
   have aH:Hid (k1=k+1):=aE
   have aY:k≤k1:=by omega
   have aI:k1≤s.size:=by omega
   clear aE
   go_wp2_with fail
   refine (zih _ _ (by rw[zeV _ _ _ aI];omega)).mono ?_
   rintro ev Y ⟨rfl,H⟩
   have I:=Z.later H
   obtain⟨av,ak,af,ao,ap,ax,aq,ar⟩:=I.cells
   have L:=E.trans (H.mono al)
   have J:=zcx N H
   go_wp2
   go_step3
   rename_i K hK
   refine hK _ _ (aK.out 5 _ _ _ rfl ?_ ?_)
   ·exact⟨k,k1,n,g,X,_,_,_,_,ts,zcq rfl,hk,hn,hg,zeW J hg _ _ _ _,I.put,zeX L (Nat.le_succ _) _ _ _ _,⟨D,M.out,.inl ⟨⟨4,s.extract k k1,0,k⟩,rfl,rfl,rfl,rfl,by rw[aH.out];exact .sign HW.out⟩⟩⟩
   ·simp only[zcs,zcr,zds];simp[intOf]
  ·obtain⟨D,V,A⟩:=aa
   have M:Hid (∀r,Lx s h k n r→zaj s h (r.map (ts++ ·))):=V
   clear V IH
   obtain⟨av,ak,af,ao,ap,ax,aq,ar⟩:=Z.cells
   have aV:=Z.lt
   refine⟨_,rfl,?_⟩
   unfold zds
   rcases A with ⟨⟨ag,aj,ah,ab⟩,rfl,rfl,rfl,rfl,ht⟩|⟨rfl,ad⟩
   ·have aS:=(ze1 D ht).1
    have az:=(ze1 D ht).2.1
    have HT:Hid (Tok s h k ⟨kd,tx,nm,ab⟩ e):=ht
    clear ht
    have q1:((e:Int)==(k:Int))=false:=beq_eq_false_iff_ne.2 (by omega)
    by_cases aC:n=4000
    ·have HE:Hid (zaj s h (.error k)):=zfm M.out D (.inl (by omega))
     have q2:((n:Int)==4000)=true:=beq_iff_eq.2 (by omega)
     clear aC
     go_wp2
     simp only[Leaves]
     go_ret2
     exact⟨⟨_,HE.out,rfl⟩,E⟩
    ·have HX:Hid (∀b,Skip s e b→∀r,Lx s h b (n+1) r→zaj s h (r.map ((ts++[⟨kd,tx,nm,ab⟩])++ ·))):=fun b hb=>zjc M.out D (by omega) HT.out hb
     have q2:((n:Int)==4000)=false:=beq_eq_false_iff_ne.2 (by omega)
     have aM:n+1≤4000:=by omega
     clear aC
     go_wp2_with (first|(at_builtin;refine zuh wr rfl _ _ 97 rfl w.heap.size 136 i0 _ Tryz.underlying97 hi aU aT aR rfl g n X ts (by rfl) N ⟨kd,tx,nm,ab⟩ wr.heap.size rfl (by rfl) (by omega) al ?_))
     intro g2 aF w2 aA aJ aX aw
     have aL:g2≠w.heap.size+1:=by omega
     go_wp2
     go_step3
     refine⟨⟨e,e,n+1,g2,aF,_,_,_,_,_,zcq (rfl),az,aM,aL,aA,((aw _ aV (Ne.symm hg)).trans Z),E.trans aJ,HX.out⟩,by simp only[zcs,zcr];simp[intOf]<;>omega⟩
   ·have HE:Hid (zaj s h (.error e)):=zfm M.out D (.inr ad)
    have q1:((e:Int)==(e:Int))=true:=beq_iff_eq.2 rfl
    clear ad
    go_wp2
    simp only[Leaves]
    go_ret2
    exact⟨⟨_,HE.out,rfl⟩,E⟩
  ·match l,aW,aa with
   |l+6,_,aa=>exact aa.elim
 ·intro aB
  go_wp2
  go_step3
  rename_i K hK
  refine hK _ _ (aB 0 _ _ _ rfl ?_)
  have aN:=((Below.refl w.heap.size w).alloc (Nat.le_refl _) (.cells #[] 136)).alloc (by rw[zg];omega) (.cells #[.int .i64 0,.string {data:=#[]},.int .i64 0,.int .i64 0] 136)
  have hT:TC ((w.alloc (.cells #[] 136)).alloc (.cells #[.int .i64 0,.string {data:=#[]},.int .i64 0,.int .i64 0] 136)) (w.heap.size+1) 0 {data:=#[]} 0 0:=by
   have:=heap_alloc_new (w.alloc (.cells #[] 136)) (.cells #[.int .i64 0,.string {data:=#[]},.int .i64 0,.int .i64 0] 136)
   rw[zg] at this
   exact this
  exact⟨0,0,0,w.heap.size,0,_,_,_,_,[],zcq rfl,Nat.zero_le _,by omega,by omega,zcx (zhd w _ _ (Nat.le_refl _)) ((Below.refl _ _).alloc (Nat.le_refl _) _),hT,aN,fun b hb r hr=>⟨b,hb,by cases r<;>simpa [Except.map] using hr⟩⟩
end Go.Proofs.YtcidlffeeninbaaGreat