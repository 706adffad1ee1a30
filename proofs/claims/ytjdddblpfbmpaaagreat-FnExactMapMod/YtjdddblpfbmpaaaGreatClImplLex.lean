/-
 What impl.Lex answers: the walk.
-/
import Derived.Test.YtjdddblpfbmpaaaGreatClImplLexB
import Derived.Test.YtjdddblpfbmpaaaGreatClSpecLexAllToTokCells
import Derived.Test.YtjdddblpfbmpaaaGreatClLabels
import Derived.Maps.AppendAt
namespace Go.Proofs.YtjdddblpfbmpaaaGreat
set_option maxRecDepth 1000000
set_option maxHeartbeats 12800000
open Go.RowKit Go.PlainAid
def TC (w:World) (g:Nat) (k:Int) (x:ByteArray) (y u:Int):Prop:=w.heap[g]? =some (.cells #[.int .i64 k,.string x,.int .i64 y,.int .i64 u] 143 (0,0))
theorem TC.cells {w:World} {g:Nat} {k y u:Int} {x:ByteArray} (h:TC w g k x y u):
  w.cell? ⟨g,0,none⟩=some (.int .i64 k)∧w.cell? ⟨g,1,none⟩=some (.string x)∧w.cell? ⟨g,2,none⟩=some (.int .i64 y)∧w.cell? ⟨g,3,none⟩=some (.int .i64 u)
  ∧w.frozen? ⟨g,0,none⟩=false∧w.frozen? ⟨g,1,none⟩=false∧w.frozen? ⟨g,2,none⟩=false∧w.frozen? ⟨g,3,none⟩=false:=by
 unfold TC at h
 simp[World.cell?,World.frozen?,h]
theorem TC.lt {w:World} {g:Nat} {k y u:Int} {x:ByteArray} (h:TC w g k x y u):g<w.heap.size:=(Array.getElem?_eq_some_iff.1 h).1
theorem TC.later {w w':World} {g:Nat} {k y u:Int} {x:ByteArray} (h:TC w g k x y u) (j:Below w.heap.size w w'):TC w' g k x y u:=(j.block g h.lt).trans h
theorem TC.put {w:World} {g:Nat} {k y u z H A:Int} {x j:ByteArray} (h:TC w g k x y u):
  TC ((((w.setCell ⟨g,0,none⟩ (.int .i64 z)).setCell ⟨g,1,none⟩ (.string j)).setCell ⟨g,2,none⟩ (.int .i64 H)).setCell ⟨g,3,none⟩ (.int .i64 A)) g z j H A:=zl2 h
theorem zgG {w:World} {j g n A N:Nat} {e:TypeId} {J:List Tk} (h:OwnT w j e g n A J) (I:g≠N) (i:Nat) (v:Value):OwnT (w.setCell ⟨N,i,none⟩ v) j e g n A J:=by
 refine⟨⟨h.1.1,?_⟩,h.2⟩
 rcases h.1.2 with k|⟨V,M,H,L,z,U,O⟩
 ·exact .inl k
 ·simp only[Value.slice.injEq,Option.some.injEq,Addr.mk.injEq,and_true,true_and] at L
  obtain⟨rfl,rfl⟩:=L
  exact .inr ⟨g,A,H,rfl,z,(Below.heap_setCell _ _ _ _ I).trans U,O⟩
theorem zeN {w:World} {z g n A H:Nat} {e:TypeId} {I:List Tk} (h:OwnT w z e g n A I) (j:g≠H) (v0 v1 v2 v3:Value):OwnT ((((w.setCell ⟨H,0,none⟩ v0).setCell ⟨H,1,none⟩ v1).setCell ⟨H,2,none⟩ v2).setCell ⟨H,3,none⟩ v3) z e g n A I:=
 zgG (zgG (zgG (zgG h j _ _) j _ _) j _ _) j _ _
theorem zeO {w W:World} {B j:Nat} (h:Below B w W) (z:B≤j) (v0 v1 v2 v3:Value):Below B w ((((W.setCell ⟨j,0,none⟩ v0).setCell ⟨j,1,none⟩ v1).setCell ⟨j,2,none⟩ v2).setCell ⟨j,3,none⟩ v3):=
 (((h.setCell z _).setCell z _).setCell z _).setCell z _
theorem zug {P:Program} (w:World) {ops:Array Oper} {rest:List Oper} {o:Oper} {a:Act} {Q:Exit→Act→World→Prop} (U:o.guard=none) (s x:Operand) (t:TypeId)
  (ho:o.op= .call {callee:=.builtin .append,args:=#[s,x],argTypes:=#[t,t]})
  (A:Nat) (e:TypeId) (i:TypeInfo) (z:Value) (ht:P.underlying t=some (.slice e)) (hi:P.info? e=some i) (hz:i.zero=some z) (L:i.size=4) (X:i.bytes=40) (Y:z.cells.size=4)
  (g n O:Nat) (ts:List Tk) (hs:a.eval s= .slice (some ⟨g,0,none⟩) n O) (J:OwnT w A e g n O ts)
  (b:Tk) (gx:Nat) (aa:gx=w.heap.size) (hx:a.eval x= .slice (some ⟨gx,0,none⟩) 1 1) (hn:n+1≤1000000) (M:A≤w.heap.size)
  (h: ∀N I w',OwnT w' A e N (n+1) I (ts++[b])→Below A w w'→(N=g∨w.heap.size≤N)→(∀k,k<w.heap.size→k≠g→w'.heap[k]? =w.heap[k]?)→wpList P ops Q rest (a.put o.dst (.slice (some ⟨N,0,none⟩) (n+1) I)) w'):
  wpList P ops Q (o::rest) a (w.alloc (.cells #[.int .i64 b.kind,.string b.text,.int .i64 b.num,.int .i64 b.pos] e)):=by
 subst aa
 refine wpList_append_own_at _ U s x t ho A e i z 4 40 ht hi hz L X Y (by decide) _ n _ hs (J.1.alloc _) ⟨w.heap.size,0,none⟩ 1 1 (tkL b) hx rfl ?_ ?_ ?_ ?_ ?_ ?_
 ·intro j u H
  match j,H with
  |0,H=>simp[tkL] at H;subst H;simp[Addr.add]
  |1,H=>simp[tkL] at H;subst H;simp[Addr.add]
  |2,H=>simp[tkL] at H;subst H;simp[Addr.add]
  |3,H=>simp[tkL] at H;subst H;simp[Addr.add]
  |j+4,H=>simp[tkL] at H
 ·intro u hu
  simp[tkL] at hu
  rcases hu with rfl|rfl|rfl|rfl<;>rfl
 ·unfold maxLen;omega
 ·omega
 ·simp;omega
 ·intro v' w' h1 h2 h3 h4
  have hb:Below A w w':=((Below.refl A w).alloc M _).grown h2 (by simp;omega) (ziy J.1)
  rcases h1.2 with ⟨hv,_⟩|⟨N,I,ab,rfl,Z⟩
  ·have:=(h3.1 hv).1
   simp at this
  ·refine h N I w' ⟨?_,by rw[List.length_append];have:=J.2;simp;omega⟩ hb ?_ ?_
   ·rw[List.flatMap_append]
    simpa using h1
   ·rcases h4 with q|q
    ·left
     simpa [Value.ownBlock] using q
    ·right
     have:N=w.heap.size+1:=by simpa [Value.ownBlock] using q
     omega
   ·intro k hk V
    rw[h2.block k (by simp;omega) (by simpa [Value.ownBlock] using V),Below.heap_alloc _ _ _ hk]
def zuh (s:ByteArray) (scr:Bool) (k e n:Nat) (ts:List Tk) (kd:Int) (tx:ByteArray) (nm ps:Int):Nat→Prop
 |0=>∀b,Skip s k b→∀r,Lx s scr b n r→zak s scr (r.map (ts++ ·))
 |1=>k<s.size∧(∀r,Lx s scr k n r→zak s scr (r.map (ts++ ·)))∧zH (bt s k)=true
 |2=>k<s.size∧(∀r,Lx s scr k n r→zak s scr (r.map (ts++ ·)))∧za3 (bt s k) scr=true
 |3=>k<s.size∧(∀r,Lx s scr k n r→zak s scr (r.map (ts++ ·)))∧bt s k=34
 |4=>k<s.size∧(∀r,Lx s scr k n r→zak s scr (r.map (ts++ ·)))∧zbk (bt s k)
 |5=>k<s.size∧(∀r,Lx s scr k n r→zak s scr (r.map (ts++ ·)))∧((∃t:Tk,kd=t.kind∧tx=t.text∧nm=t.num∧ps=t.pos∧Tok s scr k t e)∨(e=k∧∀t m,¬Tok s scr k t m))
 |_=>False
def zds (s:ByteArray) (scr:Bool) (gt k e n g cap:Nat) (us:Nat→Value):Act:={tmps:=#[.string s,.bool scr,undef,undef,.slice none 0 0,.int .i64 0,.slice (some ⟨g,0,none⟩) n cap,.pointer (some ⟨gt,0,none⟩),.int .i64 k,.int .i64 e,us 10,us 11,us 12,us 13,us 14,us 15,us 16,us 17,us 18,us 19,us 20,us 21,us 22,us 23,us 24,us 25,us 26,us 27,us 28,us 29,us 30,us 31,us 32,us 33,us 34,us 35,us 36,us 37,us 38,us 39,us 40,us 41,us 42,us 43,us 44,us 45,us 46,us 47,us 48,us 49,us 50,us 51,us 52,us 53,us 54,us 55,us 56,us 57,us 58,us 59,us 60,us 61,us 62,us 63,us 64,us 65,us 66,us 67,us 68,us 69,us 70,us 71,us 72,us 73,us 74,us 75,us 76,us 77,us 78,us 79,us 80,us 81,us 82,us 83,us 84,us 85,us 86,us 87,us 88,us 89,us 90,us 91,us 92,us 93,us 94,us 95,us 96,us 97,us 98,us 99,us 100,us 101],defers:=[]}
theorem zcp {a:Act} {s:ByteArray} {w:Bool} {z k e n g j:Nat} (h:a=zds s w z k e n g j (fun i=>a.tmps.getD i undef)): ∃A,a=zds s w z k e n g j A:=⟨_,h⟩
def zui (s:ByteArray) (scr:Bool) (w:World) (l:Nat) (a:Act) (wr:World):Prop:=
 ∃(k e n g cap:Nat) (kd:Int) (tx:ByteArray) (nm ps:Int) (ts:List Tk),(∃us,a=zds s scr (w.heap.size+1) k e n g cap us)
  ∧k≤s.size∧n≤4000∧g≠w.heap.size+1∧OwnT wr w.heap.size 143 g n cap ts∧TC wr (w.heap.size+1) kd tx nm ps∧Below w.heap.size w wr∧zuh s scr k e n ts kd tx nm ps l
def zcq:Nat→Nat
 |0=>2
 |5=>0
 |_=>1
def zcr (s:ByteArray) (l:Nat) (a:Act) (_:World):Nat:=3*((s.size:Int)-intOf (a.tmps.getD 8 undef)).toNat+zcq l
def zuj (s:ByteArray) (scr:Bool) (w:World) (e:Ending) (w':World):Prop:=
 ∃r,zak s scr r∧match r with
  | .ok ts=>∃g n cap,e= .returned (.tuple #[.slice (some ⟨g,0,none⟩) n cap,.int .i64 (-1)])∧OwnT w' w.heap.size 143 g n cap ts
  | .error p=>e= .returned (.tuple #[.slice none 0 0,.int .i64 p])
theorem zuk (s:ByteArray) (h:Bool) (w:World) (hs:s.size≤4294967296):
  Calls Tryz.prog 118 #[.string s,.bool h] w fun e w'=>zuj s h w e w'∧Below w.heap.size w w':=by
 obtain⟨i0,hi,aL,aW,aR⟩:=info_parts Tryz.infoTok
 have hb:=get_bt s
 go_enter Tryz.func118,Tryz.ntmps118
 go_wp2
 refine zuf (zui s h w) (zcr s) ?_ ?_
 ·intro l a' wr hJ IH
  obtain⟨k,e,n,g,Y,kd,tx,nm,ps,ts,⟨us,rfl⟩,hk,hn,hg,O,aa,H,ab⟩:=hJ
  have al:=H.size
  have U:=bt_nonneg s k
  have V:=bt_le s k
  obtain rfl|rfl|rfl|rfl|rfl|rfl|aT:l=0∨l=1∨l=2∨l=3∨l=4∨l=5∨6≤l:=by omega
  ·have ap:Hid (∀b,Skip s k b→∀r,Lx s h b n r→zak s h (r.map (ts++ ·))):=ab
   clear ab IH
   refine⟨_,rfl,?_⟩
   unfold zds
   by_cases an:k=s.size
   ·have HE:Hid (zak s h (.ok ts)):=ziG (ap.out s.size (by rw[an];exact .done)) rfl
    have q:((k:Int)==(s.size:Int))=true:=beq_iff_eq.2 (by omega)
    clear an
    go_wp2
    simp only[Leaves]
    go_ret2
    exact⟨⟨_,HE.out,g,n,Y,rfl,O⟩,H⟩
   ·have j:k<s.size:=by omega
    have q:((k:Int)==(s.size:Int))=false:=beq_eq_false_iff_ne.2 (by omega)
    clear an
    cases aE:zf7 (bt s k) with
    |true=>
     have HX:Hid (∀b,Skip s (k+1) b→∀r,Lx s h b n r→zak s h (r.map (ts++ ·))):=fun b hb=>ap.out b (.blank j (of_decide_eq_true aE) hb)
     go_wp2_with fail
     refine (zem _ _ U V).mono ?_
     rintro ev Z ⟨rfl,rfl⟩
     obtain⟨k1,aV⟩: ∃k1:Nat,(k:Int)+1=k1:=⟨k+1,by omega⟩
     go_wp2
     go_step3
     obtain rfl:k1=k+1:=by omega
     refine⟨⟨k+1,e,n,g,Y,_,_,_,_,ts,zcp (rfl),by omega,hn,hg,O,aa,H,HX.out⟩,by simp only[zcr,zcq];simp[intOf]<;>omega⟩
    |false=>
     have aj:Hid (Lib.hasPrefix (s.extract k s.size).data.toList [47,47]=zgE s k):=ztK s k
     cases ac:zgE s k with
     |true=>
      go_wp2_with fail
      refine (zem _ _ U V).mono ?_
      rintro ev Z ⟨rfl,rfl⟩
      go_wp2_with fail
      refine (Tryz.strings_HasPrefix _ _ _).mono ?_
      rintro ev Z ⟨rfl,rfl⟩
      rw[aj.out]
      rw[ac]
      go_wp2_with fail
      refine (zub _ _ _ hk hs).mono ?_
      rintro ev Z ⟨c,rfl,hc,rfl⟩
      have HX:Hid (∀b,Skip s c b→∀r,Lx s h b n r→zak s h (r.map (ts++ ·))):=fun b hb=>ap.out b (.comment j (of_decide_eq_true ac) hc hb)
      have ao:=ztI j (of_decide_eq_true ac) hc
      have ai:=hc.2.1
      clear hc
      go_wp2
      go_step3
      refine⟨⟨c,e,n,g,Y,_,_,_,_,ts,zcp (rfl),ai,hn,hg,O,aa,H,HX.out⟩,by simp only[zcr,zcq];simp[intOf]<;>omega⟩
     |false=>
      have M:Hid (∀r,Lx s h k n r→zak s h (r.map (ts++ ·))):=ap.out k (.stop j (of_decide_eq_false aE) (of_decide_eq_false ac))
      cases hd:zH (bt s k) with
      |true=>
       go_wp2_with fail
       refine (zem _ _ U V).mono ?_
       rintro ev Z ⟨rfl,rfl⟩
       go_wp2_with fail
       refine (Tryz.strings_HasPrefix _ _ _).mono ?_
       rintro ev Z ⟨rfl,rfl⟩
       rw[aj.out]
       rw[ac]
       go_wp2_with fail
       refine (zbQ _ _ U V).mono ?_
       rintro ev Z ⟨rfl,rfl⟩
       go_wp2
       go_step3
       refine⟨⟨k,e,n,g,Y,_,_,_,_,ts,zcp (rfl),hk,hn,hg,O,aa,H,⟨j,M.out,hd⟩⟩,by simp only[zcr,zcq];simp[intOf]<;>omega⟩
      |false=>
       cases hw:zK h (bt s k) with
       |true=>
        have HL:Hid (za3 (bt s k) h=true):=by show _=_;simp[zK,hd] at hw;exact hw
        go_wp2_with fail
        refine (zem _ _ U V).mono ?_
        rintro ev Z ⟨rfl,rfl⟩
        go_wp2_with fail
        refine (Tryz.strings_HasPrefix _ _ _).mono ?_
        rintro ev Z ⟨rfl,rfl⟩
        rw[aj.out]
        rw[ac]
        go_wp2_with fail
        refine (zbQ _ _ U V).mono ?_
        rintro ev Z ⟨rfl,rfl⟩
        go_wp2_with fail
        refine (zeJ _ _ _ U V).mono ?_
        rintro ev Z ⟨rfl,rfl⟩
        go_wp2
        go_step3
        refine⟨⟨k,e,n,g,Y,_,_,_,_,ts,zcp (rfl),hk,hn,hg,O,aa,H,⟨j,M.out,HL.out⟩⟩,by simp only[zcr,zcq];simp[intOf]<;>omega⟩
       |false=>
        by_cases af:bt s k=34
        ·have aU:Hid (bt s k=34):=af
         have aP:(bt s k==34)=true:=beq_iff_eq.2 af
         clear af
         go_wp2_with fail
         refine (zem _ _ U V).mono ?_
         rintro ev Z ⟨rfl,rfl⟩
         go_wp2_with fail
         refine (Tryz.strings_HasPrefix _ _ _).mono ?_
         rintro ev Z ⟨rfl,rfl⟩
         rw[aj.out]
         rw[ac]
         go_wp2_with fail
         refine (zbQ _ _ U V).mono ?_
         rintro ev Z ⟨rfl,rfl⟩
         go_wp2_with fail
         refine (zeJ _ _ _ U V).mono ?_
         rintro ev Z ⟨rfl,rfl⟩
         go_wp2
         go_step3
         refine⟨⟨k,e,n,g,Y,_,_,_,_,ts,zcp (rfl),hk,hn,hg,O,aa,H,⟨j,M.out,aU.out⟩⟩,by simp only[zcr,zcq];simp[intOf]<;>omega⟩
        ·have aP:(bt s k==34)=false:=beq_eq_false_iff_ne.2 af
         cases aD:zf8 (bt s k) with
         |true=>
          clear af
          go_wp2_with fail
          refine (zem _ _ U V).mono ?_
          rintro ev Z ⟨rfl,rfl⟩
          go_wp2_with fail
          refine (Tryz.strings_HasPrefix _ _ _).mono ?_
          rintro ev Z ⟨rfl,rfl⟩
          rw[aj.out]
          rw[ac]
          go_wp2_with fail
          refine (zbQ _ _ U V).mono ?_
          rintro ev Z ⟨rfl,rfl⟩
          go_wp2_with fail
          refine (zeJ _ _ _ U V).mono ?_
          rintro ev Z ⟨rfl,rfl⟩
          go_wp2_with fail
          refine (zly _ _ U V).mono ?_
          rintro ev Z ⟨rfl,rfl⟩
          go_wp2
          go_step3
          refine⟨⟨k,e,n,g,Y,_,_,_,_,ts,zcp (rfl),hk,hn,hg,O,aa,H,⟨j,M.out,of_decide_eq_true aD⟩⟩,by simp only[zcr,zcq];simp[intOf]<;>omega⟩
         |false=>
          have HE:Hid (zak s h (.error k)):=zfa M.out j (.inr (ziF (by simp[zK,hd] at hw;exact hw) hd af (of_decide_eq_false aD)))
          clear af
          go_wp2_with fail
          refine (zem _ _ U V).mono ?_
          rintro ev Z ⟨rfl,rfl⟩
          go_wp2_with fail
          refine (Tryz.strings_HasPrefix _ _ _).mono ?_
          rintro ev Z ⟨rfl,rfl⟩
          rw[aj.out]
          rw[ac]
          go_wp2_with fail
          refine (zbQ _ _ U V).mono ?_
          rintro ev Z ⟨rfl,rfl⟩
          go_wp2_with fail
          refine (zeJ _ _ _ U V).mono ?_
          rintro ev Z ⟨rfl,rfl⟩
          go_wp2_with fail
          refine (zly _ _ U V).mono ?_
          rintro ev Z ⟨rfl,rfl⟩
          go_wp2
          simp only[Leaves]
          go_ret2
          exact⟨⟨_,HE.out,rfl⟩,H⟩
  ·obtain⟨j,X,A⟩:=ab
   have M:Hid (∀r,Lx s h k n r→zak s h (r.map (ts++ ·))):=X
   have HW:Hid (zH (bt s k)=true):=A
   clear X A
   clear IH
   refine⟨_,rfl,?_⟩
   unfold zds
   go_wp2_with fail
   refine (zuc _ _ h _ j HW.out hs).mono ?_
   rintro ev Z ⟨v,z,rfl,am,I⟩
   have J:=aa.later I
   obtain⟨aw,ao,ai,av,ax,ay,au,aq⟩:=J.cells
   have N:=H.trans (I.mono al)
   have L:=zcu O I
   rcases am with ⟨⟨ak,ah,ag,ad⟩,m,rfl,rfl,ht⟩|⟨rfl,⟨c1,c2,c3,c4,rfl⟩,ae⟩
   ·have HT:Hid (Tok s h k ⟨ak,ah,ag,ad⟩ m):=ht
    clear ht
    simp only[tkV]
    go_wp2
    go_step3
    refine⟨⟨k,m,n,g,Y,_,_,_,_,ts,zcp (rfl),hk,hn,hg,zeN L hg _ _ _ _,J.put,zeO N (Nat.le_succ _) _ _ _ _,⟨j,M.out,.inl ⟨⟨ak,ah,ag,ad⟩,rfl,rfl,rfl,rfl,HT.out⟩⟩⟩,by simp only[zcr,zcq];simp[intOf]<;>omega⟩
   ·have aB:Hid (∀t m,¬Tok s h k t m):=ae
    clear ae
    go_wp2
    go_step3
    refine⟨⟨k,k,n,g,Y,_,_,_,_,ts,zcp (rfl),hk,hn,hg,zeN L hg _ _ _ _,J.put,zeO N (Nat.le_succ _) _ _ _ _,⟨j,M.out,.inr ⟨rfl,aB.out⟩⟩⟩,by simp only[zcr,zcq];simp[intOf]<;>omega⟩
  ·obtain⟨j,X,A⟩:=ab
   have M:Hid (∀r,Lx s h k n r→zak s h (r.map (ts++ ·))):=X
   have HW:Hid (za3 (bt s k) h=true):=A
   clear X A
   clear IH
   refine⟨_,rfl,?_⟩
   unfold zds
   go_wp2_with fail
   refine (zlz _ _ _ _ hk hs).mono ?_
   rintro ev w0 ⟨m,rfl,hr,rfl⟩
   have HT:Hid (Tok s h k ⟨1,s.extract k m,0,k⟩ m):=.name HW.out hr
   have aX:=hr.1
   have aC:=hr.2.1
   clear hr
   go_wp2_with fail
   refine (zhW _ _ (by rw[zeM _ _ _ aC];omega)).mono ?_
   rintro ev Z ⟨rfl,I⟩
   have J:=aa.later I
   obtain⟨aw,ao,ai,av,ax,ay,au,aq⟩:=J.cells
   have N:=H.trans (I.mono al)
   have L:=zcu O I
   go_wp2
   go_step3
   refine⟨⟨k,m,n,g,Y,_,_,_,_,ts,zcp (rfl),hk,hn,hg,zeN L hg _ _ _ _,J.put,zeO N (Nat.le_succ _) _ _ _ _,⟨j,M.out,.inl ⟨⟨1,s.extract k m,0,k⟩,rfl,rfl,rfl,rfl,HT.out⟩⟩⟩,by simp only[zcr,zcq];simp[intOf]<;>omega⟩
  ·obtain⟨j,X,A⟩:=ab
   have M:Hid (∀r,Lx s h k n r→zak s h (r.map (ts++ ·))):=X
   have HW:Hid (bt s k=34):=A
   clear X A
   clear IH
   refine⟨_,rfl,?_⟩
   unfold zds
   go_wp2_with fail
   refine (zue _ _ h _ j HW.out hs).mono ?_
   rintro ev Z ⟨v,z,rfl,am,I⟩
   have J:=aa.later I
   obtain⟨aw,ao,ai,av,ax,ay,au,aq⟩:=J.cells
   have N:=H.trans (I.mono al)
   have L:=zcu O I
   rcases am with ⟨⟨ak,ah,ag,ad⟩,m,rfl,rfl,ht⟩|⟨rfl,⟨c1,c2,c3,c4,rfl⟩,ae⟩
   ·have HT:Hid (Tok s h k ⟨ak,ah,ag,ad⟩ m):=ht
    clear ht
    simp only[tkV]
    go_wp2
    go_step3
    refine⟨⟨k,m,n,g,Y,_,_,_,_,ts,zcp (rfl),hk,hn,hg,zeN L hg _ _ _ _,J.put,zeO N (Nat.le_succ _) _ _ _ _,⟨j,M.out,.inl ⟨⟨ak,ah,ag,ad⟩,rfl,rfl,rfl,rfl,HT.out⟩⟩⟩,by simp only[zcr,zcq];simp[intOf]<;>omega⟩
   ·have aB:Hid (∀t m,¬Tok s h k t m):=ae
    clear ae
    go_wp2
    go_step3
    refine⟨⟨k,k,n,g,Y,_,_,_,_,ts,zcp (rfl),hk,hn,hg,zeN L hg _ _ _ _,J.put,zeO N (Nat.le_succ _) _ _ _ _,⟨j,M.out,.inr ⟨rfl,aB.out⟩⟩⟩,by simp only[zcr,zcq];simp[intOf]<;>omega⟩
  ·obtain⟨j,X,A⟩:=ab
   have M:Hid (∀r,Lx s h k n r→zak s h (r.map (ts++ ·))):=X
   have HW:Hid (zbk (bt s k)):=A
   clear X A
   have aK:Hid _:=IH
   clear IH
   refine⟨_,rfl,?_⟩
   unfold zds
   obtain⟨k1,aG⟩: ∃k1:Nat,k1=k+1:=⟨_,rfl⟩
   have aV:(k:Int)+1=k1:=by omega
   have aJ:Hid (k1=k+1):=aG
   have aY:k≤k1:=by omega
   have aI:k1≤s.size:=by omega
   clear aG
   go_wp2_with fail
   refine (zhW _ _ (by rw[zeM _ _ _ aI];omega)).mono ?_
   rintro ev Z ⟨rfl,I⟩
   have J:=aa.later I
   obtain⟨aw,ao,ai,av,ax,ay,au,aq⟩:=J.cells
   have N:=H.trans (I.mono al)
   have L:=zcu O I
   go_wp2
   go_step3
   rename_i K hK
   refine hK _ _ (aK.out 5 _ _ _ rfl ?_ ?_)
   ·exact⟨k,k1,n,g,Y,_,_,_,_,ts,zcp rfl,hk,hn,hg,zeN L hg _ _ _ _,J.put,zeO N (Nat.le_succ _) _ _ _ _,⟨j,M.out,.inl ⟨⟨4,s.extract k k1,0,k⟩,rfl,rfl,rfl,rfl,by rw[aJ.out];exact .sign HW.out⟩⟩⟩
   ·simp only[zcr,zcq,zds];simp[intOf]
  ·obtain⟨j,X,A⟩:=ab
   have M:Hid (∀r,Lx s h k n r→zak s h (r.map (ts++ ·))):=X
   clear X IH
   obtain⟨aw,ao,ai,av,ax,ay,au,aq⟩:=aa.cells
   have aQ:=aa.lt
   refine⟨_,rfl,?_⟩
   unfold zds
   rcases A with ⟨⟨ak,ah,ag,ad⟩,rfl,rfl,rfl,rfl,ht⟩|⟨rfl,ae⟩
   ·have aX:=(zep j ht).1
    have aC:=(zep j ht).2.1
    have HT:Hid (Tok s h k ⟨kd,tx,nm,ad⟩ e):=ht
    clear ht
    have q1:((e:Int)==(k:Int))=false:=beq_eq_false_iff_ne.2 (by omega)
    by_cases aF:n=4000
    ·have HE:Hid (zak s h (.error k)):=zfa M.out j (.inl (by omega))
     have q2:((n:Int)==4000)=true:=beq_iff_eq.2 (by omega)
     clear aF
     go_wp2
     simp only[Leaves]
     go_ret2
     exact⟨⟨_,HE.out,rfl⟩,H⟩
    ·have HX:Hid (∀b,Skip s e b→∀r,Lx s h b (n+1) r→zak s h (r.map ((ts++[⟨kd,tx,nm,ad⟩])++ ·))):=fun b hb=>ziH M.out j (by omega) HT.out hb
     have q2:((n:Int)==4000)=false:=beq_eq_false_iff_ne.2 (by omega)
     have aO:n+1≤4000:=by omega
     clear aF
     go_wp2_with (first|(at_builtin;refine zug wr rfl _ _ 118 rfl w.heap.size 143 i0 _ Tryz.underlying118 hi aL aW aR rfl g n Y ts (by rfl) O ⟨kd,tx,nm,ad⟩ wr.heap.size rfl (by rfl) (by omega) al ?_))
     intro g2 aH w2 az aN aZ ar
     have aM:g2≠w.heap.size+1:=by omega
     go_wp2
     go_step3
     refine⟨⟨e,e,n+1,g2,aH,_,_,_,_,_,zcp (rfl),aC,aO,aM,az,((ar _ aQ (Ne.symm hg)).trans aa),H.trans aN,HX.out⟩,by simp only[zcr,zcq];simp[intOf]<;>omega⟩
   ·have HE:Hid (zak s h (.error e)):=zfa M.out j (.inr ae)
    have q1:((e:Int)==(e:Int))=true:=beq_iff_eq.2 rfl
    clear ae
    go_wp2
    simp only[Leaves]
    go_ret2
    exact⟨⟨_,HE.out,rfl⟩,H⟩
  ·match l,aT,ab with
   |l+6,_,ab=>exact ab.elim
 ·intro aA
  go_wp2
  go_step3
  rename_i K hK
  refine hK _ _ (aA 0 _ _ _ rfl ?_)
  have aS:=((Below.refl w.heap.size w).alloc (Nat.le_refl _) (.cells #[] 143)).alloc (by rw[zn];omega) (.cells #[.int .i64 0,.string {data:=#[]},.int .i64 0,.int .i64 0] 143)
  have hT:TC ((w.alloc (.cells #[] 143)).alloc (.cells #[.int .i64 0,.string {data:=#[]},.int .i64 0,.int .i64 0] 143)) (w.heap.size+1) 0 {data:=#[]} 0 0:=by
   have:=heap_alloc_new (w.alloc (.cells #[] 143)) (.cells #[.int .i64 0,.string {data:=#[]},.int .i64 0,.int .i64 0] 143)
   rw[zn] at this
   exact this
  exact⟨0,0,0,w.heap.size,0,_,_,_,_,[],zcp rfl,Nat.zero_le _,by omega,by omega,zcu (zgX w _ _ (Nat.le_refl _)) ((Below.refl _ _).alloc (Nat.le_refl _) _),hT,aS,fun b hb r hr=>⟨b,hb,by cases r<;>simpa [Except.map] using hr⟩⟩
end Go.Proofs.YtjdddblpfbmpaaaGreat