/-
 What impl.Lex answers: the walk.
-/
import Derived.Test.YthfeoomfiafldaaGreatCdImplLexB
import Derived.Test.YthfeoomfiafldaaGreatCdSpecLexAll
import Derived.Test.YthfeoomfiafldaaGreatCdLabels
import Derived.Maps.AppendAt
namespace Go.Proofs.YthfeoomfiafldaaGreat
set_option maxRecDepth 1000000
set_option maxHeartbeats 12800000
open Go.RowKit Go.PlainAid
def TC (w:World) (g:Nat) (k:Int) (x:ByteArray) (y u:Int):Prop:=w.heap[g]? =some (.cells #[.int .i64 k,.string x,.int .i64 y,.int .i64 u] 40 (0,0))
theorem TC.cells {w:World} {g:Nat} {k y u:Int} {x:ByteArray} (h:TC w g k x y u):
  w.cell? ⟨g,0,none⟩=some (.int .i64 k)∧w.cell? ⟨g,1,none⟩=some (.string x)∧w.cell? ⟨g,2,none⟩=some (.int .i64 y)∧w.cell? ⟨g,3,none⟩=some (.int .i64 u)
  ∧w.frozen? ⟨g,0,none⟩=false∧w.frozen? ⟨g,1,none⟩=false∧w.frozen? ⟨g,2,none⟩=false∧w.frozen? ⟨g,3,none⟩=false:=by
 unfold TC at h
 simp[World.cell?,World.frozen?,h]
theorem TC.lt {w:World} {g:Nat} {k y u:Int} {x:ByteArray} (h:TC w g k x y u):g<w.heap.size:=(Array.getElem?_eq_some_iff.1 h).1
theorem TC.later {w j:World} {g:Nat} {k y u:Int} {x:ByteArray} (h:TC w g k x y u) (o:Below w.heap.size w j):TC j g k x y u:=(o.block g h.lt).trans h
theorem TC.put {w:World} {g:Nat} {k y u o D j:Int} {x z:ByteArray} (h:TC w g k x y u):
  TC ((((w.setCell ⟨g,0,none⟩ (.int .i64 o)).setCell ⟨g,1,none⟩ (.string z)).setCell ⟨g,2,none⟩ (.int .i64 D)).setCell ⟨g,3,none⟩ (.int .i64 j)) g o z D j:=zmx h
theorem zho {w:World} {j g n o J:Nat} {e:TypeId} {H:List Tk} (h:OwnT w j e g n o H) (D:g≠J) (i:Nat) (v:Value):OwnT (w.setCell ⟨J,i,none⟩ v) j e g n o H:=by
 refine⟨⟨h.1.1,?_⟩,h.2⟩
 rcases h.1.2 with k|⟨N,K,E,I,z,M,L⟩
 ·exact .inl k
 ·simp only[Value.slice.injEq,Option.some.injEq,Addr.mk.injEq,and_true,true_and] at I
  obtain⟨rfl,rfl⟩:=I
  exact .inr ⟨g,o,E,rfl,z,(Below.heap_setCell _ _ _ _ D).trans M,L⟩
theorem zfw {w:World} {o g n z D:Nat} {e:TypeId} {E:List Tk} (h:OwnT w o e g n z E) (j:g≠D) (K I H J:Value):OwnT ((((w.setCell ⟨D,0,none⟩ K).setCell ⟨D,1,none⟩ I).setCell ⟨D,2,none⟩ H).setCell ⟨D,3,none⟩ J) o e g n z E:=
 zho (zho (zho (zho h j _ _) j _ _) j _ _) j _ _
theorem zfx {w W:World} {B j:Nat} (h:Below B w W) (o:B≤j) (H D z E:Value):Below B w ((((W.setCell ⟨j,0,none⟩ H).setCell ⟨j,1,none⟩ D).setCell ⟨j,2,none⟩ z).setCell ⟨j,3,none⟩ E):=
 (((h.setCell o _).setCell o _).setCell o _).setCell o _
theorem zuh {P:Program} (w:World) {N:Array Oper} {rest:List Oper} {o:Oper} {a:Act} {Q:Exit→Act→World→Prop} (V:o.guard=none) (s x:Operand) (t:TypeId)
  (ho:o.op= .call {callee:=.builtin .append,args:=#[s,x],argTypes:=#[t,t]})
  (D:Nat) (e:TypeId) (i:TypeInfo) (z:Value) (ht:P.underlying t=some (.slice e)) (hi:P.info? e=some i) (hz:i.zero=some z) (J:i.size=4) (X:i.bytes=40) (U:z.cells.size=4)
  (g n O:Nat) (ts:List Tk) (hs:a.eval s= .slice (some ⟨g,0,none⟩) n O) (I:OwnT w D e g n O ts)
  (b:Tk) (gx:Nat) (aa:gx=w.heap.size) (hx:a.eval x= .slice (some ⟨gx,0,none⟩) 1 1) (hn:n+1≤1000000) (M:D≤w.heap.size)
  (h: ∀K H L,OwnT L D e K (n+1) H (ts++[b])→Below D w L→(K=g∨w.heap.size≤K)→(∀k,k<w.heap.size→k≠g→L.heap[k]? =w.heap[k]?)→wpList P N Q rest (a.put o.dst (.slice (some ⟨K,0,none⟩) (n+1) H)) L):
  wpList P N Q (o::rest) a (w.alloc (.cells #[.int .i64 b.kind,.string b.text,.int .i64 b.num,.int .i64 b.pos] e)):=by
 subst aa
 refine wpList_append_own_at _ V s x t ho D e i z 4 40 ht hi hz J X U (by decide) _ n _ hs (I.1.alloc _) ⟨w.heap.size,0,none⟩ 1 1 (tkL b) hx rfl ?_ ?_ ?_ ?_ ?_ ?_
 ·intro j u E
  match j,E with
  |0,E=>simp[tkL] at E;subst E;simp[Addr.add]
  |1,E=>simp[tkL] at E;subst E;simp[Addr.add]
  |2,E=>simp[tkL] at E;subst E;simp[Addr.add]
  |3,E=>simp[tkL] at E;subst E;simp[Addr.add]
  |j+4,E=>simp[tkL] at E
 ·intro u hu
  simp[tkL] at hu
  rcases hu with rfl|rfl|rfl|rfl<;>rfl
 ·unfold maxLen;omega
 ·omega
 ·simp;omega
 ·intro v' L h1 h2 h3 h4
  have hb:Below D w L:=((Below.refl D w).alloc M _).grown h2 (by simp;omega) (zgp I.1)
  rcases h1.2 with ⟨hv,_⟩|⟨K,H,ab,rfl,Y⟩
  ·have:=(h3.1 hv).1
   simp at this
  ·refine h K H L ⟨?_,by rw[List.length_append];have:=I.2;simp;omega⟩ hb ?_ ?_
   ·rw[List.flatMap_append]
    simpa using h1
   ·rcases h4 with q|q
    ·left
     simpa [Value.ownBlock] using q
    ·right
     have:K=w.heap.size+1:=by simpa [Value.ownBlock] using q
     omega
   ·intro k hk Z
    rw[h2.block k (by simp;omega) (by simpa [Value.ownBlock] using Z),Below.heap_alloc _ _ _ hk]
def zui (s:ByteArray) (scr:Bool) (k e n:Nat) (ts:List Tk) (kd:Int) (tx:ByteArray) (nm ps:Int):Nat→Prop
 |0=>∀b,Skip s k b→∀r,Lx s scr b n r→zY s scr (r.map (ts++ ·))
 |1=>k<s.size∧(∀r,Lx s scr k n r→zY s scr (r.map (ts++ ·)))∧zG (bt s k)=true
 |2=>k<s.size∧(∀r,Lx s scr k n r→zY s scr (r.map (ts++ ·)))∧zam (bt s k) scr=true
 |3=>k<s.size∧(∀r,Lx s scr k n r→zY s scr (r.map (ts++ ·)))∧bt s k=34
 |4=>k<s.size∧(∀r,Lx s scr k n r→zY s scr (r.map (ts++ ·)))∧zaM (bt s k)
 |5=>k<s.size∧(∀r,Lx s scr k n r→zY s scr (r.map (ts++ ·)))∧((∃t:Tk,kd=t.kind∧tx=t.text∧nm=t.num∧ps=t.pos∧Tok s scr k t e)∨(e=k∧∀t m,¬Tok s scr k t m))
 |_=>False
def zdo (s:ByteArray) (scr:Bool) (gt k e n g cap:Nat) (us:Nat→Value):Act:={tmps:=#[.string s,.bool scr,undef,undef,.slice none 0 0,.int .i64 0,.slice (some ⟨g,0,none⟩) n cap,.pointer (some ⟨gt,0,none⟩),.int .i64 k,.int .i64 e,us 10,us 11,us 12,us 13,us 14,us 15,us 16,us 17,us 18,us 19,us 20,us 21,us 22,us 23,us 24,us 25,us 26,us 27,us 28,us 29,us 30,us 31,us 32,us 33,us 34,us 35,us 36,us 37,us 38,us 39,us 40,us 41,us 42,us 43,us 44,us 45,us 46,us 47,us 48,us 49,us 50,us 51,us 52,us 53,us 54,us 55,us 56,us 57,us 58,us 59,us 60,us 61,us 62,us 63,us 64,us 65,us 66,us 67,us 68,us 69,us 70,us 71,us 72,us 73,us 74,us 75,us 76,us 77,us 78,us 79,us 80,us 81,us 82,us 83,us 84,us 85,us 86,us 87,us 88,us 89,us 90,us 91,us 92,us 93,us 94,us 95,us 96,us 97,us 98,us 99,us 100,us 101],defers:=[]}
theorem zcs {a:Act} {s:ByteArray} {scr:Bool} {o k e n g j:Nat} (h:a=zdo s scr o k e n g j (fun i=>a.tmps.getD i undef)): ∃z,a=zdo s scr o k e n g j z:=⟨_,h⟩
def zuj (s:ByteArray) (scr:Bool) (w:World) (l:Nat) (a:Act) (wr:World):Prop:=
 ∃(k e n g cap:Nat) (kd:Int) (tx:ByteArray) (nm ps:Int) (ts:List Tk),(∃us,a=zdo s scr (w.heap.size+1) k e n g cap us)
  ∧k≤s.size∧n≤4000∧g≠w.heap.size+1∧OwnT wr w.heap.size 40 g n cap ts∧TC wr (w.heap.size+1) kd tx nm ps∧Below w.heap.size w wr∧zui s scr k e n ts kd tx nm ps l
def zct:Nat→Nat
 |0=>2
 |5=>0
 |_=>1
def zcu (s:ByteArray) (l:Nat) (a:Act) (_:World):Nat:=3*((s.size:Int)-intOf (a.tmps.getD 8 undef)).toNat+zct l
def zuk (s:ByteArray) (scr:Bool) (w:World) (e:Ending) (w':World):Prop:=
 ∃r,zY s scr r∧match r with
  | .ok ts=>∃g n cap,e= .returned (.tuple #[.slice (some ⟨g,0,none⟩) n cap,.int .i64 (-1)])∧OwnT w' w.heap.size 40 g n cap ts
  | .error p=>e= .returned (.tuple #[.slice none 0 0,.int .i64 p])
theorem zul (s:ByteArray) (scr:Bool) (w:World) (hs:s.size≤4294967296):
  Calls Tryz.prog 18 #[.string s,.bool scr] w fun e w'=>zuk s scr w e w'∧Below w.heap.size w w':=by
 obtain⟨i0,hi,aV,aM,aQ⟩:=info_parts Tryz.infoTok
 have hb:=get_bt s
 go_enter Tryz.func18,Tryz.ntmps18
 go_wp2
 refine zug (zuj s scr w) (zcu s) ?_ ?_
 ·intro l a' wr hJ IH
  obtain⟨k,e,n,g,U,kd,tx,nm,ps,Y,⟨us,rfl⟩,hk,hn,hg,M,X,D,Z⟩:=hJ
  have ak:=D.size
  have N:=bt_nonneg s k
  have O:=bt_le s k
  obtain rfl|rfl|rfl|rfl|rfl|rfl|aS:l=0∨l=1∨l=2∨l=3∨l=4∨l=5∨6≤l:=by omega
  ·have au:Hid (∀b,Skip s k b→∀r,Lx s scr b n r→zY s scr (r.map (Y++ ·))):=Z
   clear Z IH
   refine⟨_,rfl,?_⟩
   unfold zdo
   by_cases al:k=s.size
   ·have HE:Hid (zY s scr (.ok Y)):=zjK (au.out s.size (by rw[al];exact .done)) rfl
    have q:((k:Int)==(s.size:Int))=true:=beq_iff_eq.2 (by omega)
    clear al
    go_wp2
    simp only[Leaves]
    go_ret2
    exact⟨⟨_,HE.out,g,n,U,rfl,M⟩,D⟩
   ·have j:k<s.size:=by omega
    have q:((k:Int)==(s.size:Int))=false:=beq_eq_false_iff_ne.2 (by omega)
    clear al
    cases aD:zgg (bt s k) with
    |true=>
     have HX:Hid (∀b,Skip s (k+1) b→∀r,Lx s scr b n r→zY s scr (r.map (Y++ ·))):=fun b hb=>au.out b (.blank j (of_decide_eq_true aD) hb)
     go_wp2_with fail
     refine (zeC _ _ N O).mono ?_
     rintro ev V ⟨rfl,rfl⟩
     obtain⟨k1,aR⟩: ∃k1:Nat,(k:Int)+1=k1:=⟨k+1,by omega⟩
     go_wp2
     go_step3
     obtain rfl:k1=k+1:=by omega
     refine⟨⟨k+1,e,n,g,U,_,_,_,_,Y,zcs (rfl),by omega,hn,hg,M,X,D,HX.out⟩,by simp only[zcu,zct];simp[intOf]<;>omega⟩
    |false=>
     have ai:Hid (Lib.hasPrefix (s.extract k s.size).data.toList [47,47]=zhm s k):=ztL s k
     cases ab:zhm s k with
     |true=>
      go_wp2_with fail
      refine (zeC _ _ N O).mono ?_
      rintro ev V ⟨rfl,rfl⟩
      go_wp2_with fail
      refine (Tryz.strings_HasPrefix _ _ _).mono ?_
      rintro ev V ⟨rfl,rfl⟩
      rw[ai.out]
      rw[ab]
      go_wp2_with fail
      refine (zuc _ _ _ hk hs).mono ?_
      rintro ev V ⟨c,rfl,hc,rfl⟩
      have HX:Hid (∀b,Skip s c b→∀r,Lx s scr b n r→zY s scr (r.map (Y++ ·))):=fun b hb=>au.out b (.comment j (of_decide_eq_true ab) hc hb)
      have am:=ztJ j (of_decide_eq_true ab) hc
      have ag:=hc.2.1
      clear hc
      go_wp2
      go_step3
      refine⟨⟨c,e,n,g,U,_,_,_,_,Y,zcs (rfl),ag,hn,hg,M,X,D,HX.out⟩,by simp only[zcu,zct];simp[intOf]<;>omega⟩
     |false=>
      have L:Hid (∀r,Lx s scr k n r→zY s scr (r.map (Y++ ·))):=au.out k (.stop j (of_decide_eq_false aD) (of_decide_eq_false ab))
      cases hd:zG (bt s k) with
      |true=>
       go_wp2_with fail
       refine (zeC _ _ N O).mono ?_
       rintro ev V ⟨rfl,rfl⟩
       go_wp2_with fail
       refine (Tryz.strings_HasPrefix _ _ _).mono ?_
       rintro ev V ⟨rfl,rfl⟩
       rw[ai.out]
       rw[ab]
       go_wp2_with fail
       refine (zbU _ _ N O).mono ?_
       rintro ev V ⟨rfl,rfl⟩
       go_wp2
       go_step3
       refine⟨⟨k,e,n,g,U,_,_,_,_,Y,zcs (rfl),hk,hn,hg,M,X,D,⟨j,L.out,hd⟩⟩,by simp only[zcu,zct];simp[intOf]<;>omega⟩
      |false=>
       cases hw:zB scr (bt s k) with
       |true=>
        have HL:Hid (zam (bt s k) scr=true):=by show _=_;simp[zB,hd] at hw;exact hw
        go_wp2_with fail
        refine (zeC _ _ N O).mono ?_
        rintro ev V ⟨rfl,rfl⟩
        go_wp2_with fail
        refine (Tryz.strings_HasPrefix _ _ _).mono ?_
        rintro ev V ⟨rfl,rfl⟩
        rw[ai.out]
        rw[ab]
        go_wp2_with fail
        refine (zbU _ _ N O).mono ?_
        rintro ev V ⟨rfl,rfl⟩
        go_wp2_with fail
        refine (zfs _ _ _ N O).mono ?_
        rintro ev V ⟨rfl,rfl⟩
        go_wp2
        go_step3
        refine⟨⟨k,e,n,g,U,_,_,_,_,Y,zcs (rfl),hk,hn,hg,M,X,D,⟨j,L.out,HL.out⟩⟩,by simp only[zcu,zct];simp[intOf]<;>omega⟩
       |false=>
        by_cases ad:bt s k=34
        ·have aT:Hid (bt s k=34):=ad
         have aL:(bt s k==34)=true:=beq_iff_eq.2 ad
         clear ad
         go_wp2_with fail
         refine (zeC _ _ N O).mono ?_
         rintro ev V ⟨rfl,rfl⟩
         go_wp2_with fail
         refine (Tryz.strings_HasPrefix _ _ _).mono ?_
         rintro ev V ⟨rfl,rfl⟩
         rw[ai.out]
         rw[ab]
         go_wp2_with fail
         refine (zbU _ _ N O).mono ?_
         rintro ev V ⟨rfl,rfl⟩
         go_wp2_with fail
         refine (zfs _ _ _ N O).mono ?_
         rintro ev V ⟨rfl,rfl⟩
         go_wp2
         go_step3
         refine⟨⟨k,e,n,g,U,_,_,_,_,Y,zcs (rfl),hk,hn,hg,M,X,D,⟨j,L.out,aT.out⟩⟩,by simp only[zcu,zct];simp[intOf]<;>omega⟩
        ·have aL:(bt s k==34)=false:=beq_eq_false_iff_ne.2 ad
         cases aF:zgh (bt s k) with
         |true=>
          clear ad
          go_wp2_with fail
          refine (zeC _ _ N O).mono ?_
          rintro ev V ⟨rfl,rfl⟩
          go_wp2_with fail
          refine (Tryz.strings_HasPrefix _ _ _).mono ?_
          rintro ev V ⟨rfl,rfl⟩
          rw[ai.out]
          rw[ab]
          go_wp2_with fail
          refine (zbU _ _ N O).mono ?_
          rintro ev V ⟨rfl,rfl⟩
          go_wp2_with fail
          refine (zfs _ _ _ N O).mono ?_
          rintro ev V ⟨rfl,rfl⟩
          go_wp2_with fail
          refine (zmt _ _ N O).mono ?_
          rintro ev V ⟨rfl,rfl⟩
          go_wp2
          go_step3
          refine⟨⟨k,e,n,g,U,_,_,_,_,Y,zcs (rfl),hk,hn,hg,M,X,D,⟨j,L.out,of_decide_eq_true aF⟩⟩,by simp only[zcu,zct];simp[intOf]<;>omega⟩
         |false=>
          have HE:Hid (zY s scr (.error k)):=zf9 L.out j (.inr (zjJ (by simp[zB,hd] at hw;exact hw) hd ad (of_decide_eq_false aF)))
          clear ad
          go_wp2_with fail
          refine (zeC _ _ N O).mono ?_
          rintro ev V ⟨rfl,rfl⟩
          go_wp2_with fail
          refine (Tryz.strings_HasPrefix _ _ _).mono ?_
          rintro ev V ⟨rfl,rfl⟩
          rw[ai.out]
          rw[ab]
          go_wp2_with fail
          refine (zbU _ _ N O).mono ?_
          rintro ev V ⟨rfl,rfl⟩
          go_wp2_with fail
          refine (zfs _ _ _ N O).mono ?_
          rintro ev V ⟨rfl,rfl⟩
          go_wp2_with fail
          refine (zmt _ _ N O).mono ?_
          rintro ev V ⟨rfl,rfl⟩
          go_wp2
          simp only[Leaves]
          go_ret2
          exact⟨⟨_,HE.out,rfl⟩,D⟩
  ·obtain⟨j,Q,o⟩:=Z
   have L:Hid (∀r,Lx s scr k n r→zY s scr (r.map (Y++ ·))):=Q
   have HW:Hid (zG (bt s k)=true):=o
   clear Q o
   clear IH
   refine⟨_,rfl,?_⟩
   unfold zdo
   go_wp2_with fail
   refine (zud _ _ scr _ j HW.out hs).mono ?_
   rintro ev V ⟨v,z,rfl,aj,E⟩
   have H:=X.later E
   obtain⟨ar,am,ag,ap,aq,av,ao,aw⟩:=H.cells
   have J:=D.trans (E.mono ak)
   have I:=zcn M E
   rcases aj with ⟨⟨af,ah,ae,aa⟩,m,rfl,rfl,ht⟩|⟨rfl,⟨c1,c2,c3,c4,rfl⟩,ac⟩
   ·have HT:Hid (Tok s scr k ⟨af,ah,ae,aa⟩ m):=ht
    clear ht
    simp only[tkV]
    go_wp2
    go_step3
    refine⟨⟨k,m,n,g,U,_,_,_,_,Y,zcs (rfl),hk,hn,hg,zfw I hg _ _ _ _,H.put,zfx J (Nat.le_succ _) _ _ _ _,⟨j,L.out,.inl ⟨⟨af,ah,ae,aa⟩,rfl,rfl,rfl,rfl,HT.out⟩⟩⟩,by simp only[zcu,zct];simp[intOf]<;>omega⟩
   ·have az:Hid (∀t m,¬Tok s scr k t m):=ac
    clear ac
    go_wp2
    go_step3
    refine⟨⟨k,k,n,g,U,_,_,_,_,Y,zcs (rfl),hk,hn,hg,zfw I hg _ _ _ _,H.put,zfx J (Nat.le_succ _) _ _ _ _,⟨j,L.out,.inr ⟨rfl,az.out⟩⟩⟩,by simp only[zcu,zct];simp[intOf]<;>omega⟩
  ·obtain⟨j,Q,o⟩:=Z
   have L:Hid (∀r,Lx s scr k n r→zY s scr (r.map (Y++ ·))):=Q
   have HW:Hid (zam (bt s k) scr=true):=o
   clear Q o
   clear IH
   refine⟨_,rfl,?_⟩
   unfold zdo
   go_wp2_with fail
   refine (zmu _ _ _ _ hk hs).mono ?_
   rintro ev w0 ⟨m,rfl,hr,rfl⟩
   have HT:Hid (Tok s scr k ⟨1,s.extract k m,0,k⟩ m):=.name HW.out hr
   have aH:=hr.1
   have ax:=hr.2.1
   clear hr
   go_wp2_with fail
   refine (zja _ _ (by rw[zfv _ _ _ ax];omega)).mono ?_
   rintro ev V ⟨rfl,E⟩
   have H:=X.later E
   obtain⟨ar,am,ag,ap,aq,av,ao,aw⟩:=H.cells
   have J:=D.trans (E.mono ak)
   have I:=zcn M E
   go_wp2
   go_step3
   refine⟨⟨k,m,n,g,U,_,_,_,_,Y,zcs (rfl),hk,hn,hg,zfw I hg _ _ _ _,H.put,zfx J (Nat.le_succ _) _ _ _ _,⟨j,L.out,.inl ⟨⟨1,s.extract k m,0,k⟩,rfl,rfl,rfl,rfl,HT.out⟩⟩⟩,by simp only[zcu,zct];simp[intOf]<;>omega⟩
  ·obtain⟨j,Q,o⟩:=Z
   have L:Hid (∀r,Lx s scr k n r→zY s scr (r.map (Y++ ·))):=Q
   have HW:Hid (bt s k=34):=o
   clear Q o
   clear IH
   refine⟨_,rfl,?_⟩
   unfold zdo
   go_wp2_with fail
   refine (zuf _ _ scr _ j HW.out hs).mono ?_
   rintro ev V ⟨v,z,rfl,aj,E⟩
   have H:=X.later E
   obtain⟨ar,am,ag,ap,aq,av,ao,aw⟩:=H.cells
   have J:=D.trans (E.mono ak)
   have I:=zcn M E
   rcases aj with ⟨⟨af,ah,ae,aa⟩,m,rfl,rfl,ht⟩|⟨rfl,⟨c1,c2,c3,c4,rfl⟩,ac⟩
   ·have HT:Hid (Tok s scr k ⟨af,ah,ae,aa⟩ m):=ht
    clear ht
    simp only[tkV]
    go_wp2
    go_step3
    refine⟨⟨k,m,n,g,U,_,_,_,_,Y,zcs (rfl),hk,hn,hg,zfw I hg _ _ _ _,H.put,zfx J (Nat.le_succ _) _ _ _ _,⟨j,L.out,.inl ⟨⟨af,ah,ae,aa⟩,rfl,rfl,rfl,rfl,HT.out⟩⟩⟩,by simp only[zcu,zct];simp[intOf]<;>omega⟩
   ·have az:Hid (∀t m,¬Tok s scr k t m):=ac
    clear ac
    go_wp2
    go_step3
    refine⟨⟨k,k,n,g,U,_,_,_,_,Y,zcs (rfl),hk,hn,hg,zfw I hg _ _ _ _,H.put,zfx J (Nat.le_succ _) _ _ _ _,⟨j,L.out,.inr ⟨rfl,az.out⟩⟩⟩,by simp only[zcu,zct];simp[intOf]<;>omega⟩
  ·obtain⟨j,Q,o⟩:=Z
   have L:Hid (∀r,Lx s scr k n r→zY s scr (r.map (Y++ ·))):=Q
   have HW:Hid (zaM (bt s k)):=o
   clear Q o
   have aU:Hid _:=IH
   clear IH
   refine⟨_,rfl,?_⟩
   unfold zdo
   obtain⟨k1,aE⟩: ∃k1:Nat,k1=k+1:=⟨_,rfl⟩
   have aR:(k:Int)+1=k1:=by omega
   have aJ:Hid (k1=k+1):=aE
   have aW:k≤k1:=by omega
   have aP:k1≤s.size:=by omega
   clear aE
   go_wp2_with fail
   refine (zja _ _ (by rw[zfv _ _ _ aP];omega)).mono ?_
   rintro ev V ⟨rfl,E⟩
   have H:=X.later E
   obtain⟨ar,am,ag,ap,aq,av,ao,aw⟩:=H.cells
   have J:=D.trans (E.mono ak)
   have I:=zcn M E
   go_wp2
   go_step3
   rename_i K hK
   refine hK _ _ (aU.out 5 _ _ _ rfl ?_ ?_)
   ·exact⟨k,k1,n,g,U,_,_,_,_,Y,zcs rfl,hk,hn,hg,zfw I hg _ _ _ _,H.put,zfx J (Nat.le_succ _) _ _ _ _,⟨j,L.out,.inl ⟨⟨4,s.extract k k1,0,k⟩,rfl,rfl,rfl,rfl,by rw[aJ.out];exact .sign HW.out⟩⟩⟩
   ·simp only[zcu,zct,zdo];simp[intOf]
  ·obtain⟨j,Q,o⟩:=Z
   have L:Hid (∀r,Lx s scr k n r→zY s scr (r.map (Y++ ·))):=Q
   clear Q IH
   obtain⟨ar,am,ag,ap,aq,av,ao,aw⟩:=X.cells
   have aN:=X.lt
   refine⟨_,rfl,?_⟩
   unfold zdo
   rcases o with ⟨⟨af,ah,ae,aa⟩,rfl,rfl,rfl,rfl,ht⟩|⟨rfl,ac⟩
   ·have aH:=(zdJ j ht).1
    have ax:=(zdJ j ht).2.1
    have HT:Hid (Tok s scr k ⟨kd,tx,nm,aa⟩ e):=ht
    clear ht
    have q1:((e:Int)==(k:Int))=false:=beq_eq_false_iff_ne.2 (by omega)
    by_cases aC:n=4000
    ·have HE:Hid (zY s scr (.error k)):=zf9 L.out j (.inl (by omega))
     have q2:((n:Int)==4000)=true:=beq_iff_eq.2 (by omega)
     clear aC
     go_wp2
     simp only[Leaves]
     go_ret2
     exact⟨⟨_,HE.out,rfl⟩,D⟩
    ·have HX:Hid (∀b,Skip s e b→∀r,Lx s scr b (n+1) r→zY s scr (r.map ((Y++[⟨kd,tx,nm,aa⟩])++ ·))):=fun b hb=>zjL L.out j (by omega) HT.out hb
     have q2:((n:Int)==4000)=false:=beq_eq_false_iff_ne.2 (by omega)
     have aO:n+1≤4000:=by omega
     clear aC
     go_wp2_with (first|(at_builtin;refine zuh wr rfl _ _ 36 rfl w.heap.size 40 i0 _ Tryz.underlying36 hi aV aM aQ rfl g n U Y (by rfl) M ⟨kd,tx,nm,aa⟩ wr.heap.size rfl (by rfl) (by omega) ak ?_))
     intro g2 aB w2 aA aK aX an
     have aI:g2≠w.heap.size+1:=by omega
     go_wp2
     go_step3
     refine⟨⟨e,e,n+1,g2,aB,_,_,_,_,_,zcs (rfl),ax,aO,aI,aA,((an _ aN (Ne.symm hg)).trans X),D.trans aK,HX.out⟩,by simp only[zcu,zct];simp[intOf]<;>omega⟩
   ·have HE:Hid (zY s scr (.error e)):=zf9 L.out j (.inr ac)
    have q1:((e:Int)==(e:Int))=true:=beq_iff_eq.2 rfl
    clear ac
    go_wp2
    simp only[Leaves]
    go_ret2
    exact⟨⟨_,HE.out,rfl⟩,D⟩
  ·match l,aS,Z with
   |l+6,_,Z=>exact Z.elim
 ·intro ay
  go_wp2
  go_step3
  rename_i K hK
  refine hK _ _ (ay 0 _ _ _ rfl ?_)
  have aG:=((Below.refl w.heap.size w).alloc (Nat.le_refl _) (.cells #[] 40)).alloc (by rw[zW];omega) (.cells #[.int .i64 0,.string {data:=#[]},.int .i64 0,.int .i64 0] 40)
  have hT:TC ((w.alloc (.cells #[] 40)).alloc (.cells #[.int .i64 0,.string {data:=#[]},.int .i64 0,.int .i64 0] 40)) (w.heap.size+1) 0 {data:=#[]} 0 0:=by
   have:=heap_alloc_new (w.alloc (.cells #[] 40)) (.cells #[.int .i64 0,.string {data:=#[]},.int .i64 0,.int .i64 0] 40)
   rw[zW] at this
   exact this
  exact⟨0,0,0,w.heap.size,0,_,_,_,_,[],zcs rfl,Nat.zero_le _,by omega,by omega,zcn (zhG w _ _ (Nat.le_refl _)) ((Below.refl _ _).alloc (Nat.le_refl _) _),hT,aG,fun b hb r hr=>⟨b,hb,by cases r<;>simpa [Except.map] using hr⟩⟩
end Go.Proofs.YthfeoomfiafldaaGreat