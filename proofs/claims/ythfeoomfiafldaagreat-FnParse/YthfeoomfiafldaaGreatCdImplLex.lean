/-
 What impl.Lex answers: the walk.
-/
import Derived.Test.YthfeoomfiafldaaGreatCdImplLexB
import Derived.Test.YthfeoomfiafldaaGreatCdSpecLexAll
import Derived.Test.YthfeoomfiafldaaGreatCdLabels
import Derived.Maps.AppendAt
namespace Go.Proofs.YthfeoomfiafldaaGreat
set_option maxRecDepth 1000000
set_option maxHeartbeats 12800000
open Go.RowKit Go.PlainAid
def TC (w:World) (g:Nat) (k:Int) (x:ByteArray) (y u:Int):Prop:=w.heap[g]? =some (.cells #[.int .i64 k,.string x,.int .i64 y,.int .i64 u] 40 (0,0))
theorem TC.cells {w:World} {g:Nat} {k y u:Int} {x:ByteArray} (h:TC w g k x y u):
  w.cell? ⟨g,0,none⟩=some (.int .i64 k)∧w.cell? ⟨g,1,none⟩=some (.string x)∧w.cell? ⟨g,2,none⟩=some (.int .i64 y)∧w.cell? ⟨g,3,none⟩=some (.int .i64 u)
  ∧w.frozen? ⟨g,0,none⟩=false∧w.frozen? ⟨g,1,none⟩=false∧w.frozen? ⟨g,2,none⟩=false∧w.frozen? ⟨g,3,none⟩=false:=by
 unfold TC at h
 simp[World.cell?,World.frozen?,h]
theorem TC.lt {w:World} {g:Nat} {k y u:Int} {x:ByteArray} (h:TC w g k x y u):g<w.heap.size:=(Array.getElem?_eq_some_iff.1 h).1
theorem TC.later {w j:World} {g:Nat} {k y u:Int} {x:ByteArray} (h:TC w g k x y u) (o:Below w.heap.size w j):TC j g k x y u:=(o.block g h.lt).trans h
theorem TC.put {w:World} {g:Nat} {k y u o z j:Int} {x D:ByteArray} (h:TC w g k x y u):
  TC ((((w.setCell ⟨g,0,none⟩ (.int .i64 o)).setCell ⟨g,1,none⟩ (.string D)).setCell ⟨g,2,none⟩ (.int .i64 z)).setCell ⟨g,3,none⟩ (.int .i64 j)) g o D z j:=zmx h
theorem zho {w:World} {j g n o K:Nat} {e:TypeId} {J:List Tk} (h:OwnT w j e g n o J) (E:g≠K) (i:Nat) (v:Value):OwnT (w.setCell ⟨K,i,none⟩ v) j e g n o J:=by
 refine⟨⟨h.1.1,?_⟩,h.2⟩
 rcases h.1.2 with k|⟨N,H,D,I,z,M,L⟩
 ·exact .inl k
 ·simp only[Value.slice.injEq,Option.some.injEq,Addr.mk.injEq,and_true,true_and] at I
  obtain⟨rfl,rfl⟩:=I
  exact .inr ⟨g,o,D,rfl,z,(Below.heap_setCell _ _ _ _ E).trans M,L⟩
theorem zfw {w:World} {o g n z D:Nat} {e:TypeId} {E:List Tk} (h:OwnT w o e g n z E) (j:g≠D) (K I J H:Value):OwnT ((((w.setCell ⟨D,0,none⟩ K).setCell ⟨D,1,none⟩ I).setCell ⟨D,2,none⟩ J).setCell ⟨D,3,none⟩ H) o e g n z E:=
 zho (zho (zho (zho h j _ _) j _ _) j _ _) j _ _
theorem zfx {w W:World} {B j:Nat} (h:Below B w W) (o:B≤j) (H D E z:Value):Below B w ((((W.setCell ⟨j,0,none⟩ H).setCell ⟨j,1,none⟩ D).setCell ⟨j,2,none⟩ E).setCell ⟨j,3,none⟩ z):=
 (((h.setCell o _).setCell o _).setCell o _).setCell o _
theorem zuh {P:Program} (w:World) {O:Array Oper} {rest:List Oper} {o:Oper} {a:Act} {Q:Exit→Act→World→Prop} (U:o.guard=none) (s x:Operand) (t:TypeId)
  (ho:o.op= .call {callee:=.builtin .append,args:=#[s,x],argTypes:=#[t,t]})
  (D:Nat) (e:TypeId) (i:TypeInfo) (z:Value) (ht:P.underlying t=some (.slice e)) (hi:P.info? e=some i) (hz:i.zero=some z) (M:i.size=4) (V:i.bytes=40) (aa:z.cells.size=4)
  (g n N:Nat) (ts:List Tk) (hs:a.eval s= .slice (some ⟨g,0,none⟩) n N) (I:OwnT w D e g n N ts)
  (b:Tk) (gx:Nat) (Z:gx=w.heap.size) (hx:a.eval x= .slice (some ⟨gx,0,none⟩) 1 1) (hn:n+1≤1000000) (K:D≤w.heap.size)
  (h: ∀L H J,OwnT J D e L (n+1) H (ts++[b])→Below D w J→(L=g∨w.heap.size≤L)→(∀k,k<w.heap.size→k≠g→J.heap[k]? =w.heap[k]?)→wpList P O Q rest (a.put o.dst (.slice (some ⟨L,0,none⟩) (n+1) H)) J):
  wpList P O Q (o::rest) a (w.alloc (.cells #[.int .i64 b.kind,.string b.text,.int .i64 b.num,.int .i64 b.pos] e)):=by
 subst Z
 refine wpList_append_own_at _ U s x t ho D e i z 4 40 ht hi hz M V aa (by decide) _ n _ hs (I.1.alloc _) ⟨w.heap.size,0,none⟩ 1 1 (tkL b) hx rfl ?_ ?_ ?_ ?_ ?_ ?_
 ·intro j u E
  match j,E with
  |0,E=>simp[tkL] at E;subst E;simp[Addr.add]
  |1,E=>simp[tkL] at E;subst E;simp[Addr.add]
  |2,E=>simp[tkL] at E;subst E;simp[Addr.add]
  |3,E=>simp[tkL] at E;subst E;simp[Addr.add]
  |j+4,E=>simp[tkL] at E
 ·intro u hu
  simp[tkL] at hu
  rcases hu with rfl|rfl|rfl|rfl<;>rfl
 ·unfold maxLen;omega
 ·omega
 ·simp;omega
 ·intro v' J h1 h2 h3 h4
  have hb:Below D w J:=((Below.refl D w).alloc K _).grown h2 (by simp;omega) (zgp I.1)
  rcases h1.2 with ⟨hv,_⟩|⟨L,H,ab,rfl,Y⟩
  ·have:=(h3.1 hv).1
   simp at this
  ·refine h L H J ⟨?_,by rw[List.length_append];have:=I.2;simp;omega⟩ hb ?_ ?_
   ·rw[List.flatMap_append]
    simpa using h1
   ·rcases h4 with q|q
    ·left
     simpa [Value.ownBlock] using q
    ·right
     have:L=w.heap.size+1:=by simpa [Value.ownBlock] using q
     omega
   ·intro k hk X
    rw[h2.block k (by simp;omega) (by simpa [Value.ownBlock] using X),Below.heap_alloc _ _ _ hk]
def zui (s:ByteArray) (scr:Bool) (k e n:Nat) (ts:List Tk) (kd:Int) (tx:ByteArray) (nm ps:Int):Nat→Prop
 |0=>∀b,Skip s k b→∀r,Lx s scr b n r→zY s scr (r.map (ts++ ·))
 |1=>k<s.size∧(∀r,Lx s scr k n r→zY s scr (r.map (ts++ ·)))∧zG (bt s k)=true
 |2=>k<s.size∧(∀r,Lx s scr k n r→zY s scr (r.map (ts++ ·)))∧zam (bt s k) scr=true
 |3=>k<s.size∧(∀r,Lx s scr k n r→zY s scr (r.map (ts++ ·)))∧bt s k=34
 |4=>k<s.size∧(∀r,Lx s scr k n r→zY s scr (r.map (ts++ ·)))∧zaM (bt s k)
 |5=>k<s.size∧(∀r,Lx s scr k n r→zY s scr (r.map (ts++ ·)))∧((∃t:Tk,kd=t.kind∧tx=t.text∧nm=t.num∧ps=t.pos∧Tok s scr k t e)∨(e=k∧∀t m,¬Tok s scr k t m))
 |_=>False
def zdo (s:ByteArray) (scr:Bool) (gt k e n g cap:Nat) (us:Nat→Value):Act:={tmps:=#[.string s,.bool scr,undef,undef,.slice none 0 0,.int .i64 0,.slice (some ⟨g,0,none⟩) n cap,.pointer (some ⟨gt,0,none⟩),.int .i64 k,.int .i64 e,us 10,us 11,us 12,us 13,us 14,us 15,us 16,us 17,us 18,us 19,us 20,us 21,us 22,us 23,us 24,us 25,us 26,us 27,us 28,us 29,us 30,us 31,us 32,us 33,us 34,us 35,us 36,us 37,us 38,us 39,us 40,us 41,us 42,us 43,us 44,us 45,us 46,us 47,us 48,us 49,us 50,us 51,us 52,us 53,us 54,us 55,us 56,us 57,us 58,us 59,us 60,us 61,us 62,us 63,us 64,us 65,us 66,us 67,us 68,us 69,us 70,us 71,us 72,us 73,us 74,us 75,us 76,us 77,us 78,us 79,us 80,us 81,us 82,us 83,us 84,us 85,us 86,us 87,us 88,us 89,us 90,us 91,us 92,us 93,us 94,us 95,us 96,us 97,us 98,us 99,us 100,us 101],defers:=[]}
theorem zcs {a:Act} {s:ByteArray} {scr:Bool} {o k e n g j:Nat} (h:a=zdo s scr o k e n g j (fun i=>a.tmps.getD i undef)): ∃z,a=zdo s scr o k e n g j z:=⟨_,h⟩
def zuj (s:ByteArray) (scr:Bool) (w:World) (l:Nat) (a:Act) (wr:World):Prop:=
 ∃(k e n g cap:Nat) (kd:Int) (tx:ByteArray) (nm ps:Int) (ts:List Tk),(∃us,a=zdo s scr (w.heap.size+1) k e n g cap us)
  ∧k≤s.size∧n≤4000∧g≠w.heap.size+1∧OwnT wr w.heap.size 40 g n cap ts∧TC wr (w.heap.size+1) kd tx nm ps∧Below w.heap.size w wr∧zui s scr k e n ts kd tx nm ps l
def zct:Nat→Nat
 |0=>2
 |5=>0
 |_=>1
def zcu (s:ByteArray) (l:Nat) (a:Act) (_:World):Nat:=3*((s.size:Int)-intOf (a.tmps.getD 8 undef)).toNat+zct l
def zuk (s:ByteArray) (scr:Bool) (w:World) (e:Ending) (w':World):Prop:=
 ∃r,zY s scr r∧match r with
  | .ok ts=>∃g n cap,e= .returned (.tuple #[.slice (some ⟨g,0,none⟩) n cap,.int .i64 (-1)])∧OwnT w' w.heap.size 40 g n cap ts
  | .error p=>e= .returned (.tuple #[.slice none 0 0,.int .i64 p])
theorem zul (s:ByteArray) (scr:Bool) (w:World) (hs:s.size≤4294967296):
  Calls Tryz.prog 18 #[.string s,.bool scr] w fun e w'=>zuk s scr w e w'∧Below w.heap.size w w':=by
 obtain⟨i0,hi,aG,aT,aP⟩:=info_parts Tryz.infoTok
 have hb:=get_bt s
 go_enter Tryz.func18,Tryz.ntmps18
 go_wp2
 refine zug (zuj s scr w) (zcu s) ?_ ?_
 ·intro l a' wr hJ IH
  obtain⟨k,e,n,g,Q,kd,tx,nm,ps,Y,⟨us,rfl⟩,hk,hn,hg,M,X,D,Z⟩:=hJ
  have aj:=D.size
  have N:=bt_nonneg s k
  have O:=bt_le s k
  obtain rfl|rfl|rfl|rfl|rfl|rfl|aI:l=0∨l=1∨l=2∨l=3∨l=4∨l=5∨6≤l:=by omega
  ·have an:Hid (∀b,Skip s k b→∀r,Lx s scr b n r→zY s scr (r.map (Y++ ·))):=Z
   clear Z IH
   refine⟨_,rfl,?_⟩
   unfold zdo
   by_cases ak:k=s.size
   ·have HE:Hid (zY s scr (.ok Y)):=zjK (an.out s.size (by rw[ak];exact .done)) rfl
    have q:((k:Int)==(s.size:Int))=true:=beq_iff_eq.2 (by omega)
    clear ak
    go_wp2
    simp only[Leaves]
    go_ret2
    exact⟨⟨_,HE.out,g,n,Q,rfl,M⟩,D⟩
   ·have o:k<s.size:=by omega
    have q:((k:Int)==(s.size:Int))=false:=beq_eq_false_iff_ne.2 (by omega)
    clear ak
    cases aC:zgg (bt s k) with
    |true=>
     have HX:Hid (∀b,Skip s (k+1) b→∀r,Lx s scr b n r→zY s scr (r.map (Y++ ·))):=fun b hb=>an.out b (.blank o (of_decide_eq_true aC) hb)
     go_wp2_with fail
     refine (zeC _ _ N O).mono ?_
     rintro ev V ⟨rfl,rfl⟩
     obtain⟨k1,aJ⟩: ∃k1:Nat,(k:Int)+1=k1:=⟨k+1,by omega⟩
     go_wp2
     go_step3
     obtain rfl:k1=k+1:=by omega
     refine⟨⟨k+1,e,n,g,Q,_,_,_,_,Y,zcs (rfl),by omega,hn,hg,M,X,D,HX.out⟩,by simp only[zcu,zct];simp[intOf]<;>omega⟩
    |false=>
     have af:Hid (Lib.hasPrefix (s.extract k s.size).data.toList [47,47]=zhm s k):=ztL s k
     cases ab:zhm s k with
     |true=>
      go_wp2_with fail
      refine (zeC _ _ N O).mono ?_
      rintro ev V ⟨rfl,rfl⟩
      go_wp2_with fail
      refine (Tryz.strings_HasPrefix _ _ _).mono ?_
      rintro ev V ⟨rfl,rfl⟩
      rw[af.out]
      rw[ab]
      go_wp2_with fail
      refine (zuc _ _ _ hk hs).mono ?_
      rintro ev V ⟨c,rfl,hc,rfl⟩
      have HX:Hid (∀b,Skip s c b→∀r,Lx s scr b n r→zY s scr (r.map (Y++ ·))):=fun b hb=>an.out b (.comment o (of_decide_eq_true ab) hc hb)
      have am:=ztJ o (of_decide_eq_true ab) hc
      have ai:=hc.2.1
      clear hc
      go_wp2
      go_step3
      refine⟨⟨c,e,n,g,Q,_,_,_,_,Y,zcs (rfl),ai,hn,hg,M,X,D,HX.out⟩,by simp only[zcu,zct];simp[intOf]<;>omega⟩
     |false=>
      have J:Hid (∀r,Lx s scr k n r→zY s scr (r.map (Y++ ·))):=an.out k (.stop o (of_decide_eq_false aC) (of_decide_eq_false ab))
      cases hd:zG (bt s k) with
      |true=>
       go_wp2_with fail
       refine (zeC _ _ N O).mono ?_
       rintro ev V ⟨rfl,rfl⟩
       go_wp2_with fail
       refine (Tryz.strings_HasPrefix _ _ _).mono ?_
       rintro ev V ⟨rfl,rfl⟩
       rw[af.out]
       rw[ab]
       go_wp2_with fail
       refine (zbU _ _ N O).mono ?_
       rintro ev V ⟨rfl,rfl⟩
       go_wp2
       go_step3
       refine⟨⟨k,e,n,g,Q,_,_,_,_,Y,zcs (rfl),hk,hn,hg,M,X,D,⟨o,J.out,hd⟩⟩,by simp only[zcu,zct];simp[intOf]<;>omega⟩
      |false=>
       cases hw:zB scr (bt s k) with
       |true=>
        have HL:Hid (zam (bt s k) scr=true):=by show _=_;simp[zB,hd] at hw;exact hw
        go_wp2_with fail
        refine (zeC _ _ N O).mono ?_
        rintro ev V ⟨rfl,rfl⟩
        go_wp2_with fail
        refine (Tryz.strings_HasPrefix _ _ _).mono ?_
        rintro ev V ⟨rfl,rfl⟩
        rw[af.out]
        rw[ab]
        go_wp2_with fail
        refine (zbU _ _ N O).mono ?_
        rintro ev V ⟨rfl,rfl⟩
        go_wp2_with fail
        refine (zfs _ _ _ N O).mono ?_
        rintro ev V ⟨rfl,rfl⟩
        go_wp2
        go_step3
        refine⟨⟨k,e,n,g,Q,_,_,_,_,Y,zcs (rfl),hk,hn,hg,M,X,D,⟨o,J.out,HL.out⟩⟩,by simp only[zcu,zct];simp[intOf]<;>omega⟩
       |false=>
        by_cases ad:bt s k=34
        ·have aL:Hid (bt s k=34):=ad
         have aV:(bt s k==34)=true:=beq_iff_eq.2 ad
         clear ad
         go_wp2_with fail
         refine (zeC _ _ N O).mono ?_
         rintro ev V ⟨rfl,rfl⟩
         go_wp2_with fail
         refine (Tryz.strings_HasPrefix _ _ _).mono ?_
         rintro ev V ⟨rfl,rfl⟩
         rw[af.out]
         rw[ab]
         go_wp2_with fail
         refine (zbU _ _ N O).mono ?_
         rintro ev V ⟨rfl,rfl⟩
         go_wp2_with fail
         refine (zfs _ _ _ N O).mono ?_
         rintro ev V ⟨rfl,rfl⟩
         go_wp2
         go_step3
         refine⟨⟨k,e,n,g,Q,_,_,_,_,Y,zcs (rfl),hk,hn,hg,M,X,D,⟨o,J.out,aL.out⟩⟩,by simp only[zcu,zct];simp[intOf]<;>omega⟩
        ·have aV:(bt s k==34)=false:=beq_eq_false_iff_ne.2 ad
         cases aD:zgh (bt s k) with
         |true=>
          clear ad
          go_wp2_with fail
          refine (zeC _ _ N O).mono ?_
          rintro ev V ⟨rfl,rfl⟩
          go_wp2_with fail
          refine (Tryz.strings_HasPrefix _ _ _).mono ?_
          rintro ev V ⟨rfl,rfl⟩
          rw[af.out]
          rw[ab]
          go_wp2_with fail
          refine (zbU _ _ N O).mono ?_
          rintro ev V ⟨rfl,rfl⟩
          go_wp2_with fail
          refine (zfs _ _ _ N O).mono ?_
          rintro ev V ⟨rfl,rfl⟩
          go_wp2_with fail
          refine (zmt _ _ N O).mono ?_
          rintro ev V ⟨rfl,rfl⟩
          go_wp2
          go_step3
          refine⟨⟨k,e,n,g,Q,_,_,_,_,Y,zcs (rfl),hk,hn,hg,M,X,D,⟨o,J.out,of_decide_eq_true aD⟩⟩,by simp only[zcu,zct];simp[intOf]<;>omega⟩
         |false=>
          have HE:Hid (zY s scr (.error k)):=zf9 J.out o (.inr (zjJ (by simp[zB,hd] at hw;exact hw) hd ad (of_decide_eq_false aD)))
          clear ad
          go_wp2_with fail
          refine (zeC _ _ N O).mono ?_
          rintro ev V ⟨rfl,rfl⟩
          go_wp2_with fail
          refine (Tryz.strings_HasPrefix _ _ _).mono ?_
          rintro ev V ⟨rfl,rfl⟩
          rw[af.out]
          rw[ab]
          go_wp2_with fail
          refine (zbU _ _ N O).mono ?_
          rintro ev V ⟨rfl,rfl⟩
          go_wp2_with fail
          refine (zfs _ _ _ N O).mono ?_
          rintro ev V ⟨rfl,rfl⟩
          go_wp2_with fail
          refine (zmt _ _ N O).mono ?_
          rintro ev V ⟨rfl,rfl⟩
          go_wp2
          simp only[Leaves]
          go_ret2
          exact⟨⟨_,HE.out,rfl⟩,D⟩
  ·obtain⟨o,U,j⟩:=Z
   have J:Hid (∀r,Lx s scr k n r→zY s scr (r.map (Y++ ·))):=U
   have HW:Hid (zG (bt s k)=true):=j
   clear U j
   clear IH
   refine⟨_,rfl,?_⟩
   unfold zdo
   go_wp2_with fail
   refine (zud _ _ scr _ o HW.out hs).mono ?_
   rintro ev V ⟨v,z,rfl,al,E⟩
   have H:=X.later E
   obtain⟨ar,am,ai,av,aw,aq,ao,ap⟩:=H.cells
   have L:=D.trans (E.mono aj)
   have I:=zcn M E
   rcases al with ⟨⟨ae,ah,ag,aa⟩,m,rfl,rfl,ht⟩|⟨rfl,⟨c1,c2,c3,c4,rfl⟩,ac⟩
   ·have HT:Hid (Tok s scr k ⟨ae,ah,ag,aa⟩ m):=ht
    clear ht
    simp only[tkV]
    go_wp2
    go_step3
    refine⟨⟨k,m,n,g,Q,_,_,_,_,Y,zcs (rfl),hk,hn,hg,zfw I hg _ _ _ _,H.put,zfx L (Nat.le_succ _) _ _ _ _,⟨o,J.out,.inl ⟨⟨ae,ah,ag,aa⟩,rfl,rfl,rfl,rfl,HT.out⟩⟩⟩,by simp only[zcu,zct];simp[intOf]<;>omega⟩
   ·have ay:Hid (∀t m,¬Tok s scr k t m):=ac
    clear ac
    go_wp2
    go_step3
    refine⟨⟨k,k,n,g,Q,_,_,_,_,Y,zcs (rfl),hk,hn,hg,zfw I hg _ _ _ _,H.put,zfx L (Nat.le_succ _) _ _ _ _,⟨o,J.out,.inr ⟨rfl,ay.out⟩⟩⟩,by simp only[zcu,zct];simp[intOf]<;>omega⟩
  ·obtain⟨o,U,j⟩:=Z
   have J:Hid (∀r,Lx s scr k n r→zY s scr (r.map (Y++ ·))):=U
   have HW:Hid (zam (bt s k) scr=true):=j
   clear U j
   clear IH
   refine⟨_,rfl,?_⟩
   unfold zdo
   go_wp2_with fail
   refine (zmu _ _ _ _ hk hs).mono ?_
   rintro ev w0 ⟨m,rfl,hr,rfl⟩
   have HT:Hid (Tok s scr k ⟨1,s.extract k m,0,k⟩ m):=.name HW.out hr
   have aR:=hr.1
   have az:=hr.2.1
   clear hr
   go_wp2_with fail
   refine (zja _ _ (by rw[zfv _ _ _ az];omega)).mono ?_
   rintro ev V ⟨rfl,E⟩
   have H:=X.later E
   obtain⟨ar,am,ai,av,aw,aq,ao,ap⟩:=H.cells
   have L:=D.trans (E.mono aj)
   have I:=zcn M E
   go_wp2
   go_step3
   refine⟨⟨k,m,n,g,Q,_,_,_,_,Y,zcs (rfl),hk,hn,hg,zfw I hg _ _ _ _,H.put,zfx L (Nat.le_succ _) _ _ _ _,⟨o,J.out,.inl ⟨⟨1,s.extract k m,0,k⟩,rfl,rfl,rfl,rfl,HT.out⟩⟩⟩,by simp only[zcu,zct];simp[intOf]<;>omega⟩
  ·obtain⟨o,U,j⟩:=Z
   have J:Hid (∀r,Lx s scr k n r→zY s scr (r.map (Y++ ·))):=U
   have HW:Hid (bt s k=34):=j
   clear U j
   clear IH
   refine⟨_,rfl,?_⟩
   unfold zdo
   go_wp2_with fail
   refine (zuf _ _ scr _ o HW.out hs).mono ?_
   rintro ev V ⟨v,z,rfl,al,E⟩
   have H:=X.later E
   obtain⟨ar,am,ai,av,aw,aq,ao,ap⟩:=H.cells
   have L:=D.trans (E.mono aj)
   have I:=zcn M E
   rcases al with ⟨⟨ae,ah,ag,aa⟩,m,rfl,rfl,ht⟩|⟨rfl,⟨c1,c2,c3,c4,rfl⟩,ac⟩
   ·have HT:Hid (Tok s scr k ⟨ae,ah,ag,aa⟩ m):=ht
    clear ht
    simp only[tkV]
    go_wp2
    go_step3
    refine⟨⟨k,m,n,g,Q,_,_,_,_,Y,zcs (rfl),hk,hn,hg,zfw I hg _ _ _ _,H.put,zfx L (Nat.le_succ _) _ _ _ _,⟨o,J.out,.inl ⟨⟨ae,ah,ag,aa⟩,rfl,rfl,rfl,rfl,HT.out⟩⟩⟩,by simp only[zcu,zct];simp[intOf]<;>omega⟩
   ·have ay:Hid (∀t m,¬Tok s scr k t m):=ac
    clear ac
    go_wp2
    go_step3
    refine⟨⟨k,k,n,g,Q,_,_,_,_,Y,zcs (rfl),hk,hn,hg,zfw I hg _ _ _ _,H.put,zfx L (Nat.le_succ _) _ _ _ _,⟨o,J.out,.inr ⟨rfl,ay.out⟩⟩⟩,by simp only[zcu,zct];simp[intOf]<;>omega⟩
  ·obtain⟨o,U,j⟩:=Z
   have J:Hid (∀r,Lx s scr k n r→zY s scr (r.map (Y++ ·))):=U
   have HW:Hid (zaM (bt s k)):=j
   clear U j
   have aO:Hid _:=IH
   clear IH
   refine⟨_,rfl,?_⟩
   unfold zdo
   obtain⟨k1,aF⟩: ∃k1:Nat,k1=k+1:=⟨_,rfl⟩
   have aJ:(k:Int)+1=k1:=by omega
   have aU:Hid (k1=k+1):=aF
   have aW:k≤k1:=by omega
   have aS:k1≤s.size:=by omega
   clear aF
   go_wp2_with fail
   refine (zja _ _ (by rw[zfv _ _ _ aS];omega)).mono ?_
   rintro ev V ⟨rfl,E⟩
   have H:=X.later E
   obtain⟨ar,am,ai,av,aw,aq,ao,ap⟩:=H.cells
   have L:=D.trans (E.mono aj)
   have I:=zcn M E
   go_wp2
   go_step3
   rename_i K hK
   refine hK _ _ (aO.out 5 _ _ _ rfl ?_ ?_)
   ·exact⟨k,k1,n,g,Q,_,_,_,_,Y,zcs rfl,hk,hn,hg,zfw I hg _ _ _ _,H.put,zfx L (Nat.le_succ _) _ _ _ _,⟨o,J.out,.inl ⟨⟨4,s.extract k k1,0,k⟩,rfl,rfl,rfl,rfl,by rw[aU.out];exact .sign HW.out⟩⟩⟩
   ·simp only[zcu,zct,zdo];simp[intOf]
  ·obtain⟨o,U,j⟩:=Z
   have J:Hid (∀r,Lx s scr k n r→zY s scr (r.map (Y++ ·))):=U
   clear U IH
   obtain⟨ar,am,ai,av,aw,aq,ao,ap⟩:=X.cells
   have aM:=X.lt
   refine⟨_,rfl,?_⟩
   unfold zdo
   rcases j with ⟨⟨ae,ah,ag,aa⟩,rfl,rfl,rfl,rfl,ht⟩|⟨rfl,ac⟩
   ·have aR:=(zdJ o ht).1
    have az:=(zdJ o ht).2.1
    have HT:Hid (Tok s scr k ⟨kd,tx,nm,aa⟩ e):=ht
    clear ht
    have q1:((e:Int)==(k:Int))=false:=beq_eq_false_iff_ne.2 (by omega)
    by_cases aE:n=4000
    ·have HE:Hid (zY s scr (.error k)):=zf9 J.out o (.inl (by omega))
     have q2:((n:Int)==4000)=true:=beq_iff_eq.2 (by omega)
     clear aE
     go_wp2
     simp only[Leaves]
     go_ret2
     exact⟨⟨_,HE.out,rfl⟩,D⟩
    ·have HX:Hid (∀b,Skip s e b→∀r,Lx s scr b (n+1) r→zY s scr (r.map ((Y++[⟨kd,tx,nm,aa⟩])++ ·))):=fun b hb=>zjL J.out o (by omega) HT.out hb
     have q2:((n:Int)==4000)=false:=beq_eq_false_iff_ne.2 (by omega)
     have aN:n+1≤4000:=by omega
     clear aE
     go_wp2_with (first|(at_builtin;refine zuh wr rfl _ _ 36 rfl w.heap.size 40 i0 _ Tryz.underlying36 hi aG aT aP rfl g n Q Y (by rfl) M ⟨kd,tx,nm,aa⟩ wr.heap.size rfl (by rfl) (by omega) aj ?_))
     intro g2 aB w2 ax aQ aX au
     have aK:g2≠w.heap.size+1:=by omega
     go_wp2
     go_step3
     refine⟨⟨e,e,n+1,g2,aB,_,_,_,_,_,zcs (rfl),az,aN,aK,ax,((au _ aM (Ne.symm hg)).trans X),D.trans aQ,HX.out⟩,by simp only[zcu,zct];simp[intOf]<;>omega⟩
   ·have HE:Hid (zY s scr (.error e)):=zf9 J.out o (.inr ac)
    have q1:((e:Int)==(e:Int))=true:=beq_iff_eq.2 rfl
    clear ac
    go_wp2
    simp only[Leaves]
    go_ret2
    exact⟨⟨_,HE.out,rfl⟩,D⟩
  ·match l,aI,Z with
   |l+6,_,Z=>exact Z.elim
 ·intro aA
  go_wp2
  go_step3
  rename_i K hK
  refine hK _ _ (aA 0 _ _ _ rfl ?_)
  have aH:=((Below.refl w.heap.size w).alloc (Nat.le_refl _) (.cells #[] 40)).alloc (by rw[zW];omega) (.cells #[.int .i64 0,.string {data:=#[]},.int .i64 0,.int .i64 0] 40)
  have hT:TC ((w.alloc (.cells #[] 40)).alloc (.cells #[.int .i64 0,.string {data:=#[]},.int .i64 0,.int .i64 0] 40)) (w.heap.size+1) 0 {data:=#[]} 0 0:=by
   have:=heap_alloc_new (w.alloc (.cells #[] 40)) (.cells #[.int .i64 0,.string {data:=#[]},.int .i64 0,.int .i64 0] 40)
   rw[zW] at this
   exact this
  exact⟨0,0,0,w.heap.size,0,_,_,_,_,[],zcs rfl,Nat.zero_le _,by omega,by omega,zcn (zhG w _ _ (Nat.le_refl _)) ((Below.refl _ _).alloc (Nat.le_refl _) _),hT,aH,fun b hb r hr=>⟨b,hb,by cases r<;>simpa [Except.map] using hr⟩⟩
end Go.Proofs.YthfeoomfiafldaaGreat