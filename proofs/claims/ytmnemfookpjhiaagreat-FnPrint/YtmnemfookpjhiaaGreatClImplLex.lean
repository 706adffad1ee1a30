/-
 What impl.Lex answers: the walk.
-/
import Derived.Test.YtmnemfookpjhiaaGreatClImplLexB
import Derived.Test.YtmnemfookpjhiaaGreatClSpecLexAll
import Derived.Test.YtmnemfookpjhiaaGreatClLabels
import Derived.Maps.AppendAt
namespace Go.Proofs.YtmnemfookpjhiaaGreat
set_option maxRecDepth 1000000
set_option maxHeartbeats 12800000
open Go.RowKit Go.PlainAid
/-- A token in a cell of its own. -/
def TC (w:World) (g:Nat) (k:Int) (x:ByteArray) (y u:Int):Prop:=w.heap[g]? =some (.cells #[.int .i64 k,.string x,.int .i64 y,.int .i64 u] 62 (0,0))
theorem TC.cells {w:World} {g:Nat} {k y u:Int} {x:ByteArray} (h:TC w g k x y u):
  w.cell? ⟨g,0,none⟩=some (.int .i64 k)∧w.cell? ⟨g,1,none⟩=some (.string x)∧w.cell? ⟨g,2,none⟩=some (.int .i64 y)∧w.cell? ⟨g,3,none⟩=some (.int .i64 u)
  ∧w.frozen? ⟨g,0,none⟩=false∧w.frozen? ⟨g,1,none⟩=false∧w.frozen? ⟨g,2,none⟩=false∧w.frozen? ⟨g,3,none⟩=false:=by
 unfold TC at h
 simp[World.cell?,World.frozen?,h]
theorem TC.lt {w:World} {g:Nat} {k y u:Int} {x:ByteArray} (h:TC w g k x y u):g<w.heap.size:=(Array.getElem?_eq_some_iff.1 h).1
theorem TC.later {w w':World} {g:Nat} {k y u:Int} {x:ByteArray} (h:TC w g k x y u) (hb:Below w.heap.size w w'):TC w' g k x y u:=(hb.block g h.lt).trans h
theorem TC.put {w:World} {g:Nat} {k y u k' y' u':Int} {x x':ByteArray} (h:TC w g k x y u):
  TC ((((w.setCell ⟨g,0,none⟩ (.int .i64 k')).setCell ⟨g,1,none⟩ (.string x')).setCell ⟨g,2,none⟩ (.int .i64 y')).setCell ⟨g,3,none⟩ (.int .i64 u')) g k' x' y' u':=zze h
theorem zod {w:World} {base g n cap gt:Nat} {e:TypeId} {ts:List Tk} (h:OwnT w base e g n cap ts) (J1:g≠gt) (i:Nat) (v:Value):OwnT (w.setCell ⟨gt,i,none⟩ v) base e g n cap ts:=by
 refine⟨⟨h.1.1,?_⟩,h.2⟩
 rcases h.1.2 with k|⟨g',G7,cur,hv,I7,hg,hr⟩
 ·exact .inl k
 ·simp only[Value.slice.injEq,Option.some.injEq,Addr.mk.injEq,and_true,true_and] at hv
  obtain⟨rfl,rfl⟩:=hv
  exact .inr ⟨g,cap,cur,rfl,I7,(Below.heap_setCell _ _ _ _ J1).trans hg,hr⟩
theorem ziw {w:World} {base g n cap gt:Nat} {e:TypeId} {ts:List Tk} (h:OwnT w base e g n cap ts) (J1:g≠gt) (v0 v1 v2 v3:Value):OwnT ((((w.setCell ⟨gt,0,none⟩ v0).setCell ⟨gt,1,none⟩ v1).setCell ⟨gt,2,none⟩ v2).setCell ⟨gt,3,none⟩ v3) base e g n cap ts:=
 zod (zod (zod (zod h J1 _ _) J1 _ _) J1 _ _) J1 _ _
theorem zic {w W:World} {B gt:Nat} (h:Below B w W) (hg:B≤gt) (v0 v1 v2 v3:Value):Below B w ((((W.setCell ⟨gt,0,none⟩ v0).setCell ⟨gt,1,none⟩ v1).setCell ⟨gt,2,none⟩ v2).setCell ⟨gt,3,none⟩ v3):=
 (((h.setCell hg _).setCell hg _).setCell hg _).setCell hg _
/-- Appending a token: as zbay; besides, every other block stays, and the row is the old one or a new one. -/
theorem zbel {P:Program} (w:World) {F8:Array Oper} {rest:List Oper} {o:Oper} {a:Act} {Q:Exit→Act→World→Prop} (Z6:o.guard=none) (s x:Operand) (t:TypeId)
  (ho:o.op= .call {Da:=.builtin .append,args:=#[s,x],argTypes:=#[t,t]})
  (base:Nat) (e:TypeId) (i:TypeInfo) (z:Value) (ht:P.underlying t=some (.slice e)) (hi:P.info? e=some i) (hz:i.zero=some z) (J9:i.size=4) (Hb:i.bytes=40) (mc:z.cells.size=4)
  (g n cap:Nat) (ts:List Tk) (hs:a.eval s= .slice (some ⟨g,0,none⟩) n cap) (O0:OwnT w base e g n cap ts)
  (b:Tk) (gx:Nat) (j3:gx=w.heap.size) (hx:a.eval x= .slice (some ⟨gx,0,none⟩) 1 1) (hn:n+1≤1000000) (I7:base≤w.heap.size)
  (h: ∀g' G7 w',OwnT w' base e g' (n+1) G7 (ts++[b])→Below base w w'→(g'=g∨w.heap.size≤g')→(∀k,k<w.heap.size→k≠g→w'.heap[k]? =w.heap[k]?)→wpList P F8 Q rest (a.put o.dst (.slice (some ⟨g',0,none⟩) (n+1) G7)) w'):
  wpList P F8 Q (o::rest) a (w.alloc (.cells #[.int .i64 b.kind,.string b.text,.int .i64 b.num,.int .i64 b.pos] e)):=by
 subst j3
 refine wpList_append_own_at _ Z6 s x t ho base e i z 4 40 ht hi hz J9 Hb mc (by decide) _ n _ hs (O0.1.alloc _) ⟨w.heap.size,0,none⟩ 1 1 (tkL b) hx rfl ?_ ?_ ?_ ?_ ?_ ?_
 ·intro j u hj
  match j,hj with
  |0,hj=>simp[tkL] at hj;subst hj;simp[Addr.add]
  |1,hj=>simp[tkL] at hj;subst hj;simp[Addr.add]
  |2,hj=>simp[tkL] at hj;subst hj;simp[Addr.add]
  |3,hj=>simp[tkL] at hj;subst hj;simp[Addr.add]
  |j+4,hj=>simp[tkL] at hj
 ·intro u hu
  simp[tkL] at hu
  rcases hu with rfl|rfl|rfl|rfl<;>rfl
 ·unfold maxLen;omega
 ·omega
 ·simp;omega
 ·intro v' w' h1 h2 h3 h4
  have hb:Below base w w':=((Below.refl base w).alloc I7 _).grown h2 (by simp;omega) (zix O0.1)
  rcases h1.2 with ⟨hv,_⟩|⟨g',G7,cur,rfl,Mb⟩
  ·have:=(h3.1 hv).1
   simp at this
  ·refine h g' G7 w' ⟨?_,by rw[List.length_append];have:=O0.2;simp;omega⟩ hb ?_ ?_
   ·rw[List.flatMap_append]
    L0 using h1
   ·rcases h4 with q|q
    ·left
     L0 [Value.ownBlock] using q
    ·right
     have:g'=w.heap.size+1:=by L0 [Value.ownBlock] using q
     omega
   ·intro k hk J1
    rw[h2.block k (by simp;omega) (by L0 [Value.ownBlock] using J1),Below.heap_alloc _ _ _ hk]
/-- What holds at each label beside the frame. -/
def zboz (s:ByteArray) (scr:Bool) (k e n:Nat) (ts:List Tk) (kd:Int) (tx:ByteArray) (nm ps:Int):Nat→Prop
 |0=>∀b,Skip s k b→∀r,Lx s scr b n r→LexR s scr (r.map (ts++ ·))
 |1=>k<s.size∧(∀r,Lx s scr k n r→LexR s scr (r.map (ts++ ·)))∧digB (bt s k)=true
 |2=>k<s.size∧(∀r,Lx s scr k n r→LexR s scr (r.map (ts++ ·)))∧letB (bt s k) scr=true
 |3=>k<s.size∧(∀r,Lx s scr k n r→LexR s scr (r.map (ts++ ·)))∧bt s k=34
 |4=>k<s.size∧(∀r,Lx s scr k n r→LexR s scr (r.map (ts++ ·)))∧Sign (bt s k)
 |5=>k<s.size∧(∀r,Lx s scr k n r→LexR s scr (r.map (ts++ ·)))∧((∃t:Tk,kd=t.kind∧tx=t.text∧nm=t.num∧ps=t.pos∧Tok s scr k t e)∨(e=k∧∀t m,¬Tok s scr k t m))
 |_=>False
/-- The frame at a label. -/
def lexF (s:ByteArray) (scr:Bool) (gt k e n g cap:Nat) (us:Nat→Value):Act:={tmps:=#[.string s,.bool scr,undef,undef,.slice none 0 0,.int .i64 0,.slice (some ⟨g,0,none⟩) n cap,.pointer (some ⟨gt,0,none⟩),.int .i64 k,.int .i64 e,us 10,us 11,us 12,us 13,us 14,us 15,us 16,us 17,us 18,us 19,us 20,us 21,us 22,us 23,us 24,us 25,us 26,us 27,us 28,us 29,us 30,us 31,us 32,us 33,us 34,us 35,us 36,us 37,us 38,us 39,us 40,us 41,us 42,us 43,us 44,us 45,us 46,us 47,us 48,us 49,us 50,us 51,us 52,us 53,us 54,us 55,us 56,us 57,us 58,us 59,us 60,us 61,us 62,us 63,us 64,us 65,us 66,us 67,us 68,us 69,us 70,us 71,us 72,us 73,us 74,us 75,us 76,us 77,us 78,us 79,us 80,us 81,us 82,us 83,us 84,us 85,us 86,us 87,us 88,us 89,us 90,us 91,us 92,us 93,us 94,us 95,us 96,us 97,us 98,us 99,us 100,us 101],defers:=[]}
theorem zfm {a:Act} {s:ByteArray} {scr:Bool} {gt k e n g cap:Nat} (h:a=lexF s scr gt k e n g cap (fun i=>a.tmps.getD i undef)): ∃us,a=lexF s scr gt k e n g cap us:=⟨_,h⟩
def LexJ (s:ByteArray) (scr:Bool) (w:World) (l:Nat) (a:Act) (wr:World):Prop:=
 ∃(k e n g cap:Nat) (kd:Int) (tx:ByteArray) (nm ps:Int) (ts:List Tk),(∃us,a=lexF s scr (w.heap.size+1) k e n g cap us)
  ∧k≤s.size∧n≤4000∧g≠w.heap.size+1∧OwnT wr w.heap.size 62 g n cap ts∧TC wr (w.heap.size+1) kd tx nm ps∧Below w.heap.size w wr∧zboz s scr k e n ts kd tx nm ps l
def zfn:Nat→Nat
 |0=>2
 |5=>0
 |_=>1
def zhm (s:ByteArray) (l:Nat) (a:Act) (_:World):Nat:=3*((s.size:Int)-intOf (a.tmps.getD 8 undef)).toNat+zfn l
/-- What impl.Lex hands back: the tokens in a row of its own, and -1; or none, and where it ends. -/
def zbne (s:ByteArray) (scr:Bool) (w:World) (e:Ending) (w':World):Prop:=
 ∃r,LexR s scr r∧match r with
  | .ok ts=>∃g n cap,e= .returned (.tuple #[.slice (some ⟨g,0,none⟩) n cap,.int .i64 (-1)])∧OwnT w' w.heap.size 62 g n cap ts
  | .error p=>e= .returned (.tuple #[.slice none 0 0,.int .i64 p])
theorem zbjw (s:ByteArray) (scr:Bool) (w:World) (hs:s.size≤4294967296):
  Calls Tryz.prog 60 #[.string s,.bool scr] w fun e w'=>zbne s scr w e w'∧Below w.heap.size w w':=by
 obtain⟨i0,hi,Q4,V4,N4⟩:=info_parts Tryz.infoTok
 have hb:=get_bt s
 go_enter Tryz.func60,Tryz.ntmps60
 go_wp2
 refine zsx (LexJ s scr w) (zhm s) ?_ ?_
 ·intro l a' wr hJ IH
  obtain⟨k,e,n,g,cap,kd,tx,nm,ps,ts,⟨us,rfl⟩,hk,hn,hg,O0,Gb,K6,U1⟩:=hJ
  have Y0:=K6.size
  have I5:=bt_nonneg s k
  have P0:=bt_le s k
  obtain rfl|rfl|rfl|rfl|rfl|rfl|hl6:l=0∨l=1∨l=2∨l=3∨l=4∨l=5∨6≤l:=by omega
  ·have J6:Hid (∀b,Skip s k b→∀r,Lx s scr b n r→LexR s scr (r.map (ts++ ·))):=U1
   clear U1 IH
   refine⟨_,rfl,?_⟩
   unfold lexF
   by_cases jd:k=s.size
   ·have HE:Hid (LexR s scr (.ok ts)):=zwp (J6.out s.size (by rw[jd];exact .done)) rfl
    have q:((k:Int)==(s.size:Int))=true:=beq_iff_eq.2 (by omega)
    clear jd
    go_wp2
    simp only[Leaves]
    go_ret2
    exact⟨⟨_,HE.out,g,n,cap,rfl,O0⟩,K6⟩
   ·have F0:k<s.size:=by omega
    have q:((k:Int)==(s.size:Int))=false:=beq_eq_false_iff_ne.2 (by omega)
    clear jd
    cases La:zpj (bt s k) with
    |true=>
     have HX:Hid (∀b,Skip s (k+1) b→∀r,Lx s scr b n r→LexR s scr (r.map (ts++ ·))):=fun b hb=>J6.out b (.blank F0 (of_decide_eq_true La) hb)
     go_wp2_with f0
     refine (zhg _ _ I5 P0).mono ?_
     rintro ev w1 ⟨rfl,rfl⟩
     obtain⟨k1,ek1⟩: ∃k1:Nat,(k:Int)+1=k1:=⟨k+1,by omega⟩
     go_wp2
     go_step3
     obtain rfl:k1=k+1:=by omega
     refine⟨⟨k+1,e,n,g,cap,_,_,_,_,ts,zfm (rfl),by omega,hn,hg,O0,Gb,K6,HX.out⟩,by simp only[zhm,zfn];simp[intOf]<;>omega⟩
    |false=>
     have Pc:Hid (Lib.hasPrefix (s.extract k s.size).data.toList [47,47]=zsu s k):=zbjt s k
     cases Ia:zsu s k with
     |true=>
      go_wp2_with f0
      refine (zhg _ _ I5 P0).mono ?_
      rintro ev w1 ⟨rfl,rfl⟩
      go_wp2_with f0
      refine (Tryz.strings_HasPrefix _ _ _).mono ?_
      rintro ev w1 ⟨rfl,rfl⟩
      rw[Pc.out]
      rw[Ia]
      go_wp2_with f0
      refine (ztu _ _ _ hk hs).mono ?_
      rintro ev w1 ⟨c,rfl,hc,rfl⟩
      have HX:Hid (∀b,Skip s c b→∀r,Lx s scr b n r→LexR s scr (r.map (ts++ ·))):=fun b hb=>J6.out b (.comment F0 (of_decide_eq_true Ia) hc hb)
      have Q7:=zbee F0 (of_decide_eq_true Ia) hc
      have u7:=hc.2.1
      clear hc
      go_wp2
      go_step3
      refine⟨⟨c,e,n,g,cap,_,_,_,_,ts,zfm (rfl),u7,hn,hg,O0,Gb,K6,HX.out⟩,by simp only[zhm,zfn];simp[intOf]<;>omega⟩
     |false=>
      have Z8:Hid (∀r,Lx s scr k n r→LexR s scr (r.map (ts++ ·))):=J6.out k (.stop F0 (of_decide_eq_false La) (of_decide_eq_false Ia))
      cases hd:digB (bt s k) with
      |true=>
       go_wp2_with f0
       refine (zhg _ _ I5 P0).mono ?_
       rintro ev w1 ⟨rfl,rfl⟩
       go_wp2_with f0
       refine (Tryz.strings_HasPrefix _ _ _).mono ?_
       rintro ev w1 ⟨rfl,rfl⟩
       rw[Pc.out]
       rw[Ia]
       go_wp2_with f0
       refine (zck _ _ I5 P0).mono ?_
       rintro ev w1 ⟨rfl,rfl⟩
       go_wp2
       go_step3
       refine⟨⟨k,e,n,g,cap,_,_,_,_,ts,zfm (rfl),hk,hn,hg,O0,Gb,K6,⟨F0,Z8.out,hd⟩⟩,by simp only[zhm,zfn];simp[intOf]<;>omega⟩
      |false=>
       cases hw:worB scr (bt s k) with
       |true=>
        have HL:Hid (letB (bt s k) scr=true):=by show _=_;simp[worB,hd] at hw;exact hw
        go_wp2_with f0
        refine (zhg _ _ I5 P0).mono ?_
        rintro ev w1 ⟨rfl,rfl⟩
        go_wp2_with f0
        refine (Tryz.strings_HasPrefix _ _ _).mono ?_
        rintro ev w1 ⟨rfl,rfl⟩
        rw[Pc.out]
        rw[Ia]
        go_wp2_with f0
        refine (zck _ _ I5 P0).mono ?_
        rintro ev w1 ⟨rfl,rfl⟩
        go_wp2_with f0
        refine (zfz _ _ _ I5 P0).mono ?_
        rintro ev w1 ⟨rfl,rfl⟩
        go_wp2
        go_step3
        refine⟨⟨k,e,n,g,cap,_,_,_,_,ts,zfm (rfl),hk,hn,hg,O0,Gb,K6,⟨F0,Z8.out,HL.out⟩⟩,by simp only[zhm,zfn];simp[intOf]<;>omega⟩
       |false=>
        by_cases j7:bt s k=34
        ·have H34:Hid (bt s k=34):=j7
         have q34:(bt s k==34)=true:=beq_iff_eq.2 j7
         clear j7
         go_wp2_with f0
         refine (zhg _ _ I5 P0).mono ?_
         rintro ev w1 ⟨rfl,rfl⟩
         go_wp2_with f0
         refine (Tryz.strings_HasPrefix _ _ _).mono ?_
         rintro ev w1 ⟨rfl,rfl⟩
         rw[Pc.out]
         rw[Ia]
         go_wp2_with f0
         refine (zck _ _ I5 P0).mono ?_
         rintro ev w1 ⟨rfl,rfl⟩
         go_wp2_with f0
         refine (zfz _ _ _ I5 P0).mono ?_
         rintro ev w1 ⟨rfl,rfl⟩
         go_wp2
         go_step3
         refine⟨⟨k,e,n,g,cap,_,_,_,_,ts,zfm (rfl),hk,hn,hg,O0,Gb,K6,⟨F0,Z8.out,H34.out⟩⟩,by simp only[zhm,zfn];simp[intOf]<;>omega⟩
        ·have q34:(bt s k==34)=false:=beq_eq_false_iff_ne.2 j7
         cases ad:sgnB (bt s k) with
         |true=>
          clear j7
          go_wp2_with f0
          refine (zhg _ _ I5 P0).mono ?_
          rintro ev w1 ⟨rfl,rfl⟩
          go_wp2_with f0
          refine (Tryz.strings_HasPrefix _ _ _).mono ?_
          rintro ev w1 ⟨rfl,rfl⟩
          rw[Pc.out]
          rw[Ia]
          go_wp2_with f0
          refine (zck _ _ I5 P0).mono ?_
          rintro ev w1 ⟨rfl,rfl⟩
          go_wp2_with f0
          refine (zfz _ _ _ I5 P0).mono ?_
          rintro ev w1 ⟨rfl,rfl⟩
          go_wp2_with f0
          refine (zva _ _ I5 P0).mono ?_
          rintro ev w1 ⟨rfl,rfl⟩
          go_wp2
          go_step3
          refine⟨⟨k,e,n,g,cap,_,_,_,_,ts,zfm (rfl),hk,hn,hg,O0,Gb,K6,⟨F0,Z8.out,of_decide_eq_true ad⟩⟩,by simp only[zhm,zfn];simp[intOf]<;>omega⟩
         |false=>
          have HE:Hid (LexR s scr (.error k)):=zkn Z8.out F0 (.inr (zbfe (by simp[worB,hd] at hw;exact hw) hd j7 (of_decide_eq_false ad)))
          clear j7
          go_wp2_with f0
          refine (zhg _ _ I5 P0).mono ?_
          rintro ev w1 ⟨rfl,rfl⟩
          go_wp2_with f0
          refine (Tryz.strings_HasPrefix _ _ _).mono ?_
          rintro ev w1 ⟨rfl,rfl⟩
          rw[Pc.out]
          rw[Ia]
          go_wp2_with f0
          refine (zck _ _ I5 P0).mono ?_
          rintro ev w1 ⟨rfl,rfl⟩
          go_wp2_with f0
          refine (zfz _ _ _ I5 P0).mono ?_
          rintro ev w1 ⟨rfl,rfl⟩
          go_wp2_with f0
          refine (zva _ _ I5 P0).mono ?_
          rintro ev w1 ⟨rfl,rfl⟩
          go_wp2
          simp only[Leaves]
          go_ret2
          exact⟨⟨_,HE.out,rfl⟩,K6⟩
  ·obtain⟨F0,xa,I9⟩:=U1
   have Z8:Hid (∀r,Lx s scr k n r→LexR s scr (r.map (ts++ ·))):=xa
   have HW:Hid (digB (bt s k)=true):=I9
   clear xa I9
   clear IH
   refine⟨_,rfl,?_⟩
   unfold lexF
   go_wp2_with f0
   refine (zsv _ _ scr _ F0 HW.out hs).mono ?_
   rintro ev w1 ⟨v,z,rfl,Id,K8⟩
   have oa:=Gb.later K8
   obtain⟨Vd,Q7,u7,Ca,Ua,wa,ka,lf⟩:=oa.cells
   have Oa:=K6.trans (K8.mono Y0)
   have X9:=zdm O0 K8
   rcases Id with ⟨⟨ke,ie,fe,Kc⟩,m,rfl,rfl,ht⟩|⟨rfl,⟨c1,c2,c3,c4,rfl⟩,Ka⟩
   ·have HT:Hid (Tok s scr k ⟨ke,ie,fe,Kc⟩ m):=ht
    clear ht
    simp only[tkV]
    go_wp2
    go_step3
    refine⟨⟨k,m,n,g,cap,_,_,_,_,ts,zfm (rfl),hk,hn,hg,ziw X9 hg _ _ _ _,oa.put,zic Oa (Nat.le_succ _) _ _ _ _,⟨F0,Z8.out,.inl ⟨⟨ke,ie,fe,Kc⟩,rfl,rfl,rfl,rfl,HT.out⟩⟩⟩,by simp only[zhm,zfn];simp[intOf]<;>omega⟩
   ·have Zc:Hid (∀t m,¬Tok s scr k t m):=Ka
    clear Ka
    go_wp2
    go_step3
    refine⟨⟨k,k,n,g,cap,_,_,_,_,ts,zfm (rfl),hk,hn,hg,ziw X9 hg _ _ _ _,oa.put,zic Oa (Nat.le_succ _) _ _ _ _,⟨F0,Z8.out,.inr ⟨rfl,Zc.out⟩⟩⟩,by simp only[zhm,zfn];simp[intOf]<;>omega⟩
  ·obtain⟨F0,xa,I9⟩:=U1
   have Z8:Hid (∀r,Lx s scr k n r→LexR s scr (r.map (ts++ ·))):=xa
   have HW:Hid (letB (bt s k) scr=true):=I9
   clear xa I9
   clear IH
   refine⟨_,rfl,?_⟩
   unfold lexF
   go_wp2_with f0
   refine (zqn _ _ _ _ hk hs).mono ?_
   rintro ev w0 ⟨m,rfl,hr,rfl⟩
   have HT:Hid (Tok s scr k ⟨1,s.extract k m,0,k⟩ m):=.name HW.out hr
   have Q0:=hr.1
   have M0:=hr.2.1
   clear hr
   go_wp2_with f0
   refine (zob _ _ (by rw[zib _ _ _ M0];omega)).mono ?_
   rintro ev w1 ⟨rfl,K8⟩
   have oa:=Gb.later K8
   obtain⟨Vd,Q7,u7,Ca,Ua,wa,ka,lf⟩:=oa.cells
   have Oa:=K6.trans (K8.mono Y0)
   have X9:=zdm O0 K8
   go_wp2
   go_step3
   refine⟨⟨k,m,n,g,cap,_,_,_,_,ts,zfm (rfl),hk,hn,hg,ziw X9 hg _ _ _ _,oa.put,zic Oa (Nat.le_succ _) _ _ _ _,⟨F0,Z8.out,.inl ⟨⟨1,s.extract k m,0,k⟩,rfl,rfl,rfl,rfl,HT.out⟩⟩⟩,by simp only[zhm,zfn];simp[intOf]<;>omega⟩
  ·obtain⟨F0,xa,I9⟩:=U1
   have Z8:Hid (∀r,Lx s scr k n r→LexR s scr (r.map (ts++ ·))):=xa
   have HW:Hid (bt s k=34):=I9
   clear xa I9
   clear IH
   refine⟨_,rfl,?_⟩
   unfold lexF
   go_wp2_with f0
   refine (zsw _ _ scr _ F0 HW.out hs).mono ?_
   rintro ev w1 ⟨v,z,rfl,Id,K8⟩
   have oa:=Gb.later K8
   obtain⟨Vd,Q7,u7,Ca,Ua,wa,ka,lf⟩:=oa.cells
   have Oa:=K6.trans (K8.mono Y0)
   have X9:=zdm O0 K8
   rcases Id with ⟨⟨ke,ie,fe,Kc⟩,m,rfl,rfl,ht⟩|⟨rfl,⟨c1,c2,c3,c4,rfl⟩,Ka⟩
   ·have HT:Hid (Tok s scr k ⟨ke,ie,fe,Kc⟩ m):=ht
    clear ht
    simp only[tkV]
    go_wp2
    go_step3
    refine⟨⟨k,m,n,g,cap,_,_,_,_,ts,zfm (rfl),hk,hn,hg,ziw X9 hg _ _ _ _,oa.put,zic Oa (Nat.le_succ _) _ _ _ _,⟨F0,Z8.out,.inl ⟨⟨ke,ie,fe,Kc⟩,rfl,rfl,rfl,rfl,HT.out⟩⟩⟩,by simp only[zhm,zfn];simp[intOf]<;>omega⟩
   ·have Zc:Hid (∀t m,¬Tok s scr k t m):=Ka
    clear Ka
    go_wp2
    go_step3
    refine⟨⟨k,k,n,g,cap,_,_,_,_,ts,zfm (rfl),hk,hn,hg,ziw X9 hg _ _ _ _,oa.put,zic Oa (Nat.le_succ _) _ _ _ _,⟨F0,Z8.out,.inr ⟨rfl,Zc.out⟩⟩⟩,by simp only[zhm,zfn];simp[intOf]<;>omega⟩
  ·obtain⟨F0,xa,I9⟩:=U1
   have Z8:Hid (∀r,Lx s scr k n r→LexR s scr (r.map (ts++ ·))):=xa
   have HW:Hid (Sign (bt s k)):=I9
   clear xa I9
   have HIH:Hid _:=IH
   clear IH
   refine⟨_,rfl,?_⟩
   unfold lexF
   obtain⟨k1,P6⟩: ∃k1:Nat,k1=k+1:=⟨_,rfl⟩
   have ek1:(k:Int)+1=k1:=by omega
   have E7:Hid (k1=k+1):=P6
   have hx1:k≤k1:=by omega
   have hx2:k1≤s.size:=by omega
   clear P6
   go_wp2_with f0
   refine (zob _ _ (by rw[zib _ _ _ hx2];omega)).mono ?_
   rintro ev w1 ⟨rfl,K8⟩
   have oa:=Gb.later K8
   obtain⟨Vd,Q7,u7,Ca,Ua,wa,ka,lf⟩:=oa.cells
   have Oa:=K6.trans (K8.mono Y0)
   have X9:=zdm O0 K8
   go_wp2
   go_step3
   rename_i K hK
   refine hK _ _ (HIH.out 5 _ _ _ rfl ?_ ?_)
   ·exact⟨k,k1,n,g,cap,_,_,_,_,ts,zfm rfl,hk,hn,hg,ziw X9 hg _ _ _ _,oa.put,zic Oa (Nat.le_succ _) _ _ _ _,⟨F0,Z8.out,.inl ⟨⟨4,s.extract k k1,0,k⟩,rfl,rfl,rfl,rfl,by rw[E7.out];exact .sign HW.out⟩⟩⟩
   ·simp only[zhm,zfn,lexF];simp[intOf]
  ·obtain⟨F0,xa,I9⟩:=U1
   have Z8:Hid (∀r,Lx s scr k n r→LexR s scr (r.map (ts++ ·))):=xa
   clear xa IH
   obtain⟨Vd,Q7,u7,Ca,Ua,wa,ka,lf⟩:=Gb.cells
   have Vb:=Gb.lt
   refine⟨_,rfl,?_⟩
   unfold lexF
   rcases I9 with ⟨⟨ke,ie,fe,Kc⟩,rfl,rfl,rfl,rfl,ht⟩|⟨rfl,Ka⟩
   ·have Q0:=(zlh F0 ht).1
    have M0:=(zlh F0 ht).2.1
    have HT:Hid (Tok s scr k ⟨kd,tx,nm,Kc⟩ e):=ht
    clear ht
    have q1:((e:Int)==(k:Int))=false:=beq_eq_false_iff_ne.2 (by omega)
    by_cases o6:n=4000
    ·have HE:Hid (LexR s scr (.error k)):=zkn Z8.out F0 (.inl (by omega))
     have q2:((n:Int)==4000)=true:=beq_iff_eq.2 (by omega)
     clear o6
     go_wp2
     simp only[Leaves]
     go_ret2
     exact⟨⟨_,HE.out,rfl⟩,K6⟩
    ·have HX:Hid (∀b,Skip s e b→∀r,Lx s scr b (n+1) r→LexR s scr (r.map ((ts++[⟨kd,tx,nm,Kc⟩])++ ·))):=fun b hb=>zwq Z8.out F0 (by omega) HT.out hb
     have q2:((n:Int)==4000)=false:=beq_eq_false_iff_ne.2 (by omega)
     have Y2:n+1≤4000:=by omega
     clear o6
     go_wp2_with (first|(at_builtin;refine zbel wr rfl _ _ 58 rfl w.heap.size 62 i0 _ Tryz.underlying58 hi Q4 V4 N4 rfl g n cap ts (by rfl) O0 ⟨kd,tx,nm,Kc⟩ wr.heap.size rfl (by rfl) (by omega) Y0 ?_))
     intro g2 Hf w2 De J0 U8 Yf
     have G9:g2≠w.heap.size+1:=by omega
     go_wp2
     go_step3
     refine⟨⟨e,e,n+1,g2,Hf,_,_,_,_,_,zfm (rfl),M0,Y2,G9,De,((Yf _ Vb (Ne.symm hg)).trans Gb),K6.trans J0,HX.out⟩,by simp only[zhm,zfn];simp[intOf]<;>omega⟩
   ·have HE:Hid (LexR s scr (.error e)):=zkn Z8.out F0 (.inr Ka)
    have q1:((e:Int)==(e:Int))=true:=beq_iff_eq.2 rfl
    clear Ka
    go_wp2
    simp only[Leaves]
    go_ret2
    exact⟨⟨_,HE.out,rfl⟩,K6⟩
  ·match l,hl6,U1 with
   |l+6,_,U1=>exact U1.elim
 ·intro Mb
  go_wp2
  go_step3
  rename_i K hK
  refine hK _ _ (Mb 0 _ _ _ rfl ?_)
  have hbE:=((Below.refl w.heap.size w).alloc (Nat.le_refl _) (.cells #[] 62)).alloc (by rw[ze];omega) (.cells #[.int .i64 0,.string {data:=#[]},.int .i64 0,.int .i64 0] 62)
  have hT:TC ((w.alloc (.cells #[] 62)).alloc (.cells #[.int .i64 0,.string {data:=#[]},.int .i64 0,.int .i64 0] 62)) (w.heap.size+1) 0 {data:=#[]} 0 0:=by
   have:=heap_alloc_new (w.alloc (.cells #[] 62)) (.cells #[.int .i64 0,.string {data:=#[]},.int .i64 0,.int .i64 0] 62)
   rw[ze] at this
   exact this
  exact⟨0,0,0,w.heap.size,0,_,_,_,_,[],zfm rfl,Nat.zero_le _,by omega,by omega,zdm (zqy w _ _ (Nat.le_refl _)) ((Below.refl _ _).alloc (Nat.le_refl _) _),hT,hbE,fun b hb r hr=>⟨b,hb,by cases r<;>L0 [Except.map] using hr⟩⟩
end Go.Proofs.YtmnemfookpjhiaaGreat