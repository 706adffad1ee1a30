/- Facts and walks. -/
import Derived.Test.YtgcbmogmniahjaaGreatK37
import Derived.Test.YtgcbmogmniahjaaGreatK38
namespace Go.Proofs.YtgcbmogmniahjaaGreat
open Go.Proofs.Tryz
set_option maxRecDepth 1000000
set_option maxHeartbeats 12800000
open Go.RowKit Go.PlainAid
def TC (w:World) (g:Nat) (k:Int) (x:BA) (y u:Int):Prop:=w.heap[g]? =some (.cells #[.int .i64 k,.string x,.int .i64 y,.int .i64 u] 158 (0,0))
variable {w:World} {z:Int} {s:BA} {g:Nat} {W:TypeId} {C:List Tk} {S:Act}
theorem TC.cells {g:Nat} {y u:Int} (h:TC w g z s y u):
  w.cell? ⟨g,0,none⟩=some (.int .i64 z)/\w.cell? ⟨g,1,none⟩=some (.string s)/\w.cell? ⟨g,2,none⟩=some (.int .i64 y)/\w.cell? ⟨g,3,none⟩=some (.int .i64 u)
  /\w.frozen? ⟨g,0,none⟩=false/\w.frozen? ⟨g,1,none⟩=false/\w.frozen? ⟨g,2,none⟩=false/\w.frozen? ⟨g,3,none⟩=false:=by
 unfold TC at h;simp[World.cell?,World.frozen?,h]
theorem TC.lt {g:Nat} {y u:Int} (h:TC w g z s y u):g<w.heap.size:=(aLt h)
theorem TC.later {q:World} {y u:Int} (h:TC w g z s y u) (b:Bw w q):TC q g z s y u:=(b.block g h.lt).trans h
theorem TC.put {y u b D A:Int} {q:BA} (h:TC w g z s y u):
  TC ((((w.setCell ⟨g,0,none⟩ (.int .i64 b)).setCell ⟨g,1,none⟩ (.string q)).setCell ⟨g,2,none⟩ (.int .i64 D)).setCell ⟨g,3,none⟩ (.int .i64 A)) g b q D A:=zmD h
theorem zhi {b n z J:Nat} (h:OwnT w g W b n z C) (D:b≠J) (i:Nat) (v:Value):OwnT (w.setCell ⟨J,i,none⟩ v) g W b n z C:=by
 refine⟨⟨h.1.1,?_⟩,h.2⟩;rcases h.1.2 with k|⟨M,I,A,H,q,L,K⟩
 ·exact .inl k
 ·simp only[Value.slice.injEq,Option.some.injEq,Addr.mk.injEq,and_true,true_and] at H;obtain⟨rfl,rfl⟩:=H;exact .inr ⟨b,z,A,rfl,q,(Below.heap_setCell _ _ _ _ D).trans L,K⟩
theorem zfm {b n z A:Nat} (h:OwnT w g W b n z C) (q:b≠A) (v0 v1 v2 v3:Value):OwnT ((((w.setCell ⟨A,0,none⟩ v0).setCell ⟨A,1,none⟩ v1).setCell ⟨A,2,none⟩ v2).setCell ⟨A,3,none⟩ v3) g W b n z C:=
 zhi (zhi (zhi (zhi h q _ _) q _ _) q _ _) q _ _
theorem zfn {W:World} {q:Nat} (h:Below g w W) (z:g<=q) (v0 v1 v2 v3:Value):Below g w ((((W.setCell ⟨q,0,none⟩ v0).setCell ⟨q,1,none⟩ v1).setCell ⟨q,2,none⟩ v2).setCell ⟨q,3,none⟩ v3):=
 (((h.setCell z _).setCell z _).setCell z _).setCell z _
theorem zvo {P:Program} (w:World) {M:Array Oper} {rest:List Oper} {o:Oper} {Q:Exit->Act->World->Prop} (N:o.guard=none) (s x:Operand) (t:TypeId) (ho:o.op= .call {callee:=.builtin .append,args:=#[s,x],argTypes:=#[t,t]}) (base:Nat) (e:TypeId) (i:TypeInfo) (z:Value) (ht:P.underlying t=some (.slice e)) (hi:P.info? e=some i) (hz:i.zero=some z) (I:i.size=4) (U:i.bytes=40) (V:z.cells.size=4) (g n L:Nat) (ts:List Tk) (hs:S.eval s= .slice (some ⟨g,0,none⟩) n L) (E:OwnT w base e g n L ts) (b:Tk) (gx:Nat) (Y:gx=w.heap.size) (hx:S.eval x= .slice (some ⟨gx,0,none⟩) 1 1) (hn:n+1<=1000000) (J:base<=w.heap.size) (h: ∀K D H,OwnT H base e K (n+1) D (ts++[b])->Below base w H->(K=g∨w.heap.size<=K)->(∀k,k<w.heap.size->k≠g->H.heap[k]? =w.heap[k]?)->wpList P M Q rest (S.put o.dst (.slice (some ⟨K,0,none⟩) (n+1) D)) H):
  wpList P M Q (o::rest) S (w.alloc (.cells #[.int .i64 b.kind,.string b.text,.int .i64 b.num,.int .i64 b.pos] e)):=by
 subst Y;refine wpList_append_own_at _ N s x t ho base e i z 4 40 ht hi hz I U V (by decide) _ n _ hs (E.1.alloc _) ⟨w.heap.size,0,none⟩ 1 1 (tkL b) hx rfl ?_ ?_ ?_ ?_ ?_ ?_
 ·intro j u A
  match j,A with
  |0,A=>simp[tkL] at A;subst A;simp[Addr.add]
  |1,A=>simp[tkL] at A;subst A;simp[Addr.add]
  |2,A=>simp[tkL] at A;subst A;simp[Addr.add]
  |3,A=>simp[tkL] at A;subst A;simp[Addr.add]
  |j+4,A=>simp[tkL] at A
 ·intro u hu;simp[tkL] at hu;rcases hu with rfl|rfl|rfl|rfl<;>rfl
 ·unfold maxLen;omega
 ·omega
 ·simp;omega
 ·intro v' H h1 Z h3 h4;have hb:Below base w H:=((Below.refl base w).alloc J _).grown Z (by simp;omega) (zh8 E.1);rcases h1.2 with ⟨hv,_⟩|⟨K,D,aa,rfl,X⟩
  ·have:=(h3.1 hv).1;simp at this
  ·refine h K D H ⟨?_,by rw[List.length_append];have:=E.2;simp;omega⟩ hb ?_ ?_
   ·rw[List.flatMap_append]
    simpa using h1
   ·rcases h4 with q|q
    ·left
     simpa [Value.ownBlock] using q
    ·right;have:K=w.heap.size+1:=by simpa [Value.ownBlock] using q
     omega
   ·intro k hk O;rw[Z.block k (by simp;omega) (by simpa [Value.ownBlock] using O),Below.heap_alloc _ _ _ hk]
def zvp (s:BA) (scr:Bool) (k e n:Nat) (ts:List Tk) (kd:Int) (tx:BA) (nm ps:Int):Nat->Prop
 |0=>∀b,Skip s k b->∀r,Lx s scr b n r->zam s scr (r.map (ts++ ·))
 |1=>k<s.size/\(∀r,Lx s scr k n r->zam s scr (r.map (ts++ ·)))/\zL (bt s k)=true
 |2=>k<s.size/\(∀r,Lx s scr k n r->zam s scr (r.map (ts++ ·)))/\za5 (bt s k) scr=true
 |3=>k<s.size/\(∀r,Lx s scr k n r->zam s scr (r.map (ts++ ·)))/\bt s k=34
 |4=>k<s.size/\(∀r,Lx s scr k n r->zam s scr (r.map (ts++ ·)))/\zbr (bt s k)
 |5=>k<s.size/\(∀r,Lx s scr k n r->zam s scr (r.map (ts++ ·)))/\((∃t:Tk,kd=t.kind/\tx=t.text/\nm=t.num/\ps=t.pos/\Tok s scr k t e)∨(e=k/\∀t m,¬Tok s scr k t m))
 |_=>False
def zd4 (s:BA) (scr:Bool) (gt k e n g cap:Nat) (us:Nat->Value):Act:={tmps:=#[.string s,.bool scr,undef,undef,.slice none 0 0,.int .i64 0,.slice (some ⟨g,0,none⟩) n cap,.pointer (some ⟨gt,0,none⟩),.int .i64 k,.int .i64 e,us 10,us 11,us 12,us 13,us 14,us 15,us 16,us 17,us 18,us 19,us 20,us 21,us 22,us 23,us 24,us 25,us 26,us 27,us 28,us 29,us 30,us 31,us 32,us 33,us 34,us 35,us 36,us 37,us 38,us 39,us 40,us 41,us 42,us 43,us 44,us 45,us 46,us 47,us 48,us 49,us 50,us 51,us 52,us 53,us 54,us 55,us 56,us 57,us 58,us 59,us 60,us 61,us 62,us 63,us 64,us 65,us 66,us 67,us 68,us 69,us 70,us 71,us 72,us 73,us 74,us 75,us 76,us 77,us 78,us 79,us 80,us 81,us 82,us 83,us 84,us 85,us 86,us 87,us 88,us 89,us 90,us 91,us 92,us 93,us 94,us 95,us 96,us 97,us 98,us 99,us 100,us 101],defers:=[]}
theorem zcy {w:Bool} {k e n b q:Nat} (h:S=zd4 s w g k e n b q (fun i=>S.tmps.getD i undef)): ∃A,S=zd4 s w g k e n b q A:=⟨_,h⟩
def zvq (s:BA) (scr:Bool) (w:World) (l:Nat) (a:Act) (wr:World):Prop:=
 ∃(k e n g cap:Nat) (kd:Int) (tx:BA) (nm ps:Int) (ts:List Tk),(∃us,a=zd4 s scr (w.heap.size+1) k e n g cap us)
  /\k<=s.size/\n<=4000/\g≠w.heap.size+1/\OwnT wr w.heap.size 158 g n cap ts/\TC wr (w.heap.size+1) kd tx nm ps/\Bw w wr/\zvp s scr k e n ts kd tx nm ps l
def zcz:Nat->Nat
 |0=>2
 |5=>0
 |_=>1
def zc0 (s:BA) (l:Nat) (a:Act) (_:World):Nat:=3*((s.size:Int)-intOf (a.tmps.getD 8 undef)).toNat+zcz l
def zvr (s:BA) (scr:Bool) (w:World) (e:Ending) (w':World):Prop:=
 ∃r,zam s scr r/\match r with
  | .ok ts=>∃g n cap,e= .returned (.tuple #[.slice (some ⟨g,0,none⟩) n cap,.int .i64 (-1)])/\OwnT w' w.heap.size 158 g n cap ts
  | .error p=>e= .returned (.tuple #[.slice none 0 0,.int .i64 p])
theorem zvs (s:BA) (h:Bool) (w:World) (hs:s.size<=4294967296):
  Calls prog 167 #[.string s,.bool h] w fun e w'=>zvr s h w e w'/\Bw w w':=by
 obtain⟨i0,hi,aK,aV,aQ⟩:=info_parts Tryz.infoTok;have hb:=get_bt s;go_enter func167,ntmps167;go_wp2;refine zvn (zvq s h w) (zc0 s) ?_ ?_
 ·intro l a' wr hJ IH;obtain⟨k,e,n,g,X,kd,tx,nm,ps,ts,⟨us,rfl⟩,hk,hn,hg,N,Z,E,aa⟩:=hJ;have ak:=E.size;have O:=bt_nonneg s k;have U:=bt_le s k;obtain rfl|rfl|rfl|rfl|rfl|rfl|aS:l=0∨l=1∨l=2∨l=3∨l=4∨l=5∨6<=l:=by omega
  ·have ao:Hid (∀b,Skip s k b->∀r,Lx s h b n r->zam s h (r.map (ts++ ·))):=aa;clear aa IH;refine⟨_,rfl,?_⟩;unfold zd4;by_cases am:k=s.size
   ·have HE:Hid (zam s h (.ok ts)):=zjN (ao.o s.size (by rw[am];exact .done)) rfl;have q:((k:Int)==(s.size:Int))=true:=beq_iff_eq.2 (by omega);clear am;go_wp2;simp only[Leaves];go_ret2;exact⟨⟨_,HE.o,g,n,X,rfl,N⟩,E⟩
   ·have A:k<s.size:=by omega
    have q:((k:Int)==(s.size:Int))=false:=beq_eq_false_iff_ne.2 (by omega);clear am;cases aD:zgb (bt s k) with
    |true=>
     have HX:Hid (∀b,Skip s (k+1) b->∀r,Lx s h b n r->zam s h (r.map (ts++ ·))):=fun b hb=>ao.o b (.blank A (of_decide_eq_true aD) hb);go_wp2_with fail;refine (zeE _ _ O U).mono ?_;rintro ev Y ⟨rfl,rfl⟩;obtain⟨k1,aU⟩: ∃k1:Nat,(k:Int)+1=k1:=⟨k+1,by omega⟩;go_wp2;go_step3;obtain rfl:k1=k+1:=by omega
     refine⟨⟨k+1,e,n,g,X,_,_,_,_,ts,zcy (rfl),by omega,hn,hg,N,Z,E,HX.o⟩,by simp only[zc0,zcz];simp[intOf]<;>omega⟩
    |false=>
     have ai:Hid (Lib.hasPrefix (s.extract k s.size).data.toList [47,47]=zhg s k):=zuS s k;cases ab:zhg s k with
     |true=>
      go_wp2_with fail;refine (zeE _ _ O U).mono ?_;rintro ev Y ⟨rfl,rfl⟩;go_wp2_with fail;refine (Tryz.strings_HasPrefix _ _ _).mono ?_;rintro ev Y ⟨rfl,rfl⟩;rw[ai.o];rw[ab];go_wp2_with fail;refine (zvj _ _ _ hk hs).mono ?_;rintro ev Y ⟨c,rfl,hc,rfl⟩;have HX:Hid (∀b,Skip s c b->∀r,Lx s h b n r->zam s h (r.map (ts++ ·))):=fun b hb=>ao.o b (.comment A (of_decide_eq_true ab) hc hb);have an:=zuQ A (of_decide_eq_true ab) hc;have ah:=hc.2.1;clear hc;go_wp2;go_step3;refine⟨⟨c,e,n,g,X,_,_,_,_,ts,zcy (rfl),ah,hn,hg,N,Z,E,HX.o⟩,by simp only[zc0,zcz];simp[intOf]<;>omega⟩
     |false=>
      have L:Hid (∀r,Lx s h k n r->zam s h (r.map (ts++ ·))):=ao.o k (.stop A (of_decide_eq_false aD) (of_decide_eq_false ab));cases hd:zL (bt s k) with
      |true=>
       go_wp2_with fail;refine (zeE _ _ O U).mono ?_;rintro ev Y ⟨rfl,rfl⟩;go_wp2_with fail;refine (Tryz.strings_HasPrefix _ _ _).mono ?_;rintro ev Y ⟨rfl,rfl⟩;rw[ai.o];rw[ab];go_wp2_with fail;refine (zbY _ _ O U).mono ?_;rintro ev Y ⟨rfl,rfl⟩;go_wp2;go_step3;refine⟨⟨k,e,n,g,X,_,_,_,_,ts,zcy (rfl),hk,hn,hg,N,Z,E,⟨A,L.o,hd⟩⟩,by simp only[zc0,zcz];simp[intOf]<;>omega⟩
      |false=>
       cases hw:zN h (bt s k) with
       |true=>
        have HL:Hid (za5 (bt s k) h=true):=by show _=_;simp[zN,hd] at hw;exact hw
        go_wp2_with fail;refine (zeE _ _ O U).mono ?_;rintro ev Y ⟨rfl,rfl⟩;go_wp2_with fail;refine (Tryz.strings_HasPrefix _ _ _).mono ?_;rintro ev Y ⟨rfl,rfl⟩;rw[ai.o];rw[ab];go_wp2_with fail;refine (zbY _ _ O U).mono ?_;rintro ev Y ⟨rfl,rfl⟩;go_wp2_with fail;refine (zfi _ _ _ O U).mono ?_;rintro ev Y ⟨rfl,rfl⟩;go_wp2;go_step3;refine⟨⟨k,e,n,g,X,_,_,_,_,ts,zcy (rfl),hk,hn,hg,N,Z,E,⟨A,L.o,HL.o⟩⟩,by simp only[zc0,zcz];simp[intOf]<;>omega⟩
       |false=>
        by_cases ae:bt s k=34
        ·have aT:Hid (bt s k=34):=ae;have aO:(bt s k==34)=true:=beq_iff_eq.2 ae;clear ae;go_wp2_with fail;refine (zeE _ _ O U).mono ?_;rintro ev Y ⟨rfl,rfl⟩;go_wp2_with fail;refine (Tryz.strings_HasPrefix _ _ _).mono ?_;rintro ev Y ⟨rfl,rfl⟩;rw[ai.o];rw[ab];go_wp2_with fail;refine (zbY _ _ O U).mono ?_;rintro ev Y ⟨rfl,rfl⟩;go_wp2_with fail;refine (zfi _ _ _ O U).mono ?_;rintro ev Y ⟨rfl,rfl⟩;go_wp2;go_step3;refine⟨⟨k,e,n,g,X,_,_,_,_,ts,zcy (rfl),hk,hn,hg,N,Z,E,⟨A,L.o,aT.o⟩⟩,by simp only[zc0,zcz];simp[intOf]<;>omega⟩
        ·have aO:(bt s k==34)=false:=beq_eq_false_iff_ne.2 ae;cases aC:zgc (bt s k) with
         |true=>
          clear ae;go_wp2_with fail;refine (zeE _ _ O U).mono ?_;rintro ev Y ⟨rfl,rfl⟩;go_wp2_with fail;refine (Tryz.strings_HasPrefix _ _ _).mono ?_;rintro ev Y ⟨rfl,rfl⟩;rw[ai.o];rw[ab];go_wp2_with fail;refine (zbY _ _ O U).mono ?_;rintro ev Y ⟨rfl,rfl⟩;go_wp2_with fail;refine (zfi _ _ _ O U).mono ?_;rintro ev Y ⟨rfl,rfl⟩;go_wp2_with fail;refine (zm9 _ _ O U).mono ?_;rintro ev Y ⟨rfl,rfl⟩;go_wp2;go_step3;refine⟨⟨k,e,n,g,X,_,_,_,_,ts,zcy (rfl),hk,hn,hg,N,Z,E,⟨A,L.o,of_decide_eq_true aC⟩⟩,by simp only[zc0,zcz];simp[intOf]<;>omega⟩
         |false=>
          have HE:Hid (zam s h (.error k)):=zf7 L.o A (.inr (zjM (by simp[zN,hd] at hw;exact hw) hd ae (of_decide_eq_false aC)));clear ae;go_wp2_with fail;refine (zeE _ _ O U).mono ?_;rintro ev Y ⟨rfl,rfl⟩;go_wp2_with fail;refine (Tryz.strings_HasPrefix _ _ _).mono ?_;rintro ev Y ⟨rfl,rfl⟩;rw[ai.o];rw[ab];go_wp2_with fail;refine (zbY _ _ O U).mono ?_;rintro ev Y ⟨rfl,rfl⟩;go_wp2_with fail;refine (zfi _ _ _ O U).mono ?_;rintro ev Y ⟨rfl,rfl⟩;go_wp2_with fail;refine (zm9 _ _ O U).mono ?_;rintro ev Y ⟨rfl,rfl⟩;go_wp2;simp only[Leaves];go_ret2;exact⟨⟨_,HE.o,rfl⟩,E⟩
  ·obtain⟨A,V,D⟩:=aa;have L:Hid (∀r,Lx s h k n r->zam s h (r.map (ts++ ·))):=V;have HW:Hid (zL (bt s k)=true):=D;clear V D;clear IH;refine⟨_,rfl,?_⟩;unfold zd4;go_wp2_with fail;refine (zvk _ _ h _ A HW.o hs).mono ?_;rintro ev Y ⟨v,z,rfl,al,H⟩;have I:=Z.later H;obtain⟨av,an,ah,au,aw,ax,ar,ap⟩:=I.cells;have M:=E.trans (H.mono ak);have J:=zc3 N H;rcases al with ⟨⟨aj,ag,af,ac⟩,m,rfl,rfl,ht⟩|⟨rfl,⟨c1,c2,c3,c4,rfl⟩,ad⟩
   ·have HT:Hid (Tok s h k ⟨aj,ag,af,ac⟩ m):=ht;clear ht;simp only[tkV];go_wp2;go_step3;refine⟨⟨k,m,n,g,X,_,_,_,_,ts,zcy (rfl),hk,hn,hg,zfm J hg _ _ _ _,I.put,zfn M (Nat.le_succ _) _ _ _ _,⟨A,L.o,.inl ⟨⟨aj,ag,af,ac⟩,rfl,rfl,rfl,rfl,HT.o⟩⟩⟩,by simp only[zc0,zcz];simp[intOf]<;>omega⟩
   ·have aA:Hid (∀t m,¬Tok s h k t m):=ad;clear ad;go_wp2;go_step3;refine⟨⟨k,k,n,g,X,_,_,_,_,ts,zcy (rfl),hk,hn,hg,zfm J hg _ _ _ _,I.put,zfn M (Nat.le_succ _) _ _ _ _,⟨A,L.o,.inr ⟨rfl,aA.o⟩⟩⟩,by simp only[zc0,zcz];simp[intOf]<;>omega⟩
  ·obtain⟨A,V,D⟩:=aa;have L:Hid (∀r,Lx s h k n r->zam s h (r.map (ts++ ·))):=V;have HW:Hid (za5 (bt s k) h=true):=D;clear V D;clear IH;refine⟨_,rfl,?_⟩;unfold zd4;go_wp2_with fail;refine (zmA _ _ _ _ hk hs).mono ?_;rintro ev w0 ⟨m,rfl,hr,rfl⟩;have HT:Hid (Tok s h k ⟨1,s.extract k m,0,k⟩ m):=.name HW.o hr;have aW:=hr.1;have aB:=hr.2.1;clear hr;go_wp2_with fail;refine (ziE _ _ (by rw[zfl _ _ _ aB];omega)).mono ?_;rintro ev Y ⟨rfl,H⟩;have I:=Z.later H;obtain⟨av,an,ah,au,aw,ax,ar,ap⟩:=I.cells;have M:=E.trans (H.mono ak);have J:=zc3 N H;go_wp2;go_step3;refine⟨⟨k,m,n,g,X,_,_,_,_,ts,zcy (rfl),hk,hn,hg,zfm J hg _ _ _ _,I.put,zfn M (Nat.le_succ _) _ _ _ _,⟨A,L.o,.inl ⟨⟨1,s.extract k m,0,k⟩,rfl,rfl,rfl,rfl,HT.o⟩⟩⟩,by simp only[zc0,zcz];simp[intOf]<;>omega⟩
  ·obtain⟨A,V,D⟩:=aa;have L:Hid (∀r,Lx s h k n r->zam s h (r.map (ts++ ·))):=V;have HW:Hid (bt s k=34):=D;clear V D;clear IH;refine⟨_,rfl,?_⟩;unfold zd4;go_wp2_with fail;refine (zvm _ _ h _ A HW.o hs).mono ?_;rintro ev Y ⟨v,z,rfl,al,H⟩;have I:=Z.later H;obtain⟨av,an,ah,au,aw,ax,ar,ap⟩:=I.cells;have M:=E.trans (H.mono ak);have J:=zc3 N H;rcases al with ⟨⟨aj,ag,af,ac⟩,m,rfl,rfl,ht⟩|⟨rfl,⟨c1,c2,c3,c4,rfl⟩,ad⟩
   ·have HT:Hid (Tok s h k ⟨aj,ag,af,ac⟩ m):=ht;clear ht;simp only[tkV];go_wp2;go_step3;refine⟨⟨k,m,n,g,X,_,_,_,_,ts,zcy (rfl),hk,hn,hg,zfm J hg _ _ _ _,I.put,zfn M (Nat.le_succ _) _ _ _ _,⟨A,L.o,.inl ⟨⟨aj,ag,af,ac⟩,rfl,rfl,rfl,rfl,HT.o⟩⟩⟩,by simp only[zc0,zcz];simp[intOf]<;>omega⟩
   ·have aA:Hid (∀t m,¬Tok s h k t m):=ad;clear ad;go_wp2;go_step3;refine⟨⟨k,k,n,g,X,_,_,_,_,ts,zcy (rfl),hk,hn,hg,zfm J hg _ _ _ _,I.put,zfn M (Nat.le_succ _) _ _ _ _,⟨A,L.o,.inr ⟨rfl,aA.o⟩⟩⟩,by simp only[zc0,zcz];simp[intOf]<;>omega⟩
  ·obtain⟨A,V,D⟩:=aa;have L:Hid (∀r,Lx s h k n r->zam s h (r.map (ts++ ·))):=V;have HW:Hid (zbr (bt s k)):=D;clear V D;have aJ:Hid _:=IH;clear IH;refine⟨_,rfl,?_⟩;unfold zd4;obtain⟨k1,aF⟩: ∃k1:Nat,k1=k+1:=⟨_,rfl⟩;have aU:(k:Int)+1=k1:=by omega
   have aI:Hid (k1=k+1):=aF;have aX:k<=k1:=by omega
   have aH:k1<=s.size:=by omega
   clear aF;go_wp2_with fail;refine (ziE _ _ (by rw[zfl _ _ _ aH];omega)).mono ?_;rintro ev Y ⟨rfl,H⟩;have I:=Z.later H;obtain⟨av,an,ah,au,aw,ax,ar,ap⟩:=I.cells;have M:=E.trans (H.mono ak);have J:=zc3 N H;go_wp2;go_step3
   rename_i K hK
   refine hK _ _ (aJ.o 5 _ _ _ rfl ?_ ?_)
   ·exact⟨k,k1,n,g,X,_,_,_,_,ts,zcy rfl,hk,hn,hg,zfm J hg _ _ _ _,I.put,zfn M (Nat.le_succ _) _ _ _ _,⟨A,L.o,.inl ⟨⟨4,s.extract k k1,0,k⟩,rfl,rfl,rfl,rfl,by rw[aI.o];exact .sign HW.o⟩⟩⟩
   ·simp only[zc0,zcz,zd4];simp[intOf]
  ·obtain⟨A,V,D⟩:=aa;have L:Hid (∀r,Lx s h k n r->zam s h (r.map (ts++ ·))):=V;clear V IH;obtain⟨av,an,ah,au,aw,ax,ar,ap⟩:=Z.cells;have aP:=Z.lt;refine⟨_,rfl,?_⟩;unfold zd4;rcases D with ⟨⟨aj,ag,af,ac⟩,rfl,rfl,rfl,rfl,ht⟩|⟨rfl,ad⟩
   ·have aW:=(zeI A ht).1;have aB:=(zeI A ht).2.1;have HT:Hid (Tok s h k ⟨kd,tx,nm,ac⟩ e):=ht;clear ht;have q1:((e:Int)==(k:Int))=false:=beq_eq_false_iff_ne.2 (by omega);by_cases aE:n=4000
    ·have HE:Hid (zam s h (.error k)):=zf7 L.o A (.inl (by omega));have q2:((n:Int)==4000)=true:=beq_iff_eq.2 (by omega);clear aE;go_wp2;simp only[Leaves];go_ret2;exact⟨⟨_,HE.o,rfl⟩,E⟩
    ·have HX:Hid (∀b,Skip s e b->∀r,Lx s h b (n+1) r->zam s h (r.map ((ts++[⟨kd,tx,nm,ac⟩])++ ·))):=fun b hb=>zjO L.o A (by omega) HT.o hb;have q2:((n:Int)==4000)=false:=beq_eq_false_iff_ne.2 (by omega);have aN:n+1<=4000:=by omega
     clear aE;go_wp2_with (first|(at_builtin;refine zvo wr rfl _ _ 117 rfl w.heap.size 158 i0 _ underlying117 hi aK aV aQ rfl g n X ts (by rfl) N ⟨kd,tx,nm,ac⟩ wr.heap.size rfl (by rfl) (by omega) ak ?_));intro g2 aG w2 ay aM aY aq;have aL:g2≠w.heap.size+1:=by omega
     go_wp2;go_step3;refine⟨⟨e,e,n+1,g2,aG,_,_,_,_,_,zcy (rfl),aB,aN,aL,ay,((aq _ aP (Ne.symm hg)).trans Z),E.trans aM,HX.o⟩,by simp only[zc0,zcz];simp[intOf]<;>omega⟩
   ·have HE:Hid (zam s h (.error e)):=zf7 L.o A (.inr ad);have q1:((e:Int)==(e:Int))=true:=beq_iff_eq.2 rfl;clear ad;go_wp2;simp only[Leaves];go_ret2;exact⟨⟨_,HE.o,rfl⟩,E⟩
  ·match l,aS,aa with
   |l+6,_,aa=>exact aa.elim
 ·intro az;go_wp2;go_step3
  rename_i K hK
  refine hK _ _ (az 0 _ _ _ rfl ?_);have aR:=((Below.refl w.heap.size w).alloc (Nat.le_refl _) (.cells #[] 158)).alloc (by rw[zg];omega) (.cells #[.int .i64 0,.string {data:=#[]},.int .i64 0,.int .i64 0] 158);have hT:TC ((w.alloc (.cells #[] 158)).alloc (.cells #[.int .i64 0,.string {data:=#[]},.int .i64 0,.int .i64 0] 158)) (w.heap.size+1) 0 {data:=#[]} 0 0:=by
   have:=heap_alloc_new (w.alloc (.cells #[] 158)) (.cells #[.int .i64 0,.string {data:=#[]},.int .i64 0,.int .i64 0] 158);rw[zg] at this;exact this
  exact⟨0,0,0,w.heap.size,0,_,_,_,_,[],zcy rfl,Nat.zero_le _,by omega,by omega,zc3 (zh9 w _ _ (Nat.le_refl _)) (bA0),hT,aR,fun b hb r hr=>⟨b,hb,by cases r<;>simpa [Except.map] using hr⟩⟩
end Go.Proofs.YtgcbmogmniahjaaGreat
