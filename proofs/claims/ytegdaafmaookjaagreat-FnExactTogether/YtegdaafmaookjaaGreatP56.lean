/- Facts. -/
import Derived.Test.YtegdaafmaookjaaGreatP54
import Derived.Test.YtegdaafmaookjaaGreatP55
namespace Go.Proofs.YtegdaafmaookjaaGreat
open Go.Proofs.Tryz
set_option maxRecDepth 1000000
set_option maxHeartbeats 12800000
open Go.RowKit Go.PlainAid
def TC (w:World) (g:Nat) (k:Int) (x:BA0) (y u:Int):Prop:=w.heap[g]? =some (.cells #[.int .i64 k,.string x,.int .i64 y,.int .i64 u] 157 (0,0))
variable {w:World} {z:Int} {s:BA0} {g:Nat} {W:TypeId} {C:List Tk} {S:Act}
theorem TC.cells {g:Nat} {y u:Int} (h:TC w g z s y u):
  w.cell? ⟨g,0,none⟩=some (.int .i64 z)/\w.cell? ⟨g,1,none⟩=some (.string s)/\w.cell? ⟨g,2,none⟩=some (.int .i64 y)/\w.cell? ⟨g,3,none⟩=some (.int .i64 u)
  /\w.frozen? ⟨g,0,none⟩=false/\w.frozen? ⟨g,1,none⟩=false/\w.frozen? ⟨g,2,none⟩=false/\w.frozen? ⟨g,3,none⟩=false:=by
 unfold TC at h;simp[World.cell?,World.frozen?,h]
theorem TC.lt {g:Nat} {y u:Int} (h:TC w g z s y u):g<w.heap.size:=(aLt h)
theorem TC.later {w':World} {y u:Int} (h:TC w g z s y u) (q:Bw w w'):TC w' g z s y u:=(q.block g h.lt).trans h
theorem TC.put {y u A I H:Int} {q:BA0} (h:TC w g z s y u):
  TC ((((w.setCell ⟨g,0,none⟩ (.int .i64 A)).setCell ⟨g,1,none⟩ (.string q)).setCell ⟨g,2,none⟩ (.int .i64 I)).setCell ⟨g,3,none⟩ (.int .i64 H)) g A q I H:=znA h
theorem zhO {b n A M:Nat} (h:OwnT w g W b n A C) (I:b≠M) (i:Nat) (v:Value):OwnT (w.setCell ⟨M,i,none⟩ v) g W b n A C:=by
 refine⟨⟨h.1.1,?_⟩,h.2⟩;rcases h.1.2 with k|⟨U,L,H,K,q,O,N⟩
 ·exact .inl k
 ·simp only[vI,sI0,Addr.mk.injEq,and_true,true_and] at K;obtain⟨rfl,rfl⟩:=K;exact .inr ⟨b,A,H,rfl,q,(Below.heap_setCell _ _ _ _ I).trans O,N⟩
theorem zfE {b n A H:Nat} (h:OwnT w g W b n A C) (q:b≠H) (v0 v1 v2 v3:Value):OwnT ((((w.setCell ⟨H,0,none⟩ v0).setCell ⟨H,1,none⟩ v1).setCell ⟨H,2,none⟩ v2).setCell ⟨H,3,none⟩ v3) g W b n A C:=
 zhO (zhO (zhO (zhO h q _ _) q _ _) q _ _) q _ _
theorem zfF {W:World} {q:Nat} (h:Below g w W) (A:g<=q) (v0 v1 v2 v3:Value):Below g w ((((W.setCell ⟨q,0,none⟩ v0).setCell ⟨q,1,none⟩ v1).setCell ⟨q,2,none⟩ v2).setCell ⟨q,3,none⟩ v3):=
 (((h.setCell A _).setCell A _).setCell A _).setCell A _
theorem zwW {P:Program} (w:World) {N:Array Oper} {rest:List Oper} {o:Oper} {Q:Exit->Act->World->Prop} (O:o.guard=none) (s x:Operand) (t:TypeId) (ho:o.op= .call {callee:=.builtin .append,args:=#[s,x],argTypes:=#[t,t]}) (base:Nat) (e:TypeId) (i:TypeInfo) (z:Value) (ht:P.underlying t=some (.slice e)) (hi:P.info? e=some i) (hz:i.zero=some z) (J:i.size=4) (V:i.bytes=40) (X:z.cells.size=4) (g n M:Nat) (ts:List Tk) (hs:S.eval s= .slice (some ⟨g,0,none⟩) n M) (I:OwnT w base e g n M ts) (b:Tk) (gx:Nat) (Z:gx=w.heap.size) (hx:S.eval x= .slice (some ⟨gx,0,none⟩) 1 1) (hn:n+1<=1000000) (K:base<=w.heap.size) (h: ∀L H w',OwnT w' base e L (n+1) H (ts++[b])->Below base w w'->(L=g∨w.heap.size<=L)->(∀k,k<w.heap.size->k≠g->w'.heap[k]? =w.heap[k]?)->wpList P N Q rest (S.put o.dst (.slice (some ⟨L,0,none⟩) (n+1) H)) w'):
  wpList P N Q (o::rest) S (w.alloc (.cells #[.int .i64 b.kind,.string b.text,.int .i64 b.num,.int .i64 b.pos] e)):=by
 subst Z;refine wpList_append_own_at _ O s x t ho base e i z 4 40 ht hi hz J V X (by decide) _ n _ hs (I.1.alloc _) ⟨w.heap.size,0,none⟩ 1 1 (tkL b) hx rfl ?_ ?_ ?_ ?_ ?_ ?_
 ·intro j u A
  match j,A with
  |0,A=>simp[tkL] at A;subst A;simp[Addr.add]
  |1,A=>simp[tkL] at A;subst A;simp[Addr.add]
  |2,A=>simp[tkL] at A;subst A;simp[Addr.add]
  |3,A=>simp[tkL] at A;subst A;simp[Addr.add]
  |j+4,A=>simp[tkL] at A
 ·intro u hu;simp[tkL] at hu;rcases hu with rfl|rfl|rfl|rfl<;>rfl
 ·unfold maxLen;omega
 ·omega
 ·simp;omega
 ·intro v' w' h1 h2 h3 h4;have hb:Below base w w':=((Below.refl base w).alloc K _).grown h2 (by simp;omega) (ziz I.1);rcases h1.2 with ⟨hv,_⟩|⟨L,H,aa,rfl,Y⟩
  ·have:=(h3.1 hv).1;simp at this
  ·refine h L H w' ⟨?_,by rw[List.length_append];have:=I.2;simp;omega⟩ hb ?_ ?_
   ·rw[List.flatMap_append]
    simpa using h1
   ·rcases h4 with q|q
    ·left
     simpa [Value.ownBlock] using q
    ·right;have:L=w.heap.size+1:=by simpa [Value.ownBlock] using q
     omega
   ·intro k hk U;rw[h2.block k (by simp;omega) (by simpa [Value.ownBlock] using U),Below.heap_alloc _ _ _ hk]
def zwX (s:BA0) (scr:Bool) (k e n:Nat) (ts:List Tk) (kd:Int) (tx:BA0) (nm ps:Int):Nat->Prop
 |0=>∀b,Skip s k b->∀r,Lx s scr b n r->zap s scr (r.map (ts++ ·))
 |1=>k<s.size/\(∀r,Lx s scr k n r->zap s scr (r.map (ts++ ·)))/\zQ (bt s k)=true
 |2=>k<s.size/\(∀r,Lx s scr k n r->zap s scr (r.map (ts++ ·)))/\zaA (bt s k) scr=true
 |3=>k<s.size/\(∀r,Lx s scr k n r->zap s scr (r.map (ts++ ·)))/\bt s k=34
 |4=>k<s.size/\(∀r,Lx s scr k n r->zap s scr (r.map (ts++ ·)))/\zbz (bt s k)
 |5=>k<s.size/\(∀r,Lx s scr k n r->zap s scr (r.map (ts++ ·)))/\((∃t:Tk,kd=t.kind/\tx=t.text/\nm=t.num/\ps=t.pos/\Tok s scr k t e)∨(e=k/\∀t m,¬Tok s scr k t m))
 |_=>False
def zdL (s:BA0) (scr:Bool) (gt k e n g cap:Nat) (us:Nat->Value):Act:={tmps:=#[.string s,.bool scr,undef,undef,.slice none 0 0,.int .i64 0,.slice (some ⟨g,0,none⟩) n cap,.pointer (some ⟨gt,0,none⟩),.int .i64 k,.int .i64 e,us 10,us 11,us 12,us 13,us 14,us 15,us 16,us 17,us 18,us 19,us 20,us 21,us 22,us 23,us 24,us 25,us 26,us 27,us 28,us 29,us 30,us 31,us 32,us 33,us 34,us 35,us 36,us 37,us 38,us 39,us 40,us 41,us 42,us 43,us 44,us 45,us 46,us 47,us 48,us 49,us 50,us 51,us 52,us 53,us 54,us 55,us 56,us 57,us 58,us 59,us 60,us 61,us 62,us 63,us 64,us 65,us 66,us 67,us 68,us 69,us 70,us 71,us 72,us 73,us 74,us 75,us 76,us 77,us 78,us 79,us 80,us 81,us 82,us 83,us 84,us 85,us 86,us 87,us 88,us 89,us 90,us 91,us 92,us 93,us 94,us 95,us 96,us 97,us 98,us 99,us 100,us 101],defers:=[]}
theorem zc9 {w:Bool} {k e n b q:Nat} (h:S=zdL s w g k e n b q (fun i=>S.tmps.getD i undef)): ∃H,S=zdL s w g k e n b q H:=⟨_,h⟩
def zwY (s:BA0) (scr:Bool) (w:World) (l:Nat) (a:Act) (wr:World):Prop:=
 ∃(k e n g cap:Nat) (kd:Int) (tx:BA0) (nm ps:Int) (ts:List Tk),(∃us,a=zdL s scr (w.heap.size+1) k e n g cap us)
  /\k<=s.size/\n<=4000/\g≠w.heap.size+1/\OwnT wr w.heap.size 157 g n cap ts/\TC wr (w.heap.size+1) kd tx nm ps/\Bw w wr/\zwX s scr k e n ts kd tx nm ps l
def zcA:Nat->Nat
 |0=>2
 |5=>0
 |_=>1
def zcB (s:BA0) (l:Nat) (a:Act) (_:World):Nat:=3*((s.size:Int)-intOf (a.tmps.getD 8 undef)).toNat+zcA l
def zwZ (s:BA0) (scr:Bool) (w:World) (e:Ending) (w':World):Prop:=
 ∃r,zap s scr r/\match r with
  | .ok ts=>∃g n cap,e= .returned (.tuple #[.slice (some ⟨g,0,none⟩) n cap,.int .i64 (-1)])/\OwnT w' w.heap.size 157 g n cap ts
  | .error p=>e= .returned (.tuple #[.slice none 0 0,.int .i64 p])
theorem zxa (s:BA0) (h:Bool) (w:World) (hs:s.size<=4294967296):
  Calls prog 189 #[.string s,.bool h] w fun e w'=>zwZ s h w e w'/\Bw w w':=by
 obtain⟨i0,hi,aL,aW,aR⟩:=info_parts Tryz.infoTok;have hb:=get_bt s;go_enter func189,ntmps189;go_wp2;refine zwV (zwY s h w) (zcB s) ?_ ?_
 ·intro l a' wr hJ IH;obtain⟨k,e,n,g,Z,kd,tx,nm,ps,ts,⟨us,rfl⟩,hk,hn,hg,U,aa,I,ab⟩:=hJ;have al:=I.size;have V:=bt_nonneg s k;have X:=bt_le s k;obtain rfl|rfl|rfl|rfl|rfl|rfl|aT:l=0∨l=1∨l=2∨l=3∨l=4∨l=5∨6<=l:=by omega
  ·have ap:Hid (∀b,Skip s k b->∀r,Lx s h b n r->zap s h (r.map (ts++ ·))):=ab;clear ab IH;refine⟨_,rfl,?_⟩;unfold zdL;by_cases an:k=s.size
   ·have HE:Hid (zap s h (.ok ts)):=zkJ (ap.o s.size (by rw[an];exact .done)) rfl;have q:((k:Int)==(s.size:Int))=true:=beq_iff_eq.2 (by omega);clear an;go_wp2;simp only[Leaves];go_ret2;exact⟨⟨_,HE.o,g,n,Z,rfl,U⟩,I⟩
   ·have A:k<s.size:=by omega
    have q:((k:Int)==(s.size:Int))=false:=bN0 (by omega);clear an;cases aE:zg7 (bt s k) with
    |true=>
     have HX:Hid (∀b,Skip s (k+1) b->∀r,Lx s h b n r->zap s h (r.map (ts++ ·))):=fun b hb=>ap.o b (.blank A (of_decide_eq_true aE) hb);go_wp2_with fail;refine (zfc _ _ V X).mono ?_;rintro ev w1 ⟨rfl,rfl⟩;obtain⟨k1,aV⟩: ∃k1:Nat,(k:Int)+1=k1:=⟨k+1,by omega⟩;go_wp2;go_step3;obtain rfl:k1=k+1:=by omega
     refine⟨⟨k+1,e,n,g,Z,_,_,_,_,ts,zc9 (rfl),by omega,hn,hg,U,aa,I,HX.o⟩,by simp only[zcB,zcA];simp[intOf]<;>omega⟩
    |false=>
     have aj:Hid (Lib.hasPrefix (s.extract k s.size).data.toList [47,47]=zhM s k):=zwA s k;cases ac:zhM s k with
     |true=>
      go_wp2_with fail;refine (zfc _ _ V X).mono ?_;rintro ev w1 ⟨rfl,rfl⟩;go_wp2_with fail;refine (Tryz.strings_HasPrefix _ _ _).mono ?_;rintro ev w1 ⟨rfl,rfl⟩;rw[aj.o];rw[ac];go_wp2_with fail;refine (zwR _ _ _ hk hs).mono ?_;rintro ev w1 ⟨c,rfl,hc,rfl⟩;have HX:Hid (∀b,Skip s c b->∀r,Lx s h b n r->zap s h (r.map (ts++ ·))):=fun b hb=>ap.o b (.comment A (of_decide_eq_true ac) hc hb);have ao:=zw8 A (of_decide_eq_true ac) hc;have ai:=hc.2.1;clear hc;go_wp2;go_step3;refine⟨⟨c,e,n,g,Z,_,_,_,_,ts,zc9 (rfl),ai,hn,hg,U,aa,I,HX.o⟩,by simp only[zcB,zcA];simp[intOf]<;>omega⟩
     |false=>
      have N:Hid (∀r,Lx s h k n r->zap s h (r.map (ts++ ·))):=ap.o k (.stop A (of_decide_eq_false aE) (of_decide_eq_false ac));cases hd:zQ (bt s k) with
      |true=>
       go_wp2_with fail;refine (zfc _ _ V X).mono ?_;rintro ev w1 ⟨rfl,rfl⟩;go_wp2_with fail;refine (Tryz.strings_HasPrefix _ _ _).mono ?_;rintro ev w1 ⟨rfl,rfl⟩;rw[aj.o];rw[ac];go_wp2_with fail;refine (zcg _ _ V X).mono ?_;rintro ev w1 ⟨rfl,rfl⟩;go_wp2;go_step3;refine⟨⟨k,e,n,g,Z,_,_,_,_,ts,zc9 (rfl),hk,hn,hg,U,aa,I,⟨A,N.o,hd⟩⟩,by simp only[zcB,zcA];simp[intOf]<;>omega⟩
      |false=>
       cases hw:zT h (bt s k) with
       |true=>
        have HL:Hid (zaA (bt s k) h=true):=by show _=_;simp[zT,hd] at hw;exact hw
        go_wp2_with fail;refine (zfc _ _ V X).mono ?_;rintro ev w1 ⟨rfl,rfl⟩;go_wp2_with fail;refine (Tryz.strings_HasPrefix _ _ _).mono ?_;rintro ev w1 ⟨rfl,rfl⟩;rw[aj.o];rw[ac];go_wp2_with fail;refine (zcg _ _ V X).mono ?_;rintro ev w1 ⟨rfl,rfl⟩;go_wp2_with fail;refine (zfA _ _ _ V X).mono ?_;rintro ev w1 ⟨rfl,rfl⟩;go_wp2;go_step3;refine⟨⟨k,e,n,g,Z,_,_,_,_,ts,zc9 (rfl),hk,hn,hg,U,aa,I,⟨A,N.o,HL.o⟩⟩,by simp only[zcB,zcA];simp[intOf]<;>omega⟩
       |false=>
        by_cases af:bt s k=34
        ·have aU:Hid (bt s k=34):=af;have aP:(bt s k==34)=true:=beq_iff_eq.2 af;clear af;go_wp2_with fail;refine (zfc _ _ V X).mono ?_;rintro ev w1 ⟨rfl,rfl⟩;go_wp2_with fail;refine (Tryz.strings_HasPrefix _ _ _).mono ?_;rintro ev w1 ⟨rfl,rfl⟩;rw[aj.o];rw[ac];go_wp2_with fail;refine (zcg _ _ V X).mono ?_;rintro ev w1 ⟨rfl,rfl⟩;go_wp2_with fail;refine (zfA _ _ _ V X).mono ?_;rintro ev w1 ⟨rfl,rfl⟩;go_wp2;go_step3;refine⟨⟨k,e,n,g,Z,_,_,_,_,ts,zc9 (rfl),hk,hn,hg,U,aa,I,⟨A,N.o,aU.o⟩⟩,by simp only[zcB,zcA];simp[intOf]<;>omega⟩
        ·have aP:(bt s k==34)=false:=bN0 af;cases aD:zg8 (bt s k) with
         |true=>
          clear af;go_wp2_with fail;refine (zfc _ _ V X).mono ?_;rintro ev w1 ⟨rfl,rfl⟩;go_wp2_with fail;refine (Tryz.strings_HasPrefix _ _ _).mono ?_;rintro ev w1 ⟨rfl,rfl⟩;rw[aj.o];rw[ac];go_wp2_with fail;refine (zcg _ _ V X).mono ?_;rintro ev w1 ⟨rfl,rfl⟩;go_wp2_with fail;refine (zfA _ _ _ V X).mono ?_;rintro ev w1 ⟨rfl,rfl⟩;go_wp2_with fail;refine (zn6 _ _ V X).mono ?_;rintro ev w1 ⟨rfl,rfl⟩;go_wp2;go_step3;refine⟨⟨k,e,n,g,Z,_,_,_,_,ts,zc9 (rfl),hk,hn,hg,U,aa,I,⟨A,N.o,of_decide_eq_true aD⟩⟩,by simp only[zcB,zcA];simp[intOf]<;>omega⟩
         |false=>
          have HE:Hid (zap s h (.error k)):=zgd N.o A (.inr (zkI (by simp[zT,hd] at hw;exact hw) hd af (of_decide_eq_false aD)));clear af;go_wp2_with fail;refine (zfc _ _ V X).mono ?_;rintro ev w1 ⟨rfl,rfl⟩;go_wp2_with fail;refine (Tryz.strings_HasPrefix _ _ _).mono ?_;rintro ev w1 ⟨rfl,rfl⟩;rw[aj.o];rw[ac];go_wp2_with fail;refine (zcg _ _ V X).mono ?_;rintro ev w1 ⟨rfl,rfl⟩;go_wp2_with fail;refine (zfA _ _ _ V X).mono ?_;rintro ev w1 ⟨rfl,rfl⟩;go_wp2_with fail;refine (zn6 _ _ V X).mono ?_;rintro ev w1 ⟨rfl,rfl⟩;go_wp2;simp only[Leaves];go_ret2;exact⟨⟨_,HE.o,rfl⟩,I⟩
  ·obtain⟨A,Y,H⟩:=ab;have N:Hid (∀r,Lx s h k n r->zap s h (r.map (ts++ ·))):=Y;have HW:Hid (zQ (bt s k)=true):=H;clear Y H;clear IH;refine⟨_,rfl,?_⟩;unfold zdL;go_wp2_with fail;refine (zwS _ _ h _ A HW.o hs).mono ?_;rintro ev w1 ⟨v,z,rfl,am,J⟩;have L:=aa.later J;obtain⟨aw,ao,ai,av,ax,ay,au,aq⟩:=L.cells;have O:=I.trans (J.mono al);have M:=zcG U J;rcases am with ⟨⟨ak,ah,ag,ad⟩,m,rfl,rfl,ht⟩|⟨rfl,⟨c1,c2,c3,c4,rfl⟩,ae⟩
   ·have HT:Hid (Tok s h k ⟨ak,ah,ag,ad⟩ m):=ht;clear ht;simp only[tkV];go_wp2;go_step3;refine⟨⟨k,m,n,g,Z,_,_,_,_,ts,zc9 (rfl),hk,hn,hg,zfE M hg _ _ _ _,L.put,zfF O (Nat.le_succ _) _ _ _ _,⟨A,N.o,.inl ⟨⟨ak,ah,ag,ad⟩,rfl,rfl,rfl,rfl,HT.o⟩⟩⟩,by simp only[zcB,zcA];simp[intOf]<;>omega⟩
   ·have aB:Hid (∀t m,¬Tok s h k t m):=ae;clear ae;go_wp2;go_step3;refine⟨⟨k,k,n,g,Z,_,_,_,_,ts,zc9 (rfl),hk,hn,hg,zfE M hg _ _ _ _,L.put,zfF O (Nat.le_succ _) _ _ _ _,⟨A,N.o,.inr ⟨rfl,aB.o⟩⟩⟩,by simp only[zcB,zcA];simp[intOf]<;>omega⟩
  ·obtain⟨A,Y,H⟩:=ab;have N:Hid (∀r,Lx s h k n r->zap s h (r.map (ts++ ·))):=Y;have HW:Hid (zaA (bt s k) h=true):=H;clear Y H;clear IH;refine⟨_,rfl,?_⟩;unfold zdL;go_wp2_with fail;refine (zn7 _ _ _ _ hk hs).mono ?_;rintro ev w0 ⟨m,rfl,hr,rfl⟩;have HT:Hid (Tok s h k ⟨1,s.extract k m,0,k⟩ m):=.name HW.o hr;have aX:=hr.1;have aC:=hr.2.1;clear hr;go_wp2_with fail;refine (zj2 _ _ (by rw[zfD _ _ _ aC];omega)).mono ?_;rintro ev w1 ⟨rfl,J⟩;have L:=aa.later J;obtain⟨aw,ao,ai,av,ax,ay,au,aq⟩:=L.cells;have O:=I.trans (J.mono al);have M:=zcG U J;go_wp2;go_step3;refine⟨⟨k,m,n,g,Z,_,_,_,_,ts,zc9 (rfl),hk,hn,hg,zfE M hg _ _ _ _,L.put,zfF O (Nat.le_succ _) _ _ _ _,⟨A,N.o,.inl ⟨⟨1,s.extract k m,0,k⟩,rfl,rfl,rfl,rfl,HT.o⟩⟩⟩,by simp only[zcB,zcA];simp[intOf]<;>omega⟩
  ·obtain⟨A,Y,H⟩:=ab;have N:Hid (∀r,Lx s h k n r->zap s h (r.map (ts++ ·))):=Y;have HW:Hid (bt s k=34):=H;clear Y H;clear IH;refine⟨_,rfl,?_⟩;unfold zdL;go_wp2_with fail;refine (zwU _ _ h _ A HW.o hs).mono ?_;rintro ev w1 ⟨v,z,rfl,am,J⟩;have L:=aa.later J;obtain⟨aw,ao,ai,av,ax,ay,au,aq⟩:=L.cells;have O:=I.trans (J.mono al);have M:=zcG U J;rcases am with ⟨⟨ak,ah,ag,ad⟩,m,rfl,rfl,ht⟩|⟨rfl,⟨c1,c2,c3,c4,rfl⟩,ae⟩
   ·have HT:Hid (Tok s h k ⟨ak,ah,ag,ad⟩ m):=ht;clear ht;simp only[tkV];go_wp2;go_step3;refine⟨⟨k,m,n,g,Z,_,_,_,_,ts,zc9 (rfl),hk,hn,hg,zfE M hg _ _ _ _,L.put,zfF O (Nat.le_succ _) _ _ _ _,⟨A,N.o,.inl ⟨⟨ak,ah,ag,ad⟩,rfl,rfl,rfl,rfl,HT.o⟩⟩⟩,by simp only[zcB,zcA];simp[intOf]<;>omega⟩
   ·have aB:Hid (∀t m,¬Tok s h k t m):=ae;clear ae;go_wp2;go_step3;refine⟨⟨k,k,n,g,Z,_,_,_,_,ts,zc9 (rfl),hk,hn,hg,zfE M hg _ _ _ _,L.put,zfF O (Nat.le_succ _) _ _ _ _,⟨A,N.o,.inr ⟨rfl,aB.o⟩⟩⟩,by simp only[zcB,zcA];simp[intOf]<;>omega⟩
  ·obtain⟨A,Y,H⟩:=ab;have N:Hid (∀r,Lx s h k n r->zap s h (r.map (ts++ ·))):=Y;have HW:Hid (zbz (bt s k)):=H;clear Y H;have aK:Hid _:=IH;clear IH;refine⟨_,rfl,?_⟩;unfold zdL;obtain⟨k1,aG⟩: ∃k1:Nat,k1=k+1:=⟨_,rfl⟩;have aV:(k:Int)+1=k1:=by omega
   have aJ:Hid (k1=k+1):=aG;have aY:k<=k1:=by omega
   have aI:k1<=s.size:=by omega
   clear aG;go_wp2_with fail;refine (zj2 _ _ (by rw[zfD _ _ _ aI];omega)).mono ?_;rintro ev w1 ⟨rfl,J⟩;have L:=aa.later J;obtain⟨aw,ao,ai,av,ax,ay,au,aq⟩:=L.cells;have O:=I.trans (J.mono al);have M:=zcG U J;go_wp2;go_step3
   rename_i K hK
   refine hK _ _ (aK.o 5 _ _ _ rfl ?_ ?_)
   ·exact⟨k,k1,n,g,Z,_,_,_,_,ts,zc9 rfl,hk,hn,hg,zfE M hg _ _ _ _,L.put,zfF O (Nat.le_succ _) _ _ _ _,⟨A,N.o,.inl ⟨⟨4,s.extract k k1,0,k⟩,rfl,rfl,rfl,rfl,by rw[aJ.o];exact .sign HW.o⟩⟩⟩
   ·simp only[zcB,zcA,zdL];simp[intOf]
  ·obtain⟨A,Y,H⟩:=ab;have N:Hid (∀r,Lx s h k n r->zap s h (r.map (ts++ ·))):=Y;clear Y IH;obtain⟨aw,ao,ai,av,ax,ay,au,aq⟩:=aa.cells;have aQ:=aa.lt;refine⟨_,rfl,?_⟩;unfold zdL;rcases H with ⟨⟨ak,ah,ag,ad⟩,rfl,rfl,rfl,rfl,ht⟩|⟨rfl,ae⟩
   ·have aX:=(zfj A ht).1;have aC:=(zfj A ht).2.1;have HT:Hid (Tok s h k ⟨kd,tx,nm,ad⟩ e):=ht;clear ht;have q1:((e:Int)==(k:Int))=false:=bN0 (by omega);by_cases aF:n=4000
    ·have HE:Hid (zap s h (.error k)):=zgd N.o A (.inl (by omega));have q2:((n:Int)==4000)=true:=beq_iff_eq.2 (by omega);clear aF;go_wp2;simp only[Leaves];go_ret2;exact⟨⟨_,HE.o,rfl⟩,I⟩
    ·have HX:Hid (∀b,Skip s e b->∀r,Lx s h b (n+1) r->zap s h (r.map ((ts++[⟨kd,tx,nm,ad⟩])++ ·))):=fun b hb=>zkK N.o A (by omega) HT.o hb;have q2:((n:Int)==4000)=false:=bN0 (by omega);have aO:n+1<=4000:=by omega
     clear aF;go_wp2_with (first|(at_builtin;refine zwW wr rfl _ _ 123 rfl w.heap.size 157 i0 _ underlying123 hi aL aW aR rfl g n Z ts (by rfl) U ⟨kd,tx,nm,ad⟩ wr.heap.size rfl (by rfl) (by omega) al ?_));intro g2 aH w2 az aN aZ ar;have aM:g2≠w.heap.size+1:=by omega
     go_wp2;go_step3;refine⟨⟨e,e,n+1,g2,aH,_,_,_,_,_,zc9 (rfl),aC,aO,aM,az,((ar _ aQ (Ne.symm hg)).trans aa),I.trans aN,HX.o⟩,by simp only[zcB,zcA];simp[intOf]<;>omega⟩
   ·have HE:Hid (zap s h (.error e)):=zgd N.o A (.inr ae);have q1:((e:Int)==(e:Int))=true:=beq_iff_eq.2 rfl;clear ae;go_wp2;simp only[Leaves];go_ret2;exact⟨⟨_,HE.o,rfl⟩,I⟩
  ·match l,aT,ab with
   |l+6,_,ab=>exact ab.elim
 ·intro aA;go_wp2;go_step3
  rename_i K hK
  refine hK _ _ (aA 0 _ _ _ rfl ?_);have aS:=((Below.refl w.heap.size w).alloc (Nat.le_refl _) (.cells #[] 157)).alloc (by rw[zh];omega) (.cells #[.int .i64 0,.string {data:=#[]},.int .i64 0,.int .i64 0] 157);have hT:TC ((w.alloc (.cells #[] 157)).alloc (.cells #[.int .i64 0,.string {data:=#[]},.int .i64 0,.int .i64 0] 157)) (w.heap.size+1) 0 {data:=#[]} 0 0:=by
   have:=hN0 (w.alloc (.cells #[] 157)) (.cells #[.int .i64 0,.string {data:=#[]},.int .i64 0,.int .i64 0] 157);rw[zh] at this;exact this
  exact⟨0,0,0,w.heap.size,0,_,_,_,_,[],zc9 rfl,Nat.zero_le _,by omega,by omega,zcG (zi0 w _ _ (Nat.le_refl _)) (bA0),hT,aS,fun b hb r hr=>⟨b,hb,by cases r<;>simpa [Except.map] using hr⟩⟩
