/- Facts and walks that the theorem stands on. -/
import Derived.Test.YtgcbmogmniahjaaGreatA37
import Derived.Test.YtgcbmogmniahjaaGreatA38
namespace Go.Proofs.YtgcbmogmniahjaaGreat
open Go.Proofs.Tryz
set_option maxRecDepth 1000000
set_option maxHeartbeats 12800000
open Go.RowKit Go.PlainAid
def TC (w:World) (g:Nat) (k:Int) (x:BA) (y u:Int):Prop:=w.heap[g]? =some (.cells #[.int .i64 k,.string x,.int .i64 y,.int .i64 u] 158 (0,0))
theorem TC.cells {w:World} {g:Nat} {k y u:Int} {x:BA} (h:TC w g k x y u):
  w.cell? ⟨g,0,none⟩=some (.int .i64 k)/\w.cell? ⟨g,1,none⟩=some (.string x)/\w.cell? ⟨g,2,none⟩=some (.int .i64 y)/\w.cell? ⟨g,3,none⟩=some (.int .i64 u)
  /\w.frozen? ⟨g,0,none⟩=false/\w.frozen? ⟨g,1,none⟩=false/\w.frozen? ⟨g,2,none⟩=false/\w.frozen? ⟨g,3,none⟩=false:=by
 unfold TC at h;simp[World.cell?,World.frozen?,h]
theorem TC.lt {w:World} {g:Nat} {k y u:Int} {x:BA} (h:TC w g k x y u):g<w.heap.size:=(aLt h)
theorem TC.later {w w':World} {g:Nat} {k y u:Int} {x:BA} (h:TC w g k x y u) (q:Below w.heap.size w w'):TC w' g k x y u:=(q.block g h.lt).trans h
theorem TC.put {w:World} {g:Nat} {k y u z H A:Int} {x q:BA} (h:TC w g k x y u):
  TC ((((w.setCell ⟨g,0,none⟩ (.int .i64 z)).setCell ⟨g,1,none⟩ (.string q)).setCell ⟨g,2,none⟩ (.int .i64 H)).setCell ⟨g,3,none⟩ (.int .i64 A)) g z q H A:=zmy h
theorem zgY {w:World} {base g n z L:Nat} {e:TypeId} {I:List Tk} (h:OwnT w base e g n z I) (H:g≠L) (i:Nat) (v:Value):OwnT (w.setCell ⟨L,i,none⟩ v) base e g n z I:=by
 refine⟨⟨h.1.1,?_⟩,h.2⟩;rcases h.1.2 with k|⟨O,K,A,J,q,N,M⟩
 ·exact .inl k
 ·simp only[Value.slice.injEq,Option.some.injEq,Addr.mk.injEq,and_true,true_and] at J;obtain⟨rfl,rfl⟩:=J;exact .inr ⟨g,z,A,rfl,q,(Below.heap_setCell _ _ _ _ H).trans N,M⟩
theorem zfc {w:World} {base g n z A:Nat} {e:TypeId} {H:List Tk} (h:OwnT w base e g n z H) (q:g≠A) (v0 v1 v2 v3:Value):OwnT ((((w.setCell ⟨A,0,none⟩ v0).setCell ⟨A,1,none⟩ v1).setCell ⟨A,2,none⟩ v2).setCell ⟨A,3,none⟩ v3) base e g n z H:=
 zgY (zgY (zgY (zgY h q _ _) q _ _) q _ _) q _ _
theorem zfd {w W:World} {B q:Nat} (h:Below B w W) (z:B<=q) (v0 v1 v2 v3:Value):Below B w ((((W.setCell ⟨q,0,none⟩ v0).setCell ⟨q,1,none⟩ v1).setCell ⟨q,2,none⟩ v2).setCell ⟨q,3,none⟩ v3):=
 (((h.setCell z _).setCell z _).setCell z _).setCell z _
theorem zuS {P:Program} (w:World) {N:Array Oper} {rest:List Oper} {o:Oper} {a:Act} {Q:Exit->Act->World->Prop} (O:o.guard=none) (s x:Operand) (t:TypeId)
  (ho:o.op= .call {callee:=.builtin .append,args:=#[s,x],argTypes:=#[t,t]})
  (base:Nat) (e:TypeId) (i:TypeInfo) (z:Value) (ht:P.underlying t=some (.slice e)) (hi:P.info? e=some i) (hz:i.zero=some z) (J:i.size=4) (V:i.bytes=40) (X:z.cells.size=4)
  (g n M:Nat) (ts:List Tk) (hs:a.eval s= .slice (some ⟨g,0,none⟩) n M) (I:OwnT w base e g n M ts)
  (b:Tk) (gx:Nat) (Z:gx=w.heap.size) (hx:a.eval x= .slice (some ⟨gx,0,none⟩) 1 1) (hn:n+1<=1000000) (K:base<=w.heap.size)
  (h: ∀L H w',OwnT w' base e L (n+1) H (ts++[b])->Below base w w'->(L=g∨w.heap.size<=L)->(∀k,k<w.heap.size->k≠g->w'.heap[k]? =w.heap[k]?)->wpList P N Q rest (a.put o.dst (.slice (some ⟨L,0,none⟩) (n+1) H)) w'):
  wpList P N Q (o::rest) a (w.alloc (.cells #[.int .i64 b.kind,.string b.text,.int .i64 b.num,.int .i64 b.pos] e)):=by
 subst Z;refine wpList_append_own_at _ O s x t ho base e i z 4 40 ht hi hz J V X (by decide) _ n _ hs (I.1.alloc _) ⟨w.heap.size,0,none⟩ 1 1 (tkL b) hx rfl ?_ ?_ ?_ ?_ ?_ ?_
 ·intro j u A
  match j,A with
  |0,A=>simp[tkL] at A;subst A;simp[Addr.add]
  |1,A=>simp[tkL] at A;subst A;simp[Addr.add]
  |2,A=>simp[tkL] at A;subst A;simp[Addr.add]
  |3,A=>simp[tkL] at A;subst A;simp[Addr.add]
  |j+4,A=>simp[tkL] at A
 ·intro u hu;simp[tkL] at hu;rcases hu with rfl|rfl|rfl|rfl<;>rfl
 ·unfold maxLen;omega
 ·omega
 ·simp;omega
 ·intro v' w' h1 h2 h3 h4;have hb:Below base w w':=((Below.refl base w).alloc K _).grown h2 (by simp;omega) (zhy I.1);rcases h1.2 with ⟨hv,_⟩|⟨L,H,aa,rfl,Y⟩
  ·have:=(h3.1 hv).1;simp at this
  ·refine h L H w' ⟨?_,by rw[List.length_append];have:=I.2;simp;omega⟩ hb ?_ ?_
   ·rw[List.flatMap_append]
    simpa using h1
   ·rcases h4 with q|q
    ·left
     simpa [Value.ownBlock] using q
    ·right;have:L=w.heap.size+1:=by simpa [Value.ownBlock] using q
     omega
   ·intro k hk U;rw[h2.block k (by simp;omega) (by simpa [Value.ownBlock] using U),Below.heap_alloc _ _ _ hk]
def zuT (s:BA) (scr:Bool) (k e n:Nat) (ts:List Tk) (kd:Int) (tx:BA) (nm ps:Int):Nat->Prop
 |0=>∀b,Skip s k b->∀r,Lx s scr b n r->zak s scr (r.map (ts++ ·))
 |1=>k<s.size/\(∀r,Lx s scr k n r->zak s scr (r.map (ts++ ·)))/\zK (bt s k)=true
 |2=>k<s.size/\(∀r,Lx s scr k n r->zak s scr (r.map (ts++ ·)))/\za2 (bt s k) scr=true
 |3=>k<s.size/\(∀r,Lx s scr k n r->zak s scr (r.map (ts++ ·)))/\bt s k=34
 |4=>k<s.size/\(∀r,Lx s scr k n r->zak s scr (r.map (ts++ ·)))/\zbo (bt s k)
 |5=>k<s.size/\(∀r,Lx s scr k n r->zak s scr (r.map (ts++ ·)))/\((∃t:Tk,kd=t.kind/\tx=t.text/\nm=t.num/\ps=t.pos/\Tok s scr k t e)∨(e=k/\∀t m,¬Tok s scr k t m))
 |_=>False
def zdx (s:BA) (scr:Bool) (gt k e n g cap:Nat) (us:Nat->Value):Act:={tmps:=#[.string s,.bool scr,undef,undef,.slice none 0 0,.int .i64 0,.slice (some ⟨g,0,none⟩) n cap,.pointer (some ⟨gt,0,none⟩),.int .i64 k,.int .i64 e,us 10,us 11,us 12,us 13,us 14,us 15,us 16,us 17,us 18,us 19,us 20,us 21,us 22,us 23,us 24,us 25,us 26,us 27,us 28,us 29,us 30,us 31,us 32,us 33,us 34,us 35,us 36,us 37,us 38,us 39,us 40,us 41,us 42,us 43,us 44,us 45,us 46,us 47,us 48,us 49,us 50,us 51,us 52,us 53,us 54,us 55,us 56,us 57,us 58,us 59,us 60,us 61,us 62,us 63,us 64,us 65,us 66,us 67,us 68,us 69,us 70,us 71,us 72,us 73,us 74,us 75,us 76,us 77,us 78,us 79,us 80,us 81,us 82,us 83,us 84,us 85,us 86,us 87,us 88,us 89,us 90,us 91,us 92,us 93,us 94,us 95,us 96,us 97,us 98,us 99,us 100,us 101],defers:=[]}
theorem zcv {a:Act} {s:BA} {w:Bool} {z k e n g q:Nat} (h:a=zdx s w z k e n g q (fun i=>a.tmps.getD i undef)): ∃A,a=zdx s w z k e n g q A:=⟨_,h⟩
def zuU (s:BA) (scr:Bool) (w:World) (l:Nat) (a:Act) (wr:World):Prop:=
 ∃(k e n g cap:Nat) (kd:Int) (tx:BA) (nm ps:Int) (ts:List Tk),(∃us,a=zdx s scr (w.heap.size+1) k e n g cap us)
  /\k<=s.size/\n<=4000/\g≠w.heap.size+1/\OwnT wr w.heap.size 158 g n cap ts/\TC wr (w.heap.size+1) kd tx nm ps/\Below w.heap.size w wr/\zuT s scr k e n ts kd tx nm ps l
def zcw:Nat->Nat
 |0=>2
 |5=>0
 |_=>1
def zcx (s:BA) (l:Nat) (a:Act) (_:World):Nat:=3*((s.size:Int)-intOf (a.tmps.getD 8 undef)).toNat+zcw l
def zuV (s:BA) (scr:Bool) (w:World) (e:Ending) (w':World):Prop:=
 ∃r,zak s scr r/\match r with
  | .ok ts=>∃g n cap,e= .returned (.tuple #[.slice (some ⟨g,0,none⟩) n cap,.int .i64 (-1)])/\OwnT w' w.heap.size 158 g n cap ts
  | .error p=>e= .returned (.tuple #[.slice none 0 0,.int .i64 p])
theorem zuW (s:BA) (h:Bool) (w:World) (hs:s.size<=4294967296):
  Calls prog 167 #[.string s,.bool h] w fun e w'=>zuV s h w e w'/\Below w.heap.size w w':=by
 obtain⟨i0,hi,aL,aW,aR⟩:=info_parts Tryz.infoTok;have hb:=get_bt s;go_enter func167,ntmps167;go_wp2;refine zuR (zuU s h w) (zcx s) ?_ ?_
 ·intro l a' wr hJ IH;obtain⟨k,e,n,g,Z,kd,tx,nm,ps,ts,⟨us,rfl⟩,hk,hn,hg,U,aa,I,ab⟩:=hJ;have al:=I.size;have V:=bt_nonneg s k;have X:=bt_le s k;obtain rfl|rfl|rfl|rfl|rfl|rfl|aT:l=0∨l=1∨l=2∨l=3∨l=4∨l=5∨6<=l:=by omega
  ·have ap:Hid (∀b,Skip s k b->∀r,Lx s h b n r->zak s h (r.map (ts++ ·))):=ab;clear ab IH;refine⟨_,rfl,?_⟩;unfold zdx;by_cases an:k=s.size
   ·have HE:Hid (zak s h (.ok ts)):=zj8 (ap.o s.size (by rw[an];exact .done)) rfl;have q:((k:Int)==(s.size:Int))=true:=beq_iff_eq.2 (by omega);clear an;go_wp2;simp only[Leaves];go_ret2;exact⟨⟨_,HE.o,g,n,Z,rfl,U⟩,I⟩
   ·have A:k<s.size:=by omega
    have q:((k:Int)==(s.size:Int))=false:=beq_eq_false_iff_ne.2 (by omega);clear an;cases aE:zfS (bt s k) with
    |true=>
     have HX:Hid (∀b,Skip s (k+1) b->∀r,Lx s h b n r->zak s h (r.map (ts++ ·))):=fun b hb=>ap.o b (.blank A (of_decide_eq_true aE) hb);go_wp2_with fail;refine (ze4 _ _ V X).mono ?_;rintro ev w1 ⟨rfl,rfl⟩;obtain⟨k1,aV⟩: ∃k1:Nat,(k:Int)+1=k1:=⟨k+1,by omega⟩;go_wp2;go_step3;obtain rfl:k1=k+1:=by omega
     refine⟨⟨k+1,e,n,g,Z,_,_,_,_,ts,zcv (rfl),by omega,hn,hg,U,aa,I,HX.o⟩,by simp only[zcx,zcw];simp[intOf]<;>omega⟩
    |false=>
     have aj:Hid (Lib.hasPrefix (s.extract k s.size).data.toList [47,47]=zgW s k):=zu6 s k;cases ac:zgW s k with
     |true=>
      go_wp2_with fail;refine (ze4 _ _ V X).mono ?_;rintro ev w1 ⟨rfl,rfl⟩;go_wp2_with fail;refine (Tryz.strings_HasPrefix _ _ _).mono ?_;rintro ev w1 ⟨rfl,rfl⟩;rw[aj.o];rw[ac];go_wp2_with fail;refine (zuN _ _ _ hk hs).mono ?_;rintro ev w1 ⟨c,rfl,hc,rfl⟩;have HX:Hid (∀b,Skip s c b->∀r,Lx s h b n r->zak s h (r.map (ts++ ·))):=fun b hb=>ap.o b (.comment A (of_decide_eq_true ac) hc hb);have ao:=zu4 A (of_decide_eq_true ac) hc;have ai:=hc.2.1;clear hc;go_wp2;go_step3;refine⟨⟨c,e,n,g,Z,_,_,_,_,ts,zcv (rfl),ai,hn,hg,U,aa,I,HX.o⟩,by simp only[zcx,zcw];simp[intOf]<;>omega⟩
     |false=>
      have N:Hid (∀r,Lx s h k n r->zak s h (r.map (ts++ ·))):=ap.o k (.stop A (of_decide_eq_false aE) (of_decide_eq_false ac));cases hd:zK (bt s k) with
      |true=>
       go_wp2_with fail;refine (ze4 _ _ V X).mono ?_;rintro ev w1 ⟨rfl,rfl⟩;go_wp2_with fail;refine (Tryz.strings_HasPrefix _ _ _).mono ?_;rintro ev w1 ⟨rfl,rfl⟩;rw[aj.o];rw[ac];go_wp2_with fail;refine (zbS _ _ V X).mono ?_;rintro ev w1 ⟨rfl,rfl⟩;go_wp2;go_step3;refine⟨⟨k,e,n,g,Z,_,_,_,_,ts,zcv (rfl),hk,hn,hg,U,aa,I,⟨A,N.o,hd⟩⟩,by simp only[zcx,zcw];simp[intOf]<;>omega⟩
      |false=>
       cases hw:zM h (bt s k) with
       |true=>
        have HL:Hid (za2 (bt s k) h=true):=by show _=_;simp[zM,hd] at hw;exact hw
        go_wp2_with fail;refine (ze4 _ _ V X).mono ?_;rintro ev w1 ⟨rfl,rfl⟩;go_wp2_with fail;refine (Tryz.strings_HasPrefix _ _ _).mono ?_;rintro ev w1 ⟨rfl,rfl⟩;rw[aj.o];rw[ac];go_wp2_with fail;refine (zbS _ _ V X).mono ?_;rintro ev w1 ⟨rfl,rfl⟩;go_wp2_with fail;refine (zeY _ _ _ V X).mono ?_;rintro ev w1 ⟨rfl,rfl⟩;go_wp2;go_step3;refine⟨⟨k,e,n,g,Z,_,_,_,_,ts,zcv (rfl),hk,hn,hg,U,aa,I,⟨A,N.o,HL.o⟩⟩,by simp only[zcx,zcw];simp[intOf]<;>omega⟩
       |false=>
        by_cases af:bt s k=34
        ·have aU:Hid (bt s k=34):=af;have aP:(bt s k==34)=true:=beq_iff_eq.2 af;clear af;go_wp2_with fail;refine (ze4 _ _ V X).mono ?_;rintro ev w1 ⟨rfl,rfl⟩;go_wp2_with fail;refine (Tryz.strings_HasPrefix _ _ _).mono ?_;rintro ev w1 ⟨rfl,rfl⟩;rw[aj.o];rw[ac];go_wp2_with fail;refine (zbS _ _ V X).mono ?_;rintro ev w1 ⟨rfl,rfl⟩;go_wp2_with fail;refine (zeY _ _ _ V X).mono ?_;rintro ev w1 ⟨rfl,rfl⟩;go_wp2;go_step3;refine⟨⟨k,e,n,g,Z,_,_,_,_,ts,zcv (rfl),hk,hn,hg,U,aa,I,⟨A,N.o,aU.o⟩⟩,by simp only[zcx,zcw];simp[intOf]<;>omega⟩
        ·have aP:(bt s k==34)=false:=beq_eq_false_iff_ne.2 af;cases aD:zfT (bt s k) with
         |true=>
          clear af;go_wp2_with fail;refine (ze4 _ _ V X).mono ?_;rintro ev w1 ⟨rfl,rfl⟩;go_wp2_with fail;refine (Tryz.strings_HasPrefix _ _ _).mono ?_;rintro ev w1 ⟨rfl,rfl⟩;rw[aj.o];rw[ac];go_wp2_with fail;refine (zbS _ _ V X).mono ?_;rintro ev w1 ⟨rfl,rfl⟩;go_wp2_with fail;refine (zeY _ _ _ V X).mono ?_;rintro ev w1 ⟨rfl,rfl⟩;go_wp2_with fail;refine (zmu _ _ V X).mono ?_;rintro ev w1 ⟨rfl,rfl⟩;go_wp2;go_step3;refine⟨⟨k,e,n,g,Z,_,_,_,_,ts,zcv (rfl),hk,hn,hg,U,aa,I,⟨A,N.o,of_decide_eq_true aD⟩⟩,by simp only[zcx,zcw];simp[intOf]<;>omega⟩
         |false=>
          have HE:Hid (zak s h (.error k)):=zfx N.o A (.inr (zj7 (by simp[zM,hd] at hw;exact hw) hd af (of_decide_eq_false aD)));clear af;go_wp2_with fail;refine (ze4 _ _ V X).mono ?_;rintro ev w1 ⟨rfl,rfl⟩;go_wp2_with fail;refine (Tryz.strings_HasPrefix _ _ _).mono ?_;rintro ev w1 ⟨rfl,rfl⟩;rw[aj.o];rw[ac];go_wp2_with fail;refine (zbS _ _ V X).mono ?_;rintro ev w1 ⟨rfl,rfl⟩;go_wp2_with fail;refine (zeY _ _ _ V X).mono ?_;rintro ev w1 ⟨rfl,rfl⟩;go_wp2_with fail;refine (zmu _ _ V X).mono ?_;rintro ev w1 ⟨rfl,rfl⟩;go_wp2;simp only[Leaves];go_ret2;exact⟨⟨_,HE.o,rfl⟩,I⟩
  ·obtain⟨A,Y,H⟩:=ab;have N:Hid (∀r,Lx s h k n r->zak s h (r.map (ts++ ·))):=Y;have HW:Hid (zK (bt s k)=true):=H;clear Y H;clear IH;refine⟨_,rfl,?_⟩;unfold zdx;go_wp2_with fail;refine (zuO _ _ h _ A HW.o hs).mono ?_;rintro ev w1 ⟨v,z,rfl,am,J⟩;have L:=aa.later J;obtain⟨aw,ao,ai,av,ax,ay,au,aq⟩:=L.cells;have O:=I.trans (J.mono al);have M:=zc1 U J;rcases am with ⟨⟨ak,ah,ag,ad⟩,m,rfl,rfl,ht⟩|⟨rfl,⟨c1,c2,c3,c4,rfl⟩,ae⟩
   ·have HT:Hid (Tok s h k ⟨ak,ah,ag,ad⟩ m):=ht;clear ht;simp only[tkV];go_wp2;go_step3;refine⟨⟨k,m,n,g,Z,_,_,_,_,ts,zcv (rfl),hk,hn,hg,zfc M hg _ _ _ _,L.put,zfd O (Nat.le_succ _) _ _ _ _,⟨A,N.o,.inl ⟨⟨ak,ah,ag,ad⟩,rfl,rfl,rfl,rfl,HT.o⟩⟩⟩,by simp only[zcx,zcw];simp[intOf]<;>omega⟩
   ·have aB:Hid (∀t m,¬Tok s h k t m):=ae;clear ae;go_wp2;go_step3;refine⟨⟨k,k,n,g,Z,_,_,_,_,ts,zcv (rfl),hk,hn,hg,zfc M hg _ _ _ _,L.put,zfd O (Nat.le_succ _) _ _ _ _,⟨A,N.o,.inr ⟨rfl,aB.o⟩⟩⟩,by simp only[zcx,zcw];simp[intOf]<;>omega⟩
  ·obtain⟨A,Y,H⟩:=ab;have N:Hid (∀r,Lx s h k n r->zak s h (r.map (ts++ ·))):=Y;have HW:Hid (za2 (bt s k) h=true):=H;clear Y H;clear IH;refine⟨_,rfl,?_⟩;unfold zdx;go_wp2_with fail;refine (zmv _ _ _ _ hk hs).mono ?_;rintro ev w0 ⟨m,rfl,hr,rfl⟩;have HT:Hid (Tok s h k ⟨1,s.extract k m,0,k⟩ m):=.name HW.o hr;have aX:=hr.1;have aC:=hr.2.1;clear hr;go_wp2_with fail;refine (zi5 _ _ (by rw[zfb _ _ _ aC];omega)).mono ?_;rintro ev w1 ⟨rfl,J⟩;have L:=aa.later J;obtain⟨aw,ao,ai,av,ax,ay,au,aq⟩:=L.cells;have O:=I.trans (J.mono al);have M:=zc1 U J;go_wp2;go_step3;refine⟨⟨k,m,n,g,Z,_,_,_,_,ts,zcv (rfl),hk,hn,hg,zfc M hg _ _ _ _,L.put,zfd O (Nat.le_succ _) _ _ _ _,⟨A,N.o,.inl ⟨⟨1,s.extract k m,0,k⟩,rfl,rfl,rfl,rfl,HT.o⟩⟩⟩,by simp only[zcx,zcw];simp[intOf]<;>omega⟩
  ·obtain⟨A,Y,H⟩:=ab;have N:Hid (∀r,Lx s h k n r->zak s h (r.map (ts++ ·))):=Y;have HW:Hid (bt s k=34):=H;clear Y H;clear IH;refine⟨_,rfl,?_⟩;unfold zdx;go_wp2_with fail;refine (zuQ _ _ h _ A HW.o hs).mono ?_;rintro ev w1 ⟨v,z,rfl,am,J⟩;have L:=aa.later J;obtain⟨aw,ao,ai,av,ax,ay,au,aq⟩:=L.cells;have O:=I.trans (J.mono al);have M:=zc1 U J;rcases am with ⟨⟨ak,ah,ag,ad⟩,m,rfl,rfl,ht⟩|⟨rfl,⟨c1,c2,c3,c4,rfl⟩,ae⟩
   ·have HT:Hid (Tok s h k ⟨ak,ah,ag,ad⟩ m):=ht;clear ht;simp only[tkV];go_wp2;go_step3;refine⟨⟨k,m,n,g,Z,_,_,_,_,ts,zcv (rfl),hk,hn,hg,zfc M hg _ _ _ _,L.put,zfd O (Nat.le_succ _) _ _ _ _,⟨A,N.o,.inl ⟨⟨ak,ah,ag,ad⟩,rfl,rfl,rfl,rfl,HT.o⟩⟩⟩,by simp only[zcx,zcw];simp[intOf]<;>omega⟩
   ·have aB:Hid (∀t m,¬Tok s h k t m):=ae;clear ae;go_wp2;go_step3;refine⟨⟨k,k,n,g,Z,_,_,_,_,ts,zcv (rfl),hk,hn,hg,zfc M hg _ _ _ _,L.put,zfd O (Nat.le_succ _) _ _ _ _,⟨A,N.o,.inr ⟨rfl,aB.o⟩⟩⟩,by simp only[zcx,zcw];simp[intOf]<;>omega⟩
  ·obtain⟨A,Y,H⟩:=ab;have N:Hid (∀r,Lx s h k n r->zak s h (r.map (ts++ ·))):=Y;have HW:Hid (zbo (bt s k)):=H;clear Y H;have aK:Hid _:=IH;clear IH;refine⟨_,rfl,?_⟩;unfold zdx;obtain⟨k1,aG⟩: ∃k1:Nat,k1=k+1:=⟨_,rfl⟩;have aV:(k:Int)+1=k1:=by omega
   have aJ:Hid (k1=k+1):=aG;have aY:k<=k1:=by omega
   have aI:k1<=s.size:=by omega
   clear aG;go_wp2_with fail;refine (zi5 _ _ (by rw[zfb _ _ _ aI];omega)).mono ?_;rintro ev w1 ⟨rfl,J⟩;have L:=aa.later J;obtain⟨aw,ao,ai,av,ax,ay,au,aq⟩:=L.cells;have O:=I.trans (J.mono al);have M:=zc1 U J;go_wp2;go_step3
   rename_i K hK
   refine hK _ _ (aK.o 5 _ _ _ rfl ?_ ?_)
   ·exact⟨k,k1,n,g,Z,_,_,_,_,ts,zcv rfl,hk,hn,hg,zfc M hg _ _ _ _,L.put,zfd O (Nat.le_succ _) _ _ _ _,⟨A,N.o,.inl ⟨⟨4,s.extract k k1,0,k⟩,rfl,rfl,rfl,rfl,by rw[aJ.o];exact .sign HW.o⟩⟩⟩
   ·simp only[zcx,zcw,zdx];simp[intOf]
  ·obtain⟨A,Y,H⟩:=ab;have N:Hid (∀r,Lx s h k n r->zak s h (r.map (ts++ ·))):=Y;clear Y IH;obtain⟨aw,ao,ai,av,ax,ay,au,aq⟩:=aa.cells;have aQ:=aa.lt;refine⟨_,rfl,?_⟩;unfold zdx;rcases H with ⟨⟨ak,ah,ag,ad⟩,rfl,rfl,rfl,rfl,ht⟩|⟨rfl,ae⟩
   ·have aX:=(ze8 A ht).1;have aC:=(ze8 A ht).2.1;have HT:Hid (Tok s h k ⟨kd,tx,nm,ad⟩ e):=ht;clear ht;have q1:((e:Int)==(k:Int))=false:=beq_eq_false_iff_ne.2 (by omega);by_cases aF:n=4000
    ·have HE:Hid (zak s h (.error k)):=zfx N.o A (.inl (by omega));have q2:((n:Int)==4000)=true:=beq_iff_eq.2 (by omega);clear aF;go_wp2;simp only[Leaves];go_ret2;exact⟨⟨_,HE.o,rfl⟩,I⟩
    ·have HX:Hid (∀b,Skip s e b->∀r,Lx s h b (n+1) r->zak s h (r.map ((ts++[⟨kd,tx,nm,ad⟩])++ ·))):=fun b hb=>zj9 N.o A (by omega) HT.o hb;have q2:((n:Int)==4000)=false:=beq_eq_false_iff_ne.2 (by omega);have aO:n+1<=4000:=by omega
     clear aF;go_wp2_with (first|(at_builtin;refine zuS wr rfl _ _ 117 rfl w.heap.size 158 i0 _ underlying117 hi aL aW aR rfl g n Z ts (by rfl) U ⟨kd,tx,nm,ad⟩ wr.heap.size rfl (by rfl) (by omega) al ?_));intro g2 aH w2 az aN aZ ar;have aM:g2≠w.heap.size+1:=by omega
     go_wp2;go_step3;refine⟨⟨e,e,n+1,g2,aH,_,_,_,_,_,zcv (rfl),aC,aO,aM,az,((ar _ aQ (Ne.symm hg)).trans aa),I.trans aN,HX.o⟩,by simp only[zcx,zcw];simp[intOf]<;>omega⟩
   ·have HE:Hid (zak s h (.error e)):=zfx N.o A (.inr ae);have q1:((e:Int)==(e:Int))=true:=beq_iff_eq.2 rfl;clear ae;go_wp2;simp only[Leaves];go_ret2;exact⟨⟨_,HE.o,rfl⟩,I⟩
  ·match l,aT,ab with
   |l+6,_,ab=>exact ab.elim
 ·intro aA;go_wp2;go_step3
  rename_i K hK
  refine hK _ _ (aA 0 _ _ _ rfl ?_);have aS:=((Below.refl w.heap.size w).alloc (Nat.le_refl _) (.cells #[] 158)).alloc (by rw[zg];omega) (.cells #[.int .i64 0,.string {data:=#[]},.int .i64 0,.int .i64 0] 158);have hT:TC ((w.alloc (.cells #[] 158)).alloc (.cells #[.int .i64 0,.string {data:=#[]},.int .i64 0,.int .i64 0] 158)) (w.heap.size+1) 0 {data:=#[]} 0 0:=by
   have:=heap_alloc_new (w.alloc (.cells #[] 158)) (.cells #[.int .i64 0,.string {data:=#[]},.int .i64 0,.int .i64 0] 158);rw[zg] at this;exact this
  exact⟨0,0,0,w.heap.size,0,_,_,_,_,[],zcv rfl,Nat.zero_le _,by omega,by omega,zc1 (zhz w _ _ (Nat.le_refl _)) ((Below.refl _ _).alloc (Nat.le_refl _) _),hT,aS,fun b hb r hr=>⟨b,hb,by cases r<;>simpa [Except.map] using hr⟩⟩
end Go.Proofs.YtgcbmogmniahjaaGreat
