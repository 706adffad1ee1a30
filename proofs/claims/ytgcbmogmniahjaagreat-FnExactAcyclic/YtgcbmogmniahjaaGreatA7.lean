/- Facts and walks that the theorem stands on. -/
import Derived.Test.YtgcbmogmniahjaaGreatA6
import Derived.Laws.Rows
import Derived.Laws.ResultCell
import Derived.Test.YtgcbmogmniahjaaGreatA4
namespace Go.Proofs.YtgcbmogmniahjaaGreat
open Go.Proofs.Tryz
set_option maxHeartbeats 3200000
open Go.RowKit Go.PlainAid
theorem zaA {P:Program} {A:Func} {p u:Tmp} {z:TypeId} (h:A.results= #[.cell p z,.tmp u]) (tmps:Array Value) (w:World) (g:Nat) (t:TypeId) (q:Array Value) (H:Nat×Nat) (d:TypeDesc)
  (J:tmps.getD p undef= .pointer (some ⟨g,0,none⟩)) (L:w.heap[g]? =some (.cells q t H))
  (K:P.underlying z=some d) (I:(match d with| .struct _| .array _ _=>true|_=>false)=true) (M:(P.info? z).map (·.size)=some q.size):
  (results A tmps).run P w= .ok (.tuple #[.agg q,tmps.getD u undef]) w:=by
 rw[results_cell_tmp h,J];simp[asAddr,Result.andThen,run_loadVar_row w g t z q H d L K I M]
def tkV (t:Tk):Value:=.agg #[.int .i64 t.kind,.string t.text,.int .i64 t.num,.int .i64 t.pos]
def zj6 (s:BA) (scr:Bool) (a:Nat) (v:Value) (z:Int):Prop:=
 (∃(t:Tk) (n:Nat),v=tkV t/\z=n/\Tok s scr a t n)∨(z= -1/\(∃k x y u,v= .agg #[.int .i64 k,.string x,.int .i64 y,.int .i64 u])/\∀t n,¬Tok s scr a t n)
theorem zh4 {s:BA} {q:Bool} {a:Nat} {k y u:Int} {x:BA} (h: ∀t n,¬Tok s q a t n):zj6 s q a (.agg #[.int .i64 k,.string x,.int .i64 y,.int .i64 u]) (-1):=.inr ⟨rfl,⟨k,x,y,u,rfl⟩,h⟩
theorem zh5 {s:BA} {w:Bool} {a:Nat} (z:zK (bt s a)=true) (h: ∀n e,¬zba s a w n e): ∀t n,¬Tok s w a t n:=by
 intro t n H;cases H using Tok.elim with
 |name q _=>rw[(ze6 q).1] at z;cases z
 |num _ A=>exact h _ _ A
 |str q _=>exact (ze7 z).1 q
 |sign q=>exact (ze7 z).2 q
theorem zgm {s:BA} {z:Bool} {a:Nat} (w:bt s a=34) (h: ∀e,¬zb0 s a e): ∀t n,¬Tok s z a t n:=by
 intro t n H;cases H using Tok.elim with
 |name q _=>exact (ze6 q).2.1 w
 |num q _=>exact (ze7 q).1 w
 |str _ A=>exact h _ A
 |sign q=>rw[w] at q;unfold zbo at q;omega
theorem zj7 {s:BA} {q:Bool} {a:Nat} (A:za2 (bt s a) q=false) (w:zK (bt s a)=false) (I:bt s a≠34) (z: ¬zbo (bt s a)): ∀t n,¬Tok s q a t n:=by
 intro t n H;cases H using Tok.elim with
 |name h _=>rw[A] at h;cases h
 |num h _=>rw[w] at h;cases h
 |str h _=>exact I h
 |sign h=>exact z h
theorem znW (s:BA) (a:Nat) (A:Bool) (w:World) (ha:a<s.size) (hs:s.size<=4294967296):
  Calls prog 112 #[.string s,.int .i64 a,.bool A] w fun e w'=>∃v z,e= .returned (.tuple #[v,.int .i64 z])/\zj6 s A a v z/\Below w.heap.size w w':=by
 have hb:=get_bt s;have h:=bt_nonneg s a;have q:=bt_le s a;cases hl:za2 (bt s a) A with
 |true=>
  have HL:Hid (za2 (bt s a) A=true):=hl;go_enter func112,ntmps112;go_wp2_with fail;refine (zdf _ _ _ h q).mono ?_;rintro e w' ⟨rfl,rfl⟩;go_wp2_with fail;refine (znQ _ _ _ _ (by omega) hs).mono ?_;rintro e w' ⟨n,rfl,U,rfl⟩;have HR:Hid (za3 (zM A) s a n):=U;have ad:a<=n:=U.1;have ab:n<=s.size:=U.2.1;clear U;go_wp2;refine bodyPost_ret (zaA rfl _ _ w.heap.size 158 _ (0,0) _ rfl (heap_alloc_new w _) underlying158 rfl (by kernel_rfl)) rfl ?_;exact⟨_,_,rfl,.inl ⟨⟨1,s.extract a n,0,a⟩,n,rfl,rfl,.name HL.o HR.o⟩,(Below.refl _ _).alloc (Nat.le_refl _) _⟩
 |false=>
  cases hd:zK (bt s a) with
  |true=>
   have HD:Hid (zK (bt s a)=true):=hd;go_enter func112,ntmps112;go_wp2_with fail;refine (zdf _ _ _ h q).mono ?_;rintro e w' ⟨rfl,rfl⟩;go_wp2_with fail;refine (zcq _ _ h q).mono ?_;rintro e w' ⟨rfl,rfl⟩;go_wp2_with fail;refine (znV _ _ _ _ ha HD.o hs).mono ?_;rintro e w' ⟨n,z,rfl,hn,rfl⟩;rcases hn with ⟨m,rfl,I⟩|⟨rfl,rfl,I⟩
   ·have N:Hid (zba s a A n m):=I;clear I;go_wp2;refine bodyPost_ret (zaA rfl _ _ w.heap.size 158 _ (0,0) _ rfl (heap_alloc_new w _) underlying158 rfl (by kernel_rfl)) rfl ?_;exact⟨_,_,rfl,.inl ⟨⟨2,{data:=#[]},n,a⟩,m,rfl,rfl,.num HD.o N.o⟩,(Below.refl _ _).alloc (Nat.le_refl _) _⟩
   ·have N:Hid (∀n m,¬zba s a A n m):=I;clear I;go_wp2;refine bodyPost_ret (zaA rfl _ _ w.heap.size 158 _ (0,0) _ rfl (heap_alloc_new w _) underlying158 rfl (by kernel_rfl)) rfl ?_;exact⟨_,_,rfl,zh4 (zh5 HD.o N.o),(Below.refl _ _).alloc (Nat.le_refl _) _⟩
  |false=>
   by_cases H:bt s a=34
   ·have O:Hid (bt s a=34):=H;have X:(bt s a==34)=true:=by simpa using H
    clear H;go_enter func112,ntmps112;go_wp2_with fail;refine (zdf _ _ _ h q).mono ?_;rintro e w' ⟨rfl,rfl⟩;go_wp2_with fail;refine (zcq _ _ h q).mono ?_;rintro e w' ⟨rfl,rfl⟩;go_wp2_with fail;refine (znR _ _ _ ha hs).mono ?_;rintro e w' ⟨z,rfl,hn,rfl⟩;rcases hn with ⟨n,rfl,I⟩|⟨rfl,I⟩
    ·obtain⟨m,rfl⟩: ∃m,n=m+1:=⟨n-1,by have:=I.1;omega⟩;have N:Hid (zb0 s a (m+1)):=I;have Z:a+1<=m:=by have:=I.1;omega
     have ac:m+1<=s.size:=I.2.1;have ez:((m+1:Nat):Int)=(m:Int)+1:=by omega
     obtain⟨K,L⟩: ∃K,K=a+1:=⟨_,rfl⟩;have ea:(a:Int)+1=(K:Int):=by omega
     have M:Hid (K=a+1):=L;have aa:K<=m:=by omega
     have V:m<=s.size:=by omega
     clear I L Z;go_wp2;refine bodyPost_ret (zaA rfl _ _ w.heap.size 158 _ (0,0) _ rfl (heap_alloc_new w _) underlying158 rfl (by kernel_rfl)) rfl ?_;exact⟨_,_,rfl,.inl ⟨⟨3,s.extract (a+1) (m+1-1),0,a⟩,m+1,by rw[M.o];rfl,by omega,.str O.o N.o⟩,(Below.refl _ _).alloc (Nat.le_refl _) _⟩
    ·have N:Hid (∀n,¬zb0 s a n):=I;clear I;go_wp2;refine bodyPost_ret (zaA rfl _ _ w.heap.size 158 _ (0,0) _ rfl (heap_alloc_new w _) underlying158 rfl (by kernel_rfl)) rfl ?_;exact⟨_,_,rfl,zh4 (zgm O.o N.o),(Below.refl _ _).alloc (Nat.le_refl _) _⟩
   ·have X:(bt s a==34)=false:=by simpa using H
    by_cases J:zbo (bt s a)
    ·have HS:Hid (zbo (bt s a)):=J;have Y:zfv (bt s a)=true:=decide_eq_true J;obtain⟨K,L⟩: ∃K,K=a+1:=⟨_,rfl⟩;have ea:(a:Int)+1=(K:Int):=by omega
     have M:Hid (K=a+1):=L;have aa:a<=K:=by omega
     have V:K<=s.size:=by omega
     clear J H L;go_enter func112,ntmps112;go_wp2_with fail;refine (zdf _ _ _ h q).mono ?_;rintro e w' ⟨rfl,rfl⟩;go_wp2_with fail;refine (zcq _ _ h q).mono ?_;rintro e w' ⟨rfl,rfl⟩;go_wp2_with fail;refine (zj3 _ _).mono ?_;rintro e w' ⟨rfl,rfl⟩;go_wp2;refine bodyPost_ret (zaA rfl _ _ w.heap.size 158 _ (0,0) _ rfl (heap_alloc_new w _) underlying158 rfl (by kernel_rfl)) rfl ?_;exact⟨_,_,rfl,.inl ⟨⟨4,s.extract a (a+1),0,a⟩,a+1,by rw[M.o];rfl,by rw[M.o],.sign HS.o⟩,(Below.refl _ _).alloc (Nat.le_refl _) _⟩
    ·have HN:Hid (∀t n,¬Tok s A a t n):=zj7 hl hd H J;have Y:zfv (bt s a)=false:=decide_eq_false J;clear J H;go_enter func112,ntmps112;go_wp2_with fail;refine (zdf _ _ _ h q).mono ?_;rintro e w' ⟨rfl,rfl⟩;go_wp2_with fail;refine (zcq _ _ h q).mono ?_;rintro e w' ⟨rfl,rfl⟩;go_wp2_with fail;refine (zj3 _ _).mono ?_;rintro e w' ⟨rfl,rfl⟩;go_wp2;refine bodyPost_ret (zaA rfl _ _ w.heap.size 158 _ (0,0) _ rfl (heap_alloc_new w _) underlying158 rfl (by kernel_rfl)) rfl ?_;exact⟨_,_,rfl,zh4 HN.o,(Below.refl _ _).alloc (Nat.le_refl _) _⟩
end Go.Proofs.YtgcbmogmniahjaaGreat
namespace Go.Proofs.YtgcbmogmniahjaaGreat
open Go.Proofs.Tryz
set_option maxRecDepth 100000
set_option maxHeartbeats 3200000
open Go.RowKit Go.PlainAid
theorem Tryz.infoTok:(prog.info? 158).map (fun i=>(i.zero,i.size,i.bytes))=some (some (.agg #[.int .i64 0,.string {data:=#[]},.int .i64 0,.int .i64 0]),4,40):=by kernel_rfl
def znX (s:BA) (scr:Bool) (w:World) (e:Ending) (w':World):Prop:=
 ∃r,zak s scr r/\match r with
  | .ok ts=>∃g n cap,e= .returned (.tuple #[.slice (some ⟨g,0,none⟩) n cap,.int .i64 (-1)])/\OwnT w' w.heap.size 158 g n cap ts
  | .error p=>∃g cap,e= .returned (.tuple #[.slice (some ⟨g,0,none⟩) 0 cap,.int .i64 p])/\OwnT w' w.heap.size 158 g 0 cap []
theorem zfx {s:BA} {q:Bool} {k n:Nat} {w:List Tk} (h: ∀r,Lx s q k n r->zak s q (r.map (w++ ·))) (z:k<s.size) (A:4000<=n∨∀t e,¬Tok s q k t e):zak s q (.error k):=h _ (.bad z A)
theorem zj8 {s:BA} {q:Bool} {k n:Nat} {w:List Tk} (h: ∀r,Lx s q k n r->zak s q (r.map (w++ ·))) (z:k=s.size):zak s q (.ok w):=by
 subst z;have:=h _ .done
 simpa [Except.map] using this
theorem zj9 {s:BA} {q:Bool} {k n e b:Nat} {t:Tk} {w:List Tk} (h: ∀r,Lx s q k n r->zak s q (r.map (w++ ·))) (z:k<s.size) (J:n<4000) (H:Tok s q k t e) (I:Skip s e b):
  ∀r,Lx s q b (n+1) r->zak s q (r.map ((w++[t])++ ·)):=by
 intro r A;have:=h _ (.tok z J H I A);cases r<;>simpa [Except.map] using this
theorem zjA {w:World} {o:Obj} {e:TypeId} {base:Nat} (h:base<=w.heap.size):OwnT ((w.alloc o).alloc (.cells #[] e)) base e (w.heap.size+1) 0 0 []:=by
 have:=zhz (w.alloc o) e base (by rw[zg];omega);rw[zg] at this;exact this
theorem znY (s:BA) (h:Bool) (w:World) (hs:s.size<=4294967296):
  Calls prog 81 #[.string s,.bool h] w fun e w'=>znX s h w e w'/\Below w.heap.size w w':=by
 obtain⟨i0,hi,ah,aj,al⟩:=info_parts Tryz.infoTok;go_enter func81,ntmps81;go_wp2_with fail;refine (zj5 _ 0 _ (Nat.zero_le _) hs).mono ?_;rintro e w' ⟨k0,rfl,A,rfl⟩;have ao:Hid (Skip s 0 k0):=A;have ai:=(zhr A).2;clear A;go_wp2;go_loopw [6,7,8,9] (fun o i _ _ wr=>∃(k n g I:Nat) (L:List Tk),k<=s.size/\n<=4000/\i= .int .i64 k/\o= .slice (some ⟨g,0,none⟩) n I/\OwnT wr w.heap.size 158 g n I L/\(∀r,Lx s h k n r->zak s h (r.map (L++ ·)))/\Below w.heap.size w wr) (fun _ i _ _ _=>(s.size-intOf i).toNat)
 case atStart=>exact⟨k0,0,w.heap.size,0,[],ai,by omega,rfl,rfl,zhz w _ _ (Nat.le_refl _),fun r hr=>⟨k0,ao.o,by cases r<;>simpa [Except.map] using hr⟩,(Below.refl _ _).alloc (Nat.le_refl _) _⟩
 case round=>
  obtain⟨k,n,g,I,L,hk,hn,rfl,rfl,J,Z,hb⟩:=hrel;have K:Hid (∀r,Lx s h k n r->zak s h (r.map (L++ ·))):=Z;have ar:=zau J;clear Z;by_cases H:k<s.size
  ·go_wp2_with fail;refine (znW _ _ _ _ H hs).mono ?_;rintro e w1 ⟨v,z,rfl,ad,ae⟩;have q:=hb.trans (ae.mono hb.size);have O:=zc1 J ae;rcases ad with ⟨⟨V,Y,U,X⟩,m,rfl,rfl,ht⟩|⟨rfl,⟨c1,c2,c3,c4,rfl⟩,ag⟩
   ·have HT:Hid (Tok s h k ⟨V,Y,U,X⟩ m):=ht;have au:=(ze8 H ht).1;have ak:=(ze8 H ht).2.1;clear ht;by_cases af:n<4000
    ·have q4:decide ((4000:Int)<=(n:Int))=false:=decide_eq_false (by omega);obtain⟨W,hW⟩: ∃W,W=w1.alloc (.cells #[.int .i64 V,.string Y,.int .i64 U,.int .i64 X] 158):=⟨_,rfl⟩;have HW:Hid (W=w1.alloc (.cells #[.int .i64 V,.string Y,.int .i64 U,.int .i64 X] 158)):=hW;have aa:Below w.heap.size w W:=by rw[hW];exact q.alloc q.size _
     have M:OwnT W w.heap.size 158 g n I L:=by rw[hW];exact zc1 O ((Below.refl _ _).alloc (Nat.le_refl _) _)
     have ac:=aa.size;have am:Hid (w1.heap.size+1=W.heap.size):=by show _=_;rw[hW,zg]
     clear hW;simp only[tkV];go_wp2_with (first|(at_builtin;rw[<-HW.o];refine znC W rfl _ _ 117 rfl w.heap.size 158 i0 _ underlying117 hi ah aj al rfl g n I L (by rfl) M ⟨V,Y,U,X⟩ (w1.heap.size+1) am.o (by rfl) (by omega) ac ?_));intro g2 ab w2 N aq;have ap:=aa.trans aq;go_wp2_with fail;refine (zj5 _ m _ ak hs).mono ?_;rintro e w3 ⟨b,rfl,A,rfl⟩;have HX:Hid (∀r,Lx s h b (n+1) r->zak s h (r.map ((L++[⟨V,Y,U,X⟩])++ ·))):=zj9 K.o H af HT.o A;have av:=(zhr A).1;have an:=(zhr A).2;clear A;go_wp2;go_roundw
     case rel=>exact⟨b,n+1,g2,ab,L++[⟨V,Y,U,X⟩],an,by omega,rfl,rfl,N,HX.o,ap⟩
     case measure=>simp[intOf];omega
    ·have q4:decide ((4000:Int)<=(n:Int))=true:=decide_eq_true (by omega);have HE:Hid (zak s h (.error k)):=zfx K.o H (.inl (by omega));simp only[tkV];go_wp2;go_ret2;exact⟨⟨_,HE.o,_,_,rfl,zjA q.size⟩,(q.alloc q.size _).alloc (by rw[zg];have:=q.size;omega) _⟩
   ·have HE:Hid (zak s h (.error k)):=zfx K.o H (.inr ag);go_wp2;go_ret2;exact⟨⟨_,HE.o,_,_,rfl,zjA q.size⟩,(q.alloc q.size _).alloc (by rw[zg];have:=q.size;omega) _⟩
  ·have HE:Hid (zak s h (.ok L)):=zj8 K.o (by omega);go_wp2;go_ret2;exact⟨⟨_,HE.o,g,n,I,rfl,J⟩,hb⟩
theorem OwnT.cells {w:World} {base g n A:Nat} {e:TypeId} {z:List Tk} (h:OwnT w base e g n A z) {j:Nat} (U:j<n) {d:Tk}:
  w.cell? ⟨g,j*4,none⟩=some (.int .i64 (z.getD j d).kind)/\w.cell? ⟨g,j*4+1,none⟩=some (.string (z.getD j d).text)/\w.cell? ⟨g,j*4+2,none⟩=some (.int .i64 (z.getD j d).num)/\w.cell? ⟨g,j*4+3,none⟩=some (.int .i64 (z.getD j d).pos):=by
 have O:=h.2;have q: ∀(l:List Tk) (i c:Nat),c<4->i<l.length->(l.flatMap tkL)[i*4+c]? =(tkL (l.getD i d))[c]?:=by
  intro l
  induction l with
  |nil=>intro i c _ H;simp at H
  |cons x l J=>
   intro i c M H
   match i with
   |0=>
    simp only[List.flatMap_cons,Nat.zero_mul,Nat.zero_add,List.getD_cons_zero];rw[List.getElem?_append_left (by simp[tkL];omega)]
   |i+1=>
    simp only[List.flatMap_cons,List.getD_cons_succ];rw[List.getElem?_append_right (by simp[tkL];omega)];have:(i+1)*4+c-(tkL x).length=i*4+c:=by simp[tkL];omega
    rw[this];exact J i c M (by simpa using H)
 have L:=q z j 0 (by omega) (by omega);have N:=q z j 1 (by omega) (by omega);have I:=q z j 2 (by omega) (by omega);have K:=q z j 3 (by omega) (by omega);rw[h.1.cellAt _ (by omega),h.1.cellAt _ (by omega),h.1.cellAt _ (by omega),h.1.cellAt _ (by omega)];exact⟨L,N,I,K⟩
end Go.Proofs.YtgcbmogmniahjaaGreat
namespace Go.Proofs.YtgcbmogmniahjaaGreat
open Go.Proofs.Tryz
set_option maxRecDepth 100000
set_option maxHeartbeats 1600000
open Go.RowKit Go.PlainAid
def pv (C:Cx) (gt cap:Nat) (S:Sv) (q:PS) (z:Int) (d:Nat):Value:=
 .agg #[.slice (some ⟨gt,0,none⟩) C.ts.length cap,.int .i64 q.pos,.int .i64 C.fin,.bool C.scr,.slice S.rq.a q.rq.length S.rq.cap,.slice S.im.a q.im.length S.im.cap,.slice S.ep.a q.ep.length S.ep.cap,
  .slice S.st.a q.st.length S.st.cap,.slice S.ex.a q.ex.length S.ex.cap,.slice S.la.a q.la.length S.la.cap,.int .i64 z,.int .i64 d]
theorem zjB {C:Cx} {i:Nat} {k:Int} {s:BA} (h:((ze C i).kind==k)=false):isT C i k s=false:=by rw[isT,h];rfl
theorem zfy {C:Cx} {i:Nat} {k:Int} {s:BA} (h: ¬i<C.ts.length) (q:k≠0):isT C i k s=false:=by
 rw[Bool.eq_false_iff];exact fun g=>h (za9 g q)
theorem zk (C:Cx) (O H base:Nat) (S:Sv) (q:PS) (z:Int) (d:Nat) (k:Int) (s:BA) (w:World) (N:OwnT w base 158 O C.ts.length H C.ts) (_:C.ts.length<=4000) (Y:k≠0):
  Calls prog 113 #[pv C O H S q z d,.int .i64 k,.string s] w fun e w'=>e= .returned (.bool (decide (z<0)&&isT C q.pos k s))/\Below w.heap.size w w':=by
 unfold pv;by_cases X:z<0
 ·have I:decide (z<0)=true:=decide_eq_true X;by_cases K:q.pos<C.ts.length
  ·obtain⟨L,V,_,_⟩:=N.cells K (d:=⟨0,sNone,0,C.fin⟩);have M:=(zau N).1;change _=some (Value.int .i64 (ze C q.pos).kind) at L;change _=some (Value.string (ze C q.pos).text) at V;generalize h:ze C q.pos=t at L V;cases J:(t.kind==k) with
   |true=>
    cases U:(t.text.toList==s.toList) with
    |true=>
     have A:Hid (isT C q.pos k s=true):=by show isT C q.pos k s=true;simp only[isT,h,J,U,Bool.and_self]
     clear h;go_enter func113,ntmps113;go_wp2;go_ret;exact⟨zi (by rw[I,A.o];rfl),(Below.refl _ _).alloc (Nat.le_refl _) _⟩
    |false=>
     have A:Hid (isT C q.pos k s=false):=by show isT C q.pos k s=false;simp only[isT,h,J,U,Bool.and_false]
     clear h;go_enter func113,ntmps113;go_wp2;go_ret;exact⟨zi (by rw[I,A.o];rfl),(Below.refl _ _).alloc (Nat.le_refl _) _⟩
   |false=>
    have A:Hid (isT C q.pos k s=false):=zjB (by rw[h];exact J);clear h;go_enter func113,ntmps113;go_wp2;go_ret;exact⟨zi (by rw[I,A.o];rfl),(Below.refl _ _).alloc (Nat.le_refl _) _⟩
  ·have A:Hid (isT C q.pos k s=false):=zfy K Y;go_enter func113,ntmps113;go_wp2;go_ret;exact⟨zi (by rw[I,A.o];rfl),(Below.refl _ _).alloc (Nat.le_refl _) _⟩
 ·have I:decide (z<0)=false:=decide_eq_false X;go_enter func113,ntmps113;go_wp2;go_ret;exact⟨zi rfl,(Below.refl _ _).alloc (Nat.le_refl _) _⟩
theorem znZ (C:Cx) (I h base:Nat) (S:Sv) (q:PS) (z:Int) (d:Nat) (w:World) (H:OwnT w base 158 I C.ts.length h C.ts) (_:C.ts.length<=4000):
  Calls prog 180 #[pv C I h S q z d] w fun e w'=>e= .returned (.int .i64 (zs C q.pos))/\Below w.heap.size w w':=by
 unfold pv;by_cases J:q.pos<C.ts.length
 ·obtain⟨_,_,_,K⟩:=H.cells J (d:=⟨0,sNone,0,C.fin⟩);have A:=(zau H).1;change _=some (Value.int .i64 (zs C q.pos)) at K;go_enter func180,ntmps180;go_wp2;go_ret;exact⟨rfl,(Below.refl _ _).alloc (Nat.le_refl _) _⟩
 ·have L:Hid (zs C q.pos=C.fin):=by show zs C q.pos=C.fin;rw[zs,zea (by omega)]
  go_enter func180,ntmps180;go_wp2;go_ret;exact⟨zbC (by rw[L.o]),(Below.refl _ _).alloc (Nat.le_refl _) _⟩
def zb7 (C:Cx) (i:Nat) (z:Int):Int:=if z<0 then zs C i else z
theorem zr {w:World} {base g n q:Nat} {e:TypeId} {z:List Tk} (h:OwnT w base e g n q z) (o:Obj):OwnT (w.alloc o) base e g n q z:=zc1 h ((Below.refl _ _).alloc (Nat.le_refl _) _)
theorem zc2 {w:World} {b i:Nat} {q:Array Value} {u:Value} {t:TypeId} (h:w.heap[b]? =some (.cells q t (0,0))):(w.setCell ⟨b,i,none⟩ u).heap[b]? =some (.cells (q.setIfInBounds i u) t (0,0)):=by
 simp only[World.setCell,Array.getElem?_modify];rw[if_pos trivial,h];rfl
theorem zv {w:World} {b c i:Nat} {u:Value} (h:b≠c):(w.setCell ⟨c,i,none⟩ u).heap[b]? =w.heap[b]?:=Below.heap_setCell w ⟨c,i,none⟩ u b h
structure Box (w:World) (b:Nat) (v0 v1 v2 v3 v4 v5 v6 v7 v8 v9 v10 v11:Value):Prop where
 c0:w.cell? ⟨b,0,none⟩=some v0
 c1:w.cell? ⟨b,1,none⟩=some v1
 c2:w.cell? ⟨b,2,none⟩=some v2
 c3:w.cell? ⟨b,3,none⟩=some v3
 c4:w.cell? ⟨b,4,none⟩=some v4
 c5:w.cell? ⟨b,5,none⟩=some v5
 c6:w.cell? ⟨b,6,none⟩=some v6
 c7:w.cell? ⟨b,7,none⟩=some v7
 c8:w.cell? ⟨b,8,none⟩=some v8
 c9:w.cell? ⟨b,9,none⟩=some v9
 c10:w.cell? ⟨b,10,none⟩=some v10
 c11:w.cell? ⟨b,11,none⟩=some v11
 fz: ∀i,w.frozen? ⟨b,i,none⟩=false
theorem zap {w:World} {b:Nat} {t:TypeId} {v0 v1 v2 v3 v4 H A K J I q z:Value} (h:w.heap[b]? =some (.cells #[v0,v1,v2,v3,v4,H,A,K,J,I,q,z] t (0,0))):Box w b v0 v1 v2 v3 v4 H A K J I q z:=by
 constructor<;>simp[World.cell?,World.frozen?,h]
theorem zbd {w:World} {b:Nat} {v0 v1 v2 v3 v4 v5 Y v7 v8 Z H O A X M J I N V K U L z q:Value} {t:TypeId} (h:w.heap[b]? =some (.cells #[v0,v1,v2,v3,v4,v5,Y,v7,v8,Z,H,O] t (0,0))):
  ((((((((((((w.setCell ⟨b,0,none⟩ A).setCell ⟨b,1,none⟩ X).setCell ⟨b,2,none⟩ M).setCell ⟨b,3,none⟩ J).setCell ⟨b,4,none⟩ I).setCell ⟨b,5,none⟩ N).setCell ⟨b,6,none⟩ V).setCell ⟨b,7,none⟩ K).setCell ⟨b,8,none⟩ U).setCell ⟨b,9,none⟩ L).setCell ⟨b,10,none⟩ z).setCell ⟨b,11,none⟩ q).heap[b]? =some (.cells #[A,X,M,J,I,N,V,K,U,L,z,q] t (0,0)):=
 by
 have e:=zc2 (i:=11) (u:=q) (zc2 (i:=10) (u:=z) (zc2 (i:=9) (u:=L) (zc2 (i:=8) (u:=U) (zc2 (i:=7) (u:=K) (zc2 (i:=6) (u:=V) (zc2 (i:=5) (u:=N) (zc2 (i:=4) (u:=I) (zc2 (i:=3) (u:=J) (zc2 (i:=2) (u:=M) (zc2 (i:=1) (u:=X) (zc2 (i:=0) (u:=A) h)))))))))));rw[e];simp
theorem zbY {B:Nat} {a w:World} {b:Nat} (h:Below B a w) (q:B<=b) (H L U M I V K O J N z A:Value):
  Below B a ((((((((((((w.setCell ⟨b,0,none⟩ H).setCell ⟨b,1,none⟩ L).setCell ⟨b,2,none⟩ U).setCell ⟨b,3,none⟩ M).setCell ⟨b,4,none⟩ I).setCell ⟨b,5,none⟩ V).setCell ⟨b,6,none⟩ K).setCell ⟨b,7,none⟩ O).setCell ⟨b,8,none⟩ J).setCell ⟨b,9,none⟩ N).setCell ⟨b,10,none⟩ z).setCell ⟨b,11,none⟩ A):=
 (((((((((((h.setCell q _).setCell q _).setCell q _).setCell q _).setCell q _).setCell q _).setCell q _).setCell q _).setCell q _).setCell q _).setCell q _).setCell q _
theorem zbe (w:World) (a b:Obj):Below w.heap.size w ((w.alloc a).alloc b):=((Below.refl _ _).alloc (Nat.le_refl _) _).alloc (by show _<=(w.heap.push _).size;simp) _
theorem new2 (w:World) (a b:Obj):((w.alloc a).alloc b).heap[w.heap.size+1]? =some b:=by
 have h:(w.alloc a).heap.size=w.heap.size+1:=by show (w.heap.push _).size=_;simp
 rw[<-h];exact heap_alloc_new _ b
theorem zcQ {w h:World} {a b:Obj} (q:Below ((w.alloc a).alloc b).heap.size ((w.alloc a).alloc b) h):h.heap[w.heap.size]? =some a/\h.heap[w.heap.size+1]? =some b:=by
 have e:((w.alloc a).alloc b).heap.size=w.heap.size+2:=by show ((w.heap.push _).push _).size=_;simp
 have z:(w.alloc a).heap.size=w.heap.size+1:=by show (w.heap.push _).size=_;simp
 refine⟨?_,?_⟩
 ·rw[q.block _ (by omega),Below.heap_alloc _ _ _ (by omega)];exact heap_alloc_new w a
 ·rw[q.block _ (by omega),<-z];exact heap_alloc_new _ b
theorem zbj {w h:World} {a b:Obj} (z:Below ((w.alloc a).alloc b).heap.size ((w.alloc a).alloc b) h):Below w.heap.size w h:=by
 have A:(w.alloc a).heap.size=w.heap.size+1:=by show (w.heap.push _).size=_;simp
 have q:Below w.heap.size w ((w.alloc a).alloc b):=((Below.refl _ _).alloc (Nat.le_refl _) _).alloc (by omega) _;exact q.trans (z.mono q.size)
theorem zd7 (C:Cx) (A h base:Nat) (S:Sv) (q:PS) (z:Int) (d:Nat) (w:World) (N:OwnT w base 158 A C.ts.length h C.ts) (Y:C.ts.length<=4000):
  Calls prog 157 #[pv C A h S q z d] w fun e w'=>e= .returned (pv C A h S q (zb7 C q.pos z) d)/\Below w.heap.size w w':=by
 by_cases K:z<0
 ·have I:Hid (zb7 C q.pos z=zs C q.pos):=if_pos K;unfold pv;go_enter func157,ntmps157;go_wp2_with fail;refine (znZ C A h base S q z d _ (zr (zr N _) _) Y).mono ?_;rintro e w1 ⟨rfl,J⟩;obtain⟨L,H⟩:=zcQ J;obtain⟨a0,a1,a2,a3,a4,a5,a6,a7,Z,a9,U,V,af⟩:=zap L;obtain⟨b0,b1,b2,b3,b4,b5,b6,b7,b8,b9,O,M,bf⟩:=zap H;have X:Hid (_=_):=H;clear L H;go_wp2;refine bodyPost_ret (results_cell_row rfl _ _ (w.heap.size+1) 121 _ (0,0) _ rfl (zbd ((zv (by omega)).trans X.o)) underlying121 rfl (by kernel_rfl)) rfl ?_;exact⟨by rw[I.o],zbY ((zbj J).setCell (Nat.le_refl _) _) (Nat.le_succ _) _ _ _ _ _ _ _ _ _ _ _ _⟩
 ·have I:Hid (zb7 C q.pos z=z):=if_neg K;unfold pv;go_enter func157,ntmps157;go_wp2;refine bodyPost_ret (results_cell_row rfl _ _ (w.heap.size+1) 121 _ (0,0) _ rfl (new2 w _ _) underlying121 rfl (by kernel_rfl)) rfl ?_;exact⟨by rw[I.o],zbe w _ _⟩
end Go.Proofs.YtgcbmogmniahjaaGreat
