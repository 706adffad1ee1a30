/- Facts. -/
import Derived.Test.YtegdaafmaookjaaGreatP7
import Derived.Laws.Rows
import Derived.Laws.ResultCell
namespace Go.Proofs.YtegdaafmaookjaaGreat
open Go.Proofs.Tryz
theorem hN0 (w:World) (o:Obj):(w.alloc o).heap[w.heap.size]? = some o:=heap_alloc_new w o
set_option maxHeartbeats 3200000
open Go.RowKit Go.PlainAid
theorem zaH {P:Program} {H:Func} {p u:Tmp} {A:TypeId} (h:H.results= #[.cell p A,.tmp u]) (tmps:Array Value) (w:World) (g:Nat) (t:TypeId) (q:Array Value) (I:Nat×Nat) (d:TypeDesc)
  (K:tmps.getD p undef= .pointer (some ⟨g,0,none⟩)) (M:w.heap[g]? =some (.cells q t I))
  (L:P.underlying A=some d) (J:(match d with| .struct _| .array _ _=>true|_=>false)=true) (N:(P.info? A).map (·.size)=some q.size):
  (results H tmps).run P w= .ok (.tuple #[.agg q,tmps.getD u undef]) w:=by
 rw[results_cell_tmp h,K];simp[asAddr,Result.andThen,run_loadVar_row w g t A q I d M L J N]
def tkV (t:Tk):Value:=.agg #[.int .i64 t.kind,.string t.text,.int .i64 t.num,.int .i64 t.pos]
def zkH (s:BA0) (scr:Bool) (a:Nat) (v:Value) (z:Int):Prop:=
 (∃(t:Tk) (n:Nat),v=tkV t/\z=n/\Tok s scr a t n)∨(z= -1/\(∃k x y u,v= .agg #[.int .i64 k,.string x,.int .i64 y,.int .i64 u])/\∀t n,¬Tok s scr a t n)
variable {s:BA0} {w:Bool} {g:Nat}
theorem zi5 {k y u:Int} {x:BA0} (h: ∀t n,¬Tok s w g t n):zkH s w g (.agg #[.int .i64 k,.string x,.int .i64 y,.int .i64 u]) (-1):=.inr ⟨rfl,⟨k,x,y,u,rfl⟩,h⟩
theorem zi6 (A:zQ (bt s g)=true) (h: ∀n e,¬zbl s g w n e): ∀t n,¬Tok s w g t n:=by
 intro t n I;cases I using Tok.elim with
 |name q _=>rw[(zfh q).1] at A;cases A
 |num _ H=>exact h _ _ H
 |str q _=>exact (zfi A).1 q
 |sign q=>exact (zfi A).2 q
theorem zha (W:bt s g=34) (h: ∀e,¬zbD s g e): ∀t n,¬Tok s w g t n:=by
 intro t n I;cases I using Tok.elim with
 |name q _=>exact (zfh q).2.1 W
 |num q _=>exact (zfi q).1 W
 |str _ H=>exact h _ H
 |sign q=>rw[W] at q;unfold zbz at q;omega
theorem zkI (H:zaA (bt s g) w=false) (W:zQ (bt s g)=false) (J:bt s g≠34) (A: ¬zbz (bt s g)): ∀t n,¬Tok s w g t n:=by
 intro t n I;cases I using Tok.elim with
 |name h _=>rw[H] at h;cases h
 |num h _=>rw[W] at h;cases h
 |str h _=>exact J h
 |sign h=>exact A h
theorem zqe (s:BA0) (a:Nat) (A:Bool) (w:World) (ha:a<s.size) (hs:s.size<=4294967296):
  Calls prog 122 #[.string s,.int .i64 a,.bool A] w fun e w'=>∃v z,e= .returned (.tuple #[v,.int .i64 z])/\zkH s A a v z/\Bw w w':=by
 have hb:=get_bt s;have h:=bt_nonneg s a;have q:=bt_le s a;cases hl:zaA (bt s a) A with
 |true=>
  have HL:Hid (zaA (bt s a) A=true):=hl;go_enter func122,ntmps122;go_wp2_with fail;refine (zd3 _ _ _ h q).mono ?_;rintro e w' ⟨rfl,rfl⟩;go_wp2_with fail;refine (zpY _ _ _ _ (by omega) hs).mono ?_;rintro e w' ⟨n,rfl,U,rfl⟩;have HR:Hid (zaB (zT A) s a n):=U;have ad:a<=n:=U.1;have ab:n<=s.size:=U.2.1;clear U;go_wp2;refine bodyPost_ret (zaH rfl _ _ w.heap.size 157 _ (0,0) _ rfl (hN0 w _) underlying157 rfl (by kernel_rfl)) rfl ?_;exact⟨_,_,rfl,.inl ⟨⟨1,s.extract a n,0,a⟩,n,rfl,rfl,.name HL.o HR.o⟩,bA0⟩
 |false=>
  cases hd:zQ (bt s a) with
  |true=>
   have HD:Hid (zQ (bt s a)=true):=hd;go_enter func122,ntmps122;go_wp2_with fail;refine (zd3 _ _ _ h q).mono ?_;rintro e w' ⟨rfl,rfl⟩;go_wp2_with fail;refine (zc3 _ _ h q).mono ?_;rintro e w' ⟨rfl,rfl⟩;go_wp2_with fail;refine (zqd _ _ _ _ ha HD.o hs).mono ?_;rintro e w' ⟨n,z,rfl,hn,rfl⟩;rcases hn with ⟨m,rfl,I⟩|⟨rfl,rfl,I⟩
   ·have N:Hid (zbl s a A n m):=I;clear I;go_wp2;refine bodyPost_ret (zaH rfl _ _ w.heap.size 157 _ (0,0) _ rfl (hN0 w _) underlying157 rfl (by kernel_rfl)) rfl ?_;exact⟨_,_,rfl,.inl ⟨⟨2,{data:=#[]},n,a⟩,m,rfl,rfl,.num HD.o N.o⟩,bA0⟩
   ·have N:Hid (∀n m,¬zbl s a A n m):=I;clear I;go_wp2;refine bodyPost_ret (zaH rfl _ _ w.heap.size 157 _ (0,0) _ rfl (hN0 w _) underlying157 rfl (by kernel_rfl)) rfl ?_;exact⟨_,_,rfl,zi5 (zi6 HD.o N.o),bA0⟩
  |false=>
   by_cases H:bt s a=34
   ·have O:Hid (bt s a=34):=H;have X:(bt s a==34)=true:=by simpa using H
    clear H;go_enter func122,ntmps122;go_wp2_with fail;refine (zd3 _ _ _ h q).mono ?_;rintro e w' ⟨rfl,rfl⟩;go_wp2_with fail;refine (zc3 _ _ h q).mono ?_;rintro e w' ⟨rfl,rfl⟩;go_wp2_with fail;refine (zpZ _ _ _ ha hs).mono ?_;rintro e w' ⟨z,rfl,hn,rfl⟩;rcases hn with ⟨n,rfl,I⟩|⟨rfl,I⟩
    ·obtain⟨m,rfl⟩: ∃m,n=m+1:=⟨n-1,by have:=I.1;omega⟩;have N:Hid (zbD s a (m+1)):=I;have Z:a+1<=m:=by have:=I.1;omega
     have ac:m+1<=s.size:=I.2.1;have ez:((m+1:Nat):Int)=(m:Int)+1:=by omega
     obtain⟨K,L⟩: ∃K,K=a+1:=⟨_,rfl⟩;have ea:(a:Int)+1=(K:Int):=by omega
     have M:Hid (K=a+1):=L;have aa:K<=m:=by omega
     have V:m<=s.size:=by omega
     clear I L Z;go_wp2;refine bodyPost_ret (zaH rfl _ _ w.heap.size 157 _ (0,0) _ rfl (hN0 w _) underlying157 rfl (by kernel_rfl)) rfl ?_;exact⟨_,_,rfl,.inl ⟨⟨3,s.extract (a+1) (m+1-1),0,a⟩,m+1,by rw[M.o];rfl,by omega,.str O.o N.o⟩,bA0⟩
    ·have N:Hid (∀n,¬zbD s a n):=I;clear I;go_wp2;refine bodyPost_ret (zaH rfl _ _ w.heap.size 157 _ (0,0) _ rfl (hN0 w _) underlying157 rfl (by kernel_rfl)) rfl ?_;exact⟨_,_,rfl,zi5 (zha O.o N.o),bA0⟩
   ·have X:(bt s a==34)=false:=by simpa using H
    by_cases J:zbz (bt s a)
    ·have HS:Hid (zbz (bt s a)):=J;have Y:zgb (bt s a)=true:=dT J;obtain⟨K,L⟩: ∃K,K=a+1:=⟨_,rfl⟩;have ea:(a:Int)+1=(K:Int):=by omega
     have M:Hid (K=a+1):=L;have aa:a<=K:=by omega
     have V:K<=s.size:=by omega
     clear J H L;go_enter func122,ntmps122;go_wp2_with fail;refine (zd3 _ _ _ h q).mono ?_;rintro e w' ⟨rfl,rfl⟩;go_wp2_with fail;refine (zc3 _ _ h q).mono ?_;rintro e w' ⟨rfl,rfl⟩;go_wp2_with fail;refine (zkE _ _).mono ?_;rintro e w' ⟨rfl,rfl⟩;go_wp2;refine bodyPost_ret (zaH rfl _ _ w.heap.size 157 _ (0,0) _ rfl (hN0 w _) underlying157 rfl (by kernel_rfl)) rfl ?_;exact⟨_,_,rfl,.inl ⟨⟨4,s.extract a (a+1),0,a⟩,a+1,by rw[M.o];rfl,by rw[M.o],.sign HS.o⟩,bA0⟩
    ·have HN:Hid (∀t n,¬Tok s A a t n):=zkI hl hd H J;have Y:zgb (bt s a)=false:=dF J;clear J H;go_enter func122,ntmps122;go_wp2_with fail;refine (zd3 _ _ _ h q).mono ?_;rintro e w' ⟨rfl,rfl⟩;go_wp2_with fail;refine (zc3 _ _ h q).mono ?_;rintro e w' ⟨rfl,rfl⟩;go_wp2_with fail;refine (zkE _ _).mono ?_;rintro e w' ⟨rfl,rfl⟩;go_wp2;refine bodyPost_ret (zaH rfl _ _ w.heap.size 157 _ (0,0) _ rfl (hN0 w _) underlying157 rfl (by kernel_rfl)) rfl ?_;exact⟨_,_,rfl,zi5 HN.o,bA0⟩
set_option maxRecDepth 100000
theorem Tryz.infoTok:(prog.info? 157).map (fun i=>(i.zero,i.size,i.bytes))=some (some (.agg #[.int .i64 0,.string {data:=#[]},.int .i64 0,.int .i64 0]),4,40):=by kernel_rfl
def zqf (s:BA0) (scr:Bool) (w:World) (e:Ending) (w':World):Prop:=
 ∃r,zap s scr r/\match r with
  | .ok ts=>∃g n cap,e= .returned (.tuple #[.slice (some ⟨g,0,none⟩) n cap,.int .i64 (-1)])/\OwnT w' w.heap.size 157 g n cap ts
  | .error p=>∃g cap,e= .returned (.tuple #[.slice (some ⟨g,0,none⟩) 0 cap,.int .i64 p])/\OwnT w' w.heap.size 157 g 0 cap []
variable {s:BA0} {w:Bool} {g:Nat} {W:List Tk} {V:World} {C:TypeId}
theorem zgd {n:Nat} {S:List Tk} (h: ∀r,Lx s w g n r->zap s w (r.map (S++ ·))) (A:g<s.size) (H:4000<=n∨∀t e,¬Tok s w g t e):zap s w (.error g):=h _ (.bad A H)
theorem zkJ {n:Nat} {S:List Tk} (h: ∀r,Lx s w g n r->zap s w (r.map (S++ ·))) (A:g=s.size):zap s w (.ok S):=by
 subst A;have:=h _ .done
 simpa [Except.map] using this
theorem zkK {n e b:Nat} {t:Tk} {S:List Tk} (h: ∀r,Lx s w g n r->zap s w (r.map (S++ ·))) (A:g<s.size) (K:n<4000) (I:Tok s w g t e) (J:Skip s e b):
  ∀r,Lx s w b (n+1) r->zap s w (r.map ((S++[t])++ ·)):=by
 intro r H;have:=h _ (.tok A K I J H);cases r<;>simpa [Except.map] using this
theorem zkL {o:Obj} (h:g<=V.heap.size):OwnT ((V.alloc o).alloc (.cells #[] C)) g C (V.heap.size+1) 0 0 []:=by
 have:=zi0 (V.alloc o) C g (by rw[zh];omega);rw[zh] at this;exact this
theorem zqg (s:BA0) (h:Bool) (w:World) (hs:s.size<=4294967296):
  Calls prog 95 #[.string s,.bool h] w fun e w'=>zqf s h w e w'/\Bw w w':=by
 obtain⟨i0,hi,ah,aj,al⟩:=info_parts Tryz.infoTok;go_enter func95,ntmps95;go_wp2_with fail;refine (zkG _ 0 _ (Nat.zero_le _) hs).mono ?_;rintro e w' ⟨k0,rfl,A,rfl⟩;have ao:Hid (Skip s 0 k0):=A;have ai:=(zis A).2;clear A;go_wp2;go_loopw [6,7,8,9] (fun o i _ _ wr=>∃(k n g I:Nat) (L:List Tk),k<=s.size/\n<=4000/\i= .int .i64 k/\o= .slice (some ⟨g,0,none⟩) n I/\OwnT wr w.heap.size 157 g n I L/\(∀r,Lx s h k n r->zap s h (r.map (L++ ·)))/\Bw w wr) (fun _ i _ _ _=>(s.size-intOf i).toNat)
 case atStart=>exact⟨k0,0,w.heap.size,0,[],ai,by omega,rfl,rfl,zi0 w _ _ (Nat.le_refl _),fun r hr=>⟨k0,ao.o,by cases r<;>simpa [Except.map] using hr⟩,bA0⟩
 case round=>
  obtain⟨k,n,g,I,L,hk,hn,rfl,rfl,J,Z,hb⟩:=hrel;have K:Hid (∀r,Lx s h k n r->zap s h (r.map (L++ ·))):=Z;have ar:=za1 J;clear Z;by_cases H:k<s.size
  ·go_wp2_with fail;refine (zqe _ _ _ _ H hs).mono ?_;rintro e w1 ⟨v,z,rfl,ad,ae⟩;have q:=hb.trans (ae.mono hb.size);have O:=zcG J ae;rcases ad with ⟨⟨V,Y,U,X⟩,m,rfl,rfl,ht⟩|⟨rfl,⟨c1,c2,c3,c4,rfl⟩,ag⟩
   ·have HT:Hid (Tok s h k ⟨V,Y,U,X⟩ m):=ht;have au:=(zfj H ht).1;have ak:=(zfj H ht).2.1;clear ht;by_cases af:n<4000
    ·have q4:decide ((4000:Int)<=(n:Int))=false:=dF (by omega);obtain⟨W,hW⟩: ∃W,W=w1.alloc (.cells #[.int .i64 V,.string Y,.int .i64 U,.int .i64 X] 157):=⟨_,rfl⟩;have HW:Hid (W=w1.alloc (.cells #[.int .i64 V,.string Y,.int .i64 U,.int .i64 X] 157)):=hW;have aa:Bw w W:=by rw[hW];exact q.alloc q.size _
     have M:OwnT W w.heap.size 157 g n I L:=by rw[hW];exact zcG O (bA0)
     have ac:=aa.size;have am:Hid (w1.heap.size+1=W.heap.size):=by show _=_;rw[hW,zh]
     clear hW;simp only[tkV];go_wp2_with (first|(at_builtin;rw[<-HW.o];refine zpK W rfl _ _ 123 rfl w.heap.size 157 i0 _ underlying123 hi ah aj al rfl g n I L (by rfl) M ⟨V,Y,U,X⟩ (w1.heap.size+1) am.o (by rfl) (by omega) ac ?_));intro g2 ab w2 N aq;have ap:=aa.trans aq;go_wp2_with fail;refine (zkG _ m _ ak hs).mono ?_;rintro e w3 ⟨b,rfl,A,rfl⟩;have HX:Hid (∀r,Lx s h b (n+1) r->zap s h (r.map ((L++[⟨V,Y,U,X⟩])++ ·))):=zkK K.o H af HT.o A;have av:=(zis A).1;have an:=(zis A).2;clear A;go_wp2;go_roundw
     case rel=>exact⟨b,n+1,g2,ab,L++[⟨V,Y,U,X⟩],an,by omega,rfl,rfl,N,HX.o,ap⟩
     case measure=>simp[intOf];omega
    ·have q4:decide ((4000:Int)<=(n:Int))=true:=dT (by omega);have HE:Hid (zap s h (.error k)):=zgd K.o H (.inl (by omega));simp only[tkV];go_wp2;go_ret2;exact⟨⟨_,HE.o,_,_,rfl,zkL q.size⟩,(q.alloc q.size _).alloc (by rw[zh];have:=q.size;omega) _⟩
   ·have HE:Hid (zap s h (.error k)):=zgd K.o H (.inr ag);go_wp2;go_ret2;exact⟨⟨_,HE.o,_,_,rfl,zkL q.size⟩,(q.alloc q.size _).alloc (by rw[zh];have:=q.size;omega) _⟩
  ·have HE:Hid (zap s h (.ok L)):=zkJ K.o (by omega);go_wp2;go_ret2;exact⟨⟨_,HE.o,g,n,I,rfl,J⟩,hb⟩
theorem OwnT.cells {base g n H:Nat} (h:OwnT V base C g n H W) {j:Nat} (S:j<n) {d:Tk}:
  V.cell? ⟨g,j*4,none⟩=some (.int .i64 (W.getD j d).kind)/\V.cell? ⟨g,j*4+1,none⟩=some (.string (W.getD j d).text)/\V.cell? ⟨g,j*4+2,none⟩=some (.int .i64 (W.getD j d).num)/\V.cell? ⟨g,j*4+3,none⟩=some (.int .i64 (W.getD j d).pos):=by
 have U:=h.2;have q: ∀(l:List Tk) (i c:Nat),c<4->i<l.length->(l.flatMap tkL)[i*4+c]? =(tkL (l.getD i d))[c]?:=by
  intro l
  induction l with
  |nil=>intro i c _ I;simp at I
  |cons x l K=>
   intro i c N I
   match i with
   |0=>
    simp only[List.flatMap_cons,Nat.zero_mul,Nat.zero_add,List.getD_cons_zero];rw[List.getElem?_append_left (by simp[tkL];omega)]
   |i+1=>
    simp only[List.flatMap_cons,List.getD_cons_succ];rw[List.getElem?_append_right (by simp[tkL];omega)];have:(i+1)*4+c-(tkL x).length=i*4+c:=by simp[tkL];omega
    rw[this];exact K i c N (by simpa using I)
 have M:=q W j 0 (by omega) (by omega);have O:=q W j 1 (by omega) (by omega);have J:=q W j 2 (by omega) (by omega);have L:=q W j 3 (by omega) (by omega);rw[h.1.cellAt _ (by omega),h.1.cellAt _ (by omega),h.1.cellAt _ (by omega),h.1.cellAt _ (by omega)];exact⟨M,O,J,L⟩
set_option maxHeartbeats 1600000
def pv (C:Cx) (gt cap:Nat) (S:Sv) (q:PS) (z:Int) (d:Nat):Value:=
 .agg #[.slice (some ⟨gt,0,none⟩) C.ts.length cap,.int .i64 q.pos,.int .i64 C.fin,.bool C.scr,.slice S.rq.a q.rq.length S.rq.cap,.slice S.im.a q.im.length S.im.cap,.slice S.ep.a q.ep.length S.ep.cap,
  .slice S.st.a q.st.length S.st.cap,.slice S.ex.a q.ex.length S.ex.cap,.slice S.la.a q.la.length S.la.cap,.int .i64 z,.int .i64 d]
variable (C:Cx) (g b c:Nat) (S:Sv) (q:PS) (z:Int) (d:Nat) (w:World) (W s:Obj) {D:Cx} {n:Nat} {u:Int} {t:BA0} {V:World} {k:TypeId} {m:Value} {x:Obj}
theorem zkM (h:((ze D n).kind==u)=false):isT D n u t=false:=by rw[isT,h];rfl
theorem zge (h: ¬n<D.ts.length) (q:u≠0):isT D n u t=false:=by
 rw[Bool.eq_false_iff];exact fun g=>h (zaG g q)
theorem zm (k:Int) (s:BA0) (w:World) (N:OwnT w c 157 g C.ts.length b C.ts) (_:C.ts.length<=4000) (Y:k≠0):
  Calls prog 123 #[pv C g b S q z d,.int .i64 k,.string s] w fun e w'=>e= .returned (.bool (decide (z<0)&&isT C q.pos k s))/\Bw w w':=by
 unfold pv;by_cases X:z<0
 ·have I:decide (z<0)=true:=dT X;by_cases K:q.pos<C.ts.length
  ·obtain⟨L,V,_,_⟩:=N.cells K (d:=⟨0,sNone,0,C.fin⟩);have M:=(za1 N).1;change _=some (Value.int .i64 (ze C q.pos).kind) at L;change _=some (Value.string (ze C q.pos).text) at V;generalize h:ze C q.pos=t at L V;cases J:(t.kind==k) with
   |true=>
    cases U:(t.text.toList==s.toList) with
    |true=>
     have A:Hid (isT C q.pos k s=true):=by show isT C q.pos k s=true;simp only[isT,h,J,U,Bool.and_self]
     clear h;go_enter func123,ntmps123;go_wp2;go_ret;exact⟨zk (by rw[I,A.o];rfl),bA0⟩
    |false=>
     have A:Hid (isT C q.pos k s=false):=by show isT C q.pos k s=false;simp only[isT,h,J,U,Bool.and_false]
     clear h;go_enter func123,ntmps123;go_wp2;go_ret;exact⟨zk (by rw[I,A.o];rfl),bA0⟩
   |false=>
    have A:Hid (isT C q.pos k s=false):=zkM (by rw[h];exact J);clear h;go_enter func123,ntmps123;go_wp2;go_ret;exact⟨zk (by rw[I,A.o];rfl),bA0⟩
  ·have A:Hid (isT C q.pos k s=false):=zge K Y;go_enter func123,ntmps123;go_wp2;go_ret;exact⟨zk (by rw[I,A.o];rfl),bA0⟩
 ·have I:decide (z<0)=false:=dF X;go_enter func123,ntmps123;go_wp2;go_ret;exact⟨zk rfl,bA0⟩
theorem zqh (H:OwnT w c 157 g C.ts.length b C.ts) (_:C.ts.length<=4000):
  Calls prog 184 #[pv C g b S q z d] w fun e w'=>e= .returned (.int .i64 (zz C q.pos))/\Bw w w':=by
 unfold pv;by_cases J:q.pos<C.ts.length
 ·obtain⟨_,_,_,K⟩:=H.cells J (d:=⟨0,sNone,0,C.fin⟩);have A:=(za1 H).1;change _=some (Value.int .i64 (zz C q.pos)) at K;go_enter func184,ntmps184;go_wp2;go_ret;exact⟨rfl,bA0⟩
 ·have L:Hid (zz C q.pos=C.fin):=by show zz C q.pos=C.fin;rw[zz,ze8 (by omega)]
  go_enter func184,ntmps184;go_wp2;go_ret;exact⟨zbP (by rw[L.o]),bA0⟩
def zbK (C:Cx) (i:Nat) (z:Int):Int:=if z<0 then zz C i else z
theorem zy {g p q:Nat} {A:List Tk} (h:OwnT V n k g p q A) (o:Obj):OwnT (V.alloc o) n k g p q A:=zcG h (bA0)
theorem zcH {i:Nat} {q:Array Value} {u:Value} (h:V.heap[n]? =some (.cells q k (0,0))):(V.setCell ⟨n,i,none⟩ u).heap[n]? =some (.cells (q.setIfInBounds i u) k (0,0)):=by
 simp only[World.setCell,Array.getElem?_modify];rw[if_pos trivial,h];rfl
theorem zC {b c:Nat} (h:b≠c):(V.setCell ⟨c,n,none⟩ m).heap[b]? =V.heap[b]?:=Below.heap_setCell V ⟨c,n,none⟩ m b h
structure Box (w:World) (b:Nat) (v0 v1 v2 v3 v4 v5 v6 v7 v8 v9 v10 v11:Value):Prop where
 c0:w.cell? ⟨b,0,none⟩=some v0
 c1:w.cell? ⟨b,1,none⟩=some v1
 c2:w.cell? ⟨b,2,none⟩=some v2
 c3:w.cell? ⟨b,3,none⟩=some v3
 c4:w.cell? ⟨b,4,none⟩=some v4
 c5:w.cell? ⟨b,5,none⟩=some v5
 c6:w.cell? ⟨b,6,none⟩=some v6
 c7:w.cell? ⟨b,7,none⟩=some v7
 c8:w.cell? ⟨b,8,none⟩=some v8
 c9:w.cell? ⟨b,9,none⟩=some v9
 c10:w.cell? ⟨b,10,none⟩=some v10
 c11:w.cell? ⟨b,11,none⟩=some v11
 fz: ∀i,w.frozen? ⟨b,i,none⟩=false
theorem zaw {v1 v2 v3 v4 I H L K J q A:Value} (h:V.heap[n]? =some (.cells #[m,v1,v2,v3,v4,I,H,L,K,J,q,A] k (0,0))):Box V n m v1 v2 v3 v4 I H L K J q A:=by
 constructor<;>simp[World.cell?,World.frozen?,h]
theorem zbp {v1 v2 v3 v4 v5 Z v7 v8 v9 I U H Y N K J O X L p M A q:Value} (h:V.heap[n]? =some (.cells #[m,v1,v2,v3,v4,v5,Z,v7,v8,v9,I,U] k (0,0))):
  ((((((((((((V.setCell ⟨n,0,none⟩ H).setCell ⟨n,1,none⟩ Y).setCell ⟨n,2,none⟩ N).setCell ⟨n,3,none⟩ K).setCell ⟨n,4,none⟩ J).setCell ⟨n,5,none⟩ O).setCell ⟨n,6,none⟩ X).setCell ⟨n,7,none⟩ L).setCell ⟨n,8,none⟩ p).setCell ⟨n,9,none⟩ M).setCell ⟨n,10,none⟩ A).setCell ⟨n,11,none⟩ q).heap[n]? =some (.cells #[H,Y,N,K,J,O,X,L,p,M,A,q] k (0,0)):=
 by
 have e:=zcH (i:=11) (u:=q) (zcH (i:=10) (u:=A) (zcH (i:=9) (u:=M) (zcH (i:=8) (u:=p) (zcH (i:=7) (u:=L) (zcH (i:=6) (u:=X) (zcH (i:=5) (u:=O) (zcH (i:=4) (u:=J) (zcH (i:=3) (u:=K) (zcH (i:=2) (u:=N) (zcH (i:=1) (u:=Y) (zcH (i:=0) (u:=H) h)))))))))));rw[e];simp
theorem zcm {w:World} {b:Nat} (h:Below n V w) (q:n<=b) (I M p N J X L U K O A H:Value):
  Below n V ((((((((((((w.setCell ⟨b,0,none⟩ I).setCell ⟨b,1,none⟩ M).setCell ⟨b,2,none⟩ p).setCell ⟨b,3,none⟩ N).setCell ⟨b,4,none⟩ J).setCell ⟨b,5,none⟩ X).setCell ⟨b,6,none⟩ L).setCell ⟨b,7,none⟩ U).setCell ⟨b,8,none⟩ K).setCell ⟨b,9,none⟩ O).setCell ⟨b,10,none⟩ A).setCell ⟨b,11,none⟩ H):=
 (((((((((((h.setCell q _).setCell q _).setCell q _).setCell q _).setCell q _).setCell q _).setCell q _).setCell q _).setCell q _).setCell q _).setCell q _).setCell q _
theorem zbq:Bw w ((w.alloc W).alloc s):=(bA0).alloc (by show _<=(w.heap.push _).size;simp) _
theorem new2:((w.alloc W).alloc s).heap[w.heap.size+1]? =some s:=by
 have h:(w.alloc W).heap.size=w.heap.size+1:=by show (w.heap.push _).size=_;simp
 rw[<-h];exact hN0 _ s
theorem zdj {h:World} {b:Obj} (q:Below ((V.alloc x).alloc b).heap.size ((V.alloc x).alloc b) h):h.heap[V.heap.size]? =some x/\h.heap[V.heap.size+1]? =some b:=by
 have e:((V.alloc x).alloc b).heap.size=V.heap.size+2:=by show ((V.heap.push _).push _).size=_;simp
 have A:(V.alloc x).heap.size=V.heap.size+1:=by show (V.heap.push _).size=_;simp
 refine⟨?_,?_⟩
 ·rw[q.block _ (by omega),Below.heap_alloc _ _ _ (by omega)];exact hN0 V x
 ·rw[q.block _ (by omega),<-A];exact hN0 _ b
theorem zbv {h:World} {b:Obj} (A:Below ((V.alloc x).alloc b).heap.size ((V.alloc x).alloc b) h):Bw V h:=by
 have H:(V.alloc x).heap.size=V.heap.size+1:=by show (V.heap.push _).size=_;simp
 have q:Bw V ((V.alloc x).alloc b):=(bA0).alloc (by omega) _;exact q.trans (A.mono q.size)
theorem zdW (N:OwnT w c 157 g C.ts.length b C.ts) (Y:C.ts.length<=4000):
  Calls prog 166 #[pv C g b S q z d] w fun e w'=>e= .returned (pv C g b S q (zbK C q.pos z) d)/\Bw w w':=by
 by_cases K:z<0
 ·have I:Hid (zbK C q.pos z=zz C q.pos):=if_pos K;unfold pv;go_enter func166,ntmps166;go_wp2_with fail;refine (zqh C g b c S q z d _ (zy (zy N _) _) Y).mono ?_;rintro e w1 ⟨rfl,J⟩;obtain⟨L,H⟩:=zdj J;obtain⟨a0,a1,a2,a3,a4,a5,a6,a7,Z,a9,U,V,af⟩:=zaw L;obtain⟨b0,b1,b2,b3,b4,b5,b6,b7,b8,b9,O,M,bf⟩:=zaw H;have X:Hid (_=_):=H;clear L H;go_wp2;refine bodyPost_ret (results_cell_row rfl _ _ (w.heap.size+1) 127 _ (0,0) _ rfl (zbp ((zC (by omega)).trans X.o)) underlying127 rfl (by kernel_rfl)) rfl ?_;exact⟨by rw[I.o],zcm ((zbv J).setCell (Nat.le_refl _) _) (Nat.le_succ _) _ _ _ _ _ _ _ _ _ _ _ _⟩
 ·have I:Hid (zbK C q.pos z=z):=if_neg K;unfold pv;go_enter func166,ntmps166;go_wp2;refine bodyPost_ret (results_cell_row rfl _ _ (w.heap.size+1) 127 _ (0,0) _ rfl (new2 w _ _) underlying127 rfl (by kernel_rfl)) rfl ?_;exact⟨by rw[I.o],zbq w _ _⟩
