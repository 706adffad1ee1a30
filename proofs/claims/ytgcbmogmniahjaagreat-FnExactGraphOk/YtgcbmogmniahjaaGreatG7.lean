/- Facts and walks that the theorem stands on. -/
import Derived.Test.YtgcbmogmniahjaaGreatG6
import Derived.Laws.Rows
import Derived.Laws.ResultCell
import Derived.Test.YtgcbmogmniahjaaGreatG4
namespace Go.Proofs.YtgcbmogmniahjaaGreat
open Go.Proofs.Tryz
set_option maxHeartbeats 3200000
open Go.RowKit Go.PlainAid
theorem za8 {P:Program} {A:Func} {p u:Tmp} {z:TypeId} (h:A.results= #[.cell p z,.tmp u]) (tmps:Array Value) (w:World) (g:Nat) (t:TypeId) (q:Array Value) (D:Nat×Nat) (d:TypeDesc)
  (H:tmps.getD p undef= .pointer (some ⟨g,0,none⟩)) (J:w.heap[g]? =some (.cells q t D))
  (I:P.underlying z=some d) (E:(match d with| .struct _| .array _ _=>true|_=>false)=true) (K:(P.info? z).map (·.size)=some q.size):
  (results A tmps).run P w= .ok (.tuple #[.agg q,tmps.getD u undef]) w:=by
 rw[results_cell_tmp h,H];simp[asAddr,Result.andThen,run_loadVar_row w g t z q D d J I E K]
def tkV (t:Tk):Value:=.agg #[.int .i64 t.kind,.string t.text,.int .i64 t.num,.int .i64 t.pos]
def zjn (s:BA) (scr:Bool) (a:Nat) (v:Value) (z:Int):Prop:=
 (∃(t:Tk) (n:Nat),v=tkV t/\z=n/\Tok s scr a t n)∨(z= -1/\(∃k x y u,v= .agg #[.int .i64 k,.string x,.int .i64 y,.int .i64 u])/\∀t n,¬Tok s scr a t n)
theorem zhq {s:BA} {q:Bool} {a:Nat} {k y u:Int} {x:BA} (h: ∀t n,¬Tok s q a t n):zjn s q a (.agg #[.int .i64 k,.string x,.int .i64 y,.int .i64 u]) (-1):=.inr ⟨rfl,⟨k,x,y,u,rfl⟩,h⟩
theorem zhr {s:BA} {w:Bool} {a:Nat} (z:zJ (bt s a)=true) (h: ∀n e,¬zaZ s a w n e): ∀t n,¬Tok s w a t n:=by
 intro t n D;cases D using Tok.elim with
 |name q _=>rw[(zey q).1] at z;cases z
 |num _ A=>exact h _ _ A
 |str q _=>exact (zez z).1 q
 |sign q=>exact (zez z).2 q
theorem zgd {s:BA} {z:Bool} {a:Nat} (w:bt s a=34) (h: ∀e,¬zbz s a e): ∀t n,¬Tok s z a t n:=by
 intro t n D;cases D using Tok.elim with
 |name q _=>exact (zey q).2.1 w
 |num q _=>exact (zez q).1 w
 |str _ A=>exact h _ A
 |sign q=>rw[w] at q;unfold zbl at q;omega
theorem zjo {s:BA} {q:Bool} {a:Nat} (A:za0 (bt s a) q=false) (w:zJ (bt s a)=false) (E:bt s a≠34) (z: ¬zbl (bt s a)): ∀t n,¬Tok s q a t n:=by
 intro t n D;cases D using Tok.elim with
 |name h _=>rw[A] at h;cases h
 |num h _=>rw[w] at h;cases h
 |str h _=>exact E h
 |sign h=>exact z h
theorem zn5 (s:BA) (a:Nat) (A:Bool) (w:World) (ha:a<s.size) (hs:s.size<=4294967296):
  Calls prog 112 #[.string s,.int .i64 a,.bool A] w fun e D=>∃v z,e= .returned (.tuple #[v,.int .i64 z])/\zjn s A a v z/\Below w.heap.size w D:=by
 have hb:=get_bt s;have h:=bt_nonneg s a;have q:=bt_le s a;cases hl:za0 (bt s a) A with
 |true=>
  have HL:Hid (za0 (bt s a) A=true):=hl;go_enter func112,ntmps112;go_wp2_with fail;refine (zda _ _ _ h q).mono ?_;rintro e D ⟨rfl,rfl⟩;go_wp2_with fail;refine (znz _ _ _ _ (by omega) hs).mono ?_;rintro e D ⟨n,rfl,O,rfl⟩;have HR:Hid (za1 (zL A) s a n):=O;have ac:a<=n:=O.1;have aa:n<=s.size:=O.2.1;clear O;go_wp2;refine bodyPost_ret (za8 rfl _ _ w.heap.size 158 _ (0,0) _ rfl (heap_alloc_new w _) underlying158 rfl (by kernel_rfl)) rfl ?_;exact⟨_,_,rfl,.inl ⟨⟨1,s.extract a n,0,a⟩,n,rfl,rfl,.name HL.o HR.o⟩,(Below.refl _ _).alloc (Nat.le_refl _) _⟩
 |false=>
  cases hd:zJ (bt s a) with
  |true=>
   have HD:Hid (zJ (bt s a)=true):=hd;go_enter func112,ntmps112;go_wp2_with fail;refine (zda _ _ _ h q).mono ?_;rintro e D ⟨rfl,rfl⟩;go_wp2_with fail;refine (zcl _ _ h q).mono ?_;rintro e D ⟨rfl,rfl⟩;go_wp2_with fail;refine (zn4 _ _ _ _ ha HD.o hs).mono ?_;rintro e D ⟨n,z,rfl,hn,rfl⟩;rcases hn with ⟨m,rfl,H⟩|⟨rfl,rfl,H⟩
   ·have M:Hid (zaZ s a A n m):=H;clear H;go_wp2;refine bodyPost_ret (za8 rfl _ _ w.heap.size 158 _ (0,0) _ rfl (heap_alloc_new w _) underlying158 rfl (by kernel_rfl)) rfl ?_;exact⟨_,_,rfl,.inl ⟨⟨2,{data:=#[]},n,a⟩,m,rfl,rfl,.num HD.o M.o⟩,(Below.refl _ _).alloc (Nat.le_refl _) _⟩
   ·have M:Hid (∀n m,¬zaZ s a A n m):=H;clear H;go_wp2;refine bodyPost_ret (za8 rfl _ _ w.heap.size 158 _ (0,0) _ rfl (heap_alloc_new w _) underlying158 rfl (by kernel_rfl)) rfl ?_;exact⟨_,_,rfl,zhq (zhr HD.o M.o),(Below.refl _ _).alloc (Nat.le_refl _) _⟩
  |false=>
   by_cases E:bt s a=34
   ·have N:Hid (bt s a=34):=E;have V:(bt s a==34)=true:=by simpa using E
    clear E;go_enter func112,ntmps112;go_wp2_with fail;refine (zda _ _ _ h q).mono ?_;rintro e D ⟨rfl,rfl⟩;go_wp2_with fail;refine (zcl _ _ h q).mono ?_;rintro e D ⟨rfl,rfl⟩;go_wp2_with fail;refine (zn0 _ _ _ ha hs).mono ?_;rintro e D ⟨z,rfl,hn,rfl⟩;rcases hn with ⟨n,rfl,H⟩|⟨rfl,H⟩
    ·obtain⟨m,rfl⟩: ∃m,n=m+1:=⟨n-1,by have:=H.1;omega⟩;have M:Hid (zbz s a (m+1)):=H;have Y:a+1<=m:=by have:=H.1;omega
     have ab:m+1<=s.size:=H.2.1;have ez:((m+1:Nat):Int)=(m:Int)+1:=by omega
     obtain⟨J,K⟩: ∃J,J=a+1:=⟨_,rfl⟩;have ea:(a:Int)+1=(J:Int):=by omega
     have L:Hid (J=a+1):=K;have Z:J<=m:=by omega
     have U:m<=s.size:=by omega
     clear H K Y;go_wp2;refine bodyPost_ret (za8 rfl _ _ w.heap.size 158 _ (0,0) _ rfl (heap_alloc_new w _) underlying158 rfl (by kernel_rfl)) rfl ?_;exact⟨_,_,rfl,.inl ⟨⟨3,s.extract (a+1) (m+1-1),0,a⟩,m+1,by rw[L.o];rfl,by omega,.str N.o M.o⟩,(Below.refl _ _).alloc (Nat.le_refl _) _⟩
    ·have M:Hid (∀n,¬zbz s a n):=H;clear H;go_wp2;refine bodyPost_ret (za8 rfl _ _ w.heap.size 158 _ (0,0) _ rfl (heap_alloc_new w _) underlying158 rfl (by kernel_rfl)) rfl ?_;exact⟨_,_,rfl,zhq (zgd N.o M.o),(Below.refl _ _).alloc (Nat.le_refl _) _⟩
   ·have V:(bt s a==34)=false:=by simpa using E
    by_cases I:zbl (bt s a)
    ·have HS:Hid (zbl (bt s a)):=I;have X:zfn (bt s a)=true:=decide_eq_true I;obtain⟨J,K⟩: ∃J,J=a+1:=⟨_,rfl⟩;have ea:(a:Int)+1=(J:Int):=by omega
     have L:Hid (J=a+1):=K;have Z:a<=J:=by omega
     have U:J<=s.size:=by omega
     clear I E K;go_enter func112,ntmps112;go_wp2_with fail;refine (zda _ _ _ h q).mono ?_;rintro e D ⟨rfl,rfl⟩;go_wp2_with fail;refine (zcl _ _ h q).mono ?_;rintro e D ⟨rfl,rfl⟩;go_wp2_with fail;refine (zjk _ _).mono ?_;rintro e D ⟨rfl,rfl⟩;go_wp2;refine bodyPost_ret (za8 rfl _ _ w.heap.size 158 _ (0,0) _ rfl (heap_alloc_new w _) underlying158 rfl (by kernel_rfl)) rfl ?_;exact⟨_,_,rfl,.inl ⟨⟨4,s.extract a (a+1),0,a⟩,a+1,by rw[L.o];rfl,by rw[L.o],.sign HS.o⟩,(Below.refl _ _).alloc (Nat.le_refl _) _⟩
    ·have HN:Hid (∀t n,¬Tok s A a t n):=zjo hl hd E I;have X:zfn (bt s a)=false:=decide_eq_false I;clear I E;go_enter func112,ntmps112;go_wp2_with fail;refine (zda _ _ _ h q).mono ?_;rintro e D ⟨rfl,rfl⟩;go_wp2_with fail;refine (zcl _ _ h q).mono ?_;rintro e D ⟨rfl,rfl⟩;go_wp2_with fail;refine (zjk _ _).mono ?_;rintro e D ⟨rfl,rfl⟩;go_wp2;refine bodyPost_ret (za8 rfl _ _ w.heap.size 158 _ (0,0) _ rfl (heap_alloc_new w _) underlying158 rfl (by kernel_rfl)) rfl ?_;exact⟨_,_,rfl,zhq HN.o,(Below.refl _ _).alloc (Nat.le_refl _) _⟩
end Go.Proofs.YtgcbmogmniahjaaGreat
namespace Go.Proofs.YtgcbmogmniahjaaGreat
open Go.Proofs.Tryz
set_option maxRecDepth 100000
set_option maxHeartbeats 3200000
open Go.RowKit Go.PlainAid
theorem Tryz.infoTok:(prog.info? 158).map (fun i=>(i.zero,i.size,i.bytes))=some (some (.agg #[.int .i64 0,.string {data:=#[]},.int .i64 0,.int .i64 0]),4,40):=by kernel_rfl
def zn6 (s:BA) (scr:Bool) (w:World) (e:Ending) (w':World):Prop:=
 ∃r,zai s scr r/\match r with
  | .ok ts=>∃g n cap,e= .returned (.tuple #[.slice (some ⟨g,0,none⟩) n cap,.int .i64 (-1)])/\OwnT w' w.heap.size 158 g n cap ts
  | .error p=>∃g cap,e= .returned (.tuple #[.slice (some ⟨g,0,none⟩) 0 cap,.int .i64 p])/\OwnT w' w.heap.size 158 g 0 cap []
theorem zfp {s:BA} {q:Bool} {k n:Nat} {w:List Tk} (h: ∀r,Lx s q k n r->zai s q (r.map (w++ ·))) (z:k<s.size) (A:4000<=n∨∀t e,¬Tok s q k t e):zai s q (.error k):=h _ (.bad z A)
theorem zjp {s:BA} {q:Bool} {k n:Nat} {w:List Tk} (h: ∀r,Lx s q k n r->zai s q (r.map (w++ ·))) (z:k=s.size):zai s q (.ok w):=by
 subst z;have:=h _ .done
 simpa [Except.map] using this
theorem zjq {s:BA} {q:Bool} {k n e b:Nat} {t:Tk} {w:List Tk} (h: ∀r,Lx s q k n r->zai s q (r.map (w++ ·))) (z:k<s.size) (H:n<4000) (D:Tok s q k t e) (E:Skip s e b):
  ∀r,Lx s q b (n+1) r->zai s q (r.map ((w++[t])++ ·)):=by
 intro r A;have:=h _ (.tok z H D E A);cases r<;>simpa [Except.map] using this
theorem zjr {w:World} {o:Obj} {e:TypeId} {base:Nat} (h:base<=w.heap.size):OwnT ((w.alloc o).alloc (.cells #[] e)) base e (w.heap.size+1) 0 0 []:=by
 have:=zhl (w.alloc o) e base (by rw[zg];omega);rw[zg] at this;exact this
theorem zn7 (s:BA) (h:Bool) (w:World) (hs:s.size<=4294967296):
  Calls prog 81 #[.string s,.bool h] w fun e w'=>zn6 s h w e w'/\Below w.heap.size w w':=by
 obtain⟨i0,hi,ag,ai,ak⟩:=info_parts Tryz.infoTok;go_enter func81,ntmps81;go_wp2_with fail;refine (zjm _ 0 _ (Nat.zero_le _) hs).mono ?_;rintro e w' ⟨k0,rfl,A,rfl⟩;have an:Hid (Skip s 0 k0):=A;have ah:=(zhd A).2;clear A;go_wp2;go_loopw [6,7,8,9] (fun o i _ _ wr=>∃(k n g E:Nat) (J:List Tk),k<=s.size/\n<=4000/\i= .int .i64 k/\o= .slice (some ⟨g,0,none⟩) n E/\OwnT wr w.heap.size 158 g n E J/\(∀r,Lx s h k n r->zai s h (r.map (J++ ·)))/\Below w.heap.size w wr) (fun _ i _ _ _=>(s.size-intOf i).toNat)
 case atStart=>exact⟨k0,0,w.heap.size,0,[],ah,by omega,rfl,rfl,zhl w _ _ (Nat.le_refl _),fun r hr=>⟨k0,an.o,by cases r<;>simpa [Except.map] using hr⟩,(Below.refl _ _).alloc (Nat.le_refl _) _⟩
 case round=>
  obtain⟨k,n,g,E,J,hk,hn,rfl,rfl,H,X,hb⟩:=hrel;have I:Hid (∀r,Lx s h k n r->zai s h (r.map (J++ ·))):=X;have aq:=zat H;clear X;by_cases D:k<s.size
  ·go_wp2_with fail;refine (zn5 _ _ _ _ D hs).mono ?_;rintro e w1 ⟨v,z,rfl,ac,ad⟩;have q:=hb.trans (ad.mono hb.size);have M:=zcw H ad;rcases ac with ⟨⟨O,V,N,U⟩,m,rfl,rfl,ht⟩|⟨rfl,⟨c1,c2,c3,c4,rfl⟩,af⟩
   ·have HT:Hid (Tok s h k ⟨O,V,N,U⟩ m):=ht;have ar:=(ze0 D ht).1;have aj:=(ze0 D ht).2.1;clear ht;by_cases ae:n<4000
    ·have q4:decide ((4000:Int)<=(n:Int))=false:=decide_eq_false (by omega);obtain⟨W,Y⟩: ∃W,W=w1.alloc (.cells #[.int .i64 O,.string V,.int .i64 N,.int .i64 U] 158):=⟨_,rfl⟩;have HW:Hid (W=w1.alloc (.cells #[.int .i64 O,.string V,.int .i64 N,.int .i64 U] 158)):=Y;have Z:Below w.heap.size w W:=by rw[Y];exact q.alloc q.size _
     have K:OwnT W w.heap.size 158 g n E J:=by rw[Y];exact zcw M ((Below.refl _ _).alloc (Nat.le_refl _) _)
     have ab:=Z.size;have al:Hid (w1.heap.size+1=W.heap.size):=by show _=_;rw[Y,zg]
     clear Y;simp only[tkV];go_wp2_with (first|(at_builtin;rw[<-HW.o];refine znl W rfl _ _ 117 rfl w.heap.size 158 i0 _ underlying117 hi ag ai ak rfl g n E J (by rfl) K ⟨O,V,N,U⟩ (w1.heap.size+1) al.o (by rfl) (by omega) ab ?_));intro g2 aa w2 L ap;have ao:=Z.trans ap;go_wp2_with fail;refine (zjm _ m _ aj hs).mono ?_;rintro e w3 ⟨b,rfl,A,rfl⟩;have HX:Hid (∀r,Lx s h b (n+1) r->zai s h (r.map ((J++[⟨O,V,N,U⟩])++ ·))):=zjq I.o D ae HT.o A;have au:=(zhd A).1;have am:=(zhd A).2;clear A;go_wp2;go_roundw
     case rel=>exact⟨b,n+1,g2,aa,J++[⟨O,V,N,U⟩],am,by omega,rfl,rfl,L,HX.o,ao⟩
     case measure=>simp[intOf];omega
    ·have q4:decide ((4000:Int)<=(n:Int))=true:=decide_eq_true (by omega);have HE:Hid (zai s h (.error k)):=zfp I.o D (.inl (by omega));simp only[tkV];go_wp2;go_ret2;exact⟨⟨_,HE.o,_,_,rfl,zjr q.size⟩,(q.alloc q.size _).alloc (by rw[zg];have:=q.size;omega) _⟩
   ·have HE:Hid (zai s h (.error k)):=zfp I.o D (.inr af);go_wp2;go_ret2;exact⟨⟨_,HE.o,_,_,rfl,zjr q.size⟩,(q.alloc q.size _).alloc (by rw[zg];have:=q.size;omega) _⟩
  ·have HE:Hid (zai s h (.ok J)):=zjp I.o (by omega);go_wp2;go_ret2;exact⟨⟨_,HE.o,g,n,E,rfl,H⟩,hb⟩
theorem OwnT.cells {w:World} {base g n A:Nat} {e:TypeId} {z:List Tk} (h:OwnT w base e g n A z) {j:Nat} (N:j<n) {d:Tk}:
  w.cell? ⟨g,j*4,none⟩=some (.int .i64 (z.getD j d).kind)/\w.cell? ⟨g,j*4+1,none⟩=some (.string (z.getD j d).text)/\w.cell? ⟨g,j*4+2,none⟩=some (.int .i64 (z.getD j d).num)/\w.cell? ⟨g,j*4+3,none⟩=some (.int .i64 (z.getD j d).pos):=by
 have M:=h.2;have q: ∀(l:List Tk) (i c:Nat),c<4->i<l.length->(l.flatMap tkL)[i*4+c]? =(tkL (l.getD i d))[c]?:=by
  intro l
  induction l with
  |nil=>intro i c _ D;simp at D
  |cons x l H=>
   intro i c K D
   match i with
   |0=>
    simp only[List.flatMap_cons,Nat.zero_mul,Nat.zero_add,List.getD_cons_zero];rw[List.getElem?_append_left (by simp[tkL];omega)]
   |i+1=>
    simp only[List.flatMap_cons,List.getD_cons_succ];rw[List.getElem?_append_right (by simp[tkL];omega)];have:(i+1)*4+c-(tkL x).length=i*4+c:=by simp[tkL];omega
    rw[this];exact H i c K (by simpa using D)
 have J:=q z j 0 (by omega) (by omega);have L:=q z j 1 (by omega) (by omega);have E:=q z j 2 (by omega) (by omega);have I:=q z j 3 (by omega) (by omega);rw[h.1.cellAt _ (by omega),h.1.cellAt _ (by omega),h.1.cellAt _ (by omega),h.1.cellAt _ (by omega)];exact⟨J,L,E,I⟩
end Go.Proofs.YtgcbmogmniahjaaGreat
namespace Go.Proofs.YtgcbmogmniahjaaGreat
open Go.Proofs.Tryz
set_option maxRecDepth 100000
set_option maxHeartbeats 1600000
open Go.RowKit Go.PlainAid
def pv (C:Cx) (gt cap:Nat) (S:Sv) (q:PS) (z:Int) (d:Nat):Value:=
 .agg #[.slice (some ⟨gt,0,none⟩) C.ts.length cap,.int .i64 q.pos,.int .i64 C.fin,.bool C.scr,.slice S.rq.a q.rq.length S.rq.cap,.slice S.im.a q.im.length S.im.cap,.slice S.ep.a q.ep.length S.ep.cap,
  .slice S.st.a q.st.length S.st.cap,.slice S.ex.a q.ex.length S.ex.cap,.slice S.la.a q.la.length S.la.cap,.int .i64 z,.int .i64 d]
theorem zjs {C:Cx} {i:Nat} {k:Int} {s:BA} (h:((ze C i).kind==k)=false):isT C i k s=false:=by rw[isT,h];rfl
theorem zfq {C:Cx} {i:Nat} {k:Int} {s:BA} (h: ¬i<C.ts.length) (q:k≠0):isT C i k s=false:=by
 rw[Bool.eq_false_iff];exact fun g=>h (za7 g q)
theorem zk (C:Cx) (M D base:Nat) (S:Sv) (q:PS) (z:Int) (d:Nat) (k:Int) (s:BA) (w:World) (L:OwnT w base 158 M C.ts.length D C.ts) (_:C.ts.length<=4000) (V:k≠0):
  Calls prog 113 #[pv C M D S q z d,.int .i64 k,.string s] w fun e X=>e= .returned (.bool (decide (z<0)&&isT C q.pos k s))/\Below w.heap.size w X:=by
 unfold pv;by_cases U:z<0
 ·have E:decide (z<0)=true:=decide_eq_true U;by_cases I:q.pos<C.ts.length
  ·obtain⟨J,O,_,_⟩:=L.cells I (d:=⟨0,sNone,0,C.fin⟩);have K:=(zat L).1;change _=some (Value.int .i64 (ze C q.pos).kind) at J;change _=some (Value.string (ze C q.pos).text) at O;generalize h:ze C q.pos=t at J O;cases H:(t.kind==k) with
   |true=>
    cases N:(t.text.toList==s.toList) with
    |true=>
     have A:Hid (isT C q.pos k s=true):=by show isT C q.pos k s=true;simp only[isT,h,H,N,Bool.and_self]
     clear h;go_enter func113,ntmps113;go_wp2;go_ret;exact⟨zi (by rw[E,A.o];rfl),(Below.refl _ _).alloc (Nat.le_refl _) _⟩
    |false=>
     have A:Hid (isT C q.pos k s=false):=by show isT C q.pos k s=false;simp only[isT,h,H,N,Bool.and_false]
     clear h;go_enter func113,ntmps113;go_wp2;go_ret;exact⟨zi (by rw[E,A.o];rfl),(Below.refl _ _).alloc (Nat.le_refl _) _⟩
   |false=>
    have A:Hid (isT C q.pos k s=false):=zjs (by rw[h];exact H);clear h;go_enter func113,ntmps113;go_wp2;go_ret;exact⟨zi (by rw[E,A.o];rfl),(Below.refl _ _).alloc (Nat.le_refl _) _⟩
  ·have A:Hid (isT C q.pos k s=false):=zfq I V;go_enter func113,ntmps113;go_wp2;go_ret;exact⟨zi (by rw[E,A.o];rfl),(Below.refl _ _).alloc (Nat.le_refl _) _⟩
 ·have E:decide (z<0)=false:=decide_eq_false U;go_enter func113,ntmps113;go_wp2;go_ret;exact⟨zi rfl,(Below.refl _ _).alloc (Nat.le_refl _) _⟩
theorem zn8 (C:Cx) (E h base:Nat) (S:Sv) (q:PS) (z:Int) (d:Nat) (w:World) (D:OwnT w base 158 E C.ts.length h C.ts) (_:C.ts.length<=4000):
  Calls prog 180 #[pv C E h S q z d] w fun e I=>e= .returned (.int .i64 (zs C q.pos))/\Below w.heap.size w I:=by
 unfold pv;by_cases H:q.pos<C.ts.length
 ·obtain⟨_,_,_,J⟩:=D.cells H (d:=⟨0,sNone,0,C.fin⟩);have A:=(zat D).1;change _=some (Value.int .i64 (zs C q.pos)) at J;go_enter func180,ntmps180;go_wp2;go_ret;exact⟨rfl,(Below.refl _ _).alloc (Nat.le_refl _) _⟩
 ·have K:Hid (zs C q.pos=C.fin):=by show zs C q.pos=C.fin;rw[zs,zdR (by omega)]
  go_enter func180,ntmps180;go_wp2;go_ret;exact⟨zbA (by rw[K.o]),(Below.refl _ _).alloc (Nat.le_refl _) _⟩
def zb6 (C:Cx) (i:Nat) (z:Int):Int:=if z<0 then zs C i else z
theorem zr {w:World} {base g n q:Nat} {e:TypeId} {z:List Tk} (h:OwnT w base e g n q z) (o:Obj):OwnT (w.alloc o) base e g n q z:=zcw h ((Below.refl _ _).alloc (Nat.le_refl _) _)
theorem zcx {w:World} {b i:Nat} {q:Array Value} {u:Value} {t:TypeId} (h:w.heap[b]? =some (.cells q t (0,0))):(w.setCell ⟨b,i,none⟩ u).heap[b]? =some (.cells (q.setIfInBounds i u) t (0,0)):=by
 simp only[World.setCell,Array.getElem?_modify];rw[if_pos trivial,h];rfl
theorem zv {w:World} {b c i:Nat} {u:Value} (h:b≠c):(w.setCell ⟨c,i,none⟩ u).heap[b]? =w.heap[b]?:=Below.heap_setCell w ⟨c,i,none⟩ u b h
structure Box (w:World) (b:Nat) (v0 v1 v2 v3 v4 v5 v6 v7 v8 v9 v10 v11:Value):Prop where
 c0:w.cell? ⟨b,0,none⟩=some v0
 c1:w.cell? ⟨b,1,none⟩=some v1
 c2:w.cell? ⟨b,2,none⟩=some v2
 c3:w.cell? ⟨b,3,none⟩=some v3
 c4:w.cell? ⟨b,4,none⟩=some v4
 c5:w.cell? ⟨b,5,none⟩=some v5
 c6:w.cell? ⟨b,6,none⟩=some v6
 c7:w.cell? ⟨b,7,none⟩=some v7
 c8:w.cell? ⟨b,8,none⟩=some v8
 c9:w.cell? ⟨b,9,none⟩=some v9
 c10:w.cell? ⟨b,10,none⟩=some v10
 c11:w.cell? ⟨b,11,none⟩=some v11
 fz: ∀i,w.frozen? ⟨b,i,none⟩=false
theorem zan {w:World} {b:Nat} {t:TypeId} {v0 v1 v2 v3 v4 D A I H E q z:Value} (h:w.heap[b]? =some (.cells #[v0,v1,v2,v3,v4,D,A,I,H,E,q,z] t (0,0))):Box w b v0 v1 v2 v3 v4 D A I H E q z:=by
 constructor<;>simp[World.cell?,World.frozen?,h]
theorem zbc {w:World} {b:Nat} {v0 v1 v2 v3 v4 v5 V Y Z X D M A U K H E L O I N J z q:Value} {t:TypeId} (h:w.heap[b]? =some (.cells #[v0,v1,v2,v3,v4,v5,V,Y,Z,X,D,M] t (0,0))):
  ((((((((((((w.setCell ⟨b,0,none⟩ A).setCell ⟨b,1,none⟩ U).setCell ⟨b,2,none⟩ K).setCell ⟨b,3,none⟩ H).setCell ⟨b,4,none⟩ E).setCell ⟨b,5,none⟩ L).setCell ⟨b,6,none⟩ O).setCell ⟨b,7,none⟩ I).setCell ⟨b,8,none⟩ N).setCell ⟨b,9,none⟩ J).setCell ⟨b,10,none⟩ z).setCell ⟨b,11,none⟩ q).heap[b]? =some (.cells #[A,U,K,H,E,L,O,I,N,J,z,q] t (0,0)):=
 by
 have e:=zcx (i:=11) (u:=q) (zcx (i:=10) (u:=z) (zcx (i:=9) (u:=J) (zcx (i:=8) (u:=N) (zcx (i:=7) (u:=I) (zcx (i:=6) (u:=O) (zcx (i:=5) (u:=L) (zcx (i:=4) (u:=E) (zcx (i:=3) (u:=H) (zcx (i:=2) (u:=K) (zcx (i:=1) (u:=U) (zcx (i:=0) (u:=A) h)))))))))));rw[e];simp
theorem zbV {B:Nat} {a w:World} {b:Nat} (h:Below B a w) (q:B<=b) (D J N K E O I M H L z A:Value):
  Below B a ((((((((((((w.setCell ⟨b,0,none⟩ D).setCell ⟨b,1,none⟩ J).setCell ⟨b,2,none⟩ N).setCell ⟨b,3,none⟩ K).setCell ⟨b,4,none⟩ E).setCell ⟨b,5,none⟩ O).setCell ⟨b,6,none⟩ I).setCell ⟨b,7,none⟩ M).setCell ⟨b,8,none⟩ H).setCell ⟨b,9,none⟩ L).setCell ⟨b,10,none⟩ z).setCell ⟨b,11,none⟩ A):=
 (((((((((((h.setCell q _).setCell q _).setCell q _).setCell q _).setCell q _).setCell q _).setCell q _).setCell q _).setCell q _).setCell q _).setCell q _).setCell q _
theorem zbd (w:World) (a b:Obj):Below w.heap.size w ((w.alloc a).alloc b):=((Below.refl _ _).alloc (Nat.le_refl _) _).alloc (by show _<=(w.heap.push _).size;simp) _
theorem new2 (w:World) (a b:Obj):((w.alloc a).alloc b).heap[w.heap.size+1]? =some b:=by
 have h:(w.alloc a).heap.size=w.heap.size+1:=by show (w.heap.push _).size=_;simp
 rw[<-h];exact heap_alloc_new _ b
theorem zcL {w h:World} {a b:Obj} (q:Below ((w.alloc a).alloc b).heap.size ((w.alloc a).alloc b) h):h.heap[w.heap.size]? =some a/\h.heap[w.heap.size+1]? =some b:=by
 have e:((w.alloc a).alloc b).heap.size=w.heap.size+2:=by show ((w.heap.push _).push _).size=_;simp
 have z:(w.alloc a).heap.size=w.heap.size+1:=by show (w.heap.push _).size=_;simp
 refine⟨?_,?_⟩
 ·rw[q.block _ (by omega),Below.heap_alloc _ _ _ (by omega)];exact heap_alloc_new w a
 ·rw[q.block _ (by omega),<-z];exact heap_alloc_new _ b
theorem zbh {w h:World} {a b:Obj} (z:Below ((w.alloc a).alloc b).heap.size ((w.alloc a).alloc b) h):Below w.heap.size w h:=by
 have A:(w.alloc a).heap.size=w.heap.size+1:=by show (w.heap.push _).size=_;simp
 have q:Below w.heap.size w ((w.alloc a).alloc b):=((Below.refl _ _).alloc (Nat.le_refl _) _).alloc (by omega) _;exact q.trans (z.mono q.size)
theorem zd0 (C:Cx) (A h base:Nat) (S:Sv) (q:PS) (z:Int) (d:Nat) (w:World) (M:OwnT w base 158 A C.ts.length h C.ts) (X:C.ts.length<=4000):
  Calls prog 157 #[pv C A h S q z d] w fun e K=>e= .returned (pv C A h S q (zb6 C q.pos z) d)/\Below w.heap.size w K:=by
 by_cases I:z<0
 ·have E:Hid (zb6 C q.pos z=zs C q.pos):=if_pos I;unfold pv;go_enter func157,ntmps157;go_wp2_with fail;refine (zn8 C A h base S q z d _ (zr (zr M _) _) X).mono ?_;rintro e Z ⟨rfl,H⟩;obtain⟨J,D⟩:=zcL H;obtain⟨a0,a1,a2,a3,a4,a5,a6,a7,Y,a9,O,U,af⟩:=zan J;obtain⟨b0,b1,b2,b3,b4,b5,b6,b7,b8,b9,N,L,bf⟩:=zan D;have V:Hid (_=_):=D;clear J D;go_wp2;refine bodyPost_ret (results_cell_row rfl _ _ (w.heap.size+1) 121 _ (0,0) _ rfl (zbc ((zv (by omega)).trans V.o)) underlying121 rfl (by kernel_rfl)) rfl ?_;exact⟨by rw[E.o],zbV ((zbh H).setCell (Nat.le_refl _) _) (Nat.le_succ _) _ _ _ _ _ _ _ _ _ _ _ _⟩
 ·have E:Hid (zb6 C q.pos z=z):=if_neg I;unfold pv;go_enter func157,ntmps157;go_wp2;refine bodyPost_ret (results_cell_row rfl _ _ (w.heap.size+1) 121 _ (0,0) _ rfl (new2 w _ _) underlying121 rfl (by kernel_rfl)) rfl ?_;exact⟨by rw[E.o],zbd w _ _⟩
end Go.Proofs.YtgcbmogmniahjaaGreat
