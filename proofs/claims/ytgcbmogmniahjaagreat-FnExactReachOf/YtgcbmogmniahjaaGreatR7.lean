/- Facts and walks. -/
import Derived.Test.YtgcbmogmniahjaaGreatR6
import Derived.Laws.Rows
import Derived.Laws.ResultCell
import Derived.Test.YtgcbmogmniahjaaGreatR4
namespace Go.Proofs.YtgcbmogmniahjaaGreat
open Go.Proofs.Tryz
set_option maxHeartbeats 3200000
open Go.RowKit Go.PlainAid
theorem zaC {P:Program} {A:Func} {p u:Tmp} {z:TypeId} (h:A.results= #[.cell p z,.tmp u]) (tmps:Array Value) (w:World) (g:Nat) (t:TypeId) (q:Array Value) (D:Nat×Nat) (d:TypeDesc)
  (H:tmps.getD p undef= .pointer (some ⟨g,0,none⟩)) (J:w.heap[g]? =some (.cells q t D))
  (I:P.underlying z=some d) (E:(match d with| .struct _| .array _ _=>true|_=>false)=true) (K:(P.info? z).map (·.size)=some q.size):
  (results A tmps).run P w= .ok (.tuple #[.agg q,tmps.getD u undef]) w:=by
 rw[results_cell_tmp h,H];simp[asAddr,Result.andThen,run_loadVar_row w g t z q D d J I E K]
def tkV (t:Tk):Value:=.agg #[.int .i64 t.kind,.string t.text,.int .i64 t.num,.int .i64 t.pos]
def zjL (s:BA) (scr:Bool) (a:Nat) (v:Value) (z:Int):Prop:=
 (∃(t:Tk) (n:Nat),v=tkV t/\z=n/\Tok s scr a t n)∨(z= -1/\(∃k x y u,v= .agg #[.int .i64 k,.string x,.int .i64 y,.int .i64 u])/\∀t n,¬Tok s scr a t n)
variable {s:BA} {w:Bool} {g:Nat}
theorem zhE {k y u:Int} {x:BA} (h: ∀t n,¬Tok s w g t n):zjL s w g (.agg #[.int .i64 k,.string x,.int .i64 y,.int .i64 u]) (-1):=.inr ⟨rfl,⟨k,x,y,u,rfl⟩,h⟩
theorem zhF (z:zL (bt s g)=true) (h: ∀n e,¬zbc s g w n e): ∀t n,¬Tok s w g t n:=by
 intro t n D;cases D using Tok.elim with
 |name q _=>rw[(zeG q).1] at z;cases z
 |num _ A=>exact h _ _ A
 |str q _=>exact (zeH z).1 q
 |sign q=>exact (zeH z).2 q
theorem zgv (W:bt s g=34) (h: ∀e,¬zb4 s g e): ∀t n,¬Tok s w g t n:=by
 intro t n D;cases D using Tok.elim with
 |name q _=>exact (zeG q).2.1 W
 |num q _=>exact (zeH q).1 W
 |str _ A=>exact h _ A
 |sign q=>rw[W] at q;unfold zbr at q;omega
theorem zjM (A:za5 (bt s g) w=false) (W:zL (bt s g)=false) (E:bt s g≠34) (z: ¬zbr (bt s g)): ∀t n,¬Tok s w g t n:=by
 intro t n D;cases D using Tok.elim with
 |name h _=>rw[A] at h;cases h
 |num h _=>rw[W] at h;cases h
 |str h _=>exact E h
 |sign h=>exact z h
theorem zos (s:BA) (a:Nat) (A:Bool) (w:World) (ha:a<s.size) (hs:s.size<=4294967296):
  Calls prog 112 #[.string s,.int .i64 a,.bool A] w fun e D=>∃v z,e= .returned (.tuple #[v,.int .i64 z])/\zjL s A a v z/\Bw w D:=by
 have hb:=get_bt s;have h:=bt_nonneg s a;have q:=bt_le s a;cases hl:za5 (bt s a) A with
 |true=>
  have HL:Hid (za5 (bt s a) A=true):=hl;go_enter func112,ntmps112;go_wp2_with fail;refine (zdn _ _ _ h q).mono ?_;rintro e D ⟨rfl,rfl⟩;go_wp2_with fail;refine (zom _ _ _ _ (by omega) hs).mono ?_;rintro e D ⟨n,rfl,O,rfl⟩;have HR:Hid (za6 (zN A) s a n):=O;have ac:a<=n:=O.1;have aa:n<=s.size:=O.2.1;clear O;go_wp2;refine bodyPost_ret (zaC rfl _ _ w.heap.size 158 _ (0,0) _ rfl (heap_alloc_new w _) underlying158 rfl (by kernel_rfl)) rfl ?_;exact⟨_,_,rfl,.inl ⟨⟨1,s.extract a n,0,a⟩,n,rfl,rfl,.name HL.o HR.o⟩,bA0⟩
 |false=>
  cases hd:zL (bt s a) with
  |true=>
   have HD:Hid (zL (bt s a)=true):=hd;go_enter func112,ntmps112;go_wp2_with fail;refine (zdn _ _ _ h q).mono ?_;rintro e D ⟨rfl,rfl⟩;go_wp2_with fail;refine (zct _ _ h q).mono ?_;rintro e D ⟨rfl,rfl⟩;go_wp2_with fail;refine (zor _ _ _ _ ha HD.o hs).mono ?_;rintro e D ⟨n,z,rfl,hn,rfl⟩;rcases hn with ⟨m,rfl,H⟩|⟨rfl,rfl,H⟩
   ·have M:Hid (zbc s a A n m):=H;clear H;go_wp2;refine bodyPost_ret (zaC rfl _ _ w.heap.size 158 _ (0,0) _ rfl (heap_alloc_new w _) underlying158 rfl (by kernel_rfl)) rfl ?_;exact⟨_,_,rfl,.inl ⟨⟨2,{data:=#[]},n,a⟩,m,rfl,rfl,.num HD.o M.o⟩,bA0⟩
   ·have M:Hid (∀n m,¬zbc s a A n m):=H;clear H;go_wp2;refine bodyPost_ret (zaC rfl _ _ w.heap.size 158 _ (0,0) _ rfl (heap_alloc_new w _) underlying158 rfl (by kernel_rfl)) rfl ?_;exact⟨_,_,rfl,zhE (zhF HD.o M.o),bA0⟩
  |false=>
   by_cases E:bt s a=34
   ·have N:Hid (bt s a=34):=E;have V:(bt s a==34)=true:=by simpa using E
    clear E;go_enter func112,ntmps112;go_wp2_with fail;refine (zdn _ _ _ h q).mono ?_;rintro e D ⟨rfl,rfl⟩;go_wp2_with fail;refine (zct _ _ h q).mono ?_;rintro e D ⟨rfl,rfl⟩;go_wp2_with fail;refine (zon _ _ _ ha hs).mono ?_;rintro e D ⟨z,rfl,hn,rfl⟩;rcases hn with ⟨n,rfl,H⟩|⟨rfl,H⟩
    ·obtain⟨m,rfl⟩: ∃m,n=m+1:=⟨n-1,by have:=H.1;omega⟩;have M:Hid (zb4 s a (m+1)):=H;have Y:a+1<=m:=by have:=H.1;omega
     have ab:m+1<=s.size:=H.2.1;have ez:((m+1:Nat):Int)=(m:Int)+1:=by omega
     obtain⟨J,K⟩: ∃J,J=a+1:=⟨_,rfl⟩;have ea:(a:Int)+1=(J:Int):=by omega
     have L:Hid (J=a+1):=K;have Z:J<=m:=by omega
     have U:m<=s.size:=by omega
     clear H K Y;go_wp2;refine bodyPost_ret (zaC rfl _ _ w.heap.size 158 _ (0,0) _ rfl (heap_alloc_new w _) underlying158 rfl (by kernel_rfl)) rfl ?_;exact⟨_,_,rfl,.inl ⟨⟨3,s.extract (a+1) (m+1-1),0,a⟩,m+1,by rw[L.o];rfl,by omega,.str N.o M.o⟩,bA0⟩
    ·have M:Hid (∀n,¬zb4 s a n):=H;clear H;go_wp2;refine bodyPost_ret (zaC rfl _ _ w.heap.size 158 _ (0,0) _ rfl (heap_alloc_new w _) underlying158 rfl (by kernel_rfl)) rfl ?_;exact⟨_,_,rfl,zhE (zgv N.o M.o),bA0⟩
   ·have V:(bt s a==34)=false:=by simpa using E
    by_cases I:zbr (bt s a)
    ·have HS:Hid (zbr (bt s a)):=I;have X:zf5 (bt s a)=true:=decide_eq_true I;obtain⟨J,K⟩: ∃J,J=a+1:=⟨_,rfl⟩;have ea:(a:Int)+1=(J:Int):=by omega
     have L:Hid (J=a+1):=K;have Z:a<=J:=by omega
     have U:J<=s.size:=by omega
     clear I E K;go_enter func112,ntmps112;go_wp2_with fail;refine (zdn _ _ _ h q).mono ?_;rintro e D ⟨rfl,rfl⟩;go_wp2_with fail;refine (zct _ _ h q).mono ?_;rintro e D ⟨rfl,rfl⟩;go_wp2_with fail;refine (zjI _ _).mono ?_;rintro e D ⟨rfl,rfl⟩;go_wp2;refine bodyPost_ret (zaC rfl _ _ w.heap.size 158 _ (0,0) _ rfl (heap_alloc_new w _) underlying158 rfl (by kernel_rfl)) rfl ?_;exact⟨_,_,rfl,.inl ⟨⟨4,s.extract a (a+1),0,a⟩,a+1,by rw[L.o];rfl,by rw[L.o],.sign HS.o⟩,bA0⟩
    ·have HN:Hid (∀t n,¬Tok s A a t n):=zjM hl hd E I;have X:zf5 (bt s a)=false:=decide_eq_false I;clear I E;go_enter func112,ntmps112;go_wp2_with fail;refine (zdn _ _ _ h q).mono ?_;rintro e D ⟨rfl,rfl⟩;go_wp2_with fail;refine (zct _ _ h q).mono ?_;rintro e D ⟨rfl,rfl⟩;go_wp2_with fail;refine (zjI _ _).mono ?_;rintro e D ⟨rfl,rfl⟩;go_wp2;refine bodyPost_ret (zaC rfl _ _ w.heap.size 158 _ (0,0) _ rfl (heap_alloc_new w _) underlying158 rfl (by kernel_rfl)) rfl ?_;exact⟨_,_,rfl,zhE HN.o,bA0⟩
end Go.Proofs.YtgcbmogmniahjaaGreat
namespace Go.Proofs.YtgcbmogmniahjaaGreat
open Go.Proofs.Tryz
set_option maxRecDepth 100000
set_option maxHeartbeats 3200000
open Go.RowKit Go.PlainAid
theorem Tryz.infoTok:(prog.info? 158).map (fun i=>(i.zero,i.size,i.bytes))=some (some (.agg #[.int .i64 0,.string {data:=#[]},.int .i64 0,.int .i64 0]),4,40):=by kernel_rfl
def zot (s:BA) (scr:Bool) (w:World) (e:Ending) (w':World):Prop:=
 ∃r,zal s scr r/\match r with
  | .ok ts=>∃g n cap,e= .returned (.tuple #[.slice (some ⟨g,0,none⟩) n cap,.int .i64 (-1)])/\OwnT w' w.heap.size 158 g n cap ts
  | .error p=>∃g cap,e= .returned (.tuple #[.slice (some ⟨g,0,none⟩) 0 cap,.int .i64 p])/\OwnT w' w.heap.size 158 g 0 cap []
variable {s:BA} {w:Bool} {g:Nat} {W:List Tk} {V:World} {C:TypeId}
theorem zf7 {n:Nat} {S:List Tk} (h: ∀r,Lx s w g n r->zal s w (r.map (S++ ·))) (z:g<s.size) (A:4000<=n∨∀t e,¬Tok s w g t e):zal s w (.error g):=h _ (.bad z A)
theorem zjN {n:Nat} {S:List Tk} (h: ∀r,Lx s w g n r->zal s w (r.map (S++ ·))) (z:g=s.size):zal s w (.ok S):=by
 subst z;have:=h _ .done
 simpa [Except.map] using this
theorem zjO {n e b:Nat} {t:Tk} {S:List Tk} (h: ∀r,Lx s w g n r->zal s w (r.map (S++ ·))) (z:g<s.size) (H:n<4000) (D:Tok s w g t e) (E:Skip s e b):
  ∀r,Lx s w b (n+1) r->zal s w (r.map ((S++[t])++ ·)):=by
 intro r A;have:=h _ (.tok z H D E A);cases r<;>simpa [Except.map] using this
theorem zjP {o:Obj} (h:g<=V.heap.size):OwnT ((V.alloc o).alloc (.cells #[] C)) g C (V.heap.size+1) 0 0 []:=by
 have:=zh9 (V.alloc o) C g (by rw[zg];omega);rw[zg] at this;exact this
theorem zou (s:BA) (h:Bool) (w:World) (hs:s.size<=4294967296):
  Calls prog 81 #[.string s,.bool h] w fun e w'=>zot s h w e w'/\Bw w w':=by
 obtain⟨i0,hi,ag,ai,ak⟩:=info_parts Tryz.infoTok;go_enter func81,ntmps81;go_wp2_with fail;refine (zjK _ 0 _ (Nat.zero_le _) hs).mono ?_;rintro e w' ⟨k0,rfl,A,rfl⟩;have an:Hid (Skip s 0 k0):=A;have ah:=(zh1 A).2;clear A;go_wp2;go_loopw [6,7,8,9] (fun o i _ _ wr=>∃(k n g E:Nat) (J:List Tk),k<=s.size/\n<=4000/\i= .int .i64 k/\o= .slice (some ⟨g,0,none⟩) n E/\OwnT wr w.heap.size 158 g n E J/\(∀r,Lx s h k n r->zal s h (r.map (J++ ·)))/\Bw w wr) (fun _ i _ _ _=>(s.size-intOf i).toNat)
 case atStart=>exact⟨k0,0,w.heap.size,0,[],ah,by omega,rfl,rfl,zh9 w _ _ (Nat.le_refl _),fun r hr=>⟨k0,an.o,by cases r<;>simpa [Except.map] using hr⟩,bA0⟩
 case round=>
  obtain⟨k,n,g,E,J,hk,hn,rfl,rfl,H,X,hb⟩:=hrel;have I:Hid (∀r,Lx s h k n r->zal s h (r.map (J++ ·))):=X;have aq:=zaw H;clear X;by_cases D:k<s.size
  ·go_wp2_with fail;refine (zos _ _ _ _ D hs).mono ?_;rintro e w1 ⟨v,z,rfl,ac,ad⟩;have q:=hb.trans (ad.mono hb.size);have M:=zc3 H ad;rcases ac with ⟨⟨O,V,N,U⟩,m,rfl,rfl,ht⟩|⟨rfl,⟨c1,c2,c3,c4,rfl⟩,af⟩
   ·have HT:Hid (Tok s h k ⟨O,V,N,U⟩ m):=ht;have ar:=(zeI D ht).1;have aj:=(zeI D ht).2.1;clear ht;by_cases ae:n<4000
    ·have q4:decide ((4000:Int)<=(n:Int))=false:=decide_eq_false (by omega);obtain⟨W,Y⟩: ∃W,W=w1.alloc (.cells #[.int .i64 O,.string V,.int .i64 N,.int .i64 U] 158):=⟨_,rfl⟩;have HW:Hid (W=w1.alloc (.cells #[.int .i64 O,.string V,.int .i64 N,.int .i64 U] 158)):=Y;have Z:Bw w W:=by rw[Y];exact q.alloc q.size _
     have K:OwnT W w.heap.size 158 g n E J:=by rw[Y];exact zc3 M (bA0)
     have ab:=Z.size;have al:Hid (w1.heap.size+1=W.heap.size):=by show _=_;rw[Y,zg]
     clear Y;simp only[tkV];go_wp2_with (first|(at_builtin;rw[<-HW.o];refine znY W rfl _ _ 117 rfl w.heap.size 158 i0 _ underlying117 hi ag ai ak rfl g n E J (by rfl) K ⟨O,V,N,U⟩ (w1.heap.size+1) al.o (by rfl) (by omega) ab ?_));intro g2 aa w2 L ap;have ao:=Z.trans ap;go_wp2_with fail;refine (zjK _ m _ aj hs).mono ?_;rintro e w3 ⟨b,rfl,A,rfl⟩;have HX:Hid (∀r,Lx s h b (n+1) r->zal s h (r.map ((J++[⟨O,V,N,U⟩])++ ·))):=zjO I.o D ae HT.o A;have au:=(zh1 A).1;have am:=(zh1 A).2;clear A;go_wp2;go_roundw
     case rel=>exact⟨b,n+1,g2,aa,J++[⟨O,V,N,U⟩],am,by omega,rfl,rfl,L,HX.o,ao⟩
     case measure=>simp[intOf];omega
    ·have q4:decide ((4000:Int)<=(n:Int))=true:=decide_eq_true (by omega);have HE:Hid (zal s h (.error k)):=zf7 I.o D (.inl (by omega));simp only[tkV];go_wp2;go_ret2;exact⟨⟨_,HE.o,_,_,rfl,zjP q.size⟩,(q.alloc q.size _).alloc (by rw[zg];have:=q.size;omega) _⟩
   ·have HE:Hid (zal s h (.error k)):=zf7 I.o D (.inr af);go_wp2;go_ret2;exact⟨⟨_,HE.o,_,_,rfl,zjP q.size⟩,(q.alloc q.size _).alloc (by rw[zg];have:=q.size;omega) _⟩
  ·have HE:Hid (zal s h (.ok J)):=zjN I.o (by omega);go_wp2;go_ret2;exact⟨⟨_,HE.o,g,n,E,rfl,H⟩,hb⟩
theorem OwnT.cells {base g n A:Nat} (h:OwnT V base C g n A W) {j:Nat} (N:j<n) {d:Tk}:
  V.cell? ⟨g,j*4,none⟩=some (.int .i64 (W.getD j d).kind)/\V.cell? ⟨g,j*4+1,none⟩=some (.string (W.getD j d).text)/\V.cell? ⟨g,j*4+2,none⟩=some (.int .i64 (W.getD j d).num)/\V.cell? ⟨g,j*4+3,none⟩=some (.int .i64 (W.getD j d).pos):=by
 have M:=h.2;have q: ∀(l:List Tk) (i c:Nat),c<4->i<l.length->(l.flatMap tkL)[i*4+c]? =(tkL (l.getD i d))[c]?:=by
  intro l
  induction l with
  |nil=>intro i c _ D;simp at D
  |cons x l H=>
   intro i c K D
   match i with
   |0=>
    simp only[List.flatMap_cons,Nat.zero_mul,Nat.zero_add,List.getD_cons_zero];rw[List.getElem?_append_left (by simp[tkL];omega)]
   |i+1=>
    simp only[List.flatMap_cons,List.getD_cons_succ];rw[List.getElem?_append_right (by simp[tkL];omega)];have:(i+1)*4+c-(tkL x).length=i*4+c:=by simp[tkL];omega
    rw[this];exact H i c K (by simpa using D)
 have J:=q W j 0 (by omega) (by omega);have L:=q W j 1 (by omega) (by omega);have E:=q W j 2 (by omega) (by omega);have I:=q W j 3 (by omega) (by omega);rw[h.1.cellAt _ (by omega),h.1.cellAt _ (by omega),h.1.cellAt _ (by omega),h.1.cellAt _ (by omega)];exact⟨J,L,E,I⟩
end Go.Proofs.YtgcbmogmniahjaaGreat
namespace Go.Proofs.YtgcbmogmniahjaaGreat
open Go.Proofs.Tryz
set_option maxRecDepth 100000
set_option maxHeartbeats 1600000
open Go.RowKit Go.PlainAid
def pv (C:Cx) (gt cap:Nat) (S:Sv) (q:PS) (z:Int) (d:Nat):Value:=
 .agg #[.slice (some ⟨gt,0,none⟩) C.ts.length cap,.int .i64 q.pos,.int .i64 C.fin,.bool C.scr,.slice S.rq.a q.rq.length S.rq.cap,.slice S.im.a q.im.length S.im.cap,.slice S.ep.a q.ep.length S.ep.cap,
  .slice S.st.a q.st.length S.st.cap,.slice S.ex.a q.ex.length S.ex.cap,.slice S.la.a q.la.length S.la.cap,.int .i64 z,.int .i64 d]
variable (C:Cx) (g b c:Nat) (S:Sv) (q:PS) (z:Int) (d:Nat) (w:World) (W s:Obj) {D:Cx} {n:Nat} {u:Int} {t:BA} {V:World} {k:TypeId} {m:Value} {x:Obj}
theorem zjQ (h:((ze D n).kind==u)=false):isT D n u t=false:=by rw[isT,h];rfl
theorem zf8 (h: ¬n<D.ts.length) (q:u≠0):isT D n u t=false:=by
 rw[Bool.eq_false_iff];exact fun g=>h (zaB g q)
theorem zk (k:Int) (s:BA) (w:World) (L:OwnT w c 158 g C.ts.length b C.ts) (_:C.ts.length<=4000) (V:k≠0):
  Calls prog 113 #[pv C g b S q z d,.int .i64 k,.string s] w fun e X=>e= .returned (.bool (decide (z<0)&&isT C q.pos k s))/\Bw w X:=by
 unfold pv;by_cases U:z<0
 ·have E:decide (z<0)=true:=decide_eq_true U;by_cases I:q.pos<C.ts.length
  ·obtain⟨J,O,_,_⟩:=L.cells I (d:=⟨0,sNone,0,C.fin⟩);have K:=(zaw L).1;change _=some (Value.int .i64 (ze C q.pos).kind) at J;change _=some (Value.string (ze C q.pos).text) at O;generalize h:ze C q.pos=t at J O;cases H:(t.kind==k) with
   |true=>
    cases N:(t.text.toList==s.toList) with
    |true=>
     have A:Hid (isT C q.pos k s=true):=by show isT C q.pos k s=true;simp only[isT,h,H,N,Bool.and_self]
     clear h;go_enter func113,ntmps113;go_wp2;go_ret;exact⟨zi (by rw[E,A.o];rfl),bA0⟩
    |false=>
     have A:Hid (isT C q.pos k s=false):=by show isT C q.pos k s=false;simp only[isT,h,H,N,Bool.and_false]
     clear h;go_enter func113,ntmps113;go_wp2;go_ret;exact⟨zi (by rw[E,A.o];rfl),bA0⟩
   |false=>
    have A:Hid (isT C q.pos k s=false):=zjQ (by rw[h];exact H);clear h;go_enter func113,ntmps113;go_wp2;go_ret;exact⟨zi (by rw[E,A.o];rfl),bA0⟩
  ·have A:Hid (isT C q.pos k s=false):=zf8 I V;go_enter func113,ntmps113;go_wp2;go_ret;exact⟨zi (by rw[E,A.o];rfl),bA0⟩
 ·have E:decide (z<0)=false:=decide_eq_false U;go_enter func113,ntmps113;go_wp2;go_ret;exact⟨zi rfl,bA0⟩
theorem zov (D:OwnT w c 158 g C.ts.length b C.ts) (_:C.ts.length<=4000):
  Calls prog 180 #[pv C g b S q z d] w fun e I=>e= .returned (.int .i64 (zt C q.pos))/\Bw w I:=by
 unfold pv;by_cases H:q.pos<C.ts.length
 ·obtain⟨_,_,_,J⟩:=D.cells H (d:=⟨0,sNone,0,C.fin⟩);have A:=(zaw D).1;change _=some (Value.int .i64 (zt C q.pos)) at J;go_enter func180,ntmps180;go_wp2;go_ret;exact⟨rfl,bA0⟩
 ·have K:Hid (zt C q.pos=C.fin):=by show zt C q.pos=C.fin;rw[zt,zek (by omega)]
  go_enter func180,ntmps180;go_wp2;go_ret;exact⟨zbG (by rw[K.o]),bA0⟩
def zbB (C:Cx) (i:Nat) (z:Int):Int:=if z<0 then zt C i else z
theorem zr {g p q:Nat} {z:List Tk} (h:OwnT V n k g p q z) (o:Obj):OwnT (V.alloc o) n k g p q z:=zc3 h (bA0)
theorem zc4 {i:Nat} {q:Array Value} {u:Value} (h:V.heap[n]? =some (.cells q k (0,0))):(V.setCell ⟨n,i,none⟩ u).heap[n]? =some (.cells (q.setIfInBounds i u) k (0,0)):=by
 simp only[World.setCell,Array.getElem?_modify];rw[if_pos trivial,h];rfl
theorem zx {b c:Nat} (h:b≠c):(V.setCell ⟨c,n,none⟩ m).heap[b]? =V.heap[b]?:=Below.heap_setCell V ⟨c,n,none⟩ m b h
structure Box (w:World) (b:Nat) (v0 v1 v2 v3 v4 v5 v6 v7 v8 v9 v10 v11:Value):Prop where
 c0:w.cell? ⟨b,0,none⟩=some v0
 c1:w.cell? ⟨b,1,none⟩=some v1
 c2:w.cell? ⟨b,2,none⟩=some v2
 c3:w.cell? ⟨b,3,none⟩=some v3
 c4:w.cell? ⟨b,4,none⟩=some v4
 c5:w.cell? ⟨b,5,none⟩=some v5
 c6:w.cell? ⟨b,6,none⟩=some v6
 c7:w.cell? ⟨b,7,none⟩=some v7
 c8:w.cell? ⟨b,8,none⟩=some v8
 c9:w.cell? ⟨b,9,none⟩=some v9
 c10:w.cell? ⟨b,10,none⟩=some v10
 c11:w.cell? ⟨b,11,none⟩=some v11
 fz: ∀i,w.frozen? ⟨b,i,none⟩=false
theorem zar {v1 v2 v3 v4 D A I H E q z:Value} (h:V.heap[n]? =some (.cells #[m,v1,v2,v3,v4,D,A,I,H,E,q,z] k (0,0))):Box V n m v1 v2 v3 v4 D A I H E q z:=by
 constructor<;>simp[World.cell?,World.frozen?,h]
theorem zbf {v1 v2 v3 v4 v5 p Y Z X D M A U K H E L O I N J z q:Value} (h:V.heap[n]? =some (.cells #[m,v1,v2,v3,v4,v5,p,Y,Z,X,D,M] k (0,0))):
  ((((((((((((V.setCell ⟨n,0,none⟩ A).setCell ⟨n,1,none⟩ U).setCell ⟨n,2,none⟩ K).setCell ⟨n,3,none⟩ H).setCell ⟨n,4,none⟩ E).setCell ⟨n,5,none⟩ L).setCell ⟨n,6,none⟩ O).setCell ⟨n,7,none⟩ I).setCell ⟨n,8,none⟩ N).setCell ⟨n,9,none⟩ J).setCell ⟨n,10,none⟩ z).setCell ⟨n,11,none⟩ q).heap[n]? =some (.cells #[A,U,K,H,E,L,O,I,N,J,z,q] k (0,0)):=
 by
 have e:=zc4 (i:=11) (u:=q) (zc4 (i:=10) (u:=z) (zc4 (i:=9) (u:=J) (zc4 (i:=8) (u:=N) (zc4 (i:=7) (u:=I) (zc4 (i:=6) (u:=O) (zc4 (i:=5) (u:=L) (zc4 (i:=4) (u:=E) (zc4 (i:=3) (u:=H) (zc4 (i:=2) (u:=K) (zc4 (i:=1) (u:=U) (zc4 (i:=0) (u:=A) h)))))))))));rw[e];simp
theorem zce {w:World} {b:Nat} (h:Below n V w) (q:n<=b) (D J N K E O I M H L z A:Value):
  Below n V ((((((((((((w.setCell ⟨b,0,none⟩ D).setCell ⟨b,1,none⟩ J).setCell ⟨b,2,none⟩ N).setCell ⟨b,3,none⟩ K).setCell ⟨b,4,none⟩ E).setCell ⟨b,5,none⟩ O).setCell ⟨b,6,none⟩ I).setCell ⟨b,7,none⟩ M).setCell ⟨b,8,none⟩ H).setCell ⟨b,9,none⟩ L).setCell ⟨b,10,none⟩ z).setCell ⟨b,11,none⟩ A):=
 (((((((((((h.setCell q _).setCell q _).setCell q _).setCell q _).setCell q _).setCell q _).setCell q _).setCell q _).setCell q _).setCell q _).setCell q _).setCell q _
theorem zbg:Bw w ((w.alloc W).alloc s):=(bA0).alloc (by show _<=(w.heap.push _).size;simp) _
theorem new2:((w.alloc W).alloc s).heap[w.heap.size+1]? =some s:=by
 have h:(w.alloc W).heap.size=w.heap.size+1:=by show (w.heap.push _).size=_;simp
 rw[<-h];exact heap_alloc_new _ s
theorem zcV {h:World} {b:Obj} (q:Below ((V.alloc x).alloc b).heap.size ((V.alloc x).alloc b) h):h.heap[V.heap.size]? =some x/\h.heap[V.heap.size+1]? =some b:=by
 have e:((V.alloc x).alloc b).heap.size=V.heap.size+2:=by show ((V.heap.push _).push _).size=_;simp
 have z:(V.alloc x).heap.size=V.heap.size+1:=by show (V.heap.push _).size=_;simp
 refine⟨?_,?_⟩
 ·rw[q.block _ (by omega),Below.heap_alloc _ _ _ (by omega)];exact heap_alloc_new V x
 ·rw[q.block _ (by omega),<-z];exact heap_alloc_new _ b
theorem zbm {h:World} {b:Obj} (z:Below ((V.alloc x).alloc b).heap.size ((V.alloc x).alloc b) h):Bw V h:=by
 have A:(V.alloc x).heap.size=V.heap.size+1:=by show (V.heap.push _).size=_;simp
 have q:Bw V ((V.alloc x).alloc b):=(bA0).alloc (by omega) _;exact q.trans (z.mono q.size)
theorem zdE (M:OwnT w c 158 g C.ts.length b C.ts) (X:C.ts.length<=4000):
  Calls prog 157 #[pv C g b S q z d] w fun e K=>e= .returned (pv C g b S q (zbB C q.pos z) d)/\Bw w K:=by
 by_cases I:z<0
 ·have E:Hid (zbB C q.pos z=zt C q.pos):=if_pos I;unfold pv;go_enter func157,ntmps157;go_wp2_with fail;refine (zov C g b c S q z d _ (zr (zr M _) _) X).mono ?_;rintro e Z ⟨rfl,H⟩;obtain⟨J,D⟩:=zcV H;obtain⟨a0,a1,a2,a3,a4,a5,a6,a7,Y,a9,O,U,af⟩:=zar J;obtain⟨b0,b1,b2,b3,b4,b5,b6,b7,b8,b9,N,L,bf⟩:=zar D;have V:Hid (_=_):=D;clear J D;go_wp2;refine bodyPost_ret (results_cell_row rfl _ _ (w.heap.size+1) 121 _ (0,0) _ rfl (zbf ((zx (by omega)).trans V.o)) underlying121 rfl (by kernel_rfl)) rfl ?_;exact⟨by rw[E.o],zce ((zbm H).setCell (Nat.le_refl _) _) (Nat.le_succ _) _ _ _ _ _ _ _ _ _ _ _ _⟩
 ·have E:Hid (zbB C q.pos z=z):=if_neg I;unfold pv;go_enter func157,ntmps157;go_wp2;refine bodyPost_ret (results_cell_row rfl _ _ (w.heap.size+1) 121 _ (0,0) _ rfl (new2 w _ _) underlying121 rfl (by kernel_rfl)) rfl ?_;exact⟨by rw[E.o],zbg w _ _⟩
end Go.Proofs.YtgcbmogmniahjaaGreat
