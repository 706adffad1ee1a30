/- Facts. -/
import Derived.Test.YtegdaafmaookjaaGreatP85
import Derived.Test.YtegdaafmaookjaaGreatP81
import Derived.Test.YtegdaafmaookjaaGreatP83
namespace Go.Proofs.YtegdaafmaookjaaGreat
open Go.RowKit Go.PlainAid
theorem zfN:GrC 11:=fun h G g w A q=>zob znW znY h G g w A q
theorem zdv:GrC 13:=fun q G g w H A=>(zou znX znZ q G g w H A).mono fun _ _ h=>⟨by obtain⟨b,e,k⟩:=h.1;exact⟨b,e,k.trans (zh1 g).symm⟩,h.2⟩
theorem ze4 {A:GA} {g:Gr} (I:A.ms.map (·.2)=g.ms) (h:zcx A g<=1048576) (K: ∀x∈A.ms,zay x.2.ex):GdG g/\zia g/\(∀x∈A.ms,zex x.2)/\A.ms.length<=1048576:=by
 have e:zcx A g=(g.ps.length+zE zb6 g.ps)+(A.ms.length+zE zce A.ms)+(g.ls.length+zE zeb g.ls):=rfl;have N:A.ms.length=g.ms.length:=by rw[<-I,List.length_map]
 have w: ∀x∈A.ms,zaU x.2<=1048576:=fun x q=>by have:=zc8 (c:=zce) q;have U:zce x=zaU x.2:=rfl;omega
 have O:zar (zw g)<=zE zce A.ms:=by
  unfold zar zw zE;rw[<-I,List.map_map,List.map_map];clear I h K e N w
  induction A.ms with
  |nil=>exact Nat.le_refl _
  |cons x l M=>
   rw[List.map_cons,List.sum_cons,List.map_cons,List.sum_cons];have:x.2.rq.length<=zce x:=by
    show _<=zaU x.2;unfold zaU;omega
   exact Nat.add_le_add this M
 have J: ∀x∈A.ms,zex x.2:=fun x q=>by
  have:=w x q;unfold zaU at this;exact⟨by omega,by omega,by omega,by omega,by omega⟩
 refine⟨⟨fun m H=>?_,fun p L=>?_,by omega,by omega,by omega,by omega⟩,⟨by omega,by omega,by omega,fun m H=>?_⟩,J,by omega⟩
 ·rw[<-I] at H;obtain⟨x,q,rfl⟩:=List.mem_map.1 H;exact⟨w x q,K x q⟩
 ·have:=zc8 (c:=zb6) L;have U:zb6 p=p.size:=rfl;omega
 ·rw[<-I] at H;obtain⟨x,q,rfl⟩:=List.mem_map.1 H;have:=J x q;unfold zex at this;exact⟨by omega,by omega,by omega,by omega,by omega⟩
structure Enc (α:Type) where
 f:α->List Value
 m:Nat
 len: ∀x,(f x).length=m
 pos:0<m
 one: ∀x,∀v∈f x,v.oneCell'=true
def OwnE {α:Type} (E:Enc α) (w:World) (base:Nat) (e:TypeId) (g n cap:Nat) (l:List α):Prop:=w.ownsRow base e E.m (.slice (some ⟨g,0,none⟩) n cap) n (l.flatMap E.f)/\n=l.length
theorem zox {α:Type} (E:Enc α) (l:List α):(l.flatMap E.f).length=l.length*E.m:=by
 induction l with
 |nil=>simp
 |cons x l h=>rw[List.flatMap_cons,List.length_append,h,E.len,List.length_cons,Nat.succ_mul];omega
variable {g b c d:Nat} {w W:World} {C:TypeId} {S:Option Nat} {z:Nat->Value}
theorem zy9 {α:Type} (E:Enc α) (l:List α) {x:α} {v:Value} (h:l[g]? =some x) (q:(E.f x)[b]? =some v):(l.flatMap E.f)[g*E.m+b]? =some v:=zbx E.len l g x b v h q
theorem OwnE.blk {α:Type} {E:Enc α} {s:Nat} {l:List α} (h:OwnE E w g C s b c l):g<=s/\s<w.heap.size:=by
 rcases h.1.2 with ⟨q,_⟩|⟨L,H,I,q,J,K,_⟩
 ·simp at q
 ·simp only[vI,sI0,Addr.mk.injEq,and_true,true_and] at q;obtain⟨rfl,rfl⟩:=q;exact⟨J,(aLt K)⟩
theorem OwnE.cap {α:Type} {E:Enc α} {s:Nat} {l:List α} (h:OwnE E w g C s b c l):b<=c:=by
 rcases h.1.2 with ⟨A,_⟩|⟨K,H,I,A,_,_,J,_⟩
 ·simp at A
 ·simp only[vI,sI0,Addr.mk.injEq,and_true,true_and] at A;obtain⟨_,rfl⟩:=A;exact J
theorem OwnE.keep {α:Type} {E:Enc α} {s:Nat} {l:List α} (h:OwnE E w g C s b c l) (K:W.heap[s]? =w.heap[s]?):OwnE E W g C s b c l:=by
 refine⟨⟨h.1.1,?_⟩,h.2⟩;rcases h.1.2 with ⟨A,_⟩|⟨N,J,H,A,I,M,L⟩
 ·simp at A
 ·simp only[vI,sI0,Addr.mk.injEq,and_true,true_and] at A;obtain⟨rfl,rfl⟩:=A;exact .inr ⟨s,c,H,rfl,I,K.trans M,L⟩
theorem OwnE.later {α:Type} {E:Enc α} {s:Nat} {l:List α} (h:OwnE E w g C s b c l) (A:Bw w W):OwnE E W g C s b c l:=h.keep (A.block s h.blk.2)
theorem OwnE.low {α:Type} {E:Enc α} {s:Nat} {l:List α} (h:OwnE E w g C s c d l) (L:b<=g):OwnE E w b C s c d l:=by
 refine⟨⟨h.1.1,?_⟩,h.2⟩;rcases h.1.2 with ⟨I,_⟩|⟨N,A,H,I,J,M,K⟩
 ·simp at I
 ·exact .inr ⟨N,A,H,I,Nat.le_trans L J,M,K⟩
theorem OwnE.nil {α:Type} (E:Enc α) (w:World) (e:TypeId):OwnE E (w.alloc (.cells #[] e)) w.heap.size e w.heap.size 0 0 []:=⟨World.ownsRow_lit w #[] 0 (Nat.le_refl _) (by unfold maxLen;omega) (by simp),rfl⟩
theorem OwnE.row {α:Type} {E:Enc α} {s:Nat} {l:List α} (h:OwnE E w g C s b c l):RowAt w (some ⟨s,0,none⟩) E.f E.m l:=by
 refine .inr ⟨s,0,rfl,h.blk.2,fun j x I i v J=>?_⟩;have A:j<l.length:=(gS I).1;have L:i<E.m:=by have:=(gS J).1;rw[E.len] at this;exact this
 have q:j*E.m+i<b*E.m:=by
  rw[h.2];have K:(j+1)*E.m<=l.length*E.m:=Nat.mul_le_mul_right _ A;rw[Nat.succ_mul] at K;omega
 rw[Nat.zero_add,h.1.cellAt _ q];exact zy9 E l I J
theorem zyA (b o j:Nat):(⟨b,o,none⟩:Addr).add j=⟨b,o+j,none⟩:=by simp[Addr.add]
theorem zeh {P:Program} {α:Type} (E:Enc α) (W:World) {L:Array Oper} {rest:List Oper} {o:Oper} {a:Act} {Q:Exit->Act->World->Prop} (M:o.guard=none) (s x:Operand) (t:TypeId) (ho:o.op= .call {callee:=.builtin .append,args:=#[s,x],argTypes:=#[t,t]}) (base:Nat) (e:TypeId) (i:TypeInfo) (z:Value) (J:Nat) (ht:P.underlying t=some (.slice e)) (hi:P.info? e=some i) (hz:i.zero=some z) (H:i.size=E.m) (O:i.bytes=J) (X:z.cells.size=E.m) (N:J<=1024) (g n K:Nat) (l:List α) (hs:a.eval s= .slice (some ⟨g,0,none⟩) n K) (q:OwnE E W base e g n K l) (V:Nat) (b:α) (hx:a.eval x= .slice (some ⟨V,0,none⟩) 1 1) (hg:W.heap[V]? =some (.cells (E.f b).toArray e (0,0))) (hn:n+1<=100000000) (h: ∀A w w',OwnE E w' base e A (n+1) w (l++[b])->W.grownBy w' (some g)->(A=g∨A=W.heap.size)->wpList P L Q rest (a.put o.dst (.slice (some ⟨A,0,none⟩) (n+1) w)) w'):
  wpList P L Q (o::rest) a W:=by
 have I:base<=W.heap.size:=Nat.le_trans q.blk.1 (Nat.le_of_lt q.blk.2);refine wpList_append_own_at _ M s x t ho base e i z E.m J ht hi hz H O X E.pos _ n _ hs q.1 ⟨V,0,none⟩ 1 1 (E.f b) hx (by rw[E.len,Nat.one_mul]) ?_ (E.one b) ?_ ?_ I ?_
 ·intro j u hj;rw[zyA,Nat.zero_add];simp[World.cell?,hg,hj]
 ·unfold maxLen;omega
 ·exact Nat.le_trans (Nat.mul_le_mul hn N) (by decide)
 ·intro v' w' Z k2 k3 k4;rcases Z.2 with ⟨hv,ab⟩|⟨A,w,aa,rfl,Y⟩
  ·omega
  ·refine h A w w' ⟨by rw[List.flatMap_append];simpa using Z,by rw[List.length_append,<-q.2];rfl⟩ k2 ?_;have U:some A=some g∨some A=some W.heap.size:=k4;rcases U with k|k
   ·exact .inl (oI k)
   ·exact .inr (oI k)
def OutE {α:Type} (E:Enc α) (e:TypeId) (w:World) (base:Nat) (a:Option Addr) (n cap:Nat) (l:List α):Prop:=n=l.length/\(0<n->∃g,a=some ⟨g,0,none⟩/\OwnE E w base e g n cap l)
theorem OutE.own {α:Type} {E:Enc α} {s:Nat} {l:List α} (h:OwnE E w g C s b c l):OutE E C w g (some ⟨s,0,none⟩) b c l:=⟨h.2,fun _=>⟨s,rfl,h⟩⟩
theorem OutE.later {α:Type} {E:Enc α} {a:Option Addr} {l:List α} (h:OutE E C w g a b c l) (I:Bw w W):OutE E C W g a b c l:=
 ⟨h.1,fun k=>by obtain⟨s,H,A⟩:=h.2 k;exact⟨s,H,A.later I⟩⟩
theorem OutE.row {α:Type} {E:Enc α} {a:Option Addr} {l:List α} (h:OutE E C w g a b c l):RowAt w a E.f E.m l:=by
 rcases Nat.eq_zero_or_pos b with A|A
 ·exact .inl (List.length_eq_zero_iff.1 (by rw[<-h.1];exact A))
 ·obtain⟨s,rfl,H⟩:=h.2 A;exact H.row
def OwnX (w:World) (base:Nat) (e:TypeId) (size g n cap:Nat) (mk:Nat->Value) (c:Nat):Prop:=∃xs,w.ownsRow base e size (.slice (some ⟨g,0,none⟩) n cap) n xs/\∀i,i<c->xs[i]? =some (mk i)
theorem OwnX.start {s:Nat} {xs:List Value} (h:w.ownsRow g C b (.slice (some ⟨s,0,none⟩) c d) c xs) (A:Nat->Value):OwnX w g C b s c d A 0:=⟨xs,h,fun i H=>absurd H (Nat.not_lt_zero i)⟩
theorem OwnX.blk {s m:Nat} (h:OwnX w g C b s c d z m):g<=s/\s<w.heap.size:=by
 obtain⟨N,J,_⟩:=h;rcases J.2 with ⟨q,_⟩|⟨O,H,I,q,K,M,_⟩
 ·simp at q
 ·simp only[vI,sI0,Addr.mk.injEq,and_true,true_and] at q;obtain⟨rfl,rfl⟩:=q;exact⟨K,(aLt M)⟩
theorem OwnX.keep {s m:Nat} (h:OwnX w g C b s c d z m) (M:W.heap[s]? =w.heap[s]?):OwnX W g C b s c d z m:=by
 obtain⟨U,J,N⟩:=h;refine⟨U,⟨J.1,?_⟩,N⟩;rcases J.2 with ⟨A,_⟩|⟨X,K,H,A,I,V,O⟩
 ·simp at A
 ·simp only[vI,sI0,Addr.mk.injEq,and_true,true_and] at A;obtain⟨rfl,rfl⟩:=A;exact .inr ⟨s,d,H,rfl,I,M.trans V,O⟩
theorem OwnX.later {s m:Nat} (h:OwnX w g C b s c d z m) (H:Bw w W):OwnX W g C b s c d z m:=h.keep (H.block s h.blk.2)
theorem OwnX.has {s m:Nat} (h:OwnX w g C b s c d z m) (i:Nat) (H:i<c*b): ∃v,w.cell? ⟨s,i,none⟩=some v:=by
 obtain⟨J,A,_⟩:=h;rw[A.cellAt i H];exact⟨_,gE (by rw[A.1];exact H)⟩
theorem OwnX.cell {s m:Nat} (h:OwnX w g C b s c d z m) (i:Nat) (K:i<c*b) (J:i<m):w.cell? ⟨s,i,none⟩=some (z i):=by
 obtain⟨L,I,H⟩:=h;rw[I.cellAt i K];exact H i J
theorem OwnX.free {s m:Nat} (h:OwnX w g C b s c d z m) (i:Nat):w.frozen? ⟨s,i,none⟩=false:=by
 obtain⟨I,A,_⟩:=h;exact A.frozenAt i
theorem OwnX.put {s m:Nat} {e:TypeId} (h:OwnX w g e b s c d z m) (L:m<c*b):OwnX (w.setCell ⟨s,m,none⟩ (z m)) g e b s c d z (m+1):=by
 obtain⟨J,H,I⟩:=h;have K:=H.1;refine⟨J.set m (z m),(H.stored m _).1,fun i M=>?_⟩;by_cases e:i=m
 ·subst e;exact List.getElem?_set_self (by omega)
 ·rw[List.getElem?_set_ne (by omega)];exact I i (by omega)
theorem zyB (w:World) (b:Option Nat):w.grownBy w b:=⟨rfl,rfl,rfl,Nat.le_refl _,fun _ _ _=>rfl⟩
theorem zyC {I:World} (h:w.grownBy W S) (k:W.grownBy I S):w.grownBy I S:=
 ⟨k.os.trans h.os,k.tape.trans h.tape,k.output.trans h.output,Nat.le_trans h.size k.size,fun i A q=>(k.block i (Nat.lt_of_lt_of_le A h.size) q).trans (h.block i A q)⟩
theorem zyD {i:Nat} {u:Value} (h:w.grownBy W (some g)):w.grownBy (W.setCell ⟨g,i,none⟩ u) (some g):=
 zyC h ⟨rfl,rfl,rfl,by show _<=(W.heap.modify _ _).size;simp,fun k _ A=>Below.heap_setCell W ⟨g,i,none⟩ u k (fun e=>A (by rw[e]))⟩
