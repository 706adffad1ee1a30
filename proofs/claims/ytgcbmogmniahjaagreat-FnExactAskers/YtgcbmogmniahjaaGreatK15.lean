/- Facts and walks. -/
import Derived.Test.YtgcbmogmniahjaaGreatK13
import Derived.Test.YtgcbmogmniahjaaGreatK14
namespace Go.Proofs.YtgcbmogmniahjaaGreat
open Nat (succ_pos succ_mul add_zero)
open List (flatMap_cons eq_nil_of_length_eq_zero)
open Go.Proofs.Tryz
set_option maxRecDepth 100000
set_option maxHeartbeats 6400000
open Go.RowKit Go.PlainAid Go.Sort
variable (w W:Option Addr) (C:Cx) (S:UInt8) (s:BA) (q:UInt8) (g b c d:Nat) (z n:Rw) (k m:List BA) (x:Nat) (T:Sv) (t:PS) (h:UInt8) (A:BA) (B:PS) (V:World) {D E:World} {F G H I J:Nat} {K:Rw} {L:List BA} {M:BA} {N:TypeId} {O:Cx} {P Q:Sv} {R:PS} {U:Obj} {u:Int} {X:Sm} {Y:List Value} {Z:Option Nat} {e:Md}
theorem zjT (h:s.size<=281474976710656):
  Calls prog 191 #[.string s] V fun e q=>e= .returned (.string s)/\Bw V q:=by
 go_enter func191,ntmps191;go_wp2_with fail;refine (Tryz.stringslite_Clone _ _ h).mono ?_;rintro e A ⟨rfl,z⟩;go_wp2;go_ret;exact⟨rfl,z⟩
theorem OwnR.text (h:OwnR D F 9 1 K G (L.map .string)) (E:H<G): ∃g,K.a=some ⟨g,0,none⟩/\D.cell? ⟨g,H,none⟩=some (.string (L.getD H sNone)):=by
 rcases h.2 with ⟨_,I⟩|⟨g,f,A,q,_⟩
 ·omega
 ·simp only[Value.slice.injEq] at q;have z:=h;unfold OwnR at z;rw[q.1,q.2.2] at z;have i:L.length=G:=by have:=h.1;simpa using this
  refine⟨g,q.1,?_⟩;rw[World.ownsRow.cellAt z H (by omega)];simp only[List.getElem?_map,List.getD];rw[List.getElem?_eq_getElem (by omega)];rfl
theorem zoB (h:F<L.length):zaU (L.drop F) M=((L.getD F sNone).toList==M.toList||zaU (L.drop (F+1)) M):=by
 rw[List.drop_eq_getElem_cons h];simp only[zaU,List.any_cons,List.getD,List.getElem?_eq_getElem h,Option.getD_some]
theorem zoC (f:Nat) (r:Rw) (l:List BA) (x:BA) (w:World) (h:OwnR w g 9 1 r l.length (l.map .string)) (hl:l.length<=1000000) (N:r.a=some ⟨f,0,none⟩):
  Calls prog 96 #[.slice (some ⟨f,0,none⟩) l.length r.cap,.string x] w fun e U=>(∃v:Int,e= .returned (.int .i64 v)/\decide (0<=v)=zaU l x)/\U=w:=by
 have Y:=zc h;have J:=zc N;clear h N;go_enter func96,ntmps96;go_wp2;go_loopg [8] (l.length+1) (fun k i wr=>∃j:Nat,i= .int .i64 j/\j+k=l.length+1/\zaU (l.drop j) x=zaU l x/\wr=w)
 case atStart=>exact⟨0,rfl,by omega,by simp,rfl⟩
 case round=>
  obtain⟨j,rfl,hj,O,rfl⟩:=hrel;have L:=zc O;clear O;by_cases q:j<l.length
  ·have D:(j:Int)<(l.length:Int):=by omega
   obtain⟨X,A,Z⟩:=Y.o.text q;have V:X=f:=by have:=A.symm.trans J.o;simpa using this
   subst V;clear A;obtain⟨E,z⟩: ∃E,E=j+1:=⟨_,rfl⟩;have ej:(j:Int)+1=(E:Int):=by omega
   have M:=zc z;clear z;have K:Hid (zaU (l.drop j) x=((l.getD j sNone).toList==x.toList||zaU (l.drop (j+1)) x)):=zoB q;generalize l.getD j sNone=y at Z K;cases H:(x.toList==y.toList) with
   |true=>
    go_wp2;go_ret;refine⟨⟨_,rfl,?_⟩,rfl⟩;have I:(y.toList==x.toList)=true:=by rw[beq_iff_eq] at H ⊢;exact H.symm
    rw[<-L.o,K.o,I];simp
   |false=>
    go_wp2;go_roundg (gk-1)
    case rel=>
     have I:(y.toList==x.toList)=false:=by
      rw[beq_eq_false_iff_ne] at H ⊢;exact fun e=>H e.symm
     refine⟨E,rfl,by have:=M.o;omega,?_,rfl⟩;rw[<-L.o,K.o,I,M.o];simp
    case measure=>omega
  ·have D: ¬(j:Int)<(l.length:Int):=by omega
   go_wp2;go_ret;refine⟨⟨_,rfl,?_⟩,rfl⟩;rw[<-L.o,List.drop_eq_nil_of_le (by omega)];rfl
theorem zoD:
  Calls prog 96 #[.slice none 0 0,.string s] V fun e h=>e= .returned (.int .i64 (-1))/\h=V:=by
 go_enter func96,ntmps96;go_wp2;go_loopg [8] 1 (fun k i wr=>k=1/\i= .int .i64 0/\wr=V)
 case atStart=>exact⟨rfl,rfl,rfl⟩
 case round=>
  obtain⟨rfl,rfl,rfl⟩:=hrel;go_wp2;go_ret;exact⟨rfl,rfl⟩
theorem zoE (h:OwnR V g 9 1 z k.length (k.map .string)) (E:k.length<=1000000):
  Calls prog 96 #[.slice z.a k.length z.cap,.string A] V fun e D=>(∃v:Int,e= .returned (.int .i64 v)/\decide (0<=v)=zaU k A)/\D=V:=by
 rcases h.nil_or with ⟨j,H,q⟩|⟨f,i⟩
 ·rw[j,H,q];refine (zoD A V).mono ?_;rintro e I ⟨rfl,rfl⟩;have:k=[]:=List.length_eq_zero_iff.1 q;subst this;exact⟨⟨_,rfl,rfl⟩,rfl⟩
 ·rw[i];exact zoC g f z k A V h E i
theorem zg1 (h:OwnR V g 9 1 z k.length (k.map .string)) (D:k.length<=1000000):
  Calls prog 64 #[.slice z.a k.length z.cap,.string A] V fun e i=>e= .returned (.bool (zaU k A))/\i=V:=by
 have f:=zc h;clear h;go_enter func64,ntmps64;go_wp2_with fail;refine (zoE g z k A _ f.o D).mono ?_;rintro e H ⟨⟨v,rfl,q⟩,rfl⟩;have E:=zc q;clear q;go_wp2;go_ret;exact⟨zi E.o,rfl⟩
theorem Tryz.infoText:(prog.info? 9).map (fun i=>(i.zero,i.size,i.bytes))=some (some (.string {data:=#[]}),1,16):=by kernel_rfl
def zbu (C:Cx):Prop:=∀i,(ze C i).text.size<=281474976710656
theorem zcY: ∀u∈[Value.string s],u.oneCell'=true:=by
 intro u h;simp at h;rw[h];rfl
theorem zoF (w:World) (h:IM C g b c d T t w) (hC:zbu C) (hk:((ze C t.pos).kind==3)=true) (hs:zaU t.rq (ze C t.pos).text=false) (hn:t.rq.length<40):
  Calls prog 228 #[.pointer (some ⟨d,0,none⟩)] w fun e w'=>e= .returned (.string (ze C t.pos).text)/\∃S',IM C g b c d S' {adv t with rq:=t.rq++[(ze C t.pos).text]} w'/\IS d T w S' w':=by
 obtain⟨i0,hi,Y,ad,ae⟩:=info_parts Tryz.infoText;have ag:=zcW;have L:=hC t.pos;go_enter func228,ntmps228;go_wp2_with fail;refine (zep C g b c d T t 3 _ h hk (by decide)).mono ?_;rintro e N ⟨rfl,m1,s1⟩;have U:=zc m1;have ac:=zc s1;clear m1 s1;unfold tkV;obtain⟨c0,c1,c2,c3,c4,c5,c6,c7,c8,c9,cf⟩:=zai U.o.cells;rw[show (adv t).rq=t.rq from rfl] at c4;generalize K:(ze C t.pos).text=tx at hs L ⊢;have X:=zc K;clear K;go_wp2_with fail;refine (zg1 c T.rq t.rq tx _ U.o.mem.own.rq (by omega)).mono ?_;rintro e H ⟨rfl,M⟩;rw[hs,M];clear M H;go_wp2_with fail;refine (zeq d t.rq.length 40 _ (by omega)).mono ?_;rintro e H ⟨rfl,M⟩;rw[M];clear M H;have HN:Hid (some d≠T.rq.blk):=fun e=>U.o.free (.inl e.symm);go_wp2_with fail;go_region_law (first|(refine zfA rfl (.tmp 28) (.tmp 31) 22 rfl c 9 i0 _ 1 16 underlying22 hi Y ad ae rfl (by decide) (by decide) T.rq t.rq.length (t.rq.map .string) (by rfl) (by exact D.o.mem.own.rq.alloc _) O.heap.size [.string tx] (by rfl) (by exact heap_alloc_new O _) rfl (zcY tx) (by omega) (by exact (D.o.alloc _).mem.base) ?_;intro r' w2 hr E J;have g2:=(E.block d (by exact (D.o.alloc _).lt) HN.o).trans (by exact (D.o.alloc _).cells);obtain⟨d0,d1,d2,d3,d4,d5,d6,d7,d8,d9,df⟩:=zai g2)|(go_simp;go_wp2_with (go_at_call 191;refine (zjT _ _ L).mono ?_;rintro e O ⟨rfl,I⟩;have D:Hid (IM C g b c d T (adv t) O):=U.o.drew.later I;have ab:Hid (Bw N O):=(Below.refl N.heap.size N).drew.trans I;obtain⟨e0,e1,e2,e3,e4,e5,e6,e7,e8,e9,ef⟩:=zai D.o.cells;rw[show (adv t).rq=t.rq from rfl] at e4;have af:=D.o.lt;clear I)))
 all_goals
  have HR:=zc hr;have aa:=zc E;have Z:=zc J;clear hr E J g2 c0 c1 c2 c3 c4 c5 c6 c7 c8 c9 cf e0 e1 e2 e3 e4 e5 e6 e7 e8 e9 ef;go_wp2;go_ret;obtain⟨m',s'⟩:=D.o.grow_rq (x:=tx) (bA0) aa.o HR.o Z.o hn;rw[X.o];exact⟨rfl,_,m',ac.o.trans (s'.grownI ab.o)⟩
theorem zg2 (h:IM C g b c d T t V) (hC:zbu C):
  Calls prog 228 #[.pointer (some ⟨d,0,none⟩)] V (zV C g b c d (zM C t) (·.1) (fun a=>.string a.2) T V):=by
 cases D:((ze C t.pos).kind==3) with
 |false=>
  have L:=zc h;have f:Hid (zM C t= .error (zt C t.pos)):=by show _=_;rw[zM,D];rfl
  clear h;go_enter func228,ntmps228;go_wp2_with fail;refine (zjR C g b c d T t 3 _ L.o D).mono ?_;rintro e X ⟨rfl,O⟩;have Y:=O.mono L.o.mem.base;clear O;unfold Pan;go_wp2;refine⟨rfl,?_⟩;rw[f.o];exact⟨rfl,Y⟩
 |true=>
  cases N:zaU t.rq (ze C t.pos).text with
  |true=>
   have L:=zc h;have f:Hid (zM C t= .ok (adv t,(ze C t.pos).text)):=by show _=_;rw[zM,D,N];rfl
   have aa:=zcW;have Z:=h.mem.inv.rq;clear h;go_enter func228,ntmps228;go_wp2_with fail;refine (zep C g b c d T t 3 _ L.o D (by decide)).mono ?_;rintro e X ⟨rfl,K,J⟩;have E:=zc K;have I:=zc J;clear K J;unfold tkV;obtain⟨c0,c1,c2,c3,c4,c5,c6,c7,c8,c9,cf⟩:=zai E.o.cells;rw[show (adv t).rq=t.rq from rfl] at c4;go_wp2_with fail;refine (zg1 c T.rq t.rq (ze C t.pos).text _ E.o.mem.own.rq (by omega)).mono ?_;rintro e M ⟨rfl,U⟩;rw[N,U];clear U M;go_wp2;go_ret;rw[f.o];exact⟨rfl,T,E.o,I.o⟩
  |false=>
   by_cases hn:t.rq.length<40
   ·refine (zoF C g b c d T t V h hC D N hn).mono ?_;rintro e X ⟨rfl,S1,K,J⟩;rw[zM,D,N,if_pos rfl,if_neg (by decide),if_neg (by omega)];exact⟨rfl,S1,K,J⟩
   ·have L:Hid (IM C g b c d T t V):=h;have f:Hid (zM C t= .error (zt C t.pos)):=by show _=_;rw[zM,D,N,if_pos rfl,if_neg (by decide),if_pos (by omega)]
    have aa:=zcW;have Z:=h.mem.inv.rq;clear h;go_enter func228,ntmps228;go_wp2_with fail;refine (zep C g b c d T t 3 _ L.o D (by decide)).mono ?_;rintro e X ⟨rfl,K,J⟩;have E:=zc K;have I:=zc J;clear K J;unfold tkV;obtain⟨c0,c1,c2,c3,c4,c5,c6,c7,c8,c9,cf⟩:=zai E.o.cells;rw[show (adv t).rq=t.rq from rfl] at c4;go_wp2_with fail;refine (zg1 c T.rq t.rq (ze C t.pos).text _ E.o.mem.own.rq (by omega)).mono ?_;rintro e M ⟨rfl,U⟩;rw[N,U];clear U M;go_wp2_with fail;refine (zeU C g b c d T (adv t) t.rq.length 40 _ E.o (by omega) (by rw[zA];omega)).mono ?_;rintro e w2 ⟨rfl,O⟩;have Y:=(L.o.back I.o).trans (O.mono E.o.mem.base);clear O;unfold Pan;go_wp2;refine⟨rfl,?_⟩;rw[f.o];exact⟨rfl,Y⟩
theorem bdO {α β:Type} {Y:Except Nat β} {x:Except Nat α} {f:α->Except Nat β} {a:α} (h:Y=bd x f) (q:x= .ok a):Y=f a:=by rw[h,q];rfl
theorem bdE {α β:Type} {Y:Except Nat β} {x:Except Nat α} {f:α->Except Nat β} (h:Y=bd x f) (q:x= .error F):Y= .error F:=by rw[h,q];rfl
theorem zeW {α:Type} (x:Except Nat α):bd x .ok=x:=by cases x<;>rfl
abbrev cCall:BA:={data:=#[40,41,123]}
abbrev cShutSemi:BA:={data:=#[41,59]}
abbrev cSemiRight:BA:={data:=#[59,125]}
theorem zjU:zaJ C {data:=#[S]} 1 0 t=zd C 4 {data:=#[S]} t:=by
 have e:({data:=#[S]}:BA).extract 0 (0+1)={data:=#[S]}:=by simp[ByteArray.extract,ByteArray.copySlice]
 rw[zaJ,e];exact zeW _
theorem zjV (f:PS):zaJ C {data:=#[S,q]} 2 0 f=bd (zd C 4 {data:=#[S]} f) (zd C 4 {data:=#[q]}):=by
 have e:({data:=#[S,q]}:BA).extract 0 (0+1)={data:=#[S]}:=by simp[ByteArray.extract,ByteArray.copySlice]
 have h:({data:=#[S,q]}:BA).extract (0+1) (0+1+1)={data:=#[q]}:=by simp[ByteArray.extract,ByteArray.copySlice]
 rw[zaJ,e];refine zah fun a _=>?_;rw[zaJ,h];exact zeW _
theorem zoG (f:PS):zaJ C {data:=#[S,q,h]} 3 0 f=bd (zd C 4 {data:=#[S]} f) fun a=>bd (zd C 4 {data:=#[q]} a) (zd C 4 {data:=#[h]}):=by
 have e:({data:=#[S,q,h]}:BA).extract 0 (0+1)={data:=#[S]}:=by simp[ByteArray.extract,ByteArray.copySlice]
 have w:({data:=#[S,q,h]}:BA).extract (0+1) (0+1+1)={data:=#[q]}:=by simp[ByteArray.extract,ByteArray.copySlice]
 have i:({data:=#[S,q,h]}:BA).extract (0+1+1) (0+1+1+1)={data:=#[h]}:=by simp[ByteArray.extract,ByteArray.copySlice]
 rw[zaJ,e];refine zah fun a _=>?_;rw[zaJ,w];refine zah fun a _=>?_;rw[zaJ,i];exact zeW _
theorem zoH (s:BA) (f:PS->PR) (w:World) (h:IM C g b c d T t w) (E:zaJ C s s.size 0 t=f t) (H:s.size<=100):
  Calls prog 220 #[.pointer (some ⟨d,0,none⟩),.string s] w (zV C g b c d (f t) id (fun _=>.tuple #[]) T w):=by
 rw[<-E];exact zhH C g b c d T t s w h H
theorem zc5 (f:UInt8) (w:World) (h:IM C g b c d T t w):
  Calls prog 220 #[.pointer (some ⟨d,0,none⟩),.string {data:=#[f]}] w (zV C g b c d (zd C 4 {data:=#[f]} t) id (fun _=>.tuple #[]) T w):=
 zoH C g b c d T t {data:=#[f]} (zd C 4 {data:=#[f]}) w h (zjU C f t) (by show 1<=100;omega)
structure Six (w:World) (b:Nat) (v0 v1 v2 v3 v4 v5:Value):Prop where
 c0:w.cell? ⟨b,0,none⟩=some v0
 c1:w.cell? ⟨b,1,none⟩=some v1
 c2:w.cell? ⟨b,2,none⟩=some v2
 c3:w.cell? ⟨b,3,none⟩=some v3
 c4:w.cell? ⟨b,4,none⟩=some v4
 c5:w.cell? ⟨b,5,none⟩=some v5
 fz: ∀i,w.frozen? ⟨b,i,none⟩=false
theorem zy {v0 v1 v2 v3 v4 q:Value} (h:D.heap[F]? =some (.cells #[v0,v1,v2,v3,v4,q] N (0,0))):Six D F v0 v1 v2 v3 v4 q:=by
 constructor<;>simp[World.cell?,World.frozen?,h]
theorem IS.kept {A:Nat} {i:World} (h:IM O F G H A P R D) (s:IS A P (D.alloc U) Q i) (f:J=D.heap.size):i.heap[J]? =some U:=by
 subst f;refine (s.block _ (by rw[zg];omega) (fun g=>?_) (by have:=h.lt;omega)).trans (heap_alloc_new D _);have:=(h.mem.own.has g).2;omega
theorem IS.from (s:IS F P (D.alloc U) Q E):IS F P D Q E:=(IS.below (bA0)).trans s
theorem IS.free {base:Nat} {w:World} (h:IM O F G base I P R w) (s:IS I P (w.alloc U) Q E): ¬Q.has w.heap.size:=by
 intro g;rcases s.sub _ g with k|k
 ·have:=(h.mem.own.has k).2;omega
 ·rw[zg] at k;omega
def zbv (C:Cx) (x:Ex) (call:Int) (q:PS):PR:=if isT C q.pos 4 zp then bd (zd C 4 zaA (adv q)) (zT C ⟨call,x.num,x.name,x.field,x.l,x.r⟩) else zT C x q
theorem zfE (x:Ex) (z:Int) (w:World) (h:IM C g b c d T t w) (hp:0<t.pos):
  Calls prog 257 #[.pointer (some ⟨d,0,none⟩),exV x,.int .i64 z] w (zV C g b c d (zbv C x z t) id (fun q'=>.int .i64 ((q'.ex.length:Int)-1)) T w):=by
 cases hi:isT C t.pos 4 zp with
 |false=>
  have X:Hid (zbv C x z t=zT C x t):=by show _=_;rw[zbv,hi];rfl
  unfold exV;go_enter func257,ntmps257;go_wp2_with fail;refine (zP C g b c d T t 4 zp _ (h.alloc _) (by decide)).mono ?_;rintro e w1 ⟨rfl,E,s⟩;rw[hi] at E ⊢;have O:=s.from;have ag:Hid (w1.heap[w.heap.size]? =some (.cells #[.int .i64 x.kind,.int .i64 x.num,.string x.name,.string x.field,.int .i64 x.l,.int .i64 x.r] 100 (0,0))):=IS.kept h s rfl;obtain⟨b0,b1,b2,b3,b4,b5,bf⟩:=zy ag.o;clear s;go_wp2_with fail;refine (zeV C g b c d T t x _ E hp).mono ?_;cases D:zT C x t with
  |error p=>
   rintro e w2 ⟨rfl,M⟩;have U:=(h.back O).trans M;have J:Hid (zbv C x z t= .error p):=X.o.trans D;unfold Pan;go_wp2;refine⟨rfl,?_⟩;rw[J.o];exact⟨rfl,U⟩
  |ok a2=>
   rintro e w2 ⟨rfl,Z,L,s⟩;have aa:=O.trans s;clear s;have J:=zc (X.o.trans D);go_wp2;go_ret;rw[J.o];exact⟨rfl,Z,L,aa⟩
 |true=>
  have X:Hid (zbv C x z t=bd (zd C 4 zaA (adv t)) (zT C ⟨z,x.num,x.name,x.field,x.l,x.r⟩)):=by show _=_;rw[zbv,hi];rfl
  unfold exV;go_enter func257,ntmps257;go_wp2_with fail;refine (zP C g b c d T t 4 zp _ (h.alloc _) (by decide)).mono ?_;rintro e w1 ⟨rfl,E,Y⟩;rw[hi] at E ⊢;go_wp2_with fail;refine (zc5 C g b c d T (adv t) 41 _ E).mono ?_;cases D:zd C 4 zaA (adv t) with
  |error p=>
   rintro e w2 ⟨rfl,M⟩;have U:=(h.back Y.from).trans M;have J:Hid (zbv C x z t= .error p):=bdE X.o D;unfold Pan;go_wp2;refine⟨rfl,?_⟩;rw[J.o];exact⟨rfl,U⟩
  |ok a2=>
   rintro e w2 ⟨rfl,Z,L,s⟩;have I:=Y.trans s;have ab:Hid (w2.heap[w.heap.size]? =some (.cells #[.int .i64 x.kind,.int .i64 x.num,.string x.name,.string x.field,.int .i64 x.l,.int .i64 x.r] 100 (0,0))):=IS.kept h I rfl;have af:Hid (a2=adv (adv t)):=(zcb D).1;have ad:Hid (¬Z.has w.heap.size):=IS.free h I;have ai:d<w.heap.size:=h.lt;have ah:g<w.heap.size:=(zaw h.mem.tok).1;clear s;have N:=zc (bdO X.o D);obtain⟨b0,b1,b2,b3,b4,b5,bf⟩:=zy ab.o;go_wp2_with fail;refine (zeV C g b c d Z a2 ⟨z,x.num,x.name,x.field,x.l,x.r⟩ _ (L.set (by omega) (by omega) ad.o _ _) (by rw[af.o];show 0<t.pos+1+1;omega)).mono ?_;cases V:zT C ⟨z,x.num,x.name,x.field,x.l,x.r⟩ a2 with
   |error p=>
    rintro e w3 ⟨rfl,M⟩;have U:Below c w w3:=(h.back (I.from.new (Nat.le_refl _) _ _)).trans M;have J:Hid (zbv C x z t= .error p):=N.o.trans V;unfold Pan;go_wp2;refine⟨rfl,?_⟩;rw[J.o];exact⟨rfl,U⟩
   |ok a3=>
    rintro e w3 ⟨rfl,S3,ac,s⟩;have ae:IS d T w S3 w3:=(I.from.new (Nat.le_refl _) _ _).trans s;clear s;have J:=zc (N.o.trans V);go_wp2;go_ret;rw[J.o];exact⟨rfl,S3,ac,ae⟩
def exI (q:PS):Value:=.int .i64 ((q.ex.length:Int)-1)
def zfF (C:Cx) (gt cap base gp m:Nat):Prop:=∀(d:Nat) (S:Sv) (q:PS) (w:World),C.ts.length-q.pos<m->d<=20->IM C gt cap base gp S q w->
 Calls prog 239 #[.pointer (some ⟨gp,0,none⟩),.int .i64 d] w (zV C gt cap base gp (pE C .sum d q) id exI S w)
theorem zjW:zbK C s t=zbv C ⟨2,0,s,sNone,0,0⟩ 3 t:=by
 unfold zbK zbv;cases h:isT C t.pos 4 zp with
 |true=>rw[zck h];rfl
 |false=>rfl
theorem zoI:zca C s A B=zbv C ⟨4,0,s,A,0,0⟩ 5 B:=by
 unfold zca zbv;cases h:isT C B.pos 4 zp with
 |true=>rw[zck h];rfl
 |false=>rfl
theorem zoJ {y:BA} (h:(M.toList==y.toList)=true):M=y:=by
 rw[beq_iff_eq,Lib.toList_data,Lib.toList_data] at h;cases M;cases y;simp only at h;rw[Array.toList_inj.1 h]
theorem zhL (h:isT O F u M=true):(ze O F).text=M:=by
 simp only[isT,Bool.and_eq_true] at h;exact zoJ h.2
theorem zg3 (h:isT O F u M=true):((ze O F).kind==u)=true:=by
 simp only[isT,Bool.and_eq_true] at h;exact h.1
theorem zoK {d:Nat} (h:((ze O R.pos).kind==2)=true):pE O .part d R=zT O ⟨1,(ze O R.pos).num,sNone,sNone,0,0⟩ (adv R):=by rw[zbT,h];rfl
theorem zoL {d:Nat} (h:((ze O R.pos).kind==2)=false) (w:isT O R.pos 4 zp=true) (z:20<=d):pE O .part d R= .error (zt O R.pos):=by rw[zbT,h,w,if_neg (by decide),if_pos rfl,if_pos z]
theorem zoM {d:Nat} (h:((ze O R.pos).kind==2)=false) (w:isT O R.pos 4 zp=true) (z: ¬20<=d):pE O .part d R=bd (pE O .sum (d+1) (adv R)) (zd O 4 zaA):=by rw[zbT,h,w,if_neg (by decide),if_pos rfl,if_neg z]
theorem zoN {d:Nat} (h:((ze O R.pos).kind==2)=false) (w:isT O R.pos 4 zp=false) (z:O.scr=true) (A:isT O R.pos 1 zaH=true):pE O .part d R=zbv O ⟨2,0,zaH,sNone,0,0⟩ 3 (adv R):=by
 rw[zbT,h,w,z,A,if_neg (by decide),if_neg (by decide),if_pos (by decide),zjW]
theorem zjX {d:Nat} (h:((ze O R.pos).kind==2)=false) (w:isT O R.pos 4 zp=false) (z:(O.scr&&isT O R.pos 1 zaH)=false):
  pE O .part d R=bd (zm O false R) fun x=>if isT O x.1.pos 4 cPoint then bd (zm O true (adv x.1)) fun y=>zbv O ⟨4,0,x.2,y.2,0,0⟩ 5 y.1 else zbv O ⟨2,0,x.2,sNone,0,0⟩ 3 x.1:=by
 rw[zbT,h,w,z,if_neg (by decide),if_neg (by decide),if_neg (by decide)];simp only[zjW,zoI]
theorem zoO (f:Nat) (S:Sv) (q:PS) (w:World) (h:IM C g b c d S q w) (U:((ze C q.pos).kind==2)=true):
  Calls prog 256 #[.pointer (some ⟨d,0,none⟩),.int .i64 f] w (zV C g b c d (pE C .part f q) id exI S w):=by
 have aa:=zdo;have ac:=zcW;have ab:=zeR;have V:=zc (zoK (d:=f) U);go_enter func256,ntmps256;go_wp2_with fail;refine (zbC C g b c d S q _ h).mono ?_;rintro e X ⟨rfl,D⟩;unfold tkV;have O:=h.later D;have K:IS d S w S X:=IS.below D;clear D;go_wp2_with fail;refine (zep C g b c d S q 2 _ O U (by decide)).mono ?_;rintro e w2 ⟨rfl,J,s⟩;have E:=K.trans s;clear s;unfold tkV;go_wp2_with fail;refine (zeV C g b c d S (adv q) ⟨1,(ze C q.pos).num,sNone,sNone,0,0⟩ _ J (by rw[zA];omega)).mono ?_;cases H:zT C ⟨1,(ze C q.pos).num,sNone,sNone,0,0⟩ (adv q) with
 |error p=>
  rintro e Y ⟨rfl,D⟩;have Z:=(h.back E).trans D;have HX:Hid (pE C .part f q= .error p):=V.o.trans H;unfold Pan;go_wp2;refine⟨rfl,?_⟩;rw[HX.o];exact⟨rfl,Z⟩
 |ok a3=>
  rintro e Y ⟨rfl,S3,L,s⟩;have N:=E.trans s;clear s;have M:=zc (V.o.trans H);go_wp2;go_ret;rw[M.o];exact⟨rfl,S3,L,N⟩
theorem zoP (f:Nat) (S:Sv) (q:PS) (w:World) (h:IM C g b c d S q w) (O:((ze C q.pos).kind==2)=false) (L:isT C q.pos 4 zp=true) (M:20<=f):
  Calls prog 256 #[.pointer (some ⟨d,0,none⟩),.int .i64 f] w (zV C g b c d (pE C .part f q) id exI S w):=by
 have V:=zdo;have aa:=zcW;have Z:=zeR;have X:=zc (zoL (d:=f) O L M);have Y:(20:Int)<=(f:Int):=by omega
 go_enter func256,ntmps256;go_wp2_with fail;refine (zbC C g b c d S q _ h).mono ?_;rintro e N ⟨rfl,E⟩;unfold tkV;have K:=h.later E;have I:IS d S w S N:=IS.below E;clear E;go_wp2_with fail;refine (zP C g b c d S q 4 zp _ K (by decide)).mono ?_;rintro e w2 ⟨rfl,A,s⟩;rw[L] at A ⊢;have J:=I.trans s;clear s;go_wp2_with fail;refine (zeU C g b c d S (adv q) f 20 _ A (by omega) (by rw[zA];omega)).mono ?_;rintro e w3 ⟨rfl,E⟩;have U:=(h.back J).trans (E.mono A.mem.base);have HX:Hid (pE C .part f q= .error (zt C q.pos)):=X.o;unfold Pan;go_wp2;refine⟨rfl,?_⟩;rw[HX.o];exact⟨rfl,U⟩
theorem zoQ (f:Nat) (S:Sv) (q:PS) (w:World) (h:IM C g b c d S q w) (hk:((ze C q.pos).kind==2)=false) (h1:isT C q.pos 4 zp=true) (hd:f<20) (hS:zfF C g b c d x) (hm:C.ts.length-q.pos<=x):
  Calls prog 256 #[.pointer (some ⟨d,0,none⟩),.int .i64 f] w (zV C g b c d (pE C .part f q) id exI S w):=by
 have ae:=zdo;have ah:=zcW;have ag:=zeR;have HY:=zc (zoM (d:=f) hk h1 (by omega));have af: ¬(20:Int)<=(f:Int):=by omega
 have ad:=zaB h1 (by decide);obtain⟨H,M⟩: ∃H:Nat,H=f+1:=⟨_,rfl⟩;have ed:(f:Int)+1=(H:Int):=by omega
 rw[<-M] at HY;have U:H<=20:=by omega
 clear M;go_enter func256,ntmps256;go_wp2_with fail;refine (zbC C g b c d S q _ h).mono ?_;rintro e w1 ⟨rfl,E⟩;unfold tkV;have ac:=h.later E;have Y:IS d S w S w1:=IS.below E;clear E;go_wp2_with fail;refine (zP C g b c d S q 4 zp _ ac (by decide)).mono ?_;rintro e w2 ⟨rfl,J,s⟩;rw[h1] at J ⊢;have K:=Y.trans s;clear s;go_wp2_with fail;refine (zeq d f 20 _ (by omega)).mono ?_;rintro e w' ⟨rfl,hw⟩;rw[hw];clear hw w';go_wp2_with fail;refine (hS H S (adv q) _ (by rw[zA];omega) U J).mono ?_;cases L:pE C .sum H (adv q) with
 |error p=>
  rintro e w3 ⟨rfl,E⟩;have Z:=(h.back K).trans E;have HX:Hid (pE C .part f q= .error p):=bdE HY.o L;unfold Pan;go_wp2;refine⟨rfl,?_⟩;rw[HX.o];exact⟨rfl,Z⟩
 |ok a3=>
  rintro e w3 ⟨rfl,S3,aa,s⟩;have O:=K.trans s;clear s;have N:=zc (bdO HY.o L);unfold exI;go_wp2_with fail;refine (zc5 C g b c d S3 a3 41 _ aa).mono ?_;cases D:zd C 4 zaA a3 with
  |error p=>
   rintro e w4 ⟨rfl,E⟩;have Z:=(h.back O).trans E;have HX:Hid (pE C .part f q= .error p):=N.o.trans D;unfold Pan;go_wp2;refine⟨rfl,?_⟩;rw[HX.o];exact⟨rfl,Z⟩
  |ok a4=>
   rintro e w4 ⟨rfl,S4,X,s⟩;have V:=O.trans s;clear s;have ab:=zc (N.o.trans D);have HP:Hid (a4=adv a3):=(zcb D).1;go_wp2;go_ret;rw[ab.o];exact⟨by rw[HP.o];rfl,S4,X,V⟩
theorem zoR (f:Nat) (S:Sv) (q:PS) (w:World) (h:IM C g b c d S q w) (hk:((ze C q.pos).kind==2)=false) (h1:isT C q.pos 4 zp=false) (h2:C.scr=true) (K:isT C q.pos 1 zaH=true):
  Calls prog 256 #[.pointer (some ⟨d,0,none⟩),.int .i64 f] w (zV C g b c d (pE C .part f q) id exI S w):=by
 have aa:=zdo;have ac:=zcW;have ab:=zeR;have HY:=zc (zoN (d:=f) hk h1 h2 K);go_enter func256,ntmps256;go_wp2_with fail;refine (zbC C g b c d S q _ h).mono ?_;rintro e w1 ⟨rfl,A⟩;unfold tkV;have Z:=h.later A;have N:IS d S w S w1:=IS.below A;clear A;go_wp2_with fail;refine (zP C g b c d S q 4 zp _ Z (by decide)).mono ?_;rintro e w2 ⟨rfl,m,s⟩;rw[h1] at m ⊢;have E:=zc m;have O:=N.trans s;clear m s;obtain⟨_,_,_,c3,_,_,_,_,_,_,cf⟩:=zai E.o.cells;rw[h2] at c3;go_wp2_with fail;refine (zcu C g b c d S q 1 zaH _ E.o).mono ?_;rintro e w3 ⟨rfl,A⟩;rw[K];have V:=E.o.later A;have X:=(O.trans (IS.below A));clear A;go_wp2_with fail;refine (zep C g b c d S q 1 _ V (zg3 K) (by decide)).mono ?_;rintro e w4 ⟨rfl,L,s⟩;have J:=X.trans s;clear s;unfold tkV;rw[zhL K];go_wp2_with fail;refine (zfE C g b c d S (adv q) ⟨2,0,zaH,sNone,0,0⟩ 3 _ L (by rw[zA];omega)).mono ?_;cases I:zbv C ⟨2,0,zaH,sNone,0,0⟩ 3 (adv q) with
 |error p=>
  rintro e w5 ⟨rfl,A⟩;have HB:=(h.back J).trans A;have HX:Hid (pE C .part f q= .error p):=HY.o.trans I;unfold Pan;go_wp2;refine⟨rfl,?_⟩;rw[HX.o];exact⟨rfl,HB⟩
 |ok a5=>
  rintro e w5 ⟨rfl,S5,M,s⟩;have Y:=J.trans s;clear s;have U:=zc (HY.o.trans I);go_wp2;go_ret;rw[U.o];exact⟨rfl,S5,M,Y⟩
theorem zoS (f:Nat) (S:Sv) (q:PS) (w:World) (h:IM C g b c d S q w) (hk:((ze C q.pos).kind==2)=false) (h1:isT C q.pos 4 zp=false) (h2:C.scr=true) (h3:isT C q.pos 1 zaH=false):
  Calls prog 256 #[.pointer (some ⟨d,0,none⟩),.int .i64 f] w (zV C g b c d (pE C .part f q) id exI S w):=by
 have al:=zdo;have an:=zcW;have am:=zeR;have HY:=zc (zjX (d:=f) hk h1 (by rw[h2,h3];rfl));go_enter func256,ntmps256;go_wp2_with fail;refine (zbC C g b c d S q _ h).mono ?_;rintro e w1 ⟨rfl,A⟩;unfold tkV;have ak:=h.later A;have ag:IS d S w S w1:=IS.below A;clear A;go_wp2_with fail;refine (zP C g b c d S q 4 zp _ ak (by decide)).mono ?_;rintro e w2 ⟨rfl,m,s⟩;rw[h1] at m ⊢;have O:=zc m;have ah:=ag.trans s;clear m s;obtain⟨_,_,_,c3,_,_,_,_,_,_,cf⟩:=zai O.o.cells;rw[h2] at c3;go_wp2_with fail;refine (zcu C g b c d S q 1 zaH _ O.o).mono ?_;rintro e w3 ⟨rfl,A⟩;rw[h3];have ai:=O.o.later A;have ab:=(ah.trans (IS.below A));clear A;go_wp2_with fail;refine (zdF C g b c d S q _ ai).mono ?_;cases N:zm C false q with
 |error p=>
  rintro e w4 ⟨rfl,A⟩;have U:=(h.back ab).trans A;have X:Hid (pE C .part f q= .error p):=bdE HY.o N;unfold Pan;go_wp2;refine⟨rfl,?_⟩;rw[X.o];exact⟨rfl,U⟩
 |ok H=>
  rintro e w4 ⟨rfl,S4,Z,s⟩;have Y:=ab.trans s;clear s;have ac:=zc (bdO HY.o N);have aa:0<H.1.pos:=by rw[(zb6 N).1];exact succ_pos _
  cases hd:isT C H.1.pos 4 cPoint with
  |true=>
   have HZ:=zc (ac.o.trans (if_pos hd));go_wp2_with fail;refine (zP C g b c d S4 (H.1) 4 cPoint _ Z (by decide)).mono ?_;rintro e w5 ⟨rfl,I,s⟩;rw[hd] at I ⊢;have J:=Y.trans s;clear s;go_wp2_with fail;refine (zf9 C g b c d S4 (adv (H.1)) _ I).mono ?_;cases E:zm C true (adv (H.1)) with
   |error p=>
    rintro e w6 ⟨rfl,A⟩;have U:=(h.back J).trans A;have X:Hid (pE C .part f q= .error p):=bdE HZ.o E;unfold Pan;go_wp2;refine⟨rfl,?_⟩;rw[X.o];exact⟨rfl,U⟩
   |ok a6=>
    rintro e w6 ⟨rfl,S6,V,s⟩;have L:=J.trans s;clear s;have M:=zc (bdO HZ.o E);go_wp2_with fail;refine (zfE C g b c d S6 (a6.1) ⟨4,0,H.2,a6.2,0,0⟩ 5 _ V (by rw[(zb6 E).1];exact succ_pos _)).mono ?_;cases ad:zbv C ⟨4,0,H.2,a6.2,0,0⟩ 5 (a6.1) with
    |error p=>
     rintro e w7 ⟨rfl,A⟩;have U:=(h.back L).trans A;have X:Hid (pE C .part f q= .error p):=M.o.trans ad;unfold Pan;go_wp2;refine⟨rfl,?_⟩;rw[X.o];exact⟨rfl,U⟩
    |ok a7=>
     rintro e w7 ⟨rfl,S7,af,s⟩;have aj:=L.trans s;clear s;have ae:=zc (M.o.trans ad);go_wp2;go_ret;rw[ae.o];exact⟨rfl,S7,af,aj⟩
  |false=>
   have HZ:=zc (ac.o.trans (if_neg (by rw[hd];decide)));go_wp2_with fail;refine (zP C g b c d S4 (H.1) 4 cPoint _ Z (by decide)).mono ?_;rintro e w5 ⟨rfl,I,s⟩;rw[hd] at I ⊢;have J:=Y.trans s;clear s;go_wp2_with fail;refine (zfE C g b c d S4 (H.1) ⟨2,0,H.2,sNone,0,0⟩ 3 _ I aa).mono ?_;cases E:zbv C ⟨2,0,H.2,sNone,0,0⟩ 3 (H.1) with
   |error p=>
    rintro e w6 ⟨rfl,A⟩;have U:=(h.back J).trans A;have X:Hid (pE C .part f q= .error p):=HZ.o.trans E;unfold Pan;go_wp2;refine⟨rfl,?_⟩;rw[X.o];exact⟨rfl,U⟩
   |ok a6=>
    rintro e w6 ⟨rfl,S6,V,s⟩;have L:=J.trans s;clear s;have M:=zc (HZ.o.trans E);go_wp2;go_ret;rw[M.o];exact⟨rfl,S6,V,L⟩
theorem zoT (f:Nat) (S:Sv) (q:PS) (w:World) (h:IM C g b c d S q w) (hk:((ze C q.pos).kind==2)=false) (h1:isT C q.pos 4 zp=false) (h2:C.scr=false):
  Calls prog 256 #[.pointer (some ⟨d,0,none⟩),.int .i64 f] w (zV C g b c d (pE C .part f q) id exI S w):=by
 have aj:=zdo;have al:=zcW;have ak:=zeR;have HY:=zc (zjX (d:=f) hk h1 (by rw[h2];rfl));go_enter func256,ntmps256;go_wp2_with fail;refine (zbC C g b c d S q _ h).mono ?_;rintro e w1 ⟨rfl,I⟩;unfold tkV;have ah:=h.later I;have ae:IS d S w S w1:=IS.below I;clear I;go_wp2_with fail;refine (zP C g b c d S q 4 zp _ ah (by decide)).mono ?_;rintro e w2 ⟨rfl,m,s⟩;rw[h1] at m ⊢;have X:=zc m;have Y:=ae.trans s;clear m s;obtain⟨_,_,_,c3,_,_,_,_,_,_,cf⟩:=zai X.o.cells;rw[h2] at c3;go_wp2_with fail;refine (zdF C g b c d S q _ X.o).mono ?_;cases U:zm C false q with
 |error p=>
  rintro e w3 ⟨rfl,I⟩;have O:=(h.back Y).trans I;have V:Hid (pE C .part f q= .error p):=bdE HY.o U;unfold Pan;go_wp2;refine⟨rfl,?_⟩;rw[V.o];exact⟨rfl,O⟩
 |ok E=>
  rintro e w3 ⟨rfl,S3,ab,s⟩;have ad:=Y.trans s;clear s;have ac:=zc (bdO HY.o U);have Z:0<E.1.pos:=by rw[(zb6 U).1];exact succ_pos _
  cases hd:isT C E.1.pos 4 cPoint with
  |true=>
   have HZ:=zc (ac.o.trans (if_pos hd));go_wp2_with fail;refine (zP C g b c d S3 (E.1) 4 cPoint _ ab (by decide)).mono ?_;rintro e w4 ⟨rfl,J,s⟩;rw[hd] at J ⊢;have H:=ad.trans s;clear s;go_wp2_with fail;refine (zf9 C g b c d S3 (adv (E.1)) _ J).mono ?_;cases A:zm C true (adv (E.1)) with
   |error p=>
    rintro e w5 ⟨rfl,I⟩;have O:=(h.back H).trans I;have V:Hid (pE C .part f q= .error p):=bdE HZ.o A;unfold Pan;go_wp2;refine⟨rfl,?_⟩;rw[V.o];exact⟨rfl,O⟩
   |ok a5=>
    rintro e w5 ⟨rfl,S5,N,s⟩;have M:=H.trans s;clear s;have L:=zc (bdO HZ.o A);go_wp2_with fail;refine (zfE C g b c d S5 (a5.1) ⟨4,0,E.2,a5.2,0,0⟩ 5 _ N (by rw[(zb6 A).1];exact succ_pos _)).mono ?_;cases aa:zbv C ⟨4,0,E.2,a5.2,0,0⟩ 5 (a5.1) with
    |error p=>
     rintro e w6 ⟨rfl,I⟩;have O:=(h.back M).trans I;have V:Hid (pE C .part f q= .error p):=L.o.trans aa;unfold Pan;go_wp2;refine⟨rfl,?_⟩;rw[V.o];exact⟨rfl,O⟩
    |ok a6=>
     rintro e w6 ⟨rfl,S6,af,s⟩;have ag:=M.trans s;clear s;have ai:=zc (L.o.trans aa);go_wp2;go_ret;rw[ai.o];exact⟨rfl,S6,af,ag⟩
  |false=>
   have HZ:=zc (ac.o.trans (if_neg (by rw[hd];decide)));go_wp2_with fail;refine (zP C g b c d S3 (E.1) 4 cPoint _ ab (by decide)).mono ?_;rintro e w4 ⟨rfl,J,s⟩;rw[hd] at J ⊢;have H:=ad.trans s;clear s;go_wp2_with fail;refine (zfE C g b c d S3 (E.1) ⟨2,0,E.2,sNone,0,0⟩ 3 _ J Z).mono ?_;cases A:zbv C ⟨2,0,E.2,sNone,0,0⟩ 3 (E.1) with
   |error p=>
    rintro e w5 ⟨rfl,I⟩;have O:=(h.back H).trans I;have V:Hid (pE C .part f q= .error p):=HZ.o.trans A;unfold Pan;go_wp2;refine⟨rfl,?_⟩;rw[V.o];exact⟨rfl,O⟩
   |ok a5=>
    rintro e w5 ⟨rfl,S5,N,s⟩;have M:=H.trans s;clear s;have L:=zc (HZ.o.trans A);go_wp2;go_ret;rw[L.o];exact⟨rfl,S5,N,M⟩
theorem zjY (f:Nat) (S:Sv) (q:PS) (w:World) (h:IM C g b c d S q w) (N:f<=20) (M:zfF C g b c d x) (L:C.ts.length-q.pos<=x):
  Calls prog 256 #[.pointer (some ⟨d,0,none⟩),.int .i64 f] w (zV C g b c d (pE C .part f q) id exI S w):=by
 cases E:((ze C q.pos).kind==2) with
 |true=>exact zoO C g b c d f S q w h E
 |false=>
  cases H:isT C q.pos 4 zp with
  |true=>
   by_cases I:20<=f
   ·exact zoP C g b c d f S q w h E H I
   ·exact zoQ C g b c d x f S q w h E H (by omega) M L
  |false=>
   cases J:C.scr with
   |true=>
    cases K:isT C q.pos 1 zaH with
    |true=>exact zoR C g b c d f S q w h E H J K
    |false=>exact zoS C g b c d f S q w h E H J K
   |false=>exact zoT C g b c d f S q w h E H J
theorem zoU (h:isT O R.pos 4 zz=false):pE O .prodT F R= .ok R:=by rw[zgk,if_neg (by rw[h];decide)]
theorem zoV (h:isT O R.pos 4 zz=true):pE O .prodT F R=bd (pE O .part F (adv R)) fun a=>bd (zT O ⟨8,0,sNone,sNone,(R.ex.length:Int)-1,(a.ex.length:Int)-1⟩ a) (pE O .prodT F):=by rw[zgk,if_pos h,zQ]
theorem zoW (h:isT O R.pos 4 zbs=false) (w:isT O R.pos 4 zc2=false):pE O .sumT F R= .ok R:=by rw[zf0,if_neg (by rw[h,w];decide)]
theorem zoX (h:isT O R.pos 4 zbs=true):pE O .sumT F R=bd (pE O .prod F (adv R)) fun a=>bd (zT O ⟨7,0,sNone,sNone,(R.ex.length:Int)-1,(a.ex.length:Int)-1⟩ a) (pE O .sumT F):=by
 rw[zf0,if_pos (by rw[h];exact Bool.or_true _),zQ,zd9,if_pos h]
theorem zoY (h:isT O R.pos 4 zbs=false) (w:isT O R.pos 4 zc2=true):pE O .sumT F R=bd (pE O .prod F (adv R)) fun a=>bd (zT O ⟨6,0,sNone,sNone,(R.ex.length:Int)-1,(a.ex.length:Int)-1⟩ a) (pE O .sumT F):=by
 rw[zf0,if_pos (by rw[w];rfl),zQ,zd9,if_neg (by rw[h];decide)]
theorem zhM (f:Nat) (S:Sv) (q:PS) (w:World) (h:IM C g b c d S q w) (hd:f<=20) (hS:zfF C g b c d x) (hm:C.ts.length-q.pos<=x):
  Calls prog 252 #[.pointer (some ⟨d,0,none⟩),.int .i64 f] w (zV C g b c d (pE C .prod f q) id exI S w):=by
 have HY:=zc (zj1 C f q);go_enter func252,ntmps252;go_wp2_with fail;refine (zjY C g b c d x f S q _ h hd hS hm).mono ?_;cases K:pE C .part f q with
 |error p=>
  rintro e w1 ⟨rfl,U⟩;have V:Below c w w1:=(h.back (IS.refl _ _ _)).trans U;have HX:Hid (pE C .prod f q= .error p):=bdE HY.o K;unfold Pan;go_wp2;refine⟨rfl,?_⟩;rw[HX.o];exact⟨rfl,V⟩
 |ok a1=>
  rintro e w1 ⟨rfl,S1,ai,ae⟩;have aj:=zc (bdO HY.o K);unfold exI;have am:=zbk K;go_wp2;go_loopg [5] (C.ts.length+1) (fun k l wr=>∃(M:Sv) (A:PS),l=exI A/\pE C .prod f q=pE C .prodT f A/\C.ts.length-A.pos<k/\C.ts.length-A.pos<=x/\IM C g b c d M A wr/\IS d S w M wr)
  case atStart=>exact⟨S1,a1,rfl,aj.o,by omega,by omega,ai,ae⟩
  case round=>
   obtain⟨M,A,rfl,hy,hk,al,m',s'⟩:=hrel;have X:=zc hy;have O:=m';have ab:=s';clear hy m' s';unfold exI;cases hi:isT C A.pos 4 zz with
   |false=>
    have HZ:=zc (X.o.trans (zoU hi));go_wp2_with fail;refine (zP C g b c d M A 4 zz _ O (by decide)).mono ?_;rintro e w2 ⟨rfl,D,s⟩;rw[hi] at D ⊢;have H:=ab.trans s;clear s;go_wp2;go_ret;rw[HZ.o];exact⟨rfl,M,D,H⟩
   |true=>
    have ak:=zaB hi (by decide);have HZ:=zc (X.o.trans (zoV hi));go_wp2_with fail;refine (zP C g b c d M A 4 zz _ O (by decide)).mono ?_;rintro e w2 ⟨rfl,D,s⟩;rw[hi] at D ⊢;have H:=ab.trans s;clear s;go_wp2_with fail;refine (zjY C g b c d x f M (adv A) _ D hd hS (by rw[zA];omega)).mono ?_;cases L:pE C .part f (adv A) with
    |error p=>
     rintro e w3 ⟨rfl,U⟩;have V:=(h.back H).trans U;have HX:Hid (pE C .prod f q= .error p):=bdE HZ.o L;unfold Pan;go_wp2;refine⟨rfl,?_⟩;rw[HX.o];exact⟨rfl,V⟩
    |ok N=>
     rintro e w3 ⟨rfl,S3,ag,s⟩;have aa:=H.trans s;clear s;have Z:=zc (bdO HZ.o L);unfold exI;have Y:=zbk L;rw[zA] at Y;have af:0<N.pos:=by omega
     go_wp2_with fail;refine (zeV C g b c d S3 N ⟨8,0,sNone,sNone,(A.ex.length:Int)-1,(N.ex.length:Int)-1⟩ _ ag af).mono ?_;cases J:zT C ⟨8,0,sNone,sNone,(A.ex.length:Int)-1,(N.ex.length:Int)-1⟩ N with
     |error p=>
      rintro e w4 ⟨rfl,U⟩;have V:=(h.back aa).trans U;have HX:Hid (pE C .prod f q= .error p):=bdE Z.o J;unfold Pan;go_wp2;refine⟨rfl,?_⟩;rw[HX.o];exact⟨rfl,V⟩
     |ok a4=>
      rintro e w4 ⟨rfl,S4,ad,s⟩;have ac:=aa.trans s;clear s;have ah:=zc (bdO Z.o J);have HP:Hid (a4.pos=N.pos):=by show _=_;rw[(zb7 J).1]
      go_wp2;go_roundg (gk-1)
      case rel=>exact⟨S4,a4,rfl,ah.o,by have:=HP.o;omega,by have:=HP.o;omega,ad,ac⟩
      case measure=>omega
theorem zoZ (f:Nat) (S:Sv) (q:PS) (w:World) (h:IM C g b c d S q w) (hd:f<=20) (hS:zfF C g b c d x) (hm:C.ts.length-q.pos<=x):
  Calls prog 239 #[.pointer (some ⟨d,0,none⟩),.int .i64 f] w (zV C g b c d (pE C .sum f q) id exI S w):=by
 have HY:=zc (zj0 C f q);go_enter func239,ntmps239;go_wp2_with fail;refine (zhM C g b c d x f S q _ h hd hS hm).mono ?_;cases ad:pE C .prod f q with
 |error p=>
  rintro e w1 ⟨rfl,D⟩;have Y:Below c w w1:=(h.back (IS.refl _ _ _)).trans D;have HX:Hid (pE C .sum f q= .error p):=bdE HY.o ad;unfold Pan;go_wp2;refine⟨rfl,?_⟩;rw[HX.o];exact⟨rfl,Y⟩
 |ok a1=>
  rintro e w1 ⟨rfl,S1,ap,al⟩;have am:=zc (bdO HY.o ad);unfold exI;have av:=zbk ad;go_wp2;go_loopg [5] (C.ts.length+1) (fun k l wr=>∃(I:Sv) (A:PS),l=exI A/\pE C .sum f q=pE C .sumT f A/\C.ts.length-A.pos<k/\C.ts.length-A.pos<=x/\IM C g b c d I A wr/\IS d S w I wr)
  case atStart=>exact⟨S1,a1,rfl,am.o,by omega,by omega,ap,al⟩
  case round=>
   obtain⟨I,A,rfl,hy,hk,au,m',s'⟩:=hrel;have ag:=zc hy;have L:=m';have aj:=s';clear hy m' s';unfold exI;have ar:=L.mem.few;cases hi:isT C A.pos 4 zbs with
   |true=>
    have ac:=zaB hi (by decide);have HZ:=zc (ag.o.trans (zoX hi));go_wp2_with fail;refine (zcu C g b c d I A 4 zbs _ L).mono ?_;rintro e w2 ⟨rfl,D⟩;rw[hi];have J:Hid (IM C g b c d I A w2):=L.later D;have U:=(aj.trans (IS.below D));clear D;obtain⟨c0,c1,c2,c3,c4,c5,c6,c7,c8,c9,cf⟩:=zai J.o.cells;go_wp2_with fail;have M:Hid (IM C g b c d I (adv A) (w2.setCell ⟨d,1,none⟩ (.int .i64 ((A.pos:Int)+1)))):=J.o.adv ac;have N:IS d S w I (w2.setCell ⟨d,1,none⟩ (.int .i64 ((A.pos:Int)+1))):=U.set _ _;refine (zhM C g b c d x f I (adv A) _ M.o hd hS (by rw[zA];omega)).mono ?_;cases ab:pE C .prod f (adv A) with
    |error p=>
     rintro e w4 ⟨rfl,D⟩;have Y:=(h.back N).trans D;have HX:Hid (pE C .sum f q= .error p):=bdE HZ.o ab;unfold Pan;go_wp2;refine⟨rfl,?_⟩;rw[HX.o];exact⟨rfl,Y⟩
    |ok a4=>
     rintro e w4 ⟨rfl,S4,ae,s⟩;have O:=N.trans s;clear s;have ak:=zc (bdO HZ.o ab);unfold exI;have V:=zbk ab;rw[zA] at V;have ai:0<a4.pos:=by omega
     go_wp2_with fail;refine (zeV C g b c d S4 a4 ⟨7,0,sNone,sNone,(A.ex.length:Int)-1,(a4.ex.length:Int)-1⟩ _ ae ai).mono ?_;cases K:zT C ⟨7,0,sNone,sNone,(A.ex.length:Int)-1,(a4.ex.length:Int)-1⟩ a4 with
     |error p=>
      rintro e w5 ⟨rfl,D⟩;have Y:=(h.back O).trans D;have HX:Hid (pE C .sum f q= .error p):=bdE ak.o K;unfold Pan;go_wp2;refine⟨rfl,?_⟩;rw[HX.o];exact⟨rfl,Y⟩
     |ok Z=>
      rintro e w5 ⟨rfl,S5,af,s⟩;have aa:=O.trans s;clear s;have X:=zc (bdO ak.o K);have HP:Hid (Z.pos=a4.pos):=by show _=_;rw[(zb7 K).1]
      go_wp2;go_roundg (gk-1)
      case rel=>exact⟨S5,Z,rfl,X.o,by have:=HP.o;omega,by have:=HP.o;omega,af,aa⟩
      case measure=>omega
   |false=>
    cases hj:isT C A.pos 4 zc2 with
    |true=>
     have ac:=zaB hj (by decide);have HZ:=zc (ag.o.trans (zoY hi hj));go_wp2_with fail;refine (zcu C g b c d I A 4 zbs _ L).mono ?_;rintro e w2 ⟨rfl,D⟩;rw[hi];have J:Hid (IM C g b c d I A w2):=L.later D;have U:=(aj.trans (IS.below D));clear D;go_wp2_with fail;refine (zcu C g b c d I A 4 zc2 _ J.o).mono ?_;rintro e w3 ⟨rfl,D⟩;rw[hj];have M:Hid (IM C g b c d I A w3):=J.o.later D;have N:=(U.trans (IS.below D));clear D;obtain⟨c0,c1,c2,c3,c4,c5,c6,c7,c8,c9,cf⟩:=zai M.o.cells;go_wp2_with fail;have ae:=M.o.adv ac;have O:IS d S w I (w3.setCell ⟨d,1,none⟩ (.int .i64 ((A.pos:Int)+1))):=N.set _ _;refine (zhM C g b c d x f I (adv A) _ ae hd hS (by rw[zA];omega)).mono ?_;cases K:pE C .prod f (adv A) with
     |error p=>
      rintro e w5 ⟨rfl,D⟩;have Y:=(h.back O).trans D;have HX:Hid (pE C .sum f q= .error p):=bdE HZ.o K;unfold Pan;go_wp2;refine⟨rfl,?_⟩;rw[HX.o];exact⟨rfl,Y⟩
     |ok Z=>
      rintro e w5 ⟨rfl,S5,af,s⟩;have aa:=O.trans s;clear s;have X:=zc (bdO HZ.o K);unfold exI;have V:=zbk K;rw[zA] at V;have ai:0<Z.pos:=by omega
      go_wp2_with fail;refine (zeV C g b c d S5 Z ⟨6,0,sNone,sNone,(A.ex.length:Int)-1,(Z.ex.length:Int)-1⟩ _ af ai).mono ?_;cases ah:zT C ⟨6,0,sNone,sNone,(A.ex.length:Int)-1,(Z.ex.length:Int)-1⟩ Z with
      |error p=>
       rintro e w6 ⟨rfl,D⟩;have Y:=(h.back aa).trans D;have HX:Hid (pE C .sum f q= .error p):=bdE X.o ah;unfold Pan;go_wp2;refine⟨rfl,?_⟩;rw[HX.o];exact⟨rfl,Y⟩
      |ok a6=>
       rintro e w6 ⟨rfl,S6,an,s⟩;have ao:=aa.trans s;clear s;have aq:=zc (bdO X.o ah);have HP:Hid (a6.pos=Z.pos):=by show _=_;rw[(zb7 ah).1]
       go_wp2;go_roundg (gk-1)
       case rel=>exact⟨S6,a6,rfl,aq.o,by have:=HP.o;omega,by have:=HP.o;omega,an,ao⟩
       case measure=>omega
    |false=>
     have HZ:=zc (ag.o.trans (zoW hi hj));go_wp2_with fail;refine (zcu C g b c d I A 4 zbs _ L).mono ?_;rintro e w2 ⟨rfl,D⟩;rw[hi];have J:Hid (IM C g b c d I A w2):=L.later D;have U:=(aj.trans (IS.below D));clear D;go_wp2_with fail;refine (zcu C g b c d I A 4 zc2 _ J.o).mono ?_;rintro e w3 ⟨rfl,D⟩;rw[hj];have M:Hid (IM C g b c d I A w3):=J.o.later D;have N:=(U.trans (IS.below D));clear D;go_wp2;go_ret;rw[HZ.o];exact⟨rfl,I,M.o,N⟩
theorem zpa:zfF C g b c d x:=by
 induction x with
 |zero=>intro f S q w A;omega
 |succ x I=>intro f S q w A H h;exact zoZ C g b c d x f S q w h H I (by omega)
theorem zpb (f:Nat) (S:Sv) (q:PS) (w:World) (h:IM C g b c d S q w) (E:f<=20):
  Calls prog 239 #[.pointer (some ⟨d,0,none⟩),.int .i64 f] w (zV C g b c d (pE C .sum f q) id exI S w):=zpa C g b c d _ f S q w (Nat.lt_succ_self _) E h
theorem zjZ: ∀{k:Nat} {q b:PS},zaJ O M g k q= .ok b->b={q with pos:=q.pos+g}:=by
 induction g with
 |zero=>intro k q b h;cases h;rfl
 |succ g z=>
  intro k q b h;rw[zaJ] at h;obtain⟨a,w,A⟩:=zo h;rw[z A,(zcb w).1];show ({q with pos:=q.pos+1+g}:PS)=_;congr 1;omega
theorem zpc (x:Sm): ∀u∈smL x,u.oneCell'=true:=by
 intro u h;simp[smL] at h;rcases h with rfl|rfl|rfl<;>rfl
def stmtI (C:Cx) (k:Int) (n s:BA) (q:PS):PR:=bd (pE C .sum 0 q) fun a=>bd (zaJ C s s.size 0 a) fun b=>zaa C k n b
theorem zev (E:Int) (n s:BA) (w:World) (h:IM C g b c d T t w) (hs:s.size<=100) (h0:0<s.size):
  Calls prog 221 #[.pointer (some ⟨d,0,none⟩),.int .i64 E,.string n,.string s] w (zV C g b c d (stmtI C E n s t) id (fun _=>.tuple #[]) T w):=by
 obtain⟨i0,hi,ae,ai,ah⟩:=info_parts Tryz.infoStmt;have HY:=zc (stmtI.eq_1 C E n s t);go_enter func221,ntmps221;go_wp2_with fail;refine (zpb C g b c d 0 T t _ h (by omega)).mono ?_;cases N:pE C .sum 0 t with
 |error p=>
  rintro e w1 ⟨rfl,O⟩;have HB:Below c w w1:=(h.back (IS.refl _ _ _)).trans O;have HX:Hid (stmtI C E n s t= .error p):=bdE HY.o N;unfold Pan;go_wp2;refine⟨rfl,?_⟩;rw[HX.o];exact⟨rfl,HB⟩
 |ok a1=>
  rintro e w1 ⟨rfl,S1,aj,U⟩;have aa:=zc (bdO HY.o N);unfold exI;go_wp2_with fail;refine (zhH C g b c d S1 a1 s _ aj hs).mono ?_;cases M:zaJ C s s.size 0 a1 with
  |error p=>
   rintro e w2 ⟨rfl,O⟩;have HB:=(h.back U).trans O;have HX:Hid (stmtI C E n s t= .error p):=bdE aa.o M;unfold Pan;go_wp2;refine⟨rfl,?_⟩;rw[HX.o];exact⟨rfl,HB⟩
  |ok A=>
   rintro e w2 ⟨rfl,S2,m,s⟩;have z:=zc m;have Y:=U.trans s;clear m s;have ab:=zc (bdO aa.o M);have K:=zjZ _ M;have Z:0<A.pos:=by rw[K];show 0<a1.pos+s.size;omega
   have HE:Hid (A.ex=a1.ex):=by show _=_;rw[K]
   clear K;have al:=z.o.mem.inv.st;obtain⟨c0,c1,c2,c3,c4,c5,c6,c7,c8,c9,cf⟩:=zai z.o.cells;go_wp2_with fail;by_cases hn:A.st.length<80
   ·have HZ:=zc (ab.o.trans (show zaa C E n A=_ from if_neg (by omega)));refine (zeq d A.st.length 80 _ (by omega)).mono ?_;rintro e w' ⟨rfl,hw⟩;rw[hw];clear hw w';have HN:Hid (some d≠S2.st.blk):=fun e=>z.o.free (.inr (.inr (.inr (.inl e.symm))));have ak:=z.o.lt;have I:=fun J=>(z.o.mem.own.st.alloc J);have V:=fun J=>(z.o.alloc J).mem.base;have X:=fun J=>(z.o.alloc J).lt;have ad:=fun J=>(z.o.alloc J).cells;go_wp2_with (at_builtin;refine zbd _ rfl _ _ 51 rfl c 102 i0 _ 3 32 underlying51 hi ae ai ah rfl (by decide) (by decide) S2.st A.st.length _ (by rfl) (I _) w2.heap.size (smL ⟨E,n,(a1.ex.length:Int)-1⟩) (by rfl) (by exact heap_alloc_new w2 _) rfl (zpc _) (by omega) (V _) ?_;intro r' wz hr L ac;have g2:=(L.block d (X _) HN.o).trans (ad _);obtain⟨d0,d1,d2,d3,d4,d5,d6,d7,d8,d9,df⟩:=zai g2;have HR:Hid (OwnR wz c 102 3 r' (A.st.length+1) _):=hr;have ag:Hid (World.grownBy _ wz _):=L;have af:Hid (_∨_):=ac;clear hr L ac g2 c0 c1 c2 c3 c4 c5 c6 c7 c8 c9 cf I V X ad);go_wp2;go_end0;obtain⟨m',s'⟩:=z.o.grow_st (bA0) ag.o HR.o af.o hn;rw[HZ.o];rw[<-HE.o] at m';exact⟨rfl,_,m',Y.trans s'⟩
   ·have HZ:Hid (stmtI C E n s t= .error (zt C (A.pos-1))):=ab.o.trans (if_pos (by omega));refine (zeU C g b c d S2 A A.st.length 80 _ z.o (by omega) Z).mono ?_;rintro e wz ⟨rfl,O⟩;have HB:=(h.back Y).trans (O.mono z.o.mem.base);have HX:Hid (stmtI C E n s t= .error (zt C (A.pos-1))):=HZ.o;unfold Pan;go_wp2;refine⟨rfl,?_⟩;rw[HX.o];exact⟨rfl,HB⟩
def letJ (C:Cx) (k:Int) (q:PS):PR:=bd (zm C false q) fun a=>bd (zd C 4 cEq a.1) fun b=>stmtI C k a.2 cSemi b
def fnI (C:Cx) (q:PS):PR:=bd (zm C false q) fun a=>bd (zaJ C cCall cCall.size 0 a.1) fun b=>bd (zd C 1 zeJ b) fun c=>stmtI C 2 a.2 cSemiRight c
def printI (C:Cx) (q:PS):PR:=bd (zd C 4 zp q) fun a=>stmtI C 4 sNone cShutSemi a
theorem zhN (h:IM C g b c d T t V):
  Calls prog 211 #[.pointer (some ⟨d,0,none⟩)] V (zV C g b c d (letJ C 1 t) id (fun _=>.tuple #[]) T V):=by
 have HY:=zc (letJ.eq_1 C 1 t);go_enter func211,ntmps211;go_wp2_with fail;refine (zdF C g b c d T t _ h).mono ?_;cases E:zm C false t with
 |error p=>
  rintro e w1 ⟨rfl,D⟩;have K:Below c V w1:=(h.back (IS.refl _ _ _)).trans D;have U:Hid (letJ C 1 t= .error p):=bdE HY.o E;unfold Pan;go_wp2;refine⟨rfl,?_⟩;rw[U.o];exact⟨rfl,K⟩
 |ok f=>
  rintro e w1 ⟨rfl,S1,ab,I⟩;have O:=zc (bdO HY.o E);go_wp2_with fail;refine (zc5 C g b c d S1 (f.1) 61 _ ab).mono ?_;cases N:zd C 4 cEq (f.1) with
  |error p=>
   rintro e w2 ⟨rfl,D⟩;have K:=(h.back I).trans D;have U:Hid (letJ C 1 t= .error p):=bdE O.o N;unfold Pan;go_wp2;refine⟨rfl,?_⟩;rw[U.o];exact⟨rfl,K⟩
  |ok a2=>
   rintro e w2 ⟨rfl,S2,X,s⟩;have J:=I.trans s;clear s;have H:=zc (bdO O.o N);go_wp2_with fail;refine (zev C g b c d S2 a2 1 f.2 cSemi _ X (by decide) (by decide)).mono ?_;cases L:stmtI C 1 f.2 cSemi a2 with
   |error p=>
    rintro e w3 ⟨rfl,D⟩;have K:=(h.back J).trans D;have U:Hid (letJ C 1 t= .error p):=H.o.trans L;unfold Pan;go_wp2;refine⟨rfl,?_⟩;rw[U.o];exact⟨rfl,K⟩
   |ok a3=>
    rintro e w3 ⟨rfl,S3,Y,s⟩;have aa:=J.trans s;clear s;have Z:=zc (H.o.trans L);go_wp2;go_end0;rw[Z.o];exact⟨rfl,S3,Y,aa⟩
theorem zka (h:IM C g b c d T t V):
  Calls prog 196 #[.pointer (some ⟨d,0,none⟩)] V (zV C g b c d (letJ C 3 t) id (fun _=>.tuple #[]) T V):=by
 have HY:=zc (letJ.eq_1 C 3 t);go_enter func196,ntmps196;go_wp2_with fail;refine (zdF C g b c d T t _ h).mono ?_;cases E:zm C false t with
 |error p=>
  rintro e w1 ⟨rfl,D⟩;have K:Below c V w1:=(h.back (IS.refl _ _ _)).trans D;have U:Hid (letJ C 3 t= .error p):=bdE HY.o E;unfold Pan;go_wp2;refine⟨rfl,?_⟩;rw[U.o];exact⟨rfl,K⟩
 |ok f=>
  rintro e w1 ⟨rfl,S1,ab,I⟩;have O:=zc (bdO HY.o E);go_wp2_with fail;refine (zc5 C g b c d S1 (f.1) 61 _ ab).mono ?_;cases N:zd C 4 cEq (f.1) with
  |error p=>
   rintro e w2 ⟨rfl,D⟩;have K:=(h.back I).trans D;have U:Hid (letJ C 3 t= .error p):=bdE O.o N;unfold Pan;go_wp2;refine⟨rfl,?_⟩;rw[U.o];exact⟨rfl,K⟩
  |ok a2=>
   rintro e w2 ⟨rfl,S2,X,s⟩;have J:=I.trans s;clear s;have H:=zc (bdO O.o N);go_wp2_with fail;refine (zev C g b c d S2 a2 3 f.2 cSemi _ X (by decide) (by decide)).mono ?_;cases L:stmtI C 3 f.2 cSemi a2 with
   |error p=>
    rintro e w3 ⟨rfl,D⟩;have K:=(h.back J).trans D;have U:Hid (letJ C 3 t= .error p):=H.o.trans L;unfold Pan;go_wp2;refine⟨rfl,?_⟩;rw[U.o];exact⟨rfl,K⟩
   |ok a3=>
    rintro e w3 ⟨rfl,S3,Y,s⟩;have aa:=J.trans s;clear s;have Z:=zc (H.o.trans L);go_wp2;go_end0;rw[Z.o];exact⟨rfl,S3,Y,aa⟩
theorem zhO (h:IM C g b c d T t V):
  Calls prog 212 #[.pointer (some ⟨d,0,none⟩)] V (zV C g b c d (fnI C t) id (fun _=>.tuple #[]) T V):=by
 have HY:=zc (fnI.eq_1 C t);go_enter func212,ntmps212;go_wp2_with fail;refine (zdF C g b c d T t _ h).mono ?_;cases K:zm C false t with
 |error p=>
  rintro e w1 ⟨rfl,A⟩;have E:Below c V w1:=(h.back (IS.refl _ _ _)).trans A;have H:Hid (fnI C t= .error p):=bdE HY.o K;unfold Pan;go_wp2;refine⟨rfl,?_⟩;rw[H.o];exact⟨rfl,E⟩
 |ok Z=>
  rintro e w1 ⟨rfl,S1,af,M⟩;have Y:=zc (bdO HY.o K);go_wp2_with fail;refine (zhH C g b c d S1 (Z.1) cCall _ af (by decide)).mono ?_;cases X:zaJ C cCall cCall.size 0 (Z.1) with
  |error p=>
   rintro e w2 ⟨rfl,A⟩;have E:=(h.back M).trans A;have H:Hid (fnI C t= .error p):=bdE Y.o X;unfold Pan;go_wp2;refine⟨rfl,?_⟩;rw[H.o];exact⟨rfl,E⟩
  |ok a2=>
   rintro e w2 ⟨rfl,S2,ab,s⟩;have N:=M.trans s;clear s;have L:=zc (bdO Y.o X);go_wp2_with fail;refine (zeT C g b c d S2 a2 zeJ _ ab).mono ?_;cases O:zd C 1 zeJ a2 with
   |error p=>
    rintro e w3 ⟨rfl,A⟩;have E:=(h.back N).trans A;have H:Hid (fnI C t= .error p):=bdE L.o O;unfold Pan;go_wp2;refine⟨rfl,?_⟩;rw[H.o];exact⟨rfl,E⟩
   |ok a3=>
    rintro e w3 ⟨rfl,S3,ad,s⟩;have f:=N.trans s;clear s;have U:=zc (bdO L.o O);go_wp2_with fail;refine (zev C g b c d S3 a3 2 Z.2 cSemiRight _ ad (by decide) (by decide)).mono ?_;cases J:stmtI C 2 Z.2 cSemiRight a3 with
    |error p=>
     rintro e w4 ⟨rfl,A⟩;have E:=(h.back f).trans A;have H:Hid (fnI C t= .error p):=U.o.trans J;unfold Pan;go_wp2;refine⟨rfl,?_⟩;rw[H.o];exact⟨rfl,E⟩
    |ok a4=>
     rintro e w4 ⟨rfl,S4,ac,s⟩;have aa:=f.trans s;clear s;have ae:=zc (U.o.trans J);go_wp2;go_end0;rw[ae.o];exact⟨rfl,S4,ac,aa⟩
theorem zkb (h:IM C g b c d T t V):
  Calls prog 213 #[.pointer (some ⟨d,0,none⟩)] V (zV C g b c d (printI C t) id (fun _=>.tuple #[]) T V):=by
 have Y:=zc (printI.eq_1 C t);go_enter func213,ntmps213;go_wp2_with fail;refine (zc5 C g b c d T t 40 _ h).mono ?_;cases A:zd C 4 zp t with
 |error p=>
  rintro e X ⟨rfl,L⟩;have O:Below c V X:=(h.back (IS.refl _ _ _)).trans L;have f:Hid (printI C t= .error p):=bdE Y.o A;unfold Pan;go_wp2;refine⟨rfl,?_⟩;rw[f.o];exact⟨rfl,O⟩
 |ok Z=>
  rintro e X ⟨rfl,S1,U,E⟩;have I:=zc (bdO Y.o A);go_wp2_with fail;refine (zev C g b c d S1 Z 4 sNone cShutSemi _ U (by decide) (by decide)).mono ?_;cases H:stmtI C 4 sNone cShutSemi Z with
  |error p=>
   rintro e w2 ⟨rfl,L⟩;have O:=(h.back E).trans L;have f:Hid (printI C t= .error p):=I.o.trans H;unfold Pan;go_wp2;refine⟨rfl,?_⟩;rw[f.o];exact⟨rfl,O⟩
  |ok a2=>
   rintro e w2 ⟨rfl,S2,K,s⟩;have N:=E.trans s;clear s;have M:=zc (I.o.trans H);go_wp2;go_end0;rw[M.o];exact⟨rfl,S2,K,N⟩
theorem zkc (h:IM C g b c d T t V):
  Calls prog 214 #[.pointer (some ⟨d,0,none⟩)] V (zV C g b c d (stmtI C 5 sNone cSemi t) id (fun _=>.tuple #[]) T V):=by
 go_enter func214,ntmps214;go_wp2_with fail;refine (zev C g b c d T t 5 sNone cSemi _ h (by decide) (by decide)).mono ?_;cases E:stmtI C 5 sNone cSemi t with
 |error p=>
  rintro e H ⟨rfl,L⟩;unfold Pan;go_wp2;refine⟨rfl,?_⟩;rw[E];exact⟨rfl,L⟩
 |ok a=>
  rintro e H ⟨rfl,I,J,K⟩;go_wp2;go_end0;rw[E];exact⟨rfl,I,J,K⟩
theorem zpd (h:IM C g b c d T t V):
  Calls prog 215 #[.pointer (some ⟨d,0,none⟩)] V (zV C g b c d (stmtI C 6 sNone cSemi t) id (fun _=>.tuple #[]) T V):=by
 go_enter func215,ntmps215;go_wp2_with fail;refine (zev C g b c d T t 6 sNone cSemi _ h (by decide) (by decide)).mono ?_;cases E:stmtI C 6 sNone cSemi t with
 |error p=>
  rintro e H ⟨rfl,L⟩;unfold Pan;go_wp2;refine⟨rfl,?_⟩;rw[E];exact⟨rfl,L⟩
 |ok a=>
  rintro e H ⟨rfl,I,J,K⟩;go_wp2;go_end0;rw[E];exact⟨rfl,I,J,K⟩
def zcJ (C:Cx) (i:Nat):BA:=if (ze C i).kind==1 then (ze C i).text else sNone
theorem zkd (h:IM C g b c d T t V):
  Calls prog 195 #[.pointer (some ⟨d,0,none⟩)] V fun e K=>e= .returned (.string (zcJ C t.pos))/\Bw V K:=by
 cases I:((ze C t.pos).kind==1) with
 |true=>
  have E:Hid (zcJ C t.pos=(ze C t.pos).text):=by show _=_;rw[zcJ,I];rfl
  go_enter func195,ntmps195;go_wp2_with fail;refine (zbC C g b c d T t _ h).mono ?_;rintro e J ⟨rfl,A⟩;unfold tkV;go_wp2;go_ret;rw[E.o];exact⟨rfl,A.alloc A.size _⟩
 |false=>
  have E:Hid (zcJ C t.pos=sNone):=by show _=_;rw[zcJ,I];rfl
  go_enter func195,ntmps195;go_wp2_with fail;refine (zbC C g b c d T t _ h).mono ?_;rintro e J ⟨rfl,A⟩;unfold tkV;go_wp2;go_ret;rw[E.o];exact⟨rfl,A.alloc A.size _⟩
theorem OwnR.stmtName {l:List Sm} (h:OwnR D F 102 3 K (l++[X]).length ((l++[X]).flatMap smL)): ∃g,K.a=some ⟨g,0,none⟩/\D.cell? ⟨g,l.length*3+1,none⟩=some (.string X.name):=by
 rcases h.2 with ⟨_,I⟩|⟨g,H,E,q,_⟩
 ·simp at I
 ·simp only[Value.slice.injEq] at q;have z:=h;unfold OwnR at z;rw[q.1,q.2.2] at z;refine⟨g,q.1,?_⟩;rw[World.ownsRow.cellAt z _ (by simp;omega)];have A: ∀l:List Sm,(l.flatMap smL).length=l.length*3:=by
   intro l
   induction l with
   |nil=>rfl
   |cons y l f=>simp[flatMap_cons,smL,f] at f ⊢;omega
  rw[List.flatMap_append,List.getElem?_append_right (by rw[A];omega),A];simp[smL]
theorem zpe (l:List Sm) (x:Sm) (w:World) (h:IM C g b c d T t w) (U:t.st=l++[x]) (L:x.name.size<=281474976710656) (hp:0<t.pos):
  Calls prog 235 #[.pointer (some ⟨d,0,none⟩)] w (zV C g b c d (zq C ⟨1,x.name,x.name,sNone⟩ t) id (fun _=>.tuple #[]) T w):=by
 obtain⟨_,_,_,_,_,_,_,H,_,_,_⟩:=zai h.cells;have M:=h.mem.own.st;rw[U] at M H;obtain⟨f,X,hc⟩:=M.stmtName;have J:=h.mem.inv.st;rw[U] at J;have I:(l++[x]).length=l.length+1:=by simp
 rw[I] at H J;rw[X] at H;have C7:=zc H;have CN:=zc hc;have e1:((l.length+1:Nat):Int)-1=(l.length:Int):=by omega
 have e2:(l.length:Int)+1-1=(l.length:Int):=by omega
 have ac:IntKind.i64.wrap (l.length:Int)=(l.length:Int):=IntWalk.i64_in _ ⟨by omega,by omega⟩;have Y:(l.length:Int)<((l.length+1:Nat):Int):=by omega
 have aa:(l.length:Int)<(l.length:Int)+1:=by omega
 have cC: ∀i Z,Calls prog 191 #[.string x.name] (grow (redrawn w i) Z) fun e O=>e= .returned (.string x.name)/\∃p:Regrown,O=grow (redrawn w p.d) p.os:=fun i Z=>Calls.regrown_of (zjT _ _ L);clear H hc M X U;go_enter func235,ntmps235;go_wp2_with fail;have k7:=cell_regrown C7.o;have kN:=cell_regrown CN.o;refine wp_region_quiet_below (by kernel_rfl) (by kernel_rfl) ?_
 repeat (go_big_quiet_step (exact cC _ _))
 refine wpQuiet_nil ?_;intro w1 K;obtain⟨⟨dq,ab⟩,z⟩:=K;have D:Bw w w1:=by show Below _ _ _;rw[z];exact below_regrown _ _ _
 clear z k7 kN cC C7 CN;have V:=h.later D;go_wp2_with fail;refine (zfD C g b c d T t ⟨1,x.name,x.name,sNone⟩ _ V hp).mono ?_;cases hn:zq C ⟨1,x.name,x.name,sNone⟩ t with
 |error p=>
  rintro e w2 ⟨rfl,hb⟩;have HB:=(D.mono h.mem.base).trans hb;unfold Pan;go_wp2;refine⟨rfl,?_⟩;rw[hn];exact⟨rfl,HB⟩
 |ok a=>
  rintro e w2 ⟨rfl,S1,HM,s⟩;have HS:IS d T w S1 w2:=(IS.below D).trans s;clear s;go_wp2;go_end0;rw[hn];exact⟨rfl,S1,HM,HS⟩
def Fr (e:TypeId) (size:Nat) (w:World) (b:Nat) (r:Rw) (n:Nat) (xs:List Value) (S:Sv):Prop:=OwnR w b e size r n xs/\∀k,r.blk=some k->¬S.has k
theorem Fr.ngp {base b n:Nat} (f:Fr N J D b K n Y P) (h:IM O F G base I P R D) (E:N≠211) {k:Nat} (i:K.blk=some k):k≠I:=by
 rintro rfl;obtain⟨_,_,c,g⟩:=f.1.typed i;rw[h.cells] at g;simp only[Option.some.injEq,Obj.cells.injEq] at g;exact E g.2.1.symm
theorem Fr.ngt {b n:Nat} (f:Fr N J D b K n Y P) (h:IM O F G H I P R D) (i:N≠158) {k:Nat} (o:K.blk=some k):k≠F:=by
 rintro rfl;obtain⟨_,_,c,g⟩:=f.1.typed o;obtain⟨l,j⟩:=zgo h.mem.tok;rw[j] at g;simp only[Option.some.injEq,Obj.cells.injEq] at g;exact i g.2.1.symm
theorem Fr.step {b n:Nat} {w:World} {r:Rw} (f:Fr N J w b r n Y P) (h:IM O F G H I P R w) (j:N≠211) (s:IS I P w Q E):Fr N J E b r n Y Q:=by
 refine⟨f.1.keep fun k g=>s.block k (f.1.typed g).2.1 (f.2 k g) (f.ngp h j g),fun k g l=>?_⟩;rcases s.sub k l with i|i
 ·exact f.2 k g i
 ·have:=(f.1.typed g).2.1;omega
theorem Fr.low (f:Fr N F D G K I Y P) (q:H<=G):Fr N F D H K I Y P:=⟨f.1.low q,f.2⟩
theorem Fr.later {b:Nat} (f:Fr N F D b K G Y P) (q:Bw D E):Fr N F E b K G Y P:=⟨f.1.keep fun k g=>q.block k (f.1.typed g).2.1,f.2⟩
theorem IM.aside {f:World} (h:IM O F G H I P R D) (i:D.grownBy f Z) (E: ∀k,Z=some k->¬P.has k/\k≠I/\k≠F):IM O F G H I P R f:=by
 refine⟨⟨h.mem.own.keep fun k g=>i.block k (h.mem.own.has g).2 fun e=>(E k e.symm).1 g,h.mem.inv,zbM h.mem.tok (i.block F (zaw h.mem.tok).1 fun e=>(E F e.symm).2.2 rfl),h.mem.few,Nat.le_trans h.mem.base i.size⟩,(i.block I h.lt fun e=>(E I e.symm).2.1 rfl).trans h.cells,h.ge⟩
theorem IS.aside {w f:World} (s:IS F P w Q E) (h:E.grownBy f Z) (H: ∀k,Z=some k->w.heap.size<=k):IS F P w Q f:=
 ⟨h.os.trans s.os,h.tape.trans s.tape,h.output.trans s.output,Nat.le_trans s.size h.size,fun k z I q=>(h.block k (Nat.lt_of_lt_of_le z s.size) fun e=>by have:=H k e.symm;omega).trans (s.block k z I q),s.sub⟩
theorem Fr.grown {i:World} {w:Rw} {E:List Value} {base v:Nat} (f:Fr N F D G K H Y P) (h:IM O I J base v P R D) (l:OwnR i G N F w (H+1) E) (j:w.blk=K.blk∨w.blk=some D.heap.size):Fr N F i G w (H+1) E P:=by
 refine⟨l,fun k g o=>?_⟩;rcases j with A|A
 ·exact f.2 k (A.symm.trans g) o
 ·have M:D.heap.size=k:=Option.some.inj (A.symm.trans g);have:=(h.mem.own.has o).2;omega
theorem zpf {α:Type} (f:α->List Value) (m:Nat) (q: ∀x,(f x).length=m) (l:List α):(l.flatMap f).length=l.length*m:=by
 induction l with
 |nil=>simp
 |cons y l h=>rw[flatMap_cons,List.length_append,q,h,List.length_cons,succ_mul];omega
theorem zpg {α:Type} (f:α->List Value) (m:Nat) (q: ∀x,(f x).length=m): ∀(l:List α) (j i:Nat) (x:α),l[j]? =some x->i<m->(l.flatMap f)[j*m+i]? =(f x)[i]?:=by
 intro l
 induction l with
 |nil=>intro j i x h;simp at h
 |cons y l z=>
  intro j i x h w;rw[flatMap_cons]
  match j with
  |0=>
   simp only[List.getElem?_cons_zero,Option.some.injEq] at h;subst h;rw[Nat.zero_mul,Nat.zero_add,List.getElem?_append_left (by rw[q];exact w)]
  |j+1=>
   simp only[List.getElem?_cons_succ] at h;rw[List.getElem?_append_right (by rw[q,succ_mul];omega),q,<-z j i x h w];congr 1;rw[succ_mul];omega
theorem OwnR.elem {α:Type} {f:α->List Value} {m:Nat} (H: ∀x,(f x).length=m) {l:List α} (h:OwnR D F N m K l.length (l.flatMap f)) {j:Nat} {x:α} (o:l[j]? =some x): ∃g,K.a=some ⟨g,0,none⟩/\∀i,i<m->D.cell? ⟨g,j*m+i,none⟩=(f x)[i]?:=by
 have z:j<l.length:=(List.getElem?_eq_some_iff.1 o).1;rcases h.2 with ⟨_,L⟩|⟨g,I,E,q,_⟩
 ·omega
 ·simp only[Value.slice.injEq] at q;have A:=h;unfold OwnR at A;rw[q.1,q.2.2] at A;refine⟨g,q.1,fun i v=>?_⟩;have J:j*m+i<l.length*m:=by
   have:=Nat.mul_le_mul_right m z;rw[succ_mul] at this;omega
  rw[World.ownsRow.cellAt A _ J];exact zpg f m H l j i x o v
structure OwnMd (w:World) (base:Nat) (S:Sv) (m:Md):Prop where
 rq:OwnR w base 9 1 S.rq m.rq.length (m.rq.map .string)
 im:OwnR w base 95 3 S.im m.im.length (m.im.flatMap imL)
 ep:OwnR w base 97 4 S.ep m.ep.length (m.ep.flatMap epL)
 st:OwnR w base 102 3 S.st m.st.length (m.st.flatMap smL)
 ex:OwnR w base 100 6 S.ex m.ex.length (m.ex.flatMap exL)
theorem OwnMod.md (h:OwnMod D F P R):OwnMd D F P (zeN R):=⟨h.rq,h.im,h.ep,h.st,h.ex⟩
theorem OwnMd.later (h:OwnMd D F P e) (q:Bw D E):OwnMd E F P e:=
 ⟨h.rq.keep fun k g=>q.block k (h.rq.typed g).2.1,h.im.keep fun k g=>q.block k (h.im.typed g).2.1,h.ep.keep fun k g=>q.block k (h.ep.typed g).2.1,h.st.keep fun k g=>q.block k (h.st.typed g).2.1,h.ex.keep fun k g=>q.block k (h.ex.typed g).2.1⟩
theorem OwnMd.alloc {base:Nat} (h:OwnMd D base P e) (o:Obj):OwnMd (D.alloc o) base P e:=h.later (bA0)
def zl (S:Sv) (m:Md):Value:=.agg #[.slice S.rq.a m.rq.length S.rq.cap,.slice S.im.a m.im.length S.im.cap,.slice S.ep.a m.ep.length S.ep.cap,.slice S.st.a m.st.length S.st.cap,.slice S.ex.a m.ex.length S.ex.cap]
theorem OwnMd.expr (h:OwnMd D F P e) {i:Nat} (A:i<e.ex.length): ∃g,P.ex.a=some ⟨g,0,none⟩/\g<D.heap.size/\D.cell? ⟨g,i*6,none⟩=some (.int .i64 (e.ex.getD i zh).kind)/\D.cell? ⟨g,i*6+1,none⟩=some (.int .i64 (e.ex.getD i zh).num)/\D.cell? ⟨g,i*6+2,none⟩=some (.string (e.ex.getD i zh).name)/\D.cell? ⟨g,i*6+3,none⟩=some (.string (e.ex.getD i zh).field)/\D.cell? ⟨g,i*6+4,none⟩=some (.int .i64 (e.ex.getD i zh).l)/\D.cell? ⟨g,i*6+5,none⟩=some (.int .i64 (e.ex.getD i zh).r):=by
 obtain⟨g,z,q⟩:=OwnR.elem (f:=exL) (m:=6) (fun _=>rfl) h.ex (List.getElem?_eq_getElem A);rw[zen A];exact⟨g,z,(h.ex.typed (by rw[Rw.blk,z];rfl)).2.1,q 0 (by omega),q 1 (by omega),q 2 (by omega),q 3 (by omega),q 4 (by omega),q 5 (by omega)⟩
def SameOut (P:Prop) (e:Ending):Prop:=∃b,e= .returned (.bool b)/\(b=true↔P)
theorem zbw {α:Type} {l:List α} (h:F<l.length): ∃x,l[F]? =some x:=⟨_,List.getElem?_eq_getElem h⟩
theorem zds {α:Type} {l1 q:List α} {x:α} (h:l1.take F=q.take F) (w:l1[F]? =some x) (z:q[F]? =some x):l1.take (F+1)=q.take (F+1):=by
 obtain⟨a,rfl⟩:=List.getElem?_eq_some_iff.1 w;obtain⟨b,A⟩:=List.getElem?_eq_some_iff.1 z;rw[List.take_succ_eq_append_getElem a,List.take_succ_eq_append_getElem b,h,A]
theorem zdt {α:Type} {l1 q:List α} (w:l1.length=q.length) (h:l1.take l1.length=q.take l1.length):l1=q:=by
 rw[List.take_length,w,List.take_length] at h;exact h
theorem zfG {b:BA} (h:(M.toList==b.toList)=true):M=b:=(zei M b).1 h
def zhP (x y:BA):Bool:=x.toList==y.toList
theorem zg4 {y:BA}:zhP M y=true↔M=y:=⟨fun h=>zfG h,fun h=>by rw[h];exact beq_self_eq_true _⟩
theorem zph (f:World) (h:(g:Int)≠(b:Int)):Calls prog 173 #[.slice w g c,.slice W b d] f fun e D=>e= .returned (.bool false)/\Bw f D:=by
 go_enter func173,ntmps173;go_wp2;go_ret;exact⟨rfl,Below.refl _ _⟩
theorem zpi (f:World):Calls prog 173 #[.slice w 0 g,.slice W 0 b] f fun e q=>e= .returned (.bool true)/\Bw f q:=by
 go_enter func173,ntmps173;go_wp2;go_loopg [13] 1 (fun k i wr=>k=1/\i= .int .i64 0/\wr=f)
 case atStart=>exact⟨rfl,rfl,rfl⟩
 case round=>
  obtain⟨rfl,rfl,rfl⟩:=hrel;go_wp2;go_ret;exact⟨rfl,Below.refl _ _⟩
theorem zpj (r:List BA) (w:World) (I:OwnR w g 9 1 z k.length (k.flatMap (fun x=>[Value.string x]))) (D:OwnR w b 9 1 n r.length (r.flatMap (fun x=>[Value.string x]))) (e1:z.a=some ⟨c,0,none⟩) (e2:n.a=some ⟨d,0,none⟩) (hl:k.length=r.length) (U:k.length<=4294967296):
  Calls prog 173 #[.slice (some ⟨c,0,none⟩) k.length z.cap,.slice (some ⟨d,0,none⟩) k.length n.cap] w fun e w'=>SameOut (k=r) e/\Bw w w':=by
 have H1:=zc I;have H2:=zc D;have E1:=zc e1;have E2:=zc e2;have HL:=zc hl;clear I D e1 e2 hl;go_enter func173,ntmps173;go_wp2;go_loopg [13] k.length (fun v i wr=>∃j:Nat,i= .int .i64 j/\j+v=k.length/\k.take j=r.take j/\Bw w wr)
 case atStart=>exact⟨0,rfl,by omega,rfl,Below.refl _ _⟩
 case round=>
  obtain⟨j,rfl,hj,ht,U⟩:=hrel;have H:=zc U;have HT:=zc ht;clear U ht;by_cases A:j<k.length
  ·have K:(j:Int)<(k.length:Int):=by omega
   obtain⟨x,hx⟩:=zbw A;obtain⟨y,Z⟩:=zbw (show j<r.length by rw[<-HL.o];exact A);obtain⟨X,ga,I⟩:=OwnR.elem (f:=(fun x=>[Value.string x])) (m:=1) (fun _=>rfl) (H1.o.keep fun v l=>H.o.block v (H1.o.typed l).2.1) hx;obtain rfl:X=c:=by have:=ga.symm.trans E1.o;simpa using this
   obtain⟨X,gb,D⟩:=OwnR.elem (f:=(fun x=>[Value.string x])) (m:=1) (fun _=>rfl) (H2.o.keep fun v l=>H.o.block v (H2.o.typed l).2.1) Z;obtain rfl:X=d:=by have:=gb.symm.trans E2.o;simpa using this
   have C0:=zc (I 0 (by omega));have D0:=zc (D 0 (by omega));have HX:=zc hx;have HY:=zc Z;clear I D ga gb hx Z;obtain⟨L,E⟩: ∃L,L=j+1:=⟨_,rfl⟩;have ej:(j:Int)+1=(L:Int):=by omega
   have HJ:=zc E;clear E;obtain⟨o,h⟩: ∃o,zhP x y=o:=⟨_,rfl⟩;have aa:(x.toList==y.toList)=o:=h;go_wp2;have k0:=cell_regrown C0.o;have m0:=cell_regrown D0.o;simp only[add_zero,Nat.mul_one] at k0 m0;refine wp_region_quiet_below (by kernel_rfl) (by kernel_rfl) ?_
   repeat (go_big_quiet_step (fail))
   refine wpQuiet_nil ?_;intro w2 M;obtain⟨⟨dq,O⟩,q⟩:=M;have J:Hid (Bw w w2):=by show Below _ _ _;rw[q];exact H.o.trans ((below_regrown wr dq O).mono H.o.size)
   clear q k0 m0 C0 D0;cases o with
   |true=>
    go_wp2;go_roundg (gk-1)
    case rel=>exact⟨L,rfl,by have:=HJ.o;omega,by rw[HJ.o];have e:=zg4.1 h;exact zds HT.o HX.o (by rw[e];exact HY.o),J.o⟩
    case measure=>omega
   |false=>
    go_wp2;go_ret;exact⟨⟨false,rfl,⟨fun v=>(by cases v),fun v=>(by have e:=HX.o;rw[v,HY.o] at e;cases e;rw[zg4.2 rfl] at h;cases h)⟩⟩,J.o⟩
  ·have K: ¬(j:Int)<(k.length:Int):=by omega
   obtain rfl:j=k.length:=by omega
   go_wp2;go_ret;exact⟨⟨true,rfl,⟨fun _=>zdt HL.o HT.o,fun _=>rfl⟩⟩,H.o⟩
theorem zpk (L:OwnR V g 9 1 z k.length (k.flatMap (fun x=>[Value.string x]))) (K:OwnR V b 9 1 n m.length (m.flatMap (fun x=>[Value.string x]))) (U:k.length<=4294967296):
  Calls prog 173 #[.slice z.a k.length z.cap,.slice n.a m.length n.cap] V fun e H=>SameOut (k=m) e/\Bw V H:=by
 by_cases q:k.length=m.length
 ·rw[<-q];by_cases f:k.length=0
  ·rw[f];refine (zpi _ _ _ _ V).mono ?_;rintro e H ⟨rfl,E⟩;exact⟨⟨true,rfl,⟨fun _=>(by rw[eq_nil_of_length_eq_zero f,eq_nil_of_length_eq_zero (q.symm.trans f)]),fun _=>rfl⟩⟩,E⟩
  ·rcases L.nil_or with ⟨_,_,e⟩|⟨O,J⟩
   ·exact absurd e f
   ·rcases K.nil_or with ⟨_,_,e⟩|⟨N,M⟩
    ·exact absurd (q.trans e) f
    ·rw[J,M];exact zpj g b O N z n k m V L K J M q U
 ·refine (zph _ _ _ _ _ _ V (by omega)).mono ?_;rintro e H ⟨rfl,E⟩;exact⟨⟨false,rfl,⟨fun i=>(by cases i),fun i=>absurd (by rw[i]) q⟩⟩,E⟩
def zdu (x y:Im):Bool:=x.spec.toList==y.spec.toList&&x.first.toList==y.first.toList&&x.loc.toList==y.loc.toList
theorem zg5 {x y:Im}:zdu x y=true↔x=y:=by
 constructor
 ·intro h;unfold zdu at h;simp only[Bool.and_eq_true] at h;obtain⟨⟨z,q⟩,w⟩:=h;cases x;cases y;simp only at z q w;congr 1<;>first|(apply zfG;assumption)|(apply eq_of_beq;assumption)
 ·intro h;rw[h];simp[zdu]
theorem zpl (f:World) (h:(g:Int)≠(b:Int)):Calls prog 174 #[.slice w g c,.slice W b d] f fun e D=>e= .returned (.bool false)/\Bw f D:=by
 go_enter func174,ntmps174;go_wp2;go_ret;exact⟨rfl,Below.refl _ _⟩
theorem zpm (f:World):Calls prog 174 #[.slice w 0 g,.slice W 0 b] f fun e q=>e= .returned (.bool true)/\Bw f q:=by
 go_enter func174,ntmps174;go_wp2;go_loopg [13] 1 (fun k i wr=>k=1/\i= .int .i64 0/\wr=f)
 case atStart=>exact⟨rfl,rfl,rfl⟩
 case round=>
  obtain⟨rfl,rfl,rfl⟩:=hrel;go_wp2;go_ret;exact⟨rfl,Below.refl _ _⟩
theorem zpn (U: ∀(x y:Im) (W:World),Sem.run prog (binOp .neq 95 (.agg #[.string x.spec,.string x.first,.string x.loc]) (.agg #[.string y.spec,.string y.first,.string y.loc])) W= .ok (.bool (!zdu x y)) W) (N: ∀(K:BinOp) (a b:Operand) (x y:Im) (W:World),Sem.run prog (eqGuard K 95 a b (.agg #[.string x.spec,.string x.first,.string x.loc]) (.agg #[.string y.spec,.string y.first,.string y.loc])) W= .ok () W) (b1 b2 g1 Z:Nat) (V r2:Rw) (l1 D:List Im) (w:World) (A:OwnR w b1 95 3 V l1.length (l1.flatMap imL)) (z:OwnR w b2 95 3 r2 D.length (D.flatMap imL)) (e1:V.a=some ⟨g1,0,none⟩) (e2:r2.a=some ⟨Z,0,none⟩) (hl:l1.length=D.length) (Y:l1.length<=4294967296):
  Calls prog 174 #[.slice (some ⟨g1,0,none⟩) l1.length V.cap,.slice (some ⟨Z,0,none⟩) l1.length r2.cap] w fun e w'=>SameOut (l1=D) e/\Bw w w':=by
 have H1:=zc A;have H2:=zc z;have E1:=zc e1;have E2:=zc e2;have HL:=zc hl;clear A z e1 e2 hl;go_enter func174,ntmps174;go_wp2;go_loopg [13] l1.length (fun k i wr=>∃j:Nat,i= .int .i64 j/\j+k=l1.length/\l1.take j=D.take j/\Bw w wr)
 case atStart=>exact⟨0,rfl,by omega,rfl,Below.refl _ _⟩
 case round=>
  obtain⟨j,rfl,hj,ht,Y⟩:=hrel;have I:=zc Y;have HT:=zc ht;clear Y ht;by_cases E:j<l1.length
  ·have L:(j:Int)<(l1.length:Int):=by omega
   obtain⟨x,hx⟩:=zbw E;obtain⟨y,hy⟩:=zbw (show j<D.length by rw[<-HL.o];exact E);obtain⟨g',ga,A⟩:=OwnR.elem (f:=imL) (m:=3) (fun _=>rfl) (H1.o.keep fun k g=>I.o.block k (H1.o.typed g).2.1) hx;obtain rfl:g'=g1:=by have:=ga.symm.trans E1.o;simpa using this
   obtain⟨g',gb,z⟩:=OwnR.elem (f:=imL) (m:=3) (fun _=>rfl) (H2.o.keep fun k g=>I.o.block k (H2.o.typed g).2.1) hy;obtain rfl:g'=Z:=by have:=gb.symm.trans E2.o;simpa using this
   have C0:=zc (A 0 (by omega));have D0:=zc (z 0 (by omega));have C1:=zc (A 1 (by omega));have D1:=zc (z 1 (by omega));have C2:=zc (A 2 (by omega));have D2:=zc (z 2 (by omega));have HX:=zc hx;have HY:=zc hy;clear A z ga gb hx hy;obtain⟨M,H⟩: ∃M,M=j+1:=⟨_,rfl⟩;have ej:(j:Int)+1=(M:Int):=by omega
   have HJ:=zc H;clear H;obtain⟨b,h⟩: ∃b,zdu x y=b:=⟨_,rfl⟩;have aa: ∀W:World,Sem.run prog (binOp .neq 95 (.agg #[.string x.spec,.string x.first,.string x.loc]) (.agg #[.string y.spec,.string y.first,.string y.loc])) W= .ok (.bool !b) W:=fun W=>by rw[U,h]
   have ab: ∀(K:BinOp) (a b:Operand) (W:World),Sem.run prog (eqGuard K 95 a b (.agg #[.string x.spec,.string x.first,.string x.loc]) (.agg #[.string y.spec,.string y.first,.string y.loc])) W= .ok () W:=fun K a b W=>N K a b x y W;go_wp2;have k0:=cell_regrown C0.o;have m0:=cell_regrown D0.o;have k1:=cell_regrown C1.o;have m1:=cell_regrown D1.o;have k2:=cell_regrown C2.o;have m2:=cell_regrown D2.o;simp only[add_zero] at k0 m0;refine wp_region_quiet_below (by kernel_rfl) (by kernel_rfl) ?_
   repeat (go_big_quiet_step (fail))
   refine wpQuiet_nil ?_;intro w2 O;obtain⟨⟨dq,X⟩,q⟩:=O;have J:Hid (Bw w w2):=by show Below _ _ _;rw[q];exact I.o.trans ((below_regrown wr dq X).mono I.o.size)
   clear q k0 m0 C0 D0 k1 m1 C1 D1 k2 m2 C2 D2;cases b with
   |true=>
    go_wp2;go_roundg (gk-1)
    case rel=>exact⟨M,rfl,by have:=HJ.o;omega,by rw[HJ.o];have e:=zg5.1 h;exact zds HT.o HX.o (by rw[e];exact HY.o),J.o⟩
    case measure=>omega
   |false=>
    go_wp2;go_ret;exact⟨⟨false,rfl,⟨fun k=>(by cases k),fun k=>(by have e:=HX.o;rw[k,HY.o] at e;cases e;rw[zg5.2 rfl] at h;cases h)⟩⟩,J.o⟩
  ·have L: ¬(j:Int)<(l1.length:Int):=by omega
   obtain rfl:j=l1.length:=by omega
   go_wp2;go_ret;exact⟨⟨true,rfl,⟨fun _=>zdt HL.o HT.o,fun _=>rfl⟩⟩,I.o⟩
theorem zpo (I: ∀(x y:Im) (W:World),Sem.run prog (binOp .neq 95 (.agg #[.string x.spec,.string x.first,.string x.loc]) (.agg #[.string y.spec,.string y.first,.string y.loc])) W= .ok (.bool (!zdu x y)) W) (H: ∀(V:BinOp) (a b:Operand) (x y:Im) (W:World),Sem.run prog (eqGuard V 95 a b (.agg #[.string x.spec,.string x.first,.string x.loc]) (.agg #[.string y.spec,.string y.first,.string y.loc])) W= .ok () W) (K b2:Nat) (D A:Rw) (l1 h:List Im) (w:World) (N:OwnR w K 95 3 D l1.length (l1.flatMap imL)) (M:OwnR w b2 95 3 A h.length (h.flatMap imL)) (Y:l1.length<=4294967296):
  Calls prog 174 #[.slice D.a l1.length D.cap,.slice A.a h.length A.cap] w fun e J=>SameOut (l1=h) e/\Bw w J:=by
 by_cases q:l1.length=h.length
 ·rw[<-q];by_cases z:l1.length=0
  ·rw[z];refine (zpm _ _ _ _ w).mono ?_;rintro e J ⟨rfl,E⟩;exact⟨⟨true,rfl,⟨fun _=>(by rw[eq_nil_of_length_eq_zero z,eq_nil_of_length_eq_zero (q.symm.trans z)]),fun _=>rfl⟩⟩,E⟩
  ·rcases N.nil_or with ⟨_,_,e⟩|⟨X,L⟩
   ·exact absurd e z
   ·rcases M.nil_or with ⟨_,_,e⟩|⟨U,O⟩
    ·exact absurd (q.trans e) z
    ·rw[L,O];exact zpn I H K b2 X U D A l1 h w N M L O q Y
 ·refine (zpl _ _ _ _ _ _ w (by omega)).mono ?_;rintro e J ⟨rfl,E⟩;exact⟨⟨false,rfl,⟨fun k=>(by cases k),fun k=>absurd (by rw[k]) q⟩⟩,E⟩
def zdv (x y:Ep):Bool:=x.kind==y.kind&&x.name.toList==y.name.toList&&x.loc.toList==y.loc.toList&&x.spec.toList==y.spec.toList
theorem zg6 {x y:Ep}:zdv x y=true↔x=y:=by
 constructor
 ·intro h;unfold zdv at h;simp only[Bool.and_eq_true] at h;obtain⟨⟨⟨z,q⟩,w⟩,A⟩:=h;cases x;cases y;simp only at z q w A;congr 1<;>first|(apply zfG;assumption)|(apply eq_of_beq;assumption)
 ·intro h;rw[h];simp[zdv]
theorem zpp (f:World) (h:(g:Int)≠(b:Int)):Calls prog 175 #[.slice w g c,.slice W b d] f fun e D=>e= .returned (.bool false)/\Bw f D:=by
 go_enter func175,ntmps175;go_wp2;go_ret;exact⟨rfl,Below.refl _ _⟩
theorem zpq (f:World):Calls prog 175 #[.slice w 0 g,.slice W 0 b] f fun e q=>e= .returned (.bool true)/\Bw f q:=by
 go_enter func175,ntmps175;go_wp2;go_loopg [13] 1 (fun k i wr=>k=1/\i= .int .i64 0/\wr=f)
 case atStart=>exact⟨rfl,rfl,rfl⟩
 case round=>
  obtain⟨rfl,rfl,rfl⟩:=hrel;go_wp2;go_ret;exact⟨rfl,Below.refl _ _⟩
theorem zpr (U: ∀(x y:Ep) (W:World),Sem.run prog (binOp .neq 97 (.agg #[.int .i64 x.kind,.string x.name,.string x.loc,.string x.spec]) (.agg #[.int .i64 y.kind,.string y.name,.string y.loc,.string y.spec])) W= .ok (.bool (!zdv x y)) W) (N: ∀(K:BinOp) (a b:Operand) (x y:Ep) (W:World),Sem.run prog (eqGuard K 97 a b (.agg #[.int .i64 x.kind,.string x.name,.string x.loc,.string x.spec]) (.agg #[.int .i64 y.kind,.string y.name,.string y.loc,.string y.spec])) W= .ok () W) (b1 b2 g1 Z:Nat) (V r2:Rw) (l1 D:List Ep) (w:World) (z:OwnR w b1 97 4 V l1.length (l1.flatMap epL)) (q:OwnR w b2 97 4 r2 D.length (D.flatMap epL)) (e1:V.a=some ⟨g1,0,none⟩) (e2:r2.a=some ⟨Z,0,none⟩) (hl:l1.length=D.length) (Y:l1.length<=4294967296):
  Calls prog 175 #[.slice (some ⟨g1,0,none⟩) l1.length V.cap,.slice (some ⟨Z,0,none⟩) l1.length r2.cap] w fun e w'=>SameOut (l1=D) e/\Bw w w':=by
 have H1:=zc z;have H2:=zc q;have E1:=zc e1;have E2:=zc e2;have HL:=zc hl;clear z q e1 e2 hl;go_enter func175,ntmps175;go_wp2;go_loopg [13] l1.length (fun k i wr=>∃j:Nat,i= .int .i64 j/\j+k=l1.length/\l1.take j=D.take j/\Bw w wr)
 case atStart=>exact⟨0,rfl,by omega,rfl,Below.refl _ _⟩
 case round=>
  obtain⟨j,rfl,hj,ht,Y⟩:=hrel;have I:=zc Y;have HT:=zc ht;clear Y ht;by_cases E:j<l1.length
  ·have L:(j:Int)<(l1.length:Int):=by omega
   obtain⟨x,hx⟩:=zbw E;obtain⟨y,hy⟩:=zbw (show j<D.length by rw[<-HL.o];exact E);obtain⟨g',ga,z⟩:=OwnR.elem (f:=epL) (m:=4) (fun _=>rfl) (H1.o.keep fun k g=>I.o.block k (H1.o.typed g).2.1) hx;obtain rfl:g'=g1:=by have:=ga.symm.trans E1.o;simpa using this
   obtain⟨g',gb,q⟩:=OwnR.elem (f:=epL) (m:=4) (fun _=>rfl) (H2.o.keep fun k g=>I.o.block k (H2.o.typed g).2.1) hy;obtain rfl:g'=Z:=by have:=gb.symm.trans E2.o;simpa using this
   have C0:=zc (z 0 (by omega));have D0:=zc (q 0 (by omega));have C1:=zc (z 1 (by omega));have D1:=zc (q 1 (by omega));have C2:=zc (z 2 (by omega));have D2:=zc (q 2 (by omega));have C3:=zc (z 3 (by omega));have D3:=zc (q 3 (by omega));have HX:=zc hx;have HY:=zc hy;clear z q ga gb hx hy;obtain⟨M,H⟩: ∃M,M=j+1:=⟨_,rfl⟩;have ej:(j:Int)+1=(M:Int):=by omega
   have HJ:=zc H;clear H;obtain⟨b,h⟩: ∃b,zdv x y=b:=⟨_,rfl⟩;have aa: ∀W:World,Sem.run prog (binOp .neq 97 (.agg #[.int .i64 x.kind,.string x.name,.string x.loc,.string x.spec]) (.agg #[.int .i64 y.kind,.string y.name,.string y.loc,.string y.spec])) W= .ok (.bool !b) W:=fun W=>by rw[U,h]
   have ab: ∀(K:BinOp) (a b:Operand) (W:World),Sem.run prog (eqGuard K 97 a b (.agg #[.int .i64 x.kind,.string x.name,.string x.loc,.string x.spec]) (.agg #[.int .i64 y.kind,.string y.name,.string y.loc,.string y.spec])) W= .ok () W:=fun K a b W=>N K a b x y W;go_wp2;have k0:=cell_regrown C0.o;have m0:=cell_regrown D0.o;have k1:=cell_regrown C1.o;have m1:=cell_regrown D1.o;have k2:=cell_regrown C2.o;have m2:=cell_regrown D2.o;have k3:=cell_regrown C3.o;have m3:=cell_regrown D3.o;simp only[add_zero] at k0 m0;refine wp_region_quiet_below (by kernel_rfl) (by kernel_rfl) ?_
   repeat (go_big_quiet_step (fail))
   refine wpQuiet_nil ?_;intro w2 O;obtain⟨⟨dq,X⟩,A⟩:=O;have J:Hid (Bw w w2):=by show Below _ _ _;rw[A];exact I.o.trans ((below_regrown wr dq X).mono I.o.size)
   clear A k0 m0 C0 D0 k1 m1 C1 D1 k2 m2 C2 D2 k3 m3 C3 D3;cases b with
   |true=>
    go_wp2;go_roundg (gk-1)
    case rel=>exact⟨M,rfl,by have:=HJ.o;omega,by rw[HJ.o];have e:=zg6.1 h;exact zds HT.o HX.o (by rw[e];exact HY.o),J.o⟩
    case measure=>omega
   |false=>
    go_wp2;go_ret;exact⟨⟨false,rfl,⟨fun k=>(by cases k),fun k=>(by have e:=HX.o;rw[k,HY.o] at e;cases e;rw[zg6.2 rfl] at h;cases h)⟩⟩,J.o⟩
  ·have L: ¬(j:Int)<(l1.length:Int):=by omega
   obtain rfl:j=l1.length:=by omega
   go_wp2;go_ret;exact⟨⟨true,rfl,⟨fun _=>zdt HL.o HT.o,fun _=>rfl⟩⟩,I.o⟩
theorem zps (I: ∀(x y:Ep) (W:World),Sem.run prog (binOp .neq 97 (.agg #[.int .i64 x.kind,.string x.name,.string x.loc,.string x.spec]) (.agg #[.int .i64 y.kind,.string y.name,.string y.loc,.string y.spec])) W= .ok (.bool (!zdv x y)) W) (H: ∀(V:BinOp) (a b:Operand) (x y:Ep) (W:World),Sem.run prog (eqGuard V 97 a b (.agg #[.int .i64 x.kind,.string x.name,.string x.loc,.string x.spec]) (.agg #[.int .i64 y.kind,.string y.name,.string y.loc,.string y.spec])) W= .ok () W) (K b2:Nat) (D A:Rw) (l1 h:List Ep) (w:World) (N:OwnR w K 97 4 D l1.length (l1.flatMap epL)) (M:OwnR w b2 97 4 A h.length (h.flatMap epL)) (Y:l1.length<=4294967296):
  Calls prog 175 #[.slice D.a l1.length D.cap,.slice A.a h.length A.cap] w fun e J=>SameOut (l1=h) e/\Bw w J:=by
 by_cases q:l1.length=h.length
 ·rw[<-q];by_cases z:l1.length=0
  ·rw[z];refine (zpq _ _ _ _ w).mono ?_;rintro e J ⟨rfl,E⟩;exact⟨⟨true,rfl,⟨fun _=>(by rw[eq_nil_of_length_eq_zero z,eq_nil_of_length_eq_zero (q.symm.trans z)]),fun _=>rfl⟩⟩,E⟩
  ·rcases N.nil_or with ⟨_,_,e⟩|⟨X,L⟩
   ·exact absurd e z
   ·rcases M.nil_or with ⟨_,_,e⟩|⟨U,O⟩
    ·exact absurd (q.trans e) z
    ·rw[L,O];exact zpr I H K b2 X U D A l1 h w N M L O q Y
 ·refine (zpp _ _ _ _ _ _ w (by omega)).mono ?_;rintro e J ⟨rfl,E⟩;exact⟨⟨false,rfl,⟨fun k=>(by cases k),fun k=>absurd (by rw[k]) q⟩⟩,E⟩
def zdw (x y:Sm):Bool:=x.kind==y.kind&&x.name.toList==y.name.toList&&x.expr==y.expr
theorem zg7 {y:Sm}:zdw X y=true↔X=y:=by
 constructor
 ·intro h;unfold zdw at h;simp only[Bool.and_eq_true] at h;obtain⟨⟨z,q⟩,w⟩:=h;cases X;cases y;simp only at z q w;congr 1<;>first|(apply zfG;assumption)|(apply eq_of_beq;assumption)
 ·intro h;rw[h];simp[zdw]
theorem zpt (f:World) (h:(g:Int)≠(b:Int)):Calls prog 176 #[.slice w g c,.slice W b d] f fun e D=>e= .returned (.bool false)/\Bw f D:=by
 go_enter func176,ntmps176;go_wp2;go_ret;exact⟨rfl,Below.refl _ _⟩
theorem zpu (f:World):Calls prog 176 #[.slice w 0 g,.slice W 0 b] f fun e q=>e= .returned (.bool true)/\Bw f q:=by
 go_enter func176,ntmps176;go_wp2;go_loopg [13] 1 (fun k i wr=>k=1/\i= .int .i64 0/\wr=f)
 case atStart=>exact⟨rfl,rfl,rfl⟩
 case round=>
  obtain⟨rfl,rfl,rfl⟩:=hrel;go_wp2;go_ret;exact⟨rfl,Below.refl _ _⟩
theorem zpv (U: ∀(x y:Sm) (W:World),Sem.run prog (binOp .neq 102 (.agg #[.int .i64 x.kind,.string x.name,.int .i64 x.expr]) (.agg #[.int .i64 y.kind,.string y.name,.int .i64 y.expr])) W= .ok (.bool (!zdw x y)) W) (N: ∀(K:BinOp) (a b:Operand) (x y:Sm) (W:World),Sem.run prog (eqGuard K 102 a b (.agg #[.int .i64 x.kind,.string x.name,.int .i64 x.expr]) (.agg #[.int .i64 y.kind,.string y.name,.int .i64 y.expr])) W= .ok () W) (b1 b2 g1 Z:Nat) (V r2:Rw) (l1 D:List Sm) (w:World) (A:OwnR w b1 102 3 V l1.length (l1.flatMap smL)) (z:OwnR w b2 102 3 r2 D.length (D.flatMap smL)) (e1:V.a=some ⟨g1,0,none⟩) (e2:r2.a=some ⟨Z,0,none⟩) (hl:l1.length=D.length) (Y:l1.length<=4294967296):
  Calls prog 176 #[.slice (some ⟨g1,0,none⟩) l1.length V.cap,.slice (some ⟨Z,0,none⟩) l1.length r2.cap] w fun e w'=>SameOut (l1=D) e/\Bw w w':=by
 have H1:=zc A;have H2:=zc z;have E1:=zc e1;have E2:=zc e2;have HL:=zc hl;clear A z e1 e2 hl;go_enter func176,ntmps176;go_wp2;go_loopg [13] l1.length (fun k i wr=>∃j:Nat,i= .int .i64 j/\j+k=l1.length/\l1.take j=D.take j/\Bw w wr)
 case atStart=>exact⟨0,rfl,by omega,rfl,Below.refl _ _⟩
 case round=>
  obtain⟨j,rfl,hj,ht,Y⟩:=hrel;have I:=zc Y;have HT:=zc ht;clear Y ht;by_cases E:j<l1.length
  ·have L:(j:Int)<(l1.length:Int):=by omega
   obtain⟨x,hx⟩:=zbw E;obtain⟨y,hy⟩:=zbw (show j<D.length by rw[<-HL.o];exact E);obtain⟨g',ga,A⟩:=OwnR.elem (f:=smL) (m:=3) (fun _=>rfl) (H1.o.keep fun k g=>I.o.block k (H1.o.typed g).2.1) hx;obtain rfl:g'=g1:=by have:=ga.symm.trans E1.o;simpa using this
   obtain⟨g',gb,z⟩:=OwnR.elem (f:=smL) (m:=3) (fun _=>rfl) (H2.o.keep fun k g=>I.o.block k (H2.o.typed g).2.1) hy;obtain rfl:g'=Z:=by have:=gb.symm.trans E2.o;simpa using this
   have C0:=zc (A 0 (by omega));have D0:=zc (z 0 (by omega));have C1:=zc (A 1 (by omega));have D1:=zc (z 1 (by omega));have C2:=zc (A 2 (by omega));have D2:=zc (z 2 (by omega));have HX:=zc hx;have HY:=zc hy;clear A z ga gb hx hy;obtain⟨M,H⟩: ∃M,M=j+1:=⟨_,rfl⟩;have ej:(j:Int)+1=(M:Int):=by omega
   have HJ:=zc H;clear H;obtain⟨b,h⟩: ∃b,zdw x y=b:=⟨_,rfl⟩;have aa: ∀W:World,Sem.run prog (binOp .neq 102 (.agg #[.int .i64 x.kind,.string x.name,.int .i64 x.expr]) (.agg #[.int .i64 y.kind,.string y.name,.int .i64 y.expr])) W= .ok (.bool !b) W:=fun W=>by rw[U,h]
   have ab: ∀(K:BinOp) (a b:Operand) (W:World),Sem.run prog (eqGuard K 102 a b (.agg #[.int .i64 x.kind,.string x.name,.int .i64 x.expr]) (.agg #[.int .i64 y.kind,.string y.name,.int .i64 y.expr])) W= .ok () W:=fun K a b W=>N K a b x y W;go_wp2;have k0:=cell_regrown C0.o;have m0:=cell_regrown D0.o;have k1:=cell_regrown C1.o;have m1:=cell_regrown D1.o;have k2:=cell_regrown C2.o;have m2:=cell_regrown D2.o;simp only[add_zero] at k0 m0;refine wp_region_quiet_below (by kernel_rfl) (by kernel_rfl) ?_
   repeat (go_big_quiet_step (fail))
   refine wpQuiet_nil ?_;intro w2 O;obtain⟨⟨dq,X⟩,q⟩:=O;have J:Hid (Bw w w2):=by show Below _ _ _;rw[q];exact I.o.trans ((below_regrown wr dq X).mono I.o.size)
   clear q k0 m0 C0 D0 k1 m1 C1 D1 k2 m2 C2 D2;cases b with
   |true=>
    go_wp2;go_roundg (gk-1)
    case rel=>exact⟨M,rfl,by have:=HJ.o;omega,by rw[HJ.o];have e:=zg7.1 h;exact zds HT.o HX.o (by rw[e];exact HY.o),J.o⟩
    case measure=>omega
   |false=>
    go_wp2;go_ret;exact⟨⟨false,rfl,⟨fun k=>(by cases k),fun k=>(by have e:=HX.o;rw[k,HY.o] at e;cases e;rw[zg7.2 rfl] at h;cases h)⟩⟩,J.o⟩
  ·have L: ¬(j:Int)<(l1.length:Int):=by omega
   obtain rfl:j=l1.length:=by omega
   go_wp2;go_ret;exact⟨⟨true,rfl,⟨fun _=>zdt HL.o HT.o,fun _=>rfl⟩⟩,I.o⟩
theorem zpw (I: ∀(x y:Sm) (W:World),Sem.run prog (binOp .neq 102 (.agg #[.int .i64 x.kind,.string x.name,.int .i64 x.expr]) (.agg #[.int .i64 y.kind,.string y.name,.int .i64 y.expr])) W= .ok (.bool (!zdw x y)) W) (H: ∀(V:BinOp) (a b:Operand) (x y:Sm) (W:World),Sem.run prog (eqGuard V 102 a b (.agg #[.int .i64 x.kind,.string x.name,.int .i64 x.expr]) (.agg #[.int .i64 y.kind,.string y.name,.int .i64 y.expr])) W= .ok () W) (K b2:Nat) (D A:Rw) (l1 h:List Sm) (w:World) (N:OwnR w K 102 3 D l1.length (l1.flatMap smL)) (M:OwnR w b2 102 3 A h.length (h.flatMap smL)) (Y:l1.length<=4294967296):
  Calls prog 176 #[.slice D.a l1.length D.cap,.slice A.a h.length A.cap] w fun e J=>SameOut (l1=h) e/\Bw w J:=by
 by_cases q:l1.length=h.length
 ·rw[<-q];by_cases z:l1.length=0
  ·rw[z];refine (zpu _ _ _ _ w).mono ?_;rintro e J ⟨rfl,E⟩;exact⟨⟨true,rfl,⟨fun _=>(by rw[eq_nil_of_length_eq_zero z,eq_nil_of_length_eq_zero (q.symm.trans z)]),fun _=>rfl⟩⟩,E⟩
  ·rcases N.nil_or with ⟨_,_,e⟩|⟨X,L⟩
   ·exact absurd e z
   ·rcases M.nil_or with ⟨_,_,e⟩|⟨U,O⟩
    ·exact absurd (q.trans e) z
    ·rw[L,O];exact zpv I H K b2 X U D A l1 h w N M L O q Y
 ·refine (zpt _ _ _ _ _ _ w (by omega)).mono ?_;rintro e J ⟨rfl,E⟩;exact⟨⟨false,rfl,⟨fun k=>(by cases k),fun k=>absurd (by rw[k]) q⟩⟩,E⟩
def zdx (x y:Ex):Bool:=x.kind==y.kind&&x.num==y.num&&x.name.toList==y.name.toList&&x.field.toList==y.field.toList&&x.l==y.l&&x.r==y.r
theorem zg8 {x y:Ex}:zdx x y=true↔x=y:=by
 constructor
 ·intro h;unfold zdx at h;simp only[Bool.and_eq_true] at h;obtain⟨⟨⟨⟨⟨D,z⟩,q⟩,E⟩,w⟩,A⟩:=h;cases x;cases y;simp only at D z q E w A;congr 1<;>first|(apply zfG;assumption)|(apply eq_of_beq;assumption)
 ·intro h;rw[h];simp[zdx]
theorem zpx (f:World) (h:(g:Int)≠(b:Int)):Calls prog 177 #[.slice w g c,.slice W b d] f fun e D=>e= .returned (.bool false)/\Bw f D:=by
 go_enter func177,ntmps177;go_wp2;go_ret;exact⟨rfl,Below.refl _ _⟩
theorem zpy (f:World):Calls prog 177 #[.slice w 0 g,.slice W 0 b] f fun e q=>e= .returned (.bool true)/\Bw f q:=by
 go_enter func177,ntmps177;go_wp2;go_loopg [13] 1 (fun k i wr=>k=1/\i= .int .i64 0/\wr=f)
 case atStart=>exact⟨rfl,rfl,rfl⟩
 case round=>
  obtain⟨rfl,rfl,rfl⟩:=hrel;go_wp2;go_ret;exact⟨rfl,Below.refl _ _⟩
theorem zpz (U: ∀(x y:Ex) (W:World),Sem.run prog (binOp .neq 100 (.agg #[.int .i64 x.kind,.int .i64 x.num,.string x.name,.string x.field,.int .i64 x.l,.int .i64 x.r]) (.agg #[.int .i64 y.kind,.int .i64 y.num,.string y.name,.string y.field,.int .i64 y.l,.int .i64 y.r])) W= .ok (.bool (!zdx x y)) W) (N: ∀(K:BinOp) (a b:Operand) (x y:Ex) (W:World),Sem.run prog (eqGuard K 100 a b (.agg #[.int .i64 x.kind,.int .i64 x.num,.string x.name,.string x.field,.int .i64 x.l,.int .i64 x.r]) (.agg #[.int .i64 y.kind,.int .i64 y.num,.string y.name,.string y.field,.int .i64 y.l,.int .i64 y.r])) W= .ok () W) (b1 b2 g1 Z:Nat) (V r2:Rw) (l1 D:List Ex) (w:World) (q:OwnR w b1 100 6 V l1.length (l1.flatMap exL)) (h:OwnR w b2 100 6 r2 D.length (D.flatMap exL)) (e1:V.a=some ⟨g1,0,none⟩) (e2:r2.a=some ⟨Z,0,none⟩) (hl:l1.length=D.length) (Y:l1.length<=4294967296):
  Calls prog 177 #[.slice (some ⟨g1,0,none⟩) l1.length V.cap,.slice (some ⟨Z,0,none⟩) l1.length r2.cap] w fun e w'=>SameOut (l1=D) e/\Bw w w':=by
 have H1:=zc q;have H2:=zc h;have E1:=zc e1;have E2:=zc e2;have HL:=zc hl;clear q h e1 e2 hl;go_enter func177,ntmps177;go_wp2;go_loopg [13] l1.length (fun k i wr=>∃j:Nat,i= .int .i64 j/\j+k=l1.length/\l1.take j=D.take j/\Bw w wr)
 case atStart=>exact⟨0,rfl,by omega,rfl,Below.refl _ _⟩
 case round=>
  obtain⟨j,rfl,hj,ht,Y⟩:=hrel;have I:=zc Y;have HT:=zc ht;clear Y ht;by_cases E:j<l1.length
  ·have L:(j:Int)<(l1.length:Int):=by omega
   obtain⟨x,hx⟩:=zbw E;obtain⟨y,hy⟩:=zbw (show j<D.length by rw[<-HL.o];exact E);obtain⟨g',ga,q⟩:=OwnR.elem (f:=exL) (m:=6) (fun _=>rfl) (H1.o.keep fun k g=>I.o.block k (H1.o.typed g).2.1) hx;obtain rfl:g'=g1:=by have:=ga.symm.trans E1.o;simpa using this
   obtain⟨g',gb,h⟩:=OwnR.elem (f:=exL) (m:=6) (fun _=>rfl) (H2.o.keep fun k g=>I.o.block k (H2.o.typed g).2.1) hy;obtain rfl:g'=Z:=by have:=gb.symm.trans E2.o;simpa using this
   have C0:=zc (q 0 (by omega));have D0:=zc (h 0 (by omega));have C1:=zc (q 1 (by omega));have D1:=zc (h 1 (by omega));have C2:=zc (q 2 (by omega));have D2:=zc (h 2 (by omega));have C3:=zc (q 3 (by omega));have D3:=zc (h 3 (by omega));have C4:=zc (q 4 (by omega));have D4:=zc (h 4 (by omega));have C5:=zc (q 5 (by omega));have D5:=zc (h 5 (by omega));have HX:=zc hx;have HY:=zc hy;clear q h ga gb hx hy;obtain⟨M,H⟩: ∃M,M=j+1:=⟨_,rfl⟩;have ej:(j:Int)+1=(M:Int):=by omega
   have HJ:=zc H;clear H;obtain⟨b,z⟩: ∃b,zdx x y=b:=⟨_,rfl⟩;have aa: ∀W:World,Sem.run prog (binOp .neq 100 (.agg #[.int .i64 x.kind,.int .i64 x.num,.string x.name,.string x.field,.int .i64 x.l,.int .i64 x.r]) (.agg #[.int .i64 y.kind,.int .i64 y.num,.string y.name,.string y.field,.int .i64 y.l,.int .i64 y.r])) W= .ok (.bool !b) W:=fun W=>by rw[U,z]
   have ab: ∀(K:BinOp) (a b:Operand) (W:World),Sem.run prog (eqGuard K 100 a b (.agg #[.int .i64 x.kind,.int .i64 x.num,.string x.name,.string x.field,.int .i64 x.l,.int .i64 x.r]) (.agg #[.int .i64 y.kind,.int .i64 y.num,.string y.name,.string y.field,.int .i64 y.l,.int .i64 y.r])) W= .ok () W:=fun K a b W=>N K a b x y W;go_wp2;have k0:=cell_regrown C0.o;have m0:=cell_regrown D0.o;have k1:=cell_regrown C1.o;have m1:=cell_regrown D1.o;have k2:=cell_regrown C2.o;have m2:=cell_regrown D2.o;have k3:=cell_regrown C3.o;have m3:=cell_regrown D3.o;have k4:=cell_regrown C4.o;have m4:=cell_regrown D4.o;have k5:=cell_regrown C5.o;have m5:=cell_regrown D5.o;simp only[add_zero] at k0 m0;refine wp_region_quiet_below (by kernel_rfl) (by kernel_rfl) ?_
   repeat (go_big_quiet_step (fail))
   refine wpQuiet_nil ?_;intro w2 O;obtain⟨⟨dq,X⟩,A⟩:=O;have J:Hid (Bw w w2):=by show Below _ _ _;rw[A];exact I.o.trans ((below_regrown wr dq X).mono I.o.size)
   clear A k0 m0 C0 D0 k1 m1 C1 D1 k2 m2 C2 D2 k3 m3 C3 D3 k4 m4 C4 D4 k5 m5 C5 D5;cases b with
   |true=>
    go_wp2;go_roundg (gk-1)
    case rel=>exact⟨M,rfl,by have:=HJ.o;omega,by rw[HJ.o];have e:=zg8.1 z;exact zds HT.o HX.o (by rw[e];exact HY.o),J.o⟩
    case measure=>omega
   |false=>
    go_wp2;go_ret;exact⟨⟨false,rfl,⟨fun k=>(by cases k),fun k=>(by have e:=HX.o;rw[k,HY.o] at e;cases e;rw[zg8.2 rfl] at z;cases z)⟩⟩,J.o⟩
  ·have L: ¬(j:Int)<(l1.length:Int):=by omega
   obtain rfl:j=l1.length:=by omega
   go_wp2;go_ret;exact⟨⟨true,rfl,⟨fun _=>zdt HL.o HT.o,fun _=>rfl⟩⟩,I.o⟩
theorem zp0 (I: ∀(x y:Ex) (W:World),Sem.run prog (binOp .neq 100 (.agg #[.int .i64 x.kind,.int .i64 x.num,.string x.name,.string x.field,.int .i64 x.l,.int .i64 x.r]) (.agg #[.int .i64 y.kind,.int .i64 y.num,.string y.name,.string y.field,.int .i64 y.l,.int .i64 y.r])) W= .ok (.bool (!zdx x y)) W) (H: ∀(V:BinOp) (a b:Operand) (x y:Ex) (W:World),Sem.run prog (eqGuard V 100 a b (.agg #[.int .i64 x.kind,.int .i64 x.num,.string x.name,.string x.field,.int .i64 x.l,.int .i64 x.r]) (.agg #[.int .i64 y.kind,.int .i64 y.num,.string y.name,.string y.field,.int .i64 y.l,.int .i64 y.r])) W= .ok () W) (K b2:Nat) (D A:Rw) (l1 h:List Ex) (w:World) (N:OwnR w K 100 6 D l1.length (l1.flatMap exL)) (M:OwnR w b2 100 6 A h.length (h.flatMap exL)) (Y:l1.length<=4294967296):
  Calls prog 177 #[.slice D.a l1.length D.cap,.slice A.a h.length A.cap] w fun e J=>SameOut (l1=h) e/\Bw w J:=by
 by_cases q:l1.length=h.length
 ·rw[<-q];by_cases z:l1.length=0
  ·rw[z];refine (zpy _ _ _ _ w).mono ?_;rintro e J ⟨rfl,E⟩;exact⟨⟨true,rfl,⟨fun _=>(by rw[eq_nil_of_length_eq_zero z,eq_nil_of_length_eq_zero (q.symm.trans z)]),fun _=>rfl⟩⟩,E⟩
  ·rcases N.nil_or with ⟨_,_,e⟩|⟨X,L⟩
   ·exact absurd e z
   ·rcases M.nil_or with ⟨_,_,e⟩|⟨U,O⟩
    ·exact absurd (q.trans e) z
    ·rw[L,O];exact zpz I H K b2 X U D A l1 h w N M L O q Y
 ·refine (zpx _ _ _ _ _ _ w (by omega)).mono ?_;rintro e J ⟨rfl,E⟩;exact⟨⟨false,rfl,⟨fun k=>(by cases k),fun k=>absurd (by rw[k]) q⟩⟩,E⟩
end Go.Proofs.YtgcbmogmniahjaaGreat
