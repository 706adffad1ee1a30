/- Facts. -/
import Derived.Test.YtegdaafmaookjaaGreatP16
import Derived.Test.YtegdaafmaookjaaGreatP17
namespace Go.Proofs.YtegdaafmaookjaaGreat
open Nat (succ_pos succ_mul add_zero)
open Go.Proofs.Tryz
abbrev bxA (S:Sv) (m:Md) : Array Value:=#[.slice S.rq.a m.rq.length S.rq.cap,.slice S.im.a m.im.length S.im.cap,.slice S.ep.a m.ep.length S.ep.cap,.slice S.st.a m.st.length S.st.cap,.slice S.ex.a m.ex.length S.ex.cap]
theorem tG {α:Type _} {i:Nat} {l:List α} (h:i < l.length):List.take (i + 1) l = List.take i l ++ [l[i]]:=List.take_succ_eq_append_getElem h
set_option maxRecDepth 100000
set_option maxHeartbeats 6400000
open Go.RowKit Go.PlainAid Go.Sort
variable (C:Cx) (w:UInt8) (s:BA0) (W:UInt8) (g b c d:Nat) (S q:Rw) (z n:List BA0) (k:Nat) (T:Sv) (p:PS) (x:UInt8) (t:BA0) (h:PS) (V:World) {A B:World} {D E F G H:Nat} {I:Rw} {J:List BA0} {K:BA0} {L:TypeId} {M:Cx} {N O:Sv} {P:PS} {Q:Obj} {u:Int} {R:Sm} {U:List Value} {X:Option Nat} {Y:Md}
theorem zkP (h:s.size<=281474976710656):
  Calls prog 209 #[.string s] V fun e w'=>e= .returned (.string s)/\Bw V w':=by
 go_enter func209,ntmps209;go_wp2_with fail;refine (Tryz.stringslite_Clone _ _ h).mono ?_;rintro e A ⟨rfl,q⟩;go_wp2;go_ret;exact⟨rfl,q⟩
theorem OwnR.text (h:OwnR A D 9 1 I E (J.map .string)) (f:F<E): ∃g,I.a=some ⟨g,0,none⟩/\A.cell? ⟨g,F,none⟩=some (.string (J.getD F sNone)):=by
 rcases h.2 with ⟨_,L⟩|⟨g,e,H,q,_⟩
 ·omega
 ·simp only[vI] at q;have Z:=h;unfold OwnR at Z;rw[q.1,q.2.2] at Z;have K:J.length=E:=by have:=h.1;simpa using this
  refine⟨g,q.1,?_⟩;rw[World.ownsRow.cellAt Z F (by omega)];simp only[List.getElem?_map,List.getD];rw[gE (by omega)];rfl
theorem zqx (h:D<J.length):zbb (J.drop D) K=((J.getD D sNone).toList==K.toList||zbb (J.drop (D+1)) K):=by
 rw[List.drop_eq_getElem_cons h];simp only[zbb,List.any_cons,List.getD,gE h,Option.getD_some]
theorem zqy (f:Nat) (r:Rw) (l:List BA0) (x:BA0) (w:World) (h:OwnR w g 9 1 r l.length (l.map .string)) (hl:l.length<=1000000) (V:r.a=some ⟨f,0,none⟩):
  Calls prog 110 #[.slice (some ⟨f,0,none⟩) l.length r.cap,.string x] w fun e w'=>(∃v:Int,e= .returned (.int .i64 v)/\decide (0<=v)=zbb l x)/\w'=w:=by
 have HO:=zc h;have M:=zc V;clear h V;go_enter func110,ntmps110;go_wp2;go_loopg [8] (l.length+1) (fun k i wr=>∃j:Nat,i= .int .i64 j/\j+k=l.length+1/\zbb (l.drop j) x=zbb l x/\wr=w)
 case atStart=>exact⟨0,rfl,by omega,by simp,rfl⟩
 case round=>
  obtain⟨j,rfl,hj,X,rfl⟩:=hrel;have O:=zc X;clear X;by_cases q:j<l.length
  ·have I:(j:Int)<(l.length:Int):=by omega
   obtain⟨Z,H,hc⟩:=HO.o.text q;have Y:Z=f:=by have:=H.symm.trans M.o;simpa using this
   subst Y;clear H;obtain⟨J,A⟩: ∃J,J=j+1:=⟨_,rfl⟩;have ej:(j:Int)+1=(J:Int):=by omega
   have U:=zc A;clear A;have N:Hid (zbb (l.drop j) x=((l.getD j sNone).toList==x.toList||zbb (l.drop (j+1)) x)):=zqx q;generalize l.getD j sNone=y at hc N;cases K:(x.toList==y.toList) with
   |true=>
    go_wp2;go_ret;refine⟨⟨_,rfl,?_⟩,rfl⟩;have L:(y.toList==x.toList)=true:=by rw[beq_iff_eq] at K ⊢;exact K.symm
    rw[<-O.o,N.o,L];simp
   |false=>
    go_wp2;go_roundg (gk-1)
    case rel=>
     have L:(y.toList==x.toList)=false:=by
      rw[beq_eq_false_iff_ne] at K ⊢;exact fun e=>K e.symm
     refine⟨J,rfl,by have:=U.o;omega,?_,rfl⟩;rw[<-O.o,N.o,L,U.o];simp
    case measure=>omega
  ·have I: ¬(j:Int)<(l.length:Int):=by omega
   go_wp2;go_ret;refine⟨⟨_,rfl,?_⟩,rfl⟩;rw[<-O.o,List.drop_eq_nil_of_le (by omega)];rfl
theorem zqz:
  Calls prog 110 #[.slice none 0 0,.string s] V fun e w'=>e= .returned (.int .i64 (-1))/\w'=V:=by
 go_enter func110,ntmps110;go_wp2;go_loopg [8] 1 (fun k i wr=>k=1/\i= .int .i64 0/\wr=V)
 case atStart=>exact⟨rfl,rfl,rfl⟩
 case round=>
  obtain⟨rfl,rfl,rfl⟩:=hrel;go_wp2;go_ret;exact⟨rfl,rfl⟩
theorem zq0 (h:OwnR V g 9 1 S z.length (z.map .string)) (I:z.length<=1000000):
  Calls prog 110 #[.slice S.a z.length S.cap,.string t] V fun e w'=>(∃v:Int,e= .returned (.int .i64 v)/\decide (0<=v)=zbb z t)/\w'=V:=by
 rcases h.nil_or with ⟨H,J,q⟩|⟨Z,A⟩
 ·rw[H,J,q];refine (zqz t V).mono ?_;rintro e K ⟨rfl,rfl⟩;have:z=[]:=List.length_eq_zero_iff.1 q;subst this;exact⟨⟨_,rfl,rfl⟩,rfl⟩
 ·rw[A];exact zqy g Z S z t V h I A
theorem zhg (h:OwnR V g 9 1 S z.length (z.map .string)) (H:z.length<=1000000):
  Calls prog 78 #[.slice S.a z.length S.cap,.string t] V fun e w'=>e= .returned (.bool (zbb z t))/\w'=V:=by
 have A:=zc h;clear h;go_enter func78,ntmps78;go_wp2_with fail;refine (zq0 g S z t _ A.o H).mono ?_;rintro e J ⟨⟨v,rfl,q⟩,rfl⟩;have I:=zc q;clear q;go_wp2;go_ret;exact⟨zk I.o,rfl⟩
theorem Tryz.infoText:(prog.info? 9).map (fun i=>(i.zero,i.size,i.bytes))=some (some (.string {data:=#[]}),1,16):=by kernel_rfl
def zb2 (C:Cx):Prop:=∀i,(ze C i).text.size<=281474976710656
theorem zdm: ∀u∈[Value.string s],u.oneCell'=true:=by
 intro u h;simp at h;rw[h];rfl
theorem zq1 (h:IM C g b c d T p V) (hC:zb2 C) (hk:((ze C p.pos).kind==3)=true) (hs:zbb p.rq (ze C p.pos).text=false) (hn:p.rq.length<40):
  Calls prog 244 #[.pointer (some ⟨d,0,none⟩)] V fun e w'=>e= .returned (.string (ze C p.pos).text)/\∃S',IM C g b c d S' {adv p with rq:=p.rq++[(ze C p.pos).text]} w'/\IS d T V S' w':=by
 obtain⟨i0,hi,ab,ag,ah⟩:=info_parts Tryz.infoText;have aj:=zdk;have O:=hC p.pos;go_enter func244,ntmps244;go_wp2_with fail;refine (zeD C g b c d T p 3 _ h hk (by decide)).mono ?_;rintro e f ⟨rfl,m1,s1⟩;have Y:=zc m1;have af:=zc s1;clear m1 s1;unfold tkV;obtain⟨c0,c1,c2,c3,c4,c5,c6,c7,c8,c9,cf⟩:=zan Y.o.cells;rw[show (adv p).rq=p.rq from rfl] at c4;generalize N:(ze C p.pos).text=tx at hs O ⊢;have aa:=zc N;clear N;go_wp2_with fail;refine (zhg c T.rq p.rq tx _ Y.o.mem.own.rq (by omega)).mono ?_;rintro e K ⟨rfl,U⟩;rw[hs,U];clear U K;go_wp2_with fail;refine (zeE d p.rq.length 40 _ (by omega)).mono ?_;rintro e K ⟨rfl,U⟩;rw[U];clear U K;have HN:Hid (some d≠T.rq.blk):=fun e=>Y.o.free (.inl e.symm);go_wp2_with fail;go_region_law (first|(refine zgg rfl (.tmp 28) (.tmp 31) 22 rfl c 9 i0 _ 1 16 underlying22 hi ab ag ah rfl (by decide) (by decide) T.rq p.rq.length (p.rq.map .string) (by rfl) (by exact I.o.mem.own.rq.alloc _) X.heap.size [.string tx] (by rfl) (by exact hN0 X _) rfl (zdm tx) (by omega) (by exact (I.o.alloc _).mem.base) ?_;intro r' w2 hr J M;have g2:=(J.block d (by exact (I.o.alloc _).lt) HN.o).trans (by exact (I.o.alloc _).cells);obtain⟨d0,d1,d2,d3,d4,d5,d6,d7,d8,d9,df⟩:=zan g2)|(go_simp;go_wp2_with (go_at_call 209;refine (zkP _ _ O).mono ?_;rintro e X ⟨rfl,L⟩;have I:Hid (IM C g b c d T (adv p) X):=Y.o.drew.later L;have ae:Hid (Bw f X):=(Below.refl f.heap.size f).drew.trans L;obtain⟨e0,e1,e2,e3,e4,e5,e6,e7,e8,e9,ef⟩:=zan I.o.cells;rw[show (adv p).rq=p.rq from rfl] at e4;have ai:=I.o.lt;clear L)))
 all_goals
  have HR:=zc hr;have ad:=zc J;have ac:=zc M;clear hr J M g2 c0 c1 c2 c3 c4 c5 c6 c7 c8 c9 cf e0 e1 e2 e3 e4 e5 e6 e7 e8 e9 ef;go_wp2;go_ret;obtain⟨m',s'⟩:=I.o.grow_rq (x:=tx) (bA0) ad.o HR.o ac.o hn;rw[aa.o];exact⟨rfl,_,m',af.o.trans (s'.grownI ae.o)⟩
theorem zhh (h:IM C g b c d T p V) (hC:zb2 C):
  Calls prog 244 #[.pointer (some ⟨d,0,none⟩)] V (zaa C g b c d (zR C p) (·.1) (fun a=>.string a.2) T V):=by
 cases I:((ze C p.pos).kind==3) with
 |false=>
  have O:=zc h;have Z:Hid (zR C p= .error (zz C p.pos)):=by show _=_;rw[zR,I];rfl
  clear h;go_enter func244,ntmps244;go_wp2_with fail;refine (zkN C g b c d T p 3 _ O.o I).mono ?_;rintro e w1 ⟨rfl,X⟩;have HB:=X.mono O.o.mem.base;clear X;unfold Pan;go_wp2;refine⟨rfl,?_⟩;rw[Z.o];exact⟨rfl,HB⟩
 |true=>
  cases f:zbb p.rq (ze C p.pos).text with
  |true=>
   have O:=zc h;have Z:Hid (zR C p= .ok (adv p,(ze C p.pos).text)):=by show _=_;rw[zR,I,f];rfl
   have ab:=zdk;have aa:=h.mem.inv.rq;clear h;go_enter func244,ntmps244;go_wp2_with fail;refine (zeD C g b c d T p 3 _ O.o I (by decide)).mono ?_;rintro e w1 ⟨rfl,N,M⟩;have J:=zc N;have L:=zc M;clear N M;unfold tkV;obtain⟨c0,c1,c2,c3,c4,c5,c6,c7,c8,c9,cf⟩:=zan J.o.cells;rw[show (adv p).rq=p.rq from rfl] at c4;go_wp2_with fail;refine (zhg c T.rq p.rq (ze C p.pos).text _ J.o.mem.own.rq (by omega)).mono ?_;rintro e U ⟨rfl,Y⟩;rw[f,Y];clear Y U;go_wp2;go_ret;rw[Z.o];exact⟨rfl,T,J.o,L.o⟩
  |false=>
   by_cases hn:p.rq.length<40
   ·refine (zq1 C g b c d T p V h hC I f hn).mono ?_;rintro e w1 ⟨rfl,S1,N,M⟩;rw[zR,I,f,if_pos rfl,if_neg (by decide),if_neg (by omega)];exact⟨rfl,S1,N,M⟩
   ·have O:Hid (IM C g b c d T p V):=h;have Z:Hid (zR C p= .error (zz C p.pos)):=by show _=_;rw[zR,I,f,if_pos rfl,if_neg (by decide),if_pos (by omega)]
    have ab:=zdk;have aa:=h.mem.inv.rq;clear h;go_enter func244,ntmps244;go_wp2_with fail;refine (zeD C g b c d T p 3 _ O.o I (by decide)).mono ?_;rintro e w1 ⟨rfl,N,M⟩;have J:=zc N;have L:=zc M;clear N M;unfold tkV;obtain⟨c0,c1,c2,c3,c4,c5,c6,c7,c8,c9,cf⟩:=zan J.o.cells;rw[show (adv p).rq=p.rq from rfl] at c4;go_wp2_with fail;refine (zhg c T.rq p.rq (ze C p.pos).text _ J.o.mem.own.rq (by omega)).mono ?_;rintro e U ⟨rfl,Y⟩;rw[f,Y];clear Y U;go_wp2_with fail;refine (zfv C g b c d T (adv p) p.rq.length 40 _ J.o (by omega) (by rw[zH];omega)).mono ?_;rintro e w2 ⟨rfl,X⟩;have HB:=(O.o.back L.o).trans (X.mono J.o.mem.base);clear X;unfold Pan;go_wp2;refine⟨rfl,?_⟩;rw[Z.o];exact⟨rfl,HB⟩
theorem bdO {α β:Type} {Y:Except Nat β} {x:Except Nat α} {f:α->Except Nat β} {a:α} (h:Y=bd x f) (q:x= .ok a):Y=f a:=by rw[h,q];rfl
theorem bdE {α β:Type} {Y:Except Nat β} {x:Except Nat α} {f:α->Except Nat β} (h:Y=bd x f) (q:x= .error D):Y= .error D:=by rw[h,q];rfl
theorem zfx {α:Type} (x:Except Nat α):bd x .ok=x:=by cases x<;>rfl
abbrev cCall:BA0:={data:=#[40,41,123]}
abbrev cShutSemi:BA0:={data:=#[41,59]}
abbrev cSemiRight:BA0:={data:=#[59,125]}
theorem zkQ:zaO C {data:=#[w]} 1 0 p=zd C 4 {data:=#[w]} p:=by
 have e:({data:=#[w]}:BA0).extract 0 (0+1)={data:=#[w]}:=by simp[ByteArray.extract,ByteArray.copySlice]
 rw[zaO,e];exact zfx _
theorem zkR:zaO C {data:=#[w,W]} 2 0 p=bd (zd C 4 {data:=#[w]} p) (zd C 4 {data:=#[W]}):=by
 have e:({data:=#[w,W]}:BA0).extract 0 (0+1)={data:=#[w]}:=by simp[ByteArray.extract,ByteArray.copySlice]
 have h:({data:=#[w,W]}:BA0).extract (0+1) (0+1+1)={data:=#[W]}:=by simp[ByteArray.extract,ByteArray.copySlice]
 rw[zaO,e];refine zam fun a _=>?_;rw[zaO,h];exact zfx _
theorem zq2:zaO C {data:=#[w,W,x]} 3 0 h=bd (zd C 4 {data:=#[w]} h) fun a=>bd (zd C 4 {data:=#[W]} a) (zd C 4 {data:=#[x]}):=by
 have e:({data:=#[w,W,x]}:BA0).extract 0 (0+1)={data:=#[w]}:=by simp[ByteArray.extract,ByteArray.copySlice]
 have Z:({data:=#[w,W,x]}:BA0).extract (0+1) (0+1+1)={data:=#[W]}:=by simp[ByteArray.extract,ByteArray.copySlice]
 have f:({data:=#[w,W,x]}:BA0).extract (0+1+1) (0+1+1+1)={data:=#[x]}:=by simp[ByteArray.extract,ByteArray.copySlice]
 rw[zaO,e];refine zam fun a _=>?_;rw[zaO,Z];refine zam fun a _=>?_;rw[zaO,f];exact zfx _
theorem zq3 (f:PS->PR) (w:World) (h:IM C g b c d T p w) (J:zaO C t t.size 0 p=f p) (K:t.size<=100):
  Calls prog 236 #[.pointer (some ⟨d,0,none⟩),.string t] w (zaa C g b c d (f p) id (fun _=>.tuple #[]) T w):=by
 rw[<-J];exact zi8 C g b c d T p t w h K
theorem zcI (Z:UInt8) (w:World) (h:IM C g b c d T p w):
  Calls prog 236 #[.pointer (some ⟨d,0,none⟩),.string {data:=#[Z]}] w (zaa C g b c d (zd C 4 {data:=#[Z]} p) id (fun _=>.tuple #[]) T w):=
 zq3 C g b c d T p {data:=#[Z]} (zd C 4 {data:=#[Z]}) w h (zkQ C Z p) (by show 1<=100;omega)
structure Six (w:World) (b:Nat) (v0 v1 v2 v3 v4 v5:Value):Prop where
 c0:w.cell? ⟨b,0,none⟩=some v0
 c1:w.cell? ⟨b,1,none⟩=some v1
 c2:w.cell? ⟨b,2,none⟩=some v2
 c3:w.cell? ⟨b,3,none⟩=some v3
 c4:w.cell? ⟨b,4,none⟩=some v4
 c5:w.cell? ⟨b,5,none⟩=some v5
 fz: ∀i,w.frozen? ⟨b,i,none⟩=false
theorem zD {v0 v1 v2 v3 v4 q:Value} (h:A.heap[D]? =some (.cells #[v0,v1,v2,v3,v4,q] L (0,0))):Six A D v0 v1 v2 v3 v4 q:=by
 constructor<;>simp[World.cell?,World.frozen?,h]
theorem IS.kept {b:Nat} {w:World} (h:IM M D E F G N P w) (s:IS G N (w.alloc Q) O B) (J:b=w.heap.size):B.heap[b]? =some Q:=by
 subst J;refine (s.block _ (by rw[zh];omega) (fun g=>?_) (by have:=h.lt;omega)).trans (hN0 w _);have:=(h.mem.own.has g).2;omega
theorem IS.from (s:IS D N (A.alloc Q) O B):IS D N A O B:=(IS.below (bA0)).trans s
theorem IS.free {w:World} (h:IM M D E F G N P w) (s:IS G N (w.alloc Q) O B): ¬O.has w.heap.size:=by
 intro g;rcases s.sub _ g with k|k
 ·have:=(h.mem.own.has k).2;omega
 ·rw[zh] at k;omega
def zb3 (C:Cx) (x:Ex) (call:Int) (q:PS):PR:=if isT C q.pos 4 zu then bd (zd C 4 zaF (adv q)) (zZ C ⟨call,x.num,x.name,x.field,x.l,x.r⟩) else zZ C x q
theorem zgk (x:Ex) (A:Int) (w:World) (h:IM C g b c d T p w) (hp:0<p.pos):
  Calls prog 273 #[.pointer (some ⟨d,0,none⟩),exV x,.int .i64 A] w (zaa C g b c d (zb3 C x A p) id (fun q'=>.int .i64 ((q'.ex.length:Int)-1)) T w):=by
 cases hi:isT C p.pos 4 zu with
 |false=>
  have HY:Hid (zb3 C x A p=zZ C x p):=by show _=_;rw[zb3,hi];rfl
  unfold exV;go_enter func273,ntmps273;go_wp2_with fail;refine (zV C g b c d T p 4 zu _ (h.alloc _) (by decide)).mono ?_;rintro e w1 ⟨rfl,J,s⟩;rw[hi] at J ⊢;have X:=s.from;have ah:Hid (w1.heap[w.heap.size]? =some (.cells #[.int .i64 x.kind,.int .i64 x.num,.string x.name,.string x.field,.int .i64 x.l,.int .i64 x.r] 106 (0,0))):=IS.kept h s rfl;obtain⟨b0,b1,b2,b3,b4,b5,bf⟩:=zD ah.o;clear s;go_wp2_with fail;refine (zfw C g b c d T p x _ J hp).mono ?_;cases I:zZ C x p with
  |error f=>
   rintro e w2 ⟨rfl,U⟩;have Y:=(h.back X).trans U;have M:Hid (zb3 C x A p= .error f):=HY.o.trans I;unfold Pan;go_wp2;refine⟨rfl,?_⟩;rw[M.o];exact⟨rfl,Y⟩
  |ok a2=>
   rintro e w2 ⟨rfl,S2,O,s⟩;have ab:=X.trans s;clear s;have M:=zc (HY.o.trans I);go_wp2;go_ret;rw[M.o];exact⟨rfl,S2,O,ab⟩
 |true=>
  have HY:Hid (zb3 C x A p=bd (zd C 4 zaF (adv p)) (zZ C ⟨A,x.num,x.name,x.field,x.l,x.r⟩)):=by show _=_;rw[zb3,hi];rfl
  unfold exV;go_enter func273,ntmps273;go_wp2_with fail;refine (zV C g b c d T p 4 zu _ (h.alloc _) (by decide)).mono ?_;rintro e w1 ⟨rfl,J,aa⟩;rw[hi] at J ⊢;go_wp2_with fail;refine (zcI C g b c d T (adv p) 41 _ J).mono ?_;cases I:zd C 4 zaF (adv p) with
  |error f=>
   rintro e w2 ⟨rfl,U⟩;have Y:=(h.back aa.from).trans U;have M:Hid (zb3 C x A p= .error f):=bdE HY.o I;unfold Pan;go_wp2;refine⟨rfl,?_⟩;rw[M.o];exact⟨rfl,Y⟩
  |ok a2=>
   rintro e w2 ⟨rfl,S2,O,s⟩;have L:=aa.trans s;have ac:Hid (w2.heap[w.heap.size]? =some (.cells #[.int .i64 x.kind,.int .i64 x.num,.string x.name,.string x.field,.int .i64 x.l,.int .i64 x.r] 106 (0,0))):=IS.kept h L rfl;have ag:Hid (a2=adv (adv p)):=(zcj I).1;have ae:Hid (¬S2.has w.heap.size):=IS.free h L;have aj:d<w.heap.size:=h.lt;have ai:g<w.heap.size:=(za1 h.mem.tok).1;clear s;have V:=zc (bdO HY.o I);obtain⟨b0,b1,b2,b3,b4,b5,bf⟩:=zD ac.o;go_wp2_with fail;refine (zfw C g b c d S2 a2 ⟨A,x.num,x.name,x.field,x.l,x.r⟩ _ (O.set (by omega) (by omega) ae.o _ _) (by rw[ag.o];show 0<p.pos+1+1;omega)).mono ?_;cases Z:zZ C ⟨A,x.num,x.name,x.field,x.l,x.r⟩ a2 with
   |error f=>
    rintro e w3 ⟨rfl,U⟩;have Y:Below c w w3:=(h.back (L.from.new (Nat.le_refl _) _ _)).trans U;have M:Hid (zb3 C x A p= .error f):=V.o.trans Z;unfold Pan;go_wp2;refine⟨rfl,?_⟩;rw[M.o];exact⟨rfl,Y⟩
   |ok a3=>
    rintro e w3 ⟨rfl,S3,ad,s⟩;have af:IS d T w S3 w3:=(L.from.new (Nat.le_refl _) _ _).trans s;clear s;have M:=zc (V.o.trans Z);go_wp2;go_ret;rw[M.o];exact⟨rfl,S3,ad,af⟩
def exI (q:PS):Value:=.int .i64 ((q.ex.length:Int)-1)
def zgl (C:Cx) (gt cap base gp m:Nat):Prop:=∀(d:Nat) (S:Sv) (q:PS) (w:World),C.ts.length-q.pos<m->d<=20->IM C gt cap base gp S q w->
 Calls prog 255 #[.pointer (some ⟨gp,0,none⟩),.int .i64 d] w (zaa C gt cap base gp (pE C .sum d q) id exI S w)
theorem zkS:zbT C s p=zb3 C ⟨2,0,s,sNone,0,0⟩ 3 p:=by
 unfold zbT zb3;cases h:isT C p.pos 4 zu with
 |true=>rw[zct h];rfl
 |false=>rfl
theorem zq4:zci C s t h=zb3 C ⟨4,0,s,t,0,0⟩ 5 h:=by
 unfold zci zb3;cases Z:isT C h.pos 4 zu with
 |true=>rw[zct Z];rfl
 |false=>rfl
theorem zq5 {y:BA0} (h:(K.toList==y.toList)=true):K=y:=by
 rw[beq_iff_eq,Lib.toList_data,Lib.toList_data] at h;cases K;cases y;simp only at h;rw[Array.toList_inj.1 h]
theorem ziC (h:isT M D u K=true):(ze M D).text=K:=by
 simp only[isT,Bool.and_eq_true] at h;exact zq5 h.2
theorem zhi (h:isT M D u K=true):((ze M D).kind==u)=true:=by
 simp only[isT,Bool.and_eq_true] at h;exact h.1
theorem zq6 {d:Nat} (h:((ze M P.pos).kind==2)=true):pE M .part d P=zZ M ⟨1,(ze M P.pos).num,sNone,sNone,0,0⟩ (adv P):=by rw[zcc,h];rfl
theorem zq7 {d:Nat} (h:((ze M P.pos).kind==2)=false) (w:isT M P.pos 4 zu=true) (A:20<=d):pE M .part d P= .error (zz M P.pos):=by rw[zcc,h,w,if_neg (by decide),if_pos rfl,if_pos A]
theorem zq8 {d:Nat} (h:((ze M P.pos).kind==2)=false) (w:isT M P.pos 4 zu=true) (A: ¬20<=d):pE M .part d P=bd (pE M .sum (d+1) (adv P)) (zd M 4 zaF):=by rw[zcc,h,w,if_neg (by decide),if_pos rfl,if_neg A]
theorem zq9 {d:Nat} (h:((ze M P.pos).kind==2)=false) (w:isT M P.pos 4 zu=false) (A:M.scr=true) (H:isT M P.pos 1 zaM=true):pE M .part d P=zb3 M ⟨2,0,zaM,sNone,0,0⟩ 3 (adv P):=by
 rw[zcc,h,w,A,H,if_neg (by decide),if_neg (by decide),if_pos (by decide),zkS]
theorem zkT {d:Nat} (h:((ze M P.pos).kind==2)=false) (w:isT M P.pos 4 zu=false) (A:(M.scr&&isT M P.pos 1 zaM)=false):
  pE M .part d P=bd (zq M false P) fun x=>if isT M x.1.pos 4 cPoint then bd (zq M true (adv x.1)) fun y=>zb3 M ⟨4,0,x.2,y.2,0,0⟩ 5 y.1 else zb3 M ⟨2,0,x.2,sNone,0,0⟩ 3 x.1:=by
 rw[zcc,h,w,A,if_neg (by decide),if_neg (by decide),if_neg (by decide)];simp only[zkS,zq4]
theorem zqA (f:Nat) (S:Sv) (q:PS) (w:World) (h:IM C g b c d S q w) (Y:((ze C q.pos).kind==2)=true):
  Calls prog 272 #[.pointer (some ⟨d,0,none⟩),.int .i64 f] w (zaa C g b c d (pE C .part f q) id exI S w):=by
 have aa:=zd4;have ac:=zdk;have ab:=zfs;have Z:=zc (zq6 (d:=f) Y);go_enter func272,ntmps272;go_wp2_with fail;refine (zbL C g b c d S q _ h).mono ?_;rintro e w1 ⟨rfl,I⟩;unfold tkV;have X:=h.later I;have N:IS d S w S w1:=IS.below I;clear I;go_wp2_with fail;refine (zeD C g b c d S q 2 _ X Y (by decide)).mono ?_;rintro e w2 ⟨rfl,M,s⟩;have J:=N.trans s;clear s;unfold tkV;go_wp2_with fail;refine (zfw C g b c d S (adv q) ⟨1,(ze C q.pos).num,sNone,sNone,0,0⟩ _ M (by rw[zH];omega)).mono ?_;cases K:zZ C ⟨1,(ze C q.pos).num,sNone,sNone,0,0⟩ (adv q) with
 |error p=>
  rintro e w3 ⟨rfl,I⟩;have HB:=(h.back J).trans I;have HX:Hid (pE C .part f q= .error p):=Z.o.trans K;unfold Pan;go_wp2;refine⟨rfl,?_⟩;rw[HX.o];exact⟨rfl,HB⟩
 |ok a3=>
  rintro e w3 ⟨rfl,S3,O,s⟩;have V:=J.trans s;clear s;have U:=zc (Z.o.trans K);go_wp2;go_ret;rw[U.o];exact⟨rfl,S3,O,V⟩
theorem zqB (f:Nat) (S:Sv) (q:PS) (w:World) (h:IM C g b c d S q w) (X:((ze C q.pos).kind==2)=false) (O:isT C q.pos 4 zu=true) (U:20<=f):
  Calls prog 272 #[.pointer (some ⟨d,0,none⟩),.int .i64 f] w (zaa C g b c d (pE C .part f q) id exI S w):=by
 have Z:=zd4;have ac:=zdk;have ab:=zfs;have HY:=zc (zq7 (d:=f) X O U);have aa:(20:Int)<=(f:Int):=by omega
 go_enter func272,ntmps272;go_wp2_with fail;refine (zbL C g b c d S q _ h).mono ?_;rintro e V ⟨rfl,J⟩;unfold tkV;have N:=h.later J;have L:IS d S w S V:=IS.below J;clear J;go_wp2_with fail;refine (zV C g b c d S q 4 zu _ N (by decide)).mono ?_;rintro e w2 ⟨rfl,H,s⟩;rw[O] at H ⊢;have M:=L.trans s;clear s;go_wp2_with fail;refine (zfv C g b c d S (adv q) f 20 _ H (by omega) (by rw[zH];omega)).mono ?_;rintro e w3 ⟨rfl,J⟩;have Y:=(h.back M).trans (J.mono H.mem.base);have HX:Hid (pE C .part f q= .error (zz C q.pos)):=HY.o;unfold Pan;go_wp2;refine⟨rfl,?_⟩;rw[HX.o];exact⟨rfl,Y⟩
theorem zqC (f:Nat) (S:Sv) (q:PS) (w:World) (h:IM C g b c d S q w) (hk:((ze C q.pos).kind==2)=false) (h1:isT C q.pos 4 zu=true) (hd:f<20) (hS:zgl C g b c d k) (hm:C.ts.length-q.pos<=k):
  Calls prog 272 #[.pointer (some ⟨d,0,none⟩),.int .i64 f] w (zaa C g b c d (pE C .part f q) id exI S w):=by
 have ag:=zd4;have aj:=zdk;have ai:=zfs;have HY:=zc (zq8 (d:=f) hk h1 (by omega));have ah: ¬(20:Int)<=(f:Int):=by omega
 have af:=zaG h1 (by decide);obtain⟨K,U⟩: ∃K:Nat,K=f+1:=⟨_,rfl⟩;have ed:(f:Int)+1=(K:Int):=by omega
 rw[<-U] at HY;have Y:K<=20:=by omega
 clear U;go_enter func272,ntmps272;go_wp2_with fail;refine (zbL C g b c d S q _ h).mono ?_;rintro e w1 ⟨rfl,J⟩;unfold tkV;have ae:=h.later J;have ab:IS d S w S w1:=IS.below J;clear J;go_wp2_with fail;refine (zV C g b c d S q 4 zu _ ae (by decide)).mono ?_;rintro e w2 ⟨rfl,M,s⟩;rw[h1] at M ⊢;have N:=ab.trans s;clear s;go_wp2_with fail;refine (zeE d f 20 _ (by omega)).mono ?_;rintro e w' ⟨rfl,hw⟩;rw[hw];clear hw w';go_wp2_with fail;refine (hS K S (adv q) _ (by rw[zH];omega) Y M).mono ?_;cases O:pE C .sum K (adv q) with
 |error p=>
  rintro e w3 ⟨rfl,J⟩;have HB:=(h.back N).trans J;have HX:Hid (pE C .part f q= .error p):=bdE HY.o O;unfold Pan;go_wp2;refine⟨rfl,?_⟩;rw[HX.o];exact⟨rfl,HB⟩
 |ok a3=>
  rintro e w3 ⟨rfl,S3,ac,s⟩;have X:=N.trans s;clear s;have V:=zc (bdO HY.o O);unfold exI;go_wp2_with fail;refine (zcI C g b c d S3 a3 41 _ ac).mono ?_;cases I:zd C 4 zaF a3 with
  |error p=>
   rintro e w4 ⟨rfl,J⟩;have HB:=(h.back X).trans J;have HX:Hid (pE C .part f q= .error p):=V.o.trans I;unfold Pan;go_wp2;refine⟨rfl,?_⟩;rw[HX.o];exact⟨rfl,HB⟩
  |ok a4=>
   rintro e w4 ⟨rfl,S4,aa,s⟩;have Z:=X.trans s;clear s;have ad:=zc (V.o.trans I);have HP:Hid (a4=adv a3):=(zcj I).1;go_wp2;go_ret;rw[ad.o];exact⟨by rw[HP.o];rfl,S4,aa,Z⟩
theorem zqD (f:Nat) (S:Sv) (q:PS) (w:World) (h:IM C g b c d S q w) (hk:((ze C q.pos).kind==2)=false) (h1:isT C q.pos 4 zu=false) (h2:C.scr=true) (N:isT C q.pos 1 zaM=true):
  Calls prog 272 #[.pointer (some ⟨d,0,none⟩),.int .i64 f] w (zaa C g b c d (pE C .part f q) id exI S w):=by
 have ad:=zd4;have af:=zdk;have ae:=zfs;have HY:=zc (zq9 (d:=f) hk h1 h2 N);go_enter func272,ntmps272;go_wp2_with fail;refine (zbL C g b c d S q _ h).mono ?_;rintro e w1 ⟨rfl,H⟩;unfold tkV;have ac:=h.later H;have V:IS d S w S w1:=IS.below H;clear H;go_wp2_with fail;refine (zV C g b c d S q 4 zu _ ac (by decide)).mono ?_;rintro e w2 ⟨rfl,m,s⟩;rw[h1] at m ⊢;have J:=zc m;have X:=V.trans s;clear m s;obtain⟨_,_,_,c3,_,_,_,_,_,_,cf⟩:=zan J.o.cells;rw[h2] at c3;go_wp2_with fail;refine (zc4 C g b c d S q 1 zaM _ J.o).mono ?_;rintro e w3 ⟨rfl,H⟩;rw[N];have Z:=J.o.later H;have aa:=(X.trans (IS.below H));clear H;go_wp2_with fail;refine (zeD C g b c d S q 1 _ Z (zhi N) (by decide)).mono ?_;rintro e w4 ⟨rfl,O,s⟩;have M:=aa.trans s;clear s;unfold tkV;rw[ziC N];go_wp2_with fail;refine (zgk C g b c d S (adv q) ⟨2,0,zaM,sNone,0,0⟩ 3 _ O (by rw[zH];omega)).mono ?_;cases L:zb3 C ⟨2,0,zaM,sNone,0,0⟩ 3 (adv q) with
 |error p=>
  rintro e w5 ⟨rfl,H⟩;have HB:=(h.back M).trans H;have HX:Hid (pE C .part f q= .error p):=HY.o.trans L;unfold Pan;go_wp2;refine⟨rfl,?_⟩;rw[HX.o];exact⟨rfl,HB⟩
 |ok a5=>
  rintro e w5 ⟨rfl,S5,U,s⟩;have ab:=M.trans s;clear s;have Y:=zc (HY.o.trans L);go_wp2;go_ret;rw[Y.o];exact⟨rfl,S5,U,ab⟩
theorem zqE (f:Nat) (S:Sv) (q:PS) (w:World) (h:IM C g b c d S q w) (hk:((ze C q.pos).kind==2)=false) (h1:isT C q.pos 4 zu=false) (h2:C.scr=true) (h3:isT C q.pos 1 zaM=false):
  Calls prog 272 #[.pointer (some ⟨d,0,none⟩),.int .i64 f] w (zaa C g b c d (pE C .part f q) id exI S w):=by
 have an:=zd4;have ap:=zdk;have ao:=zfs;have HY:=zc (zkT (d:=f) hk h1 (by rw[h2,h3];rfl));go_enter func272,ntmps272;go_wp2_with fail;refine (zbL C g b c d S q _ h).mono ?_;rintro e w1 ⟨rfl,H⟩;unfold tkV;have am:=h.later H;have ai:IS d S w S w1:=IS.below H;clear H;go_wp2_with fail;refine (zV C g b c d S q 4 zu _ am (by decide)).mono ?_;rintro e w2 ⟨rfl,m,s⟩;rw[h1] at m ⊢;have X:=zc m;have aj:=ai.trans s;clear m s;obtain⟨_,_,_,c3,_,_,_,_,_,_,cf⟩:=zan X.o.cells;rw[h2] at c3;go_wp2_with fail;refine (zc4 C g b c d S q 1 zaM _ X.o).mono ?_;rintro e w3 ⟨rfl,H⟩;rw[h3];have ak:=X.o.later H;have ad:=(aj.trans (IS.below H));clear H;go_wp2_with fail;refine (zdX C g b c d S q _ ak).mono ?_;cases V:zq C false q with
 |error p=>
  rintro e w4 ⟨rfl,H⟩;have Y:=(h.back ad).trans H;have HX:Hid (pE C .part f q= .error p):=bdE HY.o V;unfold Pan;go_wp2;refine⟨rfl,?_⟩;rw[HX.o];exact⟨rfl,Y⟩
 |ok K=>
  rintro e w4 ⟨rfl,S4,ab,s⟩;have aa:=ad.trans s;clear s;have ae:=zc (bdO HY.o V);have ac:0<K.1.pos:=by rw[(zbF V).1];exact succ_pos _
  cases hd:isT C K.1.pos 4 cPoint with
  |true=>
   have HZ:=zc (ae.o.trans (if_pos hd));go_wp2_with fail;refine (zV C g b c d S4 (K.1) 4 cPoint _ ab (by decide)).mono ?_;rintro e w5 ⟨rfl,L,s⟩;rw[hd] at L ⊢;have M:=aa.trans s;clear s;go_wp2_with fail;refine (zgf C g b c d S4 (adv (K.1)) _ L).mono ?_;cases J:zq C true (adv (K.1)) with
   |error p=>
    rintro e w6 ⟨rfl,H⟩;have Y:=(h.back M).trans H;have HX:Hid (pE C .part f q= .error p):=bdE HZ.o J;unfold Pan;go_wp2;refine⟨rfl,?_⟩;rw[HX.o];exact⟨rfl,Y⟩
   |ok a6=>
    rintro e w6 ⟨rfl,S6,Z,s⟩;have O:=M.trans s;clear s;have U:=zc (bdO HZ.o J);go_wp2_with fail;refine (zgk C g b c d S6 (a6.1) ⟨4,0,K.2,a6.2,0,0⟩ 5 _ Z (by rw[(zbF J).1];exact succ_pos _)).mono ?_;cases af:zb3 C ⟨4,0,K.2,a6.2,0,0⟩ 5 (a6.1) with
    |error p=>
     rintro e w7 ⟨rfl,H⟩;have Y:=(h.back O).trans H;have HX:Hid (pE C .part f q= .error p):=U.o.trans af;unfold Pan;go_wp2;refine⟨rfl,?_⟩;rw[HX.o];exact⟨rfl,Y⟩
    |ok a7=>
     rintro e w7 ⟨rfl,S7,ah,s⟩;have al:=O.trans s;clear s;have ag:=zc (U.o.trans af);go_wp2;go_ret;rw[ag.o];exact⟨rfl,S7,ah,al⟩
  |false=>
   have HZ:=zc (ae.o.trans (if_neg (by rw[hd];decide)));go_wp2_with fail;refine (zV C g b c d S4 (K.1) 4 cPoint _ ab (by decide)).mono ?_;rintro e w5 ⟨rfl,L,s⟩;rw[hd] at L ⊢;have M:=aa.trans s;clear s;go_wp2_with fail;refine (zgk C g b c d S4 (K.1) ⟨2,0,K.2,sNone,0,0⟩ 3 _ L ac).mono ?_;cases J:zb3 C ⟨2,0,K.2,sNone,0,0⟩ 3 (K.1) with
   |error p=>
    rintro e w6 ⟨rfl,H⟩;have Y:=(h.back M).trans H;have HX:Hid (pE C .part f q= .error p):=HZ.o.trans J;unfold Pan;go_wp2;refine⟨rfl,?_⟩;rw[HX.o];exact⟨rfl,Y⟩
   |ok a6=>
    rintro e w6 ⟨rfl,S6,Z,s⟩;have O:=M.trans s;clear s;have U:=zc (HZ.o.trans J);go_wp2;go_ret;rw[U.o];exact⟨rfl,S6,Z,O⟩
theorem zqF (f:Nat) (S:Sv) (q:PS) (w:World) (h:IM C g b c d S q w) (hk:((ze C q.pos).kind==2)=false) (h1:isT C q.pos 4 zu=false) (h2:C.scr=false):
  Calls prog 272 #[.pointer (some ⟨d,0,none⟩),.int .i64 f] w (zaa C g b c d (pE C .part f q) id exI S w):=by
 have am:=zd4;have ao:=zdk;have an:=zfs;have HY:=zc (zkT (d:=f) hk h1 (by rw[h2];rfl));go_enter func272,ntmps272;go_wp2_with fail;refine (zbL C g b c d S q _ h).mono ?_;rintro e w1 ⟨rfl,L⟩;unfold tkV;have ak:=h.later L;have ah:IS d S w S w1:=IS.below L;clear L;go_wp2_with fail;refine (zV C g b c d S q 4 zu _ ak (by decide)).mono ?_;rintro e w2 ⟨rfl,m,s⟩;rw[h1] at m ⊢;have aa:=zc m;have ab:=ah.trans s;clear m s;obtain⟨_,_,_,c3,_,_,_,_,_,_,cf⟩:=zan aa.o.cells;rw[h2] at c3;go_wp2_with fail;refine (zdX C g b c d S q _ aa.o).mono ?_;cases Y:zq C false q with
 |error p=>
  rintro e w3 ⟨rfl,L⟩;have X:=(h.back ab).trans L;have Z:Hid (pE C .part f q= .error p):=bdE HY.o Y;unfold Pan;go_wp2;refine⟨rfl,?_⟩;rw[Z.o];exact⟨rfl,X⟩
 |ok J=>
  rintro e w3 ⟨rfl,S3,ae,s⟩;have ag:=ab.trans s;clear s;have af:=zc (bdO HY.o Y);have ac:0<J.1.pos:=by rw[(zbF Y).1];exact succ_pos _
  cases hd:isT C J.1.pos 4 cPoint with
  |true=>
   have HZ:=zc (af.o.trans (if_pos hd));go_wp2_with fail;refine (zV C g b c d S3 (J.1) 4 cPoint _ ae (by decide)).mono ?_;rintro e w4 ⟨rfl,M,s⟩;rw[hd] at M ⊢;have K:=ag.trans s;clear s;go_wp2_with fail;refine (zgf C g b c d S3 (adv (J.1)) _ M).mono ?_;cases H:zq C true (adv (J.1)) with
   |error p=>
    rintro e w5 ⟨rfl,L⟩;have X:=(h.back K).trans L;have Z:Hid (pE C .part f q= .error p):=bdE HZ.o H;unfold Pan;go_wp2;refine⟨rfl,?_⟩;rw[Z.o];exact⟨rfl,X⟩
   |ok a5=>
    rintro e w5 ⟨rfl,S5,V,s⟩;have U:=K.trans s;clear s;have O:=zc (bdO HZ.o H);go_wp2_with fail;refine (zgk C g b c d S5 (a5.1) ⟨4,0,J.2,a5.2,0,0⟩ 5 _ V (by rw[(zbF H).1];exact succ_pos _)).mono ?_;cases ad:zb3 C ⟨4,0,J.2,a5.2,0,0⟩ 5 (a5.1) with
    |error p=>
     rintro e w6 ⟨rfl,L⟩;have X:=(h.back U).trans L;have Z:Hid (pE C .part f q= .error p):=O.o.trans ad;unfold Pan;go_wp2;refine⟨rfl,?_⟩;rw[Z.o];exact⟨rfl,X⟩
    |ok a6=>
     rintro e w6 ⟨rfl,S6,ai,s⟩;have aj:=U.trans s;clear s;have al:=zc (O.o.trans ad);go_wp2;go_ret;rw[al.o];exact⟨rfl,S6,ai,aj⟩
  |false=>
   have HZ:=zc (af.o.trans (if_neg (by rw[hd];decide)));go_wp2_with fail;refine (zV C g b c d S3 (J.1) 4 cPoint _ ae (by decide)).mono ?_;rintro e w4 ⟨rfl,M,s⟩;rw[hd] at M ⊢;have K:=ag.trans s;clear s;go_wp2_with fail;refine (zgk C g b c d S3 (J.1) ⟨2,0,J.2,sNone,0,0⟩ 3 _ M ac).mono ?_;cases H:zb3 C ⟨2,0,J.2,sNone,0,0⟩ 3 (J.1) with
   |error p=>
    rintro e w5 ⟨rfl,L⟩;have X:=(h.back K).trans L;have Z:Hid (pE C .part f q= .error p):=HZ.o.trans H;unfold Pan;go_wp2;refine⟨rfl,?_⟩;rw[Z.o];exact⟨rfl,X⟩
   |ok a5=>
    rintro e w5 ⟨rfl,S5,V,s⟩;have U:=K.trans s;clear s;have O:=zc (HZ.o.trans H);go_wp2;go_ret;rw[O.o];exact⟨rfl,S5,V,U⟩
theorem zkU (Z:Nat) (S:Sv) (q:PS) (w:World) (h:IM C g b c d S q w) (V:Z<=20) (U:zgl C g b c d k) (O:C.ts.length-q.pos<=k):
  Calls prog 272 #[.pointer (some ⟨d,0,none⟩),.int .i64 Z] w (zaa C g b c d (pE C .part Z q) id exI S w):=by
 cases J:((ze C q.pos).kind==2) with
 |true=>exact zqA C g b c d Z S q w h J
 |false=>
  cases K:isT C q.pos 4 zu with
  |true=>
   by_cases L:20<=Z
   ·exact zqB C g b c d Z S q w h J K L
   ·exact zqC C g b c d k Z S q w h J K (by omega) U O
  |false=>
   cases M:C.scr with
   |true=>
    cases N:isT C q.pos 1 zaM with
    |true=>exact zqD C g b c d Z S q w h J K M N
    |false=>exact zqE C g b c d Z S q w h J K M N
   |false=>exact zqF C g b c d Z S q w h J K M
theorem zqG (h:isT M P.pos 4 zG=false):pE M .prodT D P= .ok P:=by rw[zgP,if_neg (by rw[h];decide)]
theorem zqH (h:isT M P.pos 4 zG=true):pE M .prodT D P=bd (pE M .part D (adv P)) fun a=>bd (zZ M ⟨8,0,sNone,sNone,(P.ex.length:Int)-1,(a.ex.length:Int)-1⟩ a) (pE M .prodT D):=by rw[zgP,if_pos h,zX]
theorem zqI (h:isT M P.pos 4 zb0=false) (w:isT M P.pos 4 zcF=false):pE M .sumT D P= .ok P:=by rw[zfW,if_neg (by rw[h,w];decide)]
theorem zqJ (h:isT M P.pos 4 zb0=true):pE M .sumT D P=bd (pE M .prod D (adv P)) fun a=>bd (zZ M ⟨7,0,sNone,sNone,(P.ex.length:Int)-1,(a.ex.length:Int)-1⟩ a) (pE M .sumT D):=by
 rw[zfW,if_pos (by rw[h];exact Bool.or_true _),zX,zdR,if_pos h]
theorem zqK (h:isT M P.pos 4 zb0=false) (w:isT M P.pos 4 zcF=true):pE M .sumT D P=bd (pE M .prod D (adv P)) fun a=>bd (zZ M ⟨6,0,sNone,sNone,(P.ex.length:Int)-1,(a.ex.length:Int)-1⟩ a) (pE M .sumT D):=by
 rw[zfW,if_pos (by rw[w];rfl),zX,zdR,if_neg (by rw[h];decide)]
theorem ziD (f:Nat) (S:Sv) (q:PS) (w:World) (h:IM C g b c d S q w) (hd:f<=20) (hS:zgl C g b c d k) (hm:C.ts.length-q.pos<=k):
  Calls prog 268 #[.pointer (some ⟨d,0,none⟩),.int .i64 f] w (zaa C g b c d (pE C .prod f q) id exI S w):=by
 have HY:=zc (zkx C f q);go_enter func268,ntmps268;go_wp2_with fail;refine (zkU C g b c d k f S q _ h hd hS hm).mono ?_;cases N:pE C .part f q with
 |error p=>
  rintro e w1 ⟨rfl,Y⟩;have Z:Below c w w1:=(h.back (IS.refl _ _ _)).trans Y;have HX:Hid (pE C .prod f q= .error p):=bdE HY.o N;unfold Pan;go_wp2;refine⟨rfl,?_⟩;rw[HX.o];exact⟨rfl,Z⟩
 |ok a1=>
  rintro e w1 ⟨rfl,S1,al,ah⟩;have am:=zc (bdO HY.o N);unfold exI;have ap:=zbt N;go_wp2;go_loopg [5] (C.ts.length+1) (fun i l wr=>∃(U:Sv) (H:PS),l=exI H/\pE C .prod f q=pE C .prodT f H/\C.ts.length-H.pos<i/\C.ts.length-H.pos<=k/\IM C g b c d U H wr/\IS d S w U wr)
  case atStart=>exact⟨S1,a1,rfl,am.o,by omega,by omega,al,ah⟩
  case round=>
   obtain⟨U,H,rfl,hy,hk,ao,m',s'⟩:=hrel;have aa:=zc hy;have X:=m';have ae:=s';clear hy m' s';unfold exI;cases hi:isT C H.pos 4 zG with
   |false=>
    have HZ:=zc (aa.o.trans (zqG hi));go_wp2_with fail;refine (zV C g b c d U H 4 zG _ X (by decide)).mono ?_;rintro e w2 ⟨rfl,I,s⟩;rw[hi] at I ⊢;have K:=ae.trans s;clear s;go_wp2;go_ret;rw[HZ.o];exact⟨rfl,U,I,K⟩
   |true=>
    have an:=zaG hi (by decide);have HZ:=zc (aa.o.trans (zqH hi));go_wp2_with fail;refine (zV C g b c d U H 4 zG _ X (by decide)).mono ?_;rintro e w2 ⟨rfl,I,s⟩;rw[hi] at I ⊢;have K:=ae.trans s;clear s;go_wp2_with fail;refine (zkU C g b c d k f U (adv H) _ I hd hS (by rw[zH];omega)).mono ?_;cases O:pE C .part f (adv H) with
    |error p=>
     rintro e w3 ⟨rfl,Y⟩;have Z:=(h.back K).trans Y;have HX:Hid (pE C .prod f q= .error p):=bdE HZ.o O;unfold Pan;go_wp2;refine⟨rfl,?_⟩;rw[HX.o];exact⟨rfl,Z⟩
    |ok V=>
     rintro e w3 ⟨rfl,S3,aj,s⟩;have ad:=K.trans s;clear s;have ac:=zc (bdO HZ.o O);unfold exI;have ab:=zbt O;rw[zH] at ab;have ai:0<V.pos:=by omega
     go_wp2_with fail;refine (zfw C g b c d S3 V ⟨8,0,sNone,sNone,(H.ex.length:Int)-1,(V.ex.length:Int)-1⟩ _ aj ai).mono ?_;cases M:zZ C ⟨8,0,sNone,sNone,(H.ex.length:Int)-1,(V.ex.length:Int)-1⟩ V with
     |error p=>
      rintro e w4 ⟨rfl,Y⟩;have Z:=(h.back ad).trans Y;have HX:Hid (pE C .prod f q= .error p):=bdE ac.o M;unfold Pan;go_wp2;refine⟨rfl,?_⟩;rw[HX.o];exact⟨rfl,Z⟩
     |ok a4=>
      rintro e w4 ⟨rfl,S4,ag,s⟩;have af:=ad.trans s;clear s;have ak:=zc (bdO ac.o M);have HP:Hid (a4.pos=V.pos):=by show _=_;rw[(zbG M).1]
      go_wp2;go_roundg (gk-1)
      case rel=>exact⟨S4,a4,rfl,ak.o,by have:=HP.o;omega,by have:=HP.o;omega,ag,af⟩
      case measure=>omega
theorem zqL (f:Nat) (S:Sv) (q:PS) (w:World) (h:IM C g b c d S q w) (hd:f<=20) (hS:zgl C g b c d k) (hm:C.ts.length-q.pos<=k):
  Calls prog 255 #[.pointer (some ⟨d,0,none⟩),.int .i64 f] w (zaa C g b c d (pE C .sum f q) id exI S w):=by
 have HY:=zc (zkw C f q);go_enter func255,ntmps255;go_wp2_with fail;refine (ziD C g b c d k f S q _ h hd hS hm).mono ?_;cases ae:pE C .prod f q with
 |error p=>
  rintro e w1 ⟨rfl,I⟩;have HB:Below c w w1:=(h.back (IS.refl _ _ _)).trans I;have HX:Hid (pE C .sum f q= .error p):=bdE HY.o ae;unfold Pan;go_wp2;refine⟨rfl,?_⟩;rw[HX.o];exact⟨rfl,HB⟩
 |ok a1=>
  rintro e w1 ⟨rfl,S1,aq,am⟩;have an:=zc (bdO HY.o ae);unfold exI;have aw:=zbt ae;go_wp2;go_loopg [5] (C.ts.length+1) (fun i l wr=>∃(L:Sv) (H:PS),l=exI H/\pE C .sum f q=pE C .sumT f H/\C.ts.length-H.pos<i/\C.ts.length-H.pos<=k/\IM C g b c d L H wr/\IS d S w L wr)
  case atStart=>exact⟨S1,a1,rfl,an.o,by omega,by omega,aq,am⟩
  case round=>
   obtain⟨L,H,rfl,hy,hk,av,m',s'⟩:=hrel;have ah:=zc hy;have O:=m';have ak:=s';clear hy m' s';unfold exI;have au:=O.mem.few;cases hi:isT C H.pos 4 zb0 with
   |true=>
    have ad:=zaG hi (by decide);have HZ:=zc (ah.o.trans (zqJ hi));go_wp2_with fail;refine (zc4 C g b c d L H 4 zb0 _ O).mono ?_;rintro e w2 ⟨rfl,I⟩;rw[hi];have M:Hid (IM C g b c d L H w2):=O.later I;have Y:=(ak.trans (IS.below I));clear I;obtain⟨c0,c1,c2,c3,c4,c5,c6,c7,c8,c9,cf⟩:=zan M.o.cells;go_wp2_with fail;have U:Hid (IM C g b c d L (adv H) (w2.setCell ⟨d,1,none⟩ (.int .i64 ((H.pos:Int)+1)))):=M.o.adv ad;have V:IS d S w L (w2.setCell ⟨d,1,none⟩ (.int .i64 ((H.pos:Int)+1))):=Y.set _ _;refine (ziD C g b c d k f L (adv H) _ U.o hd hS (by rw[zH];omega)).mono ?_;cases ac:pE C .prod f (adv H) with
    |error p=>
     rintro e w4 ⟨rfl,I⟩;have HB:=(h.back V).trans I;have HX:Hid (pE C .sum f q= .error p):=bdE HZ.o ac;unfold Pan;go_wp2;refine⟨rfl,?_⟩;rw[HX.o];exact⟨rfl,HB⟩
    |ok a4=>
     rintro e w4 ⟨rfl,S4,af,s⟩;have X:=V.trans s;clear s;have al:=zc (bdO HZ.o ac);unfold exI;have Z:=zbt ac;rw[zH] at Z;have aj:0<a4.pos:=by omega
     go_wp2_with fail;refine (zfw C g b c d S4 a4 ⟨7,0,sNone,sNone,(H.ex.length:Int)-1,(a4.ex.length:Int)-1⟩ _ af aj).mono ?_;cases N:zZ C ⟨7,0,sNone,sNone,(H.ex.length:Int)-1,(a4.ex.length:Int)-1⟩ a4 with
     |error p=>
      rintro e w5 ⟨rfl,I⟩;have HB:=(h.back X).trans I;have HX:Hid (pE C .sum f q= .error p):=bdE al.o N;unfold Pan;go_wp2;refine⟨rfl,?_⟩;rw[HX.o];exact⟨rfl,HB⟩
     |ok a5=>
      rintro e w5 ⟨rfl,S5,ag,s⟩;have ab:=X.trans s;clear s;have aa:=zc (bdO al.o N);have HP:Hid (a5.pos=a4.pos):=by show _=_;rw[(zbG N).1]
      go_wp2;go_roundg (gk-1)
      case rel=>exact⟨S5,a5,rfl,aa.o,by have:=HP.o;omega,by have:=HP.o;omega,ag,ab⟩
      case measure=>omega
   |false=>
    cases hj:isT C H.pos 4 zcF with
    |true=>
     have ad:=zaG hj (by decide);have HZ:=zc (ah.o.trans (zqK hi hj));go_wp2_with fail;refine (zc4 C g b c d L H 4 zb0 _ O).mono ?_;rintro e w2 ⟨rfl,I⟩;rw[hi];have M:Hid (IM C g b c d L H w2):=O.later I;have Y:=(ak.trans (IS.below I));clear I;go_wp2_with fail;refine (zc4 C g b c d L H 4 zcF _ M.o).mono ?_;rintro e w3 ⟨rfl,I⟩;rw[hj];have U:Hid (IM C g b c d L H w3):=M.o.later I;have V:=(Y.trans (IS.below I));clear I;obtain⟨c0,c1,c2,c3,c4,c5,c6,c7,c8,c9,cf⟩:=zan U.o.cells;go_wp2_with fail;have af:=U.o.adv ad;have X:IS d S w L (w3.setCell ⟨d,1,none⟩ (.int .i64 ((H.pos:Int)+1))):=V.set _ _;refine (ziD C g b c d k f L (adv H) _ af hd hS (by rw[zH];omega)).mono ?_;cases N:pE C .prod f (adv H) with
     |error p=>
      rintro e w5 ⟨rfl,I⟩;have HB:=(h.back X).trans I;have HX:Hid (pE C .sum f q= .error p):=bdE HZ.o N;unfold Pan;go_wp2;refine⟨rfl,?_⟩;rw[HX.o];exact⟨rfl,HB⟩
     |ok a5=>
      rintro e w5 ⟨rfl,S5,ag,s⟩;have ab:=X.trans s;clear s;have aa:=zc (bdO HZ.o N);unfold exI;have Z:=zbt N;rw[zH] at Z;have aj:0<a5.pos:=by omega
      go_wp2_with fail;refine (zfw C g b c d S5 a5 ⟨6,0,sNone,sNone,(H.ex.length:Int)-1,(a5.ex.length:Int)-1⟩ _ ag aj).mono ?_;cases ai:zZ C ⟨6,0,sNone,sNone,(H.ex.length:Int)-1,(a5.ex.length:Int)-1⟩ a5 with
      |error p=>
       rintro e w6 ⟨rfl,I⟩;have HB:=(h.back ab).trans I;have HX:Hid (pE C .sum f q= .error p):=bdE aa.o ai;unfold Pan;go_wp2;refine⟨rfl,?_⟩;rw[HX.o];exact⟨rfl,HB⟩
      |ok a6=>
       rintro e w6 ⟨rfl,S6,ao,s⟩;have ap:=ab.trans s;clear s;have ar:=zc (bdO aa.o ai);have HP:Hid (a6.pos=a5.pos):=by show _=_;rw[(zbG ai).1]
       go_wp2;go_roundg (gk-1)
       case rel=>exact⟨S6,a6,rfl,ar.o,by have:=HP.o;omega,by have:=HP.o;omega,ao,ap⟩
       case measure=>omega
    |false=>
     have HZ:=zc (ah.o.trans (zqI hi hj));go_wp2_with fail;refine (zc4 C g b c d L H 4 zb0 _ O).mono ?_;rintro e w2 ⟨rfl,I⟩;rw[hi];have M:Hid (IM C g b c d L H w2):=O.later I;have Y:=(ak.trans (IS.below I));clear I;go_wp2_with fail;refine (zc4 C g b c d L H 4 zcF _ M.o).mono ?_;rintro e w3 ⟨rfl,I⟩;rw[hj];have U:Hid (IM C g b c d L H w3):=M.o.later I;have V:=(Y.trans (IS.below I));clear I;go_wp2;go_ret;rw[HZ.o];exact⟨rfl,L,U.o,V⟩
theorem zqM:zgl C g b c d k:=by
 induction k with
 |zero=>intro Z S q w H;omega
 |succ k L=>intro Z S q w H K h;exact zqL C g b c d k Z S q w h K L (by omega)
theorem zqN (Z:Nat) (S:Sv) (q:PS) (w:World) (h:IM C g b c d S q w) (J:Z<=20):
  Calls prog 255 #[.pointer (some ⟨d,0,none⟩),.int .i64 Z] w (zaa C g b c d (pE C .sum Z q) id exI S w):=zqM C g b c d _ Z S q w (Nat.lt_succ_self _) J h
theorem zkV: ∀{k:Nat} {q b:PS},zaO M K g k q= .ok b->b={q with pos:=q.pos+g}:=by
 induction g with
 |zero=>intro k q b h;cases h;rfl
 |succ g A=>
  intro k q b h;rw[zaO] at h;obtain⟨a,w,H⟩:=zr h;rw[A H,(zcj w).1];show ({q with pos:=q.pos+1+g}:PS)=_;congr 1;omega
theorem zqO (x:Sm): ∀u∈smL x,u.oneCell'=true:=by
 intro u h;simp[smL] at h;rcases h with rfl|rfl|rfl<;>rfl
def stmtI (C:Cx) (k:Int) (n s:BA0) (q:PS):PR:=bd (pE C .sum 0 q) fun a=>bd (zaO C s s.size 0 a) fun b=>zae C k n b
theorem zeJ (J:Int) (n s:BA0) (w:World) (h:IM C g b c d T p w) (hs:s.size<=100) (h0:0<s.size):
  Calls prog 237 #[.pointer (some ⟨d,0,none⟩),.int .i64 J,.string n,.string s] w (zaa C g b c d (stmtI C J n s p) id (fun _=>.tuple #[]) T w):=by
 obtain⟨i0,hi,ah,al,ak⟩:=info_parts Tryz.infoStmt;have HY:=zc (stmtI.eq_1 C J n s p);go_enter func237,ntmps237;go_wp2_with fail;refine (zqN C g b c d 0 T p _ h (by omega)).mono ?_;cases V:pE C .sum 0 p with
 |error f=>
  rintro e w1 ⟨rfl,X⟩;have HB:Below c w w1:=(h.back (IS.refl _ _ _)).trans X;have HX:Hid (stmtI C J n s p= .error f):=bdE HY.o V;unfold Pan;go_wp2;refine⟨rfl,?_⟩;rw[HX.o];exact⟨rfl,HB⟩
 |ok a1=>
  rintro e w1 ⟨rfl,S1,am,Y⟩;have ad:=zc (bdO HY.o V);unfold exI;go_wp2_with fail;refine (zi8 C g b c d S1 a1 s _ am hs).mono ?_;cases U:zaO C s s.size 0 a1 with
  |error f=>
   rintro e w2 ⟨rfl,X⟩;have HB:=(h.back Y).trans X;have HX:Hid (stmtI C J n s p= .error f):=bdE ad.o U;unfold Pan;go_wp2;refine⟨rfl,?_⟩;rw[HX.o];exact⟨rfl,HB⟩
  |ok H=>
   rintro e w2 ⟨rfl,S2,m,s⟩;have A:=zc m;have ab:=Y.trans s;clear m s;have ae:=zc (bdO ad.o U);have N:=zkV _ U;have ac:0<H.pos:=by rw[N];show 0<a1.pos+s.size;omega
   have HE:Hid (H.ex=a1.ex):=by show _=_;rw[N]
   clear N;have ao:=A.o.mem.inv.st;obtain⟨c0,c1,c2,c3,c4,c5,c6,c7,c8,c9,cf⟩:=zan A.o.cells;go_wp2_with fail;by_cases hn:H.st.length<80
   ·have HZ:=zc (ae.o.trans (show zae C J n H=_ from if_neg (by omega)));refine (zeE d H.st.length 80 _ (by omega)).mono ?_;rintro e w' ⟨rfl,hw⟩;rw[hw];clear hw w';have HN:Hid (some d≠S2.st.blk):=fun e=>A.o.free (.inr (.inr (.inr (.inl e.symm))));have an:=A.o.lt;have L:=fun M=>(A.o.mem.own.st.alloc M);have Z:=fun M=>(A.o.alloc M).mem.base;have aa:=fun M=>(A.o.alloc M).lt;have ag:=fun M=>(A.o.alloc M).cells;go_wp2_with (at_builtin;refine zbm _ rfl _ _ 56 rfl c 108 i0 _ 3 32 underlying56 hi ah al ak rfl (by decide) (by decide) S2.st H.st.length _ (by rfl) (L _) w2.heap.size (smL ⟨J,n,(a1.ex.length:Int)-1⟩) (by rfl) (by exact hN0 w2 _) rfl (zqO _) (by omega) (Z _) ?_;intro r' wz hr O af;have g2:=(O.block d (aa _) HN.o).trans (ag _);obtain⟨d0,d1,d2,d3,d4,d5,d6,d7,d8,d9,df⟩:=zan g2;have HR:Hid (OwnR wz c 108 3 r' (H.st.length+1) _):=hr;have aj:Hid (World.grownBy _ wz _):=O;have ai:Hid (_∨_):=af;clear hr O af g2 c0 c1 c2 c3 c4 c5 c6 c7 c8 c9 cf L Z aa ag);go_wp2;go_end0;obtain⟨m',s'⟩:=A.o.grow_st (bA0) aj.o HR.o ai.o hn;rw[HZ.o];rw[<-HE.o] at m';exact⟨rfl,_,m',ab.trans s'⟩
   ·have HZ:Hid (stmtI C J n s p= .error (zz C (H.pos-1))):=ae.o.trans (if_pos (by omega));refine (zfv C g b c d S2 H H.st.length 80 _ A.o (by omega) ac).mono ?_;rintro e wz ⟨rfl,X⟩;have HB:=(h.back ab).trans (X.mono A.o.mem.base);have HX:Hid (stmtI C J n s p= .error (zz C (H.pos-1))):=HZ.o;unfold Pan;go_wp2;refine⟨rfl,?_⟩;rw[HX.o];exact⟨rfl,HB⟩
def letJ (C:Cx) (k:Int) (q:PS):PR:=bd (zq C false q) fun a=>bd (zd C 4 cEq a.1) fun b=>stmtI C k a.2 cSemi b
def fnI (C:Cx) (q:PS):PR:=bd (zq C false q) fun a=>bd (zaO C cCall cCall.size 0 a.1) fun b=>bd (zd C 1 zfk b) fun c=>stmtI C 2 a.2 cSemiRight c
def printI (C:Cx) (q:PS):PR:=bd (zd C 4 zu q) fun a=>stmtI C 4 sNone cShutSemi a
theorem ziE (h:IM C g b c d T p V):
  Calls prog 227 #[.pointer (some ⟨d,0,none⟩)] V (zaa C g b c d (letJ C 1 p) id (fun _=>.tuple #[]) T V):=by
 have HY:=zc (letJ.eq_1 C 1 p);go_enter func227,ntmps227;go_wp2_with fail;refine (zdX C g b c d T p _ h).mono ?_;cases J:zq C false p with
 |error f=>
  rintro e w1 ⟨rfl,I⟩;have N:Below c V w1:=(h.back (IS.refl _ _ _)).trans I;have Y:Hid (letJ C 1 p= .error f):=bdE HY.o J;unfold Pan;go_wp2;refine⟨rfl,?_⟩;rw[Y.o];exact⟨rfl,N⟩
 |ok Z=>
  rintro e w1 ⟨rfl,S1,ae,L⟩;have X:=zc (bdO HY.o J);go_wp2_with fail;refine (zcI C g b c d S1 (Z.1) 61 _ ae).mono ?_;cases i:zd C 4 cEq (Z.1) with
  |error f=>
   rintro e w2 ⟨rfl,I⟩;have N:=(h.back L).trans I;have Y:Hid (letJ C 1 p= .error f):=bdE X.o i;unfold Pan;go_wp2;refine⟨rfl,?_⟩;rw[Y.o];exact⟨rfl,N⟩
  |ok a2=>
   rintro e w2 ⟨rfl,S2,aa,s⟩;have M:=L.trans s;clear s;have K:=zc (bdO X.o i);go_wp2_with fail;refine (zeJ C g b c d S2 a2 1 Z.2 cSemi _ aa (by decide) (by decide)).mono ?_;cases O:stmtI C 1 Z.2 cSemi a2 with
   |error f=>
    rintro e w3 ⟨rfl,I⟩;have N:=(h.back M).trans I;have Y:Hid (letJ C 1 p= .error f):=K.o.trans O;unfold Pan;go_wp2;refine⟨rfl,?_⟩;rw[Y.o];exact⟨rfl,N⟩
   |ok a3=>
    rintro e w3 ⟨rfl,S3,ab,s⟩;have ad:=M.trans s;clear s;have ac:=zc (K.o.trans O);go_wp2;go_end0;rw[ac.o];exact⟨rfl,S3,ab,ad⟩
theorem zkW (h:IM C g b c d T p V):
  Calls prog 214 #[.pointer (some ⟨d,0,none⟩)] V (zaa C g b c d (letJ C 3 p) id (fun _=>.tuple #[]) T V):=by
 have HY:=zc (letJ.eq_1 C 3 p);go_enter func214,ntmps214;go_wp2_with fail;refine (zdX C g b c d T p _ h).mono ?_;cases J:zq C false p with
 |error f=>
  rintro e w1 ⟨rfl,I⟩;have N:Below c V w1:=(h.back (IS.refl _ _ _)).trans I;have Y:Hid (letJ C 3 p= .error f):=bdE HY.o J;unfold Pan;go_wp2;refine⟨rfl,?_⟩;rw[Y.o];exact⟨rfl,N⟩
 |ok Z=>
  rintro e w1 ⟨rfl,S1,ae,L⟩;have X:=zc (bdO HY.o J);go_wp2_with fail;refine (zcI C g b c d S1 (Z.1) 61 _ ae).mono ?_;cases i:zd C 4 cEq (Z.1) with
  |error f=>
   rintro e w2 ⟨rfl,I⟩;have N:=(h.back L).trans I;have Y:Hid (letJ C 3 p= .error f):=bdE X.o i;unfold Pan;go_wp2;refine⟨rfl,?_⟩;rw[Y.o];exact⟨rfl,N⟩
  |ok a2=>
   rintro e w2 ⟨rfl,S2,aa,s⟩;have M:=L.trans s;clear s;have K:=zc (bdO X.o i);go_wp2_with fail;refine (zeJ C g b c d S2 a2 3 Z.2 cSemi _ aa (by decide) (by decide)).mono ?_;cases O:stmtI C 3 Z.2 cSemi a2 with
   |error f=>
    rintro e w3 ⟨rfl,I⟩;have N:=(h.back M).trans I;have Y:Hid (letJ C 3 p= .error f):=K.o.trans O;unfold Pan;go_wp2;refine⟨rfl,?_⟩;rw[Y.o];exact⟨rfl,N⟩
   |ok a3=>
    rintro e w3 ⟨rfl,S3,ab,s⟩;have ad:=M.trans s;clear s;have ac:=zc (K.o.trans O);go_wp2;go_end0;rw[ac.o];exact⟨rfl,S3,ab,ad⟩
theorem ziF (h:IM C g b c d T p V):
  Calls prog 228 #[.pointer (some ⟨d,0,none⟩)] V (zaa C g b c d (fnI C p) id (fun _=>.tuple #[]) T V):=by
 have HY:=zc (fnI.eq_1 C p);go_enter func228,ntmps228;go_wp2_with fail;refine (zdX C g b c d T p _ h).mono ?_;cases N:zq C false p with
 |error f=>
  rintro e w1 ⟨rfl,H⟩;have J:Below c V w1:=(h.back (IS.refl _ _ _)).trans H;have K:Hid (fnI C p= .error f):=bdE HY.o N;unfold Pan;go_wp2;refine⟨rfl,?_⟩;rw[K.o];exact⟨rfl,J⟩
 |ok a1=>
  rintro e w1 ⟨rfl,S1,ah,U⟩;have ab:=zc (bdO HY.o N);go_wp2_with fail;refine (zi8 C g b c d S1 (a1.1) cCall _ ah (by decide)).mono ?_;cases aa:zaO C cCall cCall.size 0 (a1.1) with
  |error f=>
   rintro e w2 ⟨rfl,H⟩;have J:=(h.back U).trans H;have K:Hid (fnI C p= .error f):=bdE ab.o aa;unfold Pan;go_wp2;refine⟨rfl,?_⟩;rw[K.o];exact⟨rfl,J⟩
  |ok a2=>
   rintro e w2 ⟨rfl,S2,ad,s⟩;have i:=U.trans s;clear s;have O:=zc (bdO ab.o aa);go_wp2_with fail;refine (zfu C g b c d S2 a2 zfk _ ad).mono ?_;cases X:zd C 1 zfk a2 with
   |error f=>
    rintro e w3 ⟨rfl,H⟩;have J:=(h.back i).trans H;have K:Hid (fnI C p= .error f):=bdE O.o X;unfold Pan;go_wp2;refine⟨rfl,?_⟩;rw[K.o];exact⟨rfl,J⟩
   |ok a3=>
    rintro e w3 ⟨rfl,S3,af,s⟩;have Z:=i.trans s;clear s;have Y:=zc (bdO O.o X);go_wp2_with fail;refine (zeJ C g b c d S3 a3 2 a1.2 cSemiRight _ af (by decide) (by decide)).mono ?_;cases M:stmtI C 2 a1.2 cSemiRight a3 with
    |error f=>
     rintro e w4 ⟨rfl,H⟩;have J:=(h.back Z).trans H;have K:Hid (fnI C p= .error f):=Y.o.trans M;unfold Pan;go_wp2;refine⟨rfl,?_⟩;rw[K.o];exact⟨rfl,J⟩
    |ok a4=>
     rintro e w4 ⟨rfl,S4,ae,s⟩;have ac:=Z.trans s;clear s;have ag:=zc (Y.o.trans M);go_wp2;go_end0;rw[ag.o];exact⟨rfl,S4,ae,ac⟩
theorem zkX (h:IM C g b c d T p V):
  Calls prog 229 #[.pointer (some ⟨d,0,none⟩)] V (zaa C g b c d (printI C p) id (fun _=>.tuple #[]) T V):=by
 have HY:=zc (printI.eq_1 C p);go_enter func229,ntmps229;go_wp2_with fail;refine (zcI C g b c d T p 40 _ h).mono ?_;cases H:zd C 4 zu p with
 |error f=>
  rintro e w1 ⟨rfl,O⟩;have X:Below c V w1:=(h.back (IS.refl _ _ _)).trans O;have Z:Hid (printI C p= .error f):=bdE HY.o H;unfold Pan;go_wp2;refine⟨rfl,?_⟩;rw[Z.o];exact⟨rfl,X⟩
 |ok a1=>
  rintro e w1 ⟨rfl,S1,Y,J⟩;have L:=zc (bdO HY.o H);go_wp2_with fail;refine (zeJ C g b c d S1 a1 4 sNone cShutSemi _ Y (by decide) (by decide)).mono ?_;cases K:stmtI C 4 sNone cShutSemi a1 with
  |error f=>
   rintro e w2 ⟨rfl,O⟩;have X:=(h.back J).trans O;have Z:Hid (printI C p= .error f):=L.o.trans K;unfold Pan;go_wp2;refine⟨rfl,?_⟩;rw[Z.o];exact⟨rfl,X⟩
  |ok a2=>
   rintro e w2 ⟨rfl,S2,N,s⟩;have i:=J.trans s;clear s;have U:=zc (L.o.trans K);go_wp2;go_end0;rw[U.o];exact⟨rfl,S2,N,i⟩
theorem zkY (h:IM C g b c d T p V):
  Calls prog 230 #[.pointer (some ⟨d,0,none⟩)] V (zaa C g b c d (stmtI C 5 sNone cSemi p) id (fun _=>.tuple #[]) T V):=by
 go_enter func230,ntmps230;go_wp2_with fail;refine (zeJ C g b c d T p 5 sNone cSemi _ h (by decide) (by decide)).mono ?_;cases J:stmtI C 5 sNone cSemi p with
 |error Z=>
  rintro e K ⟨rfl,O⟩;unfold Pan;go_wp2;refine⟨rfl,?_⟩;rw[J];exact⟨rfl,O⟩
 |ok a=>
  rintro e K ⟨rfl,L,M,N⟩;go_wp2;go_end0;rw[J];exact⟨rfl,L,M,N⟩
theorem zqP (h:IM C g b c d T p V):
  Calls prog 231 #[.pointer (some ⟨d,0,none⟩)] V (zaa C g b c d (stmtI C 6 sNone cSemi p) id (fun _=>.tuple #[]) T V):=by
 go_enter func231,ntmps231;go_wp2_with fail;refine (zeJ C g b c d T p 6 sNone cSemi _ h (by decide) (by decide)).mono ?_;cases J:stmtI C 6 sNone cSemi p with
 |error Z=>
  rintro e K ⟨rfl,O⟩;unfold Pan;go_wp2;refine⟨rfl,?_⟩;rw[J];exact⟨rfl,O⟩
 |ok a=>
  rintro e K ⟨rfl,L,M,N⟩;go_wp2;go_end0;rw[J];exact⟨rfl,L,M,N⟩
def zcX (C:Cx) (i:Nat):BA0:=if (ze C i).kind==1 then (ze C i).text else sNone
theorem zkZ (h:IM C g b c d T p V):
  Calls prog 213 #[.pointer (some ⟨d,0,none⟩)] V fun e w'=>e= .returned (.string (zcX C p.pos))/\Bw V w':=by
 cases L:((ze C p.pos).kind==1) with
 |true=>
  have J:Hid (zcX C p.pos=(ze C p.pos).text):=by show _=_;rw[zcX,L];rfl
  go_enter func213,ntmps213;go_wp2_with fail;refine (zbL C g b c d T p _ h).mono ?_;rintro e M ⟨rfl,H⟩;unfold tkV;go_wp2;go_ret;rw[J.o];exact⟨rfl,H.alloc H.size _⟩
 |false=>
  have J:Hid (zcX C p.pos=sNone):=by show _=_;rw[zcX,L];rfl
  go_enter func213,ntmps213;go_wp2_with fail;refine (zbL C g b c d T p _ h).mono ?_;rintro e M ⟨rfl,H⟩;unfold tkV;go_wp2;go_ret;rw[J.o];exact⟨rfl,H.alloc H.size _⟩
theorem OwnR.stmtName {l:List Sm} (h:OwnR A D 108 3 I (l++[R]).length ((l++[R]).flatMap smL)): ∃g,I.a=some ⟨g,0,none⟩/\A.cell? ⟨g,l.length*3+1,none⟩=some (.string R.name):=by
 rcases h.2 with ⟨_,L⟩|⟨g,K,J,q,_⟩
 ·simp at L
 ·simp only[vI] at q;have Z:=h;unfold OwnR at Z;rw[q.1,q.2.2] at Z;refine⟨g,q.1,?_⟩;rw[World.ownsRow.cellAt Z _ (by simp;omega)];have H: ∀l:List Sm,(l.flatMap smL).length=l.length*3:=by
   intro l
   induction l with
   |nil=>rfl
   |cons y l e=>simp[List.flatMap_cons,smL,e] at e ⊢;omega
  rw[List.flatMap_append,List.getElem?_append_right (by rw[H];omega),H];simp[smL]
theorem zqQ (l:List Sm) (x:Sm) (w:World) (h:IM C g b c d T p w) (Y:p.st=l++[x]) (O:x.name.size<=281474976710656) (hp:0<p.pos):
  Calls prog 251 #[.pointer (some ⟨d,0,none⟩)] w (zaa C g b c d (zv C ⟨1,x.name,x.name,sNone⟩ p) id (fun _=>.tuple #[]) T w):=by
 obtain⟨_,_,_,_,_,_,_,K,_,_,_⟩:=zan h.cells;have U:=h.mem.own.st;rw[Y] at U K;obtain⟨f,hg,hc⟩:=U.stmtName;have M:=h.mem.inv.st;rw[Y] at M;have L:(l++[x]).length=l.length+1:=by simp
 rw[L] at K M;rw[hg] at K;have C7:=zc K;have CN:=zc hc;have e1:((l.length+1:Nat):Int)-1=(l.length:Int):=by omega
 have e2:(l.length:Int)+1-1=(l.length:Int):=by omega
 have ad:IntKind.i64.wrap (l.length:Int)=(l.length:Int):=IntWalk.i64_in _ ⟨by omega,by omega⟩;have aa:(l.length:Int)<((l.length+1:Nat):Int):=by omega
 have ab:(l.length:Int)<(l.length:Int)+1:=by omega
 have cC: ∀i os,Calls prog 209 #[.string x.name] (grow (redrawn w i) os) fun e X=>e= .returned (.string x.name)/\∃j:Regrown,X=grow (redrawn w j.d) j.os:=fun i os=>Calls.regrown_of (zkP _ _ O);clear K hc U hg Y;go_enter func251,ntmps251;go_wp2_with fail;have k7:=cR0 C7.o;have kN:=cR0 CN.o;refine wp_region_quiet_below (by kernel_rfl) (by kernel_rfl) ?_
 repeat (go_big_quiet_step (exact cC _ _))
 refine wpQuiet_nil ?_;intro w1 N;obtain⟨⟨dq,ac⟩,A⟩:=N;have I:Bw w w1:=by show Below _ _ _;rw[A];exact below_regrown _ _ _
 clear A k7 kN cC C7 CN;have Z:=h.later I;go_wp2_with fail;refine (zgj C g b c d T p ⟨1,x.name,x.name,sNone⟩ _ Z hp).mono ?_;cases hn:zv C ⟨1,x.name,x.name,sNone⟩ p with
 |error j=>
  rintro e w2 ⟨rfl,hb⟩;have HB:=(I.mono h.mem.base).trans hb;unfold Pan;go_wp2;refine⟨rfl,?_⟩;rw[hn];exact⟨rfl,HB⟩
 |ok a=>
  rintro e w2 ⟨rfl,S1,HM,s⟩;have HS:IS d T w S1 w2:=(IS.below I).trans s;clear s;go_wp2;go_end0;rw[hn];exact⟨rfl,S1,HM,HS⟩
def Fr (e:TypeId) (size:Nat) (w:World) (b:Nat) (r:Rw) (n:Nat) (xs:List Value) (S:Sv):Prop:=OwnR w b e size r n xs/\∀k,r.blk=some k->¬S.has k
theorem Fr.ngp {size b n:Nat} {w:World} (f:Fr L size w b I n U N) (h:IM M D E F G N P w) (J:L≠222) {k:Nat} (Z:I.blk=some k):k≠G:=by
 rintro rfl;obtain⟨_,_,c,g⟩:=f.1.typed Z;rw[h.cells] at g;simp only[sI0,Obj.cells.injEq] at g;exact J g.2.1.symm
theorem Fr.ngt {size b n:Nat} {w:World} (f:Fr L size w b I n U N) (h:IM M D E F G N P w) (K:L≠157) {k:Nat} (j:I.blk=some k):k≠D:=by
 rintro rfl;obtain⟨_,_,c,g⟩:=f.1.typed j;obtain⟨Z,i⟩:=zgT h.mem.tok;rw[i] at g;simp only[sI0,Obj.cells.injEq] at g;exact K g.2.1.symm
theorem Fr.step {Z n:Nat} {i:Sv} {w:World} {r:Rw} (f:Fr L G w H r n U N) (h:IM M Z D E F N P w) (K:L≠222) (s:IS F N w i B):Fr L G B H r n U i:=by
 refine⟨f.1.keep fun k g=>s.block k (f.1.typed g).2.1 (f.2 k g) (f.ngp h K g),fun k g j=>?_⟩;rcases s.sub k j with J|J
 ·exact f.2 k g J
 ·have:=(f.1.typed g).2.1;omega
theorem Fr.low (f:Fr L D A E I G U N) (q:F<=E):Fr L D A F I G U N:=⟨f.1.low q,f.2⟩
theorem Fr.later {b:Nat} (f:Fr L D A b I E U N) (h:Bw A B):Fr L D B b I E U N:=⟨f.1.keep fun k g=>h.block k (f.1.typed g).2.1,f.2⟩
theorem IM.aside {W:World} (h:IM M D E F G N P W) (I:W.grownBy B X) (J: ∀k,X=some k->¬N.has k/\k≠G/\k≠D):IM M D E F G N P B:=by
 refine⟨⟨h.mem.own.keep fun k g=>I.block k (h.mem.own.has g).2 fun e=>(J k e.symm).1 g,h.mem.inv,zbV h.mem.tok (I.block D (za1 h.mem.tok).1 fun e=>(J D e.symm).2.2 rfl),h.mem.few,Nat.le_trans h.mem.base I.size⟩,(I.block G h.lt fun e=>(J G e.symm).2.1 rfl).trans h.cells,h.ge⟩
theorem IS.aside {J:World} (s:IS D N A O B) (h:B.grownBy J X) (K: ∀k,X=some k->A.heap.size<=k):IS D N A O J:=
 ⟨h.os.trans s.os,h.tape.trans s.tape,h.output.trans s.output,Nat.le_trans s.size h.size,fun k Z L q=>(h.block k (Nat.lt_of_lt_of_le Z s.size) fun e=>by have:=K k e.symm;omega).trans (s.block k Z L q),s.sub⟩
theorem Fr.grown {w:Rw} {J:List Value} {i v:Nat} (f:Fr L D A E I F U N) (h:IM M G i H v N P A) (Z:OwnR B E L D w (F+1) J) (l:w.blk=I.blk∨w.blk=some A.heap.size):Fr L D B E w (F+1) J N:=by
 refine⟨Z,fun k g j=>?_⟩;rcases l with y|y
 ·exact f.2 k (y.symm.trans g) j
 ·have o:A.heap.size=k:=oI (y.symm.trans g);have:=(h.mem.own.has j).2;omega
theorem zqR {α:Type} (f:α->List Value) (m:Nat) (q: ∀x,(f x).length=m) (l:List α):(l.flatMap f).length=l.length*m:=by
 induction l with
 |nil=>simp
 |cons y l h=>rw[List.flatMap_cons,List.length_append,q,h,List.length_cons,succ_mul];omega
theorem zqS {α:Type} (f:α->List Value) (m:Nat) (q: ∀x,(f x).length=m): ∀(l:List α) (j i:Nat) (x:α),l[j]? =some x->i<m->(l.flatMap f)[j*m+i]? =(f x)[i]?:=by
 intro l
 induction l with
 |nil=>intro j i x h;simp at h
 |cons y l A=>
  intro j i x h w;rw[List.flatMap_cons]
  match j with
  |0=>
   simp only[List.getElem?_cons_zero,sI0] at h;subst h;rw[Nat.zero_mul,Nat.zero_add,List.getElem?_append_left (by rw[q];exact w)]
  |j+1=>
   simp only[List.getElem?_cons_succ] at h;rw[List.getElem?_append_right (by rw[q,succ_mul];omega),q,<-A j i x h w];congr 1;rw[succ_mul];omega
theorem OwnR.elem {α:Type} {f:α->List Value} {m:Nat} (K: ∀x,(f x).length=m) {l:List α} (h:OwnR A D L m I l.length (l.flatMap f)) {j:Nat} {x:α} (v:l[j]? =some x): ∃g,I.a=some ⟨g,0,none⟩/\∀i,i<m->A.cell? ⟨g,j*m+i,none⟩=(f x)[i]?:=by
 have Z:j<l.length:=(gS v).1;rcases h.2 with ⟨_,O⟩|⟨g,o,J,q,_⟩
 ·omega
 ·simp only[vI] at q;have H:=h;unfold OwnR at H;rw[q.1,q.2.2] at H;refine⟨g,q.1,fun i N=>?_⟩;have M:j*m+i<l.length*m:=by
   have:=Nat.mul_le_mul_right m Z;rw[succ_mul] at this;omega
  rw[World.ownsRow.cellAt H _ M];exact zqS f m K l j i x v N
structure OwnMd (w:World) (base:Nat) (S:Sv) (m:Md):Prop where
 rq:OwnR w base 9 1 S.rq m.rq.length (m.rq.map .string)
 im:OwnR w base 101 3 S.im m.im.length (m.im.flatMap imL)
 ep:OwnR w base 103 4 S.ep m.ep.length (m.ep.flatMap epL)
 st:OwnR w base 108 3 S.st m.st.length (m.st.flatMap smL)
 ex:OwnR w base 106 6 S.ex m.ex.length (m.ex.flatMap exL)
theorem OwnMod.md (h:OwnMod A D N P):OwnMd A D N (zfo P):=⟨h.rq,h.im,h.ep,h.st,h.ex⟩
theorem OwnMd.later (h:OwnMd A D N Y) (q:Bw A B):OwnMd B D N Y:=
 ⟨h.rq.keep fun k g=>q.block k (h.rq.typed g).2.1,h.im.keep fun k g=>q.block k (h.im.typed g).2.1,h.ep.keep fun k g=>q.block k (h.ep.typed g).2.1,h.st.keep fun k g=>q.block k (h.st.typed g).2.1,h.ex.keep fun k g=>q.block k (h.ex.typed g).2.1⟩
theorem OwnMd.alloc {base:Nat} (h:OwnMd A base N Y) (o:Obj):OwnMd (A.alloc o) base N Y:=h.later (bA0)
def zo (S:Sv) (m:Md):Value:=.agg #[.slice S.rq.a m.rq.length S.rq.cap,.slice S.im.a m.im.length S.im.cap,.slice S.ep.a m.ep.length S.ep.cap,.slice S.st.a m.st.length S.st.cap,.slice S.ex.a m.ex.length S.ex.cap]
theorem OwnMd.expr (h:OwnMd A D N Y) {i:Nat} (H:i<Y.ex.length): ∃g,N.ex.a=some ⟨g,0,none⟩/\g<A.heap.size/\A.cell? ⟨g,i*6,none⟩=some (.int .i64 (Y.ex.getD i zj).kind)/\A.cell? ⟨g,i*6+1,none⟩=some (.int .i64 (Y.ex.getD i zj).num)/\A.cell? ⟨g,i*6+2,none⟩=some (.string (Y.ex.getD i zj).name)/\A.cell? ⟨g,i*6+3,none⟩=some (.string (Y.ex.getD i zj).field)/\A.cell? ⟨g,i*6+4,none⟩=some (.int .i64 (Y.ex.getD i zj).l)/\A.cell? ⟨g,i*6+5,none⟩=some (.int .i64 (Y.ex.getD i zj).r):=by
 obtain⟨g,Z,q⟩:=OwnR.elem (f:=exL) (m:=6) (fun _=>rfl) h.ex (gE H);rw[zeB H];exact⟨g,Z,(h.ex.typed (by rw[Rw.blk,Z];rfl)).2.1,q 0 (by omega),q 1 (by omega),q 2 (by omega),q 3 (by omega),q 4 (by omega),q 5 (by omega)⟩
def SameOut (P:Prop) (e:Ending):Prop:=∃b,e= .returned (.bool b)/\(b=true↔P)
theorem zb4 {α:Type} {l:List α} (h:D<l.length): ∃x,l[D]? =some x:=⟨_,gE h⟩
theorem zd8 {α:Type} {l1 q:List α} {x:α} (h:l1.take D=q.take D) (w:l1[D]? =some x) (A:q[D]? =some x):l1.take (D+1)=q.take (D+1):=by
 obtain⟨a,rfl⟩:=gS w;obtain⟨b,H⟩:=gS A;rw[tG a,tG b,h,H]
theorem zd9 {α:Type} {l1 q:List α} (w:l1.length=q.length) (h:l1.take l1.length=q.take l1.length):l1=q:=by
 rw[List.take_length,w,List.take_length] at h;exact h
theorem zgm {b:BA0} (h:(K.toList==b.toList)=true):K=b:=(ze6 K b).1 h
def ziG (x y:BA0):Bool:=x.toList==y.toList
theorem zhj {y:BA0}:ziG K y=true↔K=y:=⟨fun h=>zgm h,fun h=>by rw[h];exact beq_self_eq_true _⟩
def z0v (F:FuncId):Prop:=∀(a1 a2:Option Addr) (n1 n2 c1 c2:Nat) (w:World),(n1:Int)≠(n2:Int)->Calls prog F #[.slice a1 n1 c1,.slice a2 n2 c2] w fun e w'=>e= .returned (.bool false)/\Bw w w'
def z0w (F:FuncId):Prop:=∀(a1 a2:Option Addr) (c1 c2:Nat) (w:World),Calls prog F #[.slice a1 0 c1,.slice a2 0 c2] w fun e w'=>e= .returned (.bool true)/\Bw w w'
theorem zgn {α:Type} {i:FuncId} {f:α->List Value} {q:Rw} {l1 h:List α} (Y:OwnR A E L D I l1.length (l1.flatMap f)) (X:OwnR A F L D q h.length (h.flatMap f)) (N:z0v i) (J:z0w i) (row: ∀Z K:Nat,I.a=some ⟨Z,0,none⟩->q.a=some ⟨K,0,none⟩->l1.length=h.length->Calls prog i #[.slice (some ⟨Z,0,none⟩) l1.length I.cap,.slice (some ⟨K,0,none⟩) l1.length q.cap] A fun e w'=>SameOut (l1=h) e/\Bw A w'):
  Calls prog i #[.slice I.a l1.length I.cap,.slice q.a h.length q.cap] A fun e w'=>SameOut (l1=h) e/\Bw A w':=by
 by_cases l:l1.length=h.length
 ·rw[<-l];by_cases j:l1.length=0
  ·rw[j];refine (J _ _ _ _ A).mono ?_;rintro e w' ⟨rfl,M⟩;exact⟨⟨true,rfl,⟨fun _=>(by rw[List.eq_nil_of_length_eq_zero j,List.eq_nil_of_length_eq_zero (l.symm.trans j)]),fun _=>rfl⟩⟩,M⟩
  ·rcases Y.nil_or with ⟨_,_,e⟩|⟨Z,O⟩
   ·exact absurd e j
   ·rcases X.nil_or with ⟨_,_,e⟩|⟨K,U⟩
    ·exact absurd (l.trans e) j
    ·rw[O,U];exact row Z K O U l
 ·refine (N _ _ _ _ _ _ A (by omega)).mono ?_;rintro e w' ⟨rfl,M⟩;exact⟨⟨false,rfl,⟨fun k=>(by cases k),fun k=>absurd (by rw[k]) l⟩⟩,M⟩
theorem zqT:z0v 195:=by
 intro A H I J K q w h;go_enter func195,ntmps195;go_wp2;go_ret;exact⟨rfl,Below.refl _ _⟩
theorem zqU:z0w 195:=by
 intro q A H h w;go_enter func195,ntmps195;go_wp2;go_loopg [13] 1 (fun k i wr=>k=1/\i= .int .i64 0/\wr=w)
 case atStart=>exact⟨rfl,rfl,rfl⟩
 case round=>
  obtain⟨rfl,rfl,rfl⟩:=hrel;go_wp2;go_ret;exact⟨rfl,Below.refl _ _⟩
theorem zqV (w:World) (L:OwnR w g 9 1 S z.length (z.flatMap (fun x=>[Value.string x]))) (I:OwnR w b 9 1 q n.length (n.flatMap (fun x=>[Value.string x]))) (e1:S.a=some ⟨c,0,none⟩) (e2:q.a=some ⟨d,0,none⟩) (hl:z.length=n.length) (Y:z.length<=4294967296):
  Calls prog 195 #[.slice (some ⟨c,0,none⟩) z.length S.cap,.slice (some ⟨d,0,none⟩) z.length q.cap] w fun e w'=>SameOut (z=n) e/\Bw w w':=by
 have H1:=zc L;have H2:=zc I;have E1:=zc e1;have E2:=zc e2;have HL:=zc hl;clear L I e1 e2 hl;go_enter func195,ntmps195;go_wp2;go_loopg [13] z.length (fun k i wr=>∃j:Nat,i= .int .i64 j/\j+k=z.length/\z.take j=n.take j/\Bw w wr)
 case atStart=>exact⟨0,rfl,by omega,rfl,Below.refl _ _⟩
 case round=>
  obtain⟨j,rfl,hj,ht,Y⟩:=hrel;have K:=zc Y;have HT:=zc ht;clear Y ht;by_cases H:j<z.length
  ·have N:(j:Int)<(z.length:Int):=by omega
   obtain⟨x,hx⟩:=zb4 H;obtain⟨y,hy⟩:=zb4 (show j<n.length by rw[<-HL.o];exact H);obtain⟨g',ga,L⟩:=OwnR.elem (f:=(fun x=>[Value.string x])) (m:=1) (fun _=>rfl) (H1.o.keep fun k l=>K.o.block k (H1.o.typed l).2.1) hx;obtain rfl:g'=c:=by have:=ga.symm.trans E1.o;simpa using this
   obtain⟨g',gb,I⟩:=OwnR.elem (f:=(fun x=>[Value.string x])) (m:=1) (fun _=>rfl) (H2.o.keep fun k l=>K.o.block k (H2.o.typed l).2.1) hy;obtain rfl:g'=d:=by have:=gb.symm.trans E2.o;simpa using this
   have C0:=zc (L 0 (by omega));have D0:=zc (I 0 (by omega));have HX:=zc hx;have HY:=zc hy;clear L I ga gb hx hy;obtain⟨O,J⟩: ∃O,O=j+1:=⟨_,rfl⟩;have ej:(j:Int)+1=(O:Int):=by omega
   have HJ:=zc J;clear J;obtain⟨o,h⟩: ∃o,ziG x y=o:=⟨_,rfl⟩;have aa:(x.toList==y.toList)=o:=h;go_wp2;have k0:=cR0 C0.o;have m0:=cR0 D0.o;simp only[add_zero,Nat.mul_one] at k0 m0;refine wp_region_quiet_below (by kernel_rfl) (by kernel_rfl) ?_
   repeat (go_big_quiet_step (fail))
   refine wpQuiet_nil ?_;intro w2 U;obtain⟨⟨dq,X⟩,r⟩:=U;have M:Hid (Bw w w2):=by show Below _ _ _;rw[r];exact K.o.trans ((below_regrown wr dq X).mono K.o.size)
   clear r k0 m0 C0 D0;cases o with
   |true=>
    go_wp2;go_roundg (gk-1)
    case rel=>exact⟨O,rfl,by have:=HJ.o;omega,by rw[HJ.o];have e:=zhj.1 h;exact zd8 HT.o HX.o (by rw[e];exact HY.o),M.o⟩
    case measure=>omega
   |false=>
    go_wp2;go_ret;exact⟨⟨false,rfl,⟨fun k=>(by cases k),fun k=>(by have e:=HX.o;rw[k,HY.o] at e;cases e;rw[zhj.2 rfl] at h;cases h)⟩⟩,M.o⟩
  ·have N: ¬(j:Int)<(z.length:Int):=by omega
   obtain rfl:j=z.length:=by omega
   go_wp2;go_ret;exact⟨⟨true,rfl,⟨fun _=>zd9 HL.o HT.o,fun _=>rfl⟩⟩,K.o⟩
theorem zqW (J:OwnR V g 9 1 S z.length (z.flatMap (fun x=>[Value.string x]))) (I:OwnR V b 9 1 q n.length (n.flatMap (fun x=>[Value.string x]))) (O:z.length<=4294967296):
  Calls prog 195 #[.slice S.a z.length S.cap,.slice q.a n.length q.cap] V fun e w'=>SameOut (z=n) e/\Bw V w':=
 zgn J I zqT zqU fun L K M U N=>zqV g b L K S q z n V J I M U N O
def zdA (x y:Im):Bool:=x.spec.toList==y.spec.toList&&x.first.toList==y.first.toList&&x.loc.toList==y.loc.toList
theorem zhk {x y:Im}:zdA x y=true↔x=y:=by
 constructor
 ·intro h;unfold zdA at h;simp only[Bool.and_eq_true] at h;obtain⟨⟨A,q⟩,w⟩:=h;cases x;cases y;simp only at A q w;congr 1<;>first|(apply zgm;assumption)|(apply eq_of_beq;assumption)
 ·intro h;rw[h];simp[zdA]
theorem zqX:z0v 196:=by
 intro A H I J K q w h;go_enter func196,ntmps196;go_wp2;go_ret;exact⟨rfl,Below.refl _ _⟩
theorem zqY:z0w 196:=by
 intro q A H h w;go_enter func196,ntmps196;go_wp2;go_loopg [13] 1 (fun k i wr=>k=1/\i= .int .i64 0/\wr=w)
 case atStart=>exact⟨rfl,rfl,rfl⟩
 case round=>
  obtain⟨rfl,rfl,rfl⟩:=hrel;go_wp2;go_ret;exact⟨rfl,Below.refl _ _⟩
theorem zqZ (Y: ∀(x y:Im) (W:World),Sem.run prog (binOp .neq 101 (.agg #[.string x.spec,.string x.first,.string x.loc]) (.agg #[.string y.spec,.string y.first,.string y.loc])) W= .ok (.bool (!zdA x y)) W) (V: ∀(N:BinOp) (a b:Operand) (x y:Im) (W:World),Sem.run prog (eqGuard N 101 a b (.agg #[.string x.spec,.string x.first,.string x.loc]) (.agg #[.string y.spec,.string y.first,.string y.loc])) W= .ok () W) (b1 b2 g1 g2:Nat) (Z r2:Rw) (l1 I:List Im) (w:World) (H:OwnR w b1 101 3 Z l1.length (l1.flatMap imL)) (A:OwnR w b2 101 3 r2 I.length (I.flatMap imL)) (e1:Z.a=some ⟨g1,0,none⟩) (e2:r2.a=some ⟨g2,0,none⟩) (hl:l1.length=I.length) (hb:l1.length<=4294967296):
  Calls prog 196 #[.slice (some ⟨g1,0,none⟩) l1.length Z.cap,.slice (some ⟨g2,0,none⟩) l1.length r2.cap] w fun e w'=>SameOut (l1=I) e/\Bw w w':=by
 have H1:=zc H;have H2:=zc A;have E1:=zc e1;have E2:=zc e2;have HL:=zc hl;clear H A e1 e2 hl;go_enter func196,ntmps196;go_wp2;go_loopg [13] l1.length (fun k i wr=>∃j:Nat,i= .int .i64 j/\j+k=l1.length/\l1.take j=I.take j/\Bw w wr)
 case atStart=>exact⟨0,rfl,by omega,rfl,Below.refl _ _⟩
 case round=>
  obtain⟨j,rfl,hj,ht,hb⟩:=hrel;have L:=zc hb;have HT:=zc ht;clear hb ht;by_cases J:j<l1.length
  ·have O:(j:Int)<(l1.length:Int):=by omega
   obtain⟨x,hx⟩:=zb4 J;obtain⟨y,hy⟩:=zb4 (show j<I.length by rw[<-HL.o];exact J);obtain⟨g',ga,H⟩:=OwnR.elem (f:=imL) (m:=3) (fun _=>rfl) (H1.o.keep fun k g=>L.o.block k (H1.o.typed g).2.1) hx;obtain rfl:g'=g1:=by have:=ga.symm.trans E1.o;simpa using this
   obtain⟨g',gb,A⟩:=OwnR.elem (f:=imL) (m:=3) (fun _=>rfl) (H2.o.keep fun k g=>L.o.block k (H2.o.typed g).2.1) hy;obtain rfl:g'=g2:=by have:=gb.symm.trans E2.o;simpa using this
   have C0:=zc (H 0 (by omega));have D0:=zc (A 0 (by omega));have C1:=zc (H 1 (by omega));have D1:=zc (A 1 (by omega));have C2:=zc (H 2 (by omega));have D2:=zc (A 2 (by omega));have HX:=zc hx;have HY:=zc hy;clear H A ga gb hx hy;obtain⟨U,K⟩: ∃U,U=j+1:=⟨_,rfl⟩;have ej:(j:Int)+1=(U:Int):=by omega
   have HJ:=zc K;clear K;obtain⟨b,h⟩: ∃b,zdA x y=b:=⟨_,rfl⟩;have ab: ∀W:World,Sem.run prog (binOp .neq 101 (.agg #[.string x.spec,.string x.first,.string x.loc]) (.agg #[.string y.spec,.string y.first,.string y.loc])) W= .ok (.bool !b) W:=fun W=>by rw[Y,h]
   have ac: ∀(N:BinOp) (a b:Operand) (W:World),Sem.run prog (eqGuard N 101 a b (.agg #[.string x.spec,.string x.first,.string x.loc]) (.agg #[.string y.spec,.string y.first,.string y.loc])) W= .ok () W:=fun N a b W=>V N a b x y W;go_wp2;have k0:=cR0 C0.o;have m0:=cR0 D0.o;have k1:=cR0 C1.o;have m1:=cR0 D1.o;have k2:=cR0 C2.o;have m2:=cR0 D2.o;simp only[add_zero] at k0 m0;refine wp_region_quiet_below (by kernel_rfl) (by kernel_rfl) ?_
   repeat (go_big_quiet_step (fail))
   refine wpQuiet_nil ?_;intro w2 X;obtain⟨⟨dq,aa⟩,q⟩:=X;have M:Hid (Bw w w2):=by show Below _ _ _;rw[q];exact L.o.trans ((below_regrown wr dq aa).mono L.o.size)
   clear q k0 m0 C0 D0 k1 m1 C1 D1 k2 m2 C2 D2;cases b with
   |true=>
    go_wp2;go_roundg (gk-1)
    case rel=>exact⟨U,rfl,by have:=HJ.o;omega,by rw[HJ.o];have e:=zhk.1 h;exact zd8 HT.o HX.o (by rw[e];exact HY.o),M.o⟩
    case measure=>omega
   |false=>
    go_wp2;go_ret;exact⟨⟨false,rfl,⟨fun k=>(by cases k),fun k=>(by have e:=HX.o;rw[k,HY.o] at e;cases e;rw[zhk.2 rfl] at h;cases h)⟩⟩,M.o⟩
  ·have O: ¬(j:Int)<(l1.length:Int):=by omega
   obtain rfl:j=l1.length:=by omega
   go_wp2;go_ret;exact⟨⟨true,rfl,⟨fun _=>zd9 HL.o HT.o,fun _=>rfl⟩⟩,L.o⟩
theorem zra (I: ∀(x y:Im) (W:World),Sem.run prog (binOp .neq 101 (.agg #[.string x.spec,.string x.first,.string x.loc]) (.agg #[.string y.spec,.string y.first,.string y.loc])) W= .ok (.bool (!zdA x y)) W) (H: ∀(M:BinOp) (a b:Operand) (x y:Im) (W:World),Sem.run prog (eqGuard M 101 a b (.agg #[.string x.spec,.string x.first,.string x.loc]) (.agg #[.string y.spec,.string y.first,.string y.loc])) W= .ok () W) (J b2:Nat) (A q:Rw) (l1 h:List Im) (w:World) (L:OwnR w J 101 3 A l1.length (l1.flatMap imL)) (K:OwnR w b2 101 3 q h.length (h.flatMap imL)) (X:l1.length<=4294967296):
  Calls prog 196 #[.slice A.a l1.length A.cap,.slice q.a h.length q.cap] w fun e w'=>SameOut (l1=h) e/\Bw w w':=
 zgn L K zqX zqY fun O N U Y V=>zqZ I H J b2 O N A q l1 h w L K U Y V X
def zdB (x y:Ep):Bool:=x.kind==y.kind&&x.name.toList==y.name.toList&&x.loc.toList==y.loc.toList&&x.spec.toList==y.spec.toList
theorem zhl {x y:Ep}:zdB x y=true↔x=y:=by
 constructor
 ·intro h;unfold zdB at h;simp only[Bool.and_eq_true] at h;obtain⟨⟨⟨A,q⟩,w⟩,H⟩:=h;cases x;cases y;simp only at A q w H;congr 1<;>first|(apply zgm;assumption)|(apply eq_of_beq;assumption)
 ·intro h;rw[h];simp[zdB]
theorem zrb:z0v 197:=by
 intro A H I J K q w h;go_enter func197,ntmps197;go_wp2;go_ret;exact⟨rfl,Below.refl _ _⟩
theorem zrc:z0w 197:=by
 intro q A H h w;go_enter func197,ntmps197;go_wp2;go_loopg [13] 1 (fun k i wr=>k=1/\i= .int .i64 0/\wr=w)
 case atStart=>exact⟨rfl,rfl,rfl⟩
 case round=>
  obtain⟨rfl,rfl,rfl⟩:=hrel;go_wp2;go_ret;exact⟨rfl,Below.refl _ _⟩
theorem zrd (Y: ∀(x y:Ep) (W:World),Sem.run prog (binOp .neq 103 (.agg #[.int .i64 x.kind,.string x.name,.string x.loc,.string x.spec]) (.agg #[.int .i64 y.kind,.string y.name,.string y.loc,.string y.spec])) W= .ok (.bool (!zdB x y)) W) (V: ∀(N:BinOp) (a b:Operand) (x y:Ep) (W:World),Sem.run prog (eqGuard N 103 a b (.agg #[.int .i64 x.kind,.string x.name,.string x.loc,.string x.spec]) (.agg #[.int .i64 y.kind,.string y.name,.string y.loc,.string y.spec])) W= .ok () W) (b1 b2 g1 g2:Nat) (Z r2:Rw) (l1 I:List Ep) (w:World) (A:OwnR w b1 103 4 Z l1.length (l1.flatMap epL)) (q:OwnR w b2 103 4 r2 I.length (I.flatMap epL)) (e1:Z.a=some ⟨g1,0,none⟩) (e2:r2.a=some ⟨g2,0,none⟩) (hl:l1.length=I.length) (hb:l1.length<=4294967296):
  Calls prog 197 #[.slice (some ⟨g1,0,none⟩) l1.length Z.cap,.slice (some ⟨g2,0,none⟩) l1.length r2.cap] w fun e w'=>SameOut (l1=I) e/\Bw w w':=by
 have H1:=zc A;have H2:=zc q;have E1:=zc e1;have E2:=zc e2;have HL:=zc hl;clear A q e1 e2 hl;go_enter func197,ntmps197;go_wp2;go_loopg [13] l1.length (fun k i wr=>∃j:Nat,i= .int .i64 j/\j+k=l1.length/\l1.take j=I.take j/\Bw w wr)
 case atStart=>exact⟨0,rfl,by omega,rfl,Below.refl _ _⟩
 case round=>
  obtain⟨j,rfl,hj,ht,hb⟩:=hrel;have L:=zc hb;have HT:=zc ht;clear hb ht;by_cases J:j<l1.length
  ·have O:(j:Int)<(l1.length:Int):=by omega
   obtain⟨x,hx⟩:=zb4 J;obtain⟨y,hy⟩:=zb4 (show j<I.length by rw[<-HL.o];exact J);obtain⟨g',ga,A⟩:=OwnR.elem (f:=epL) (m:=4) (fun _=>rfl) (H1.o.keep fun k g=>L.o.block k (H1.o.typed g).2.1) hx;obtain rfl:g'=g1:=by have:=ga.symm.trans E1.o;simpa using this
   obtain⟨g',gb,q⟩:=OwnR.elem (f:=epL) (m:=4) (fun _=>rfl) (H2.o.keep fun k g=>L.o.block k (H2.o.typed g).2.1) hy;obtain rfl:g'=g2:=by have:=gb.symm.trans E2.o;simpa using this
   have C0:=zc (A 0 (by omega));have D0:=zc (q 0 (by omega));have C1:=zc (A 1 (by omega));have D1:=zc (q 1 (by omega));have C2:=zc (A 2 (by omega));have D2:=zc (q 2 (by omega));have C3:=zc (A 3 (by omega));have D3:=zc (q 3 (by omega));have HX:=zc hx;have HY:=zc hy;clear A q ga gb hx hy;obtain⟨U,K⟩: ∃U,U=j+1:=⟨_,rfl⟩;have ej:(j:Int)+1=(U:Int):=by omega
   have HJ:=zc K;clear K;obtain⟨b,h⟩: ∃b,zdB x y=b:=⟨_,rfl⟩;have ab: ∀W:World,Sem.run prog (binOp .neq 103 (.agg #[.int .i64 x.kind,.string x.name,.string x.loc,.string x.spec]) (.agg #[.int .i64 y.kind,.string y.name,.string y.loc,.string y.spec])) W= .ok (.bool !b) W:=fun W=>by rw[Y,h]
   have ac: ∀(N:BinOp) (a b:Operand) (W:World),Sem.run prog (eqGuard N 103 a b (.agg #[.int .i64 x.kind,.string x.name,.string x.loc,.string x.spec]) (.agg #[.int .i64 y.kind,.string y.name,.string y.loc,.string y.spec])) W= .ok () W:=fun N a b W=>V N a b x y W;go_wp2;have k0:=cR0 C0.o;have m0:=cR0 D0.o;have k1:=cR0 C1.o;have m1:=cR0 D1.o;have k2:=cR0 C2.o;have m2:=cR0 D2.o;have k3:=cR0 C3.o;have m3:=cR0 D3.o;simp only[add_zero] at k0 m0;refine wp_region_quiet_below (by kernel_rfl) (by kernel_rfl) ?_
   repeat (go_big_quiet_step (fail))
   refine wpQuiet_nil ?_;intro w2 X;obtain⟨⟨dq,aa⟩,H⟩:=X;have M:Hid (Bw w w2):=by show Below _ _ _;rw[H];exact L.o.trans ((below_regrown wr dq aa).mono L.o.size)
   clear H k0 m0 C0 D0 k1 m1 C1 D1 k2 m2 C2 D2 k3 m3 C3 D3;cases b with
   |true=>
    go_wp2;go_roundg (gk-1)
    case rel=>exact⟨U,rfl,by have:=HJ.o;omega,by rw[HJ.o];have e:=zhl.1 h;exact zd8 HT.o HX.o (by rw[e];exact HY.o),M.o⟩
    case measure=>omega
   |false=>
    go_wp2;go_ret;exact⟨⟨false,rfl,⟨fun k=>(by cases k),fun k=>(by have e:=HX.o;rw[k,HY.o] at e;cases e;rw[zhl.2 rfl] at h;cases h)⟩⟩,M.o⟩
  ·have O: ¬(j:Int)<(l1.length:Int):=by omega
   obtain rfl:j=l1.length:=by omega
   go_wp2;go_ret;exact⟨⟨true,rfl,⟨fun _=>zd9 HL.o HT.o,fun _=>rfl⟩⟩,L.o⟩
theorem zre (I: ∀(x y:Ep) (W:World),Sem.run prog (binOp .neq 103 (.agg #[.int .i64 x.kind,.string x.name,.string x.loc,.string x.spec]) (.agg #[.int .i64 y.kind,.string y.name,.string y.loc,.string y.spec])) W= .ok (.bool (!zdB x y)) W) (H: ∀(M:BinOp) (a b:Operand) (x y:Ep) (W:World),Sem.run prog (eqGuard M 103 a b (.agg #[.int .i64 x.kind,.string x.name,.string x.loc,.string x.spec]) (.agg #[.int .i64 y.kind,.string y.name,.string y.loc,.string y.spec])) W= .ok () W) (J b2:Nat) (A q:Rw) (l1 h:List Ep) (w:World) (L:OwnR w J 103 4 A l1.length (l1.flatMap epL)) (K:OwnR w b2 103 4 q h.length (h.flatMap epL)) (X:l1.length<=4294967296):
  Calls prog 197 #[.slice A.a l1.length A.cap,.slice q.a h.length q.cap] w fun e w'=>SameOut (l1=h) e/\Bw w w':=
 zgn L K zrb zrc fun O N U Y V=>zrd I H J b2 O N A q l1 h w L K U Y V X
def zdC (x y:Sm):Bool:=x.kind==y.kind&&x.name.toList==y.name.toList&&x.expr==y.expr
theorem zhm {y:Sm}:zdC R y=true↔R=y:=by
 constructor
 ·intro h;unfold zdC at h;simp only[Bool.and_eq_true] at h;obtain⟨⟨A,q⟩,w⟩:=h;cases R;cases y;simp only at A q w;congr 1<;>first|(apply zgm;assumption)|(apply eq_of_beq;assumption)
 ·intro h;rw[h];simp[zdC]
theorem zrf:z0v 198:=by
 intro A H I J K q w h;go_enter func198,ntmps198;go_wp2;go_ret;exact⟨rfl,Below.refl _ _⟩
theorem zrg:z0w 198:=by
 intro q A H h w;go_enter func198,ntmps198;go_wp2;go_loopg [13] 1 (fun k i wr=>k=1/\i= .int .i64 0/\wr=w)
 case atStart=>exact⟨rfl,rfl,rfl⟩
 case round=>
  obtain⟨rfl,rfl,rfl⟩:=hrel;go_wp2;go_ret;exact⟨rfl,Below.refl _ _⟩
theorem zrh (Y: ∀(x y:Sm) (W:World),Sem.run prog (binOp .neq 108 (.agg #[.int .i64 x.kind,.string x.name,.int .i64 x.expr]) (.agg #[.int .i64 y.kind,.string y.name,.int .i64 y.expr])) W= .ok (.bool (!zdC x y)) W) (V: ∀(N:BinOp) (a b:Operand) (x y:Sm) (W:World),Sem.run prog (eqGuard N 108 a b (.agg #[.int .i64 x.kind,.string x.name,.int .i64 x.expr]) (.agg #[.int .i64 y.kind,.string y.name,.int .i64 y.expr])) W= .ok () W) (b1 b2 g1 g2:Nat) (Z r2:Rw) (l1 I:List Sm) (w:World) (H:OwnR w b1 108 3 Z l1.length (l1.flatMap smL)) (A:OwnR w b2 108 3 r2 I.length (I.flatMap smL)) (e1:Z.a=some ⟨g1,0,none⟩) (e2:r2.a=some ⟨g2,0,none⟩) (hl:l1.length=I.length) (hb:l1.length<=4294967296):
  Calls prog 198 #[.slice (some ⟨g1,0,none⟩) l1.length Z.cap,.slice (some ⟨g2,0,none⟩) l1.length r2.cap] w fun e w'=>SameOut (l1=I) e/\Bw w w':=by
 have H1:=zc H;have H2:=zc A;have E1:=zc e1;have E2:=zc e2;have HL:=zc hl;clear H A e1 e2 hl;go_enter func198,ntmps198;go_wp2;go_loopg [13] l1.length (fun k i wr=>∃j:Nat,i= .int .i64 j/\j+k=l1.length/\l1.take j=I.take j/\Bw w wr)
 case atStart=>exact⟨0,rfl,by omega,rfl,Below.refl _ _⟩
 case round=>
  obtain⟨j,rfl,hj,ht,hb⟩:=hrel;have L:=zc hb;have HT:=zc ht;clear hb ht;by_cases J:j<l1.length
  ·have O:(j:Int)<(l1.length:Int):=by omega
   obtain⟨x,hx⟩:=zb4 J;obtain⟨y,hy⟩:=zb4 (show j<I.length by rw[<-HL.o];exact J);obtain⟨g',ga,H⟩:=OwnR.elem (f:=smL) (m:=3) (fun _=>rfl) (H1.o.keep fun k g=>L.o.block k (H1.o.typed g).2.1) hx;obtain rfl:g'=g1:=by have:=ga.symm.trans E1.o;simpa using this
   obtain⟨g',gb,A⟩:=OwnR.elem (f:=smL) (m:=3) (fun _=>rfl) (H2.o.keep fun k g=>L.o.block k (H2.o.typed g).2.1) hy;obtain rfl:g'=g2:=by have:=gb.symm.trans E2.o;simpa using this
   have C0:=zc (H 0 (by omega));have D0:=zc (A 0 (by omega));have C1:=zc (H 1 (by omega));have D1:=zc (A 1 (by omega));have C2:=zc (H 2 (by omega));have D2:=zc (A 2 (by omega));have HX:=zc hx;have HY:=zc hy;clear H A ga gb hx hy;obtain⟨U,K⟩: ∃U,U=j+1:=⟨_,rfl⟩;have ej:(j:Int)+1=(U:Int):=by omega
   have HJ:=zc K;clear K;obtain⟨b,h⟩: ∃b,zdC x y=b:=⟨_,rfl⟩;have ab: ∀W:World,Sem.run prog (binOp .neq 108 (.agg #[.int .i64 x.kind,.string x.name,.int .i64 x.expr]) (.agg #[.int .i64 y.kind,.string y.name,.int .i64 y.expr])) W= .ok (.bool !b) W:=fun W=>by rw[Y,h]
   have ac: ∀(N:BinOp) (a b:Operand) (W:World),Sem.run prog (eqGuard N 108 a b (.agg #[.int .i64 x.kind,.string x.name,.int .i64 x.expr]) (.agg #[.int .i64 y.kind,.string y.name,.int .i64 y.expr])) W= .ok () W:=fun N a b W=>V N a b x y W;go_wp2;have k0:=cR0 C0.o;have m0:=cR0 D0.o;have k1:=cR0 C1.o;have m1:=cR0 D1.o;have k2:=cR0 C2.o;have m2:=cR0 D2.o;simp only[add_zero] at k0 m0;refine wp_region_quiet_below (by kernel_rfl) (by kernel_rfl) ?_
   repeat (go_big_quiet_step (fail))
   refine wpQuiet_nil ?_;intro w2 X;obtain⟨⟨dq,aa⟩,q⟩:=X;have M:Hid (Bw w w2):=by show Below _ _ _;rw[q];exact L.o.trans ((below_regrown wr dq aa).mono L.o.size)
   clear q k0 m0 C0 D0 k1 m1 C1 D1 k2 m2 C2 D2;cases b with
   |true=>
    go_wp2;go_roundg (gk-1)
    case rel=>exact⟨U,rfl,by have:=HJ.o;omega,by rw[HJ.o];have e:=zhm.1 h;exact zd8 HT.o HX.o (by rw[e];exact HY.o),M.o⟩
    case measure=>omega
   |false=>
    go_wp2;go_ret;exact⟨⟨false,rfl,⟨fun k=>(by cases k),fun k=>(by have e:=HX.o;rw[k,HY.o] at e;cases e;rw[zhm.2 rfl] at h;cases h)⟩⟩,M.o⟩
  ·have O: ¬(j:Int)<(l1.length:Int):=by omega
   obtain rfl:j=l1.length:=by omega
   go_wp2;go_ret;exact⟨⟨true,rfl,⟨fun _=>zd9 HL.o HT.o,fun _=>rfl⟩⟩,L.o⟩
theorem zri (I: ∀(x y:Sm) (W:World),Sem.run prog (binOp .neq 108 (.agg #[.int .i64 x.kind,.string x.name,.int .i64 x.expr]) (.agg #[.int .i64 y.kind,.string y.name,.int .i64 y.expr])) W= .ok (.bool (!zdC x y)) W) (H: ∀(M:BinOp) (a b:Operand) (x y:Sm) (W:World),Sem.run prog (eqGuard M 108 a b (.agg #[.int .i64 x.kind,.string x.name,.int .i64 x.expr]) (.agg #[.int .i64 y.kind,.string y.name,.int .i64 y.expr])) W= .ok () W) (J b2:Nat) (A q:Rw) (l1 h:List Sm) (w:World) (L:OwnR w J 108 3 A l1.length (l1.flatMap smL)) (K:OwnR w b2 108 3 q h.length (h.flatMap smL)) (X:l1.length<=4294967296):
  Calls prog 198 #[.slice A.a l1.length A.cap,.slice q.a h.length q.cap] w fun e w'=>SameOut (l1=h) e/\Bw w w':=
 zgn L K zrf zrg fun O N U Y V=>zrh I H J b2 O N A q l1 h w L K U Y V X
def zdD (x y:Ex):Bool:=x.kind==y.kind&&x.num==y.num&&x.name.toList==y.name.toList&&x.field.toList==y.field.toList&&x.l==y.l&&x.r==y.r
theorem zhn {x y:Ex}:zdD x y=true↔x=y:=by
 constructor
 ·intro h;unfold zdD at h;simp only[Bool.and_eq_true] at h;obtain⟨⟨⟨⟨⟨I,A⟩,q⟩,J⟩,w⟩,H⟩:=h;cases x;cases y;simp only at I A q J w H;congr 1<;>first|(apply zgm;assumption)|(apply eq_of_beq;assumption)
 ·intro h;rw[h];simp[zdD]
theorem zrj:z0v 199:=by
 intro A H I J K q w h;go_enter func199,ntmps199;go_wp2;go_ret;exact⟨rfl,Below.refl _ _⟩
theorem zrk:z0w 199:=by
 intro q A H h w;go_enter func199,ntmps199;go_wp2;go_loopg [13] 1 (fun k i wr=>k=1/\i= .int .i64 0/\wr=w)
 case atStart=>exact⟨rfl,rfl,rfl⟩
 case round=>
  obtain⟨rfl,rfl,rfl⟩:=hrel;go_wp2;go_ret;exact⟨rfl,Below.refl _ _⟩
theorem zrl (Y: ∀(x y:Ex) (W:World),Sem.run prog (binOp .neq 106 (.agg #[.int .i64 x.kind,.int .i64 x.num,.string x.name,.string x.field,.int .i64 x.l,.int .i64 x.r]) (.agg #[.int .i64 y.kind,.int .i64 y.num,.string y.name,.string y.field,.int .i64 y.l,.int .i64 y.r])) W= .ok (.bool (!zdD x y)) W) (V: ∀(N:BinOp) (a b:Operand) (x y:Ex) (W:World),Sem.run prog (eqGuard N 106 a b (.agg #[.int .i64 x.kind,.int .i64 x.num,.string x.name,.string x.field,.int .i64 x.l,.int .i64 x.r]) (.agg #[.int .i64 y.kind,.int .i64 y.num,.string y.name,.string y.field,.int .i64 y.l,.int .i64 y.r])) W= .ok () W) (b1 b2 g1 g2:Nat) (Z r2:Rw) (l1 I:List Ex) (w:World) (q:OwnR w b1 106 6 Z l1.length (l1.flatMap exL)) (h:OwnR w b2 106 6 r2 I.length (I.flatMap exL)) (e1:Z.a=some ⟨g1,0,none⟩) (e2:r2.a=some ⟨g2,0,none⟩) (hl:l1.length=I.length) (hb:l1.length<=4294967296):
  Calls prog 199 #[.slice (some ⟨g1,0,none⟩) l1.length Z.cap,.slice (some ⟨g2,0,none⟩) l1.length r2.cap] w fun e w'=>SameOut (l1=I) e/\Bw w w':=by
 have H1:=zc q;have H2:=zc h;have E1:=zc e1;have E2:=zc e2;have HL:=zc hl;clear q h e1 e2 hl;go_enter func199,ntmps199;go_wp2;go_loopg [13] l1.length (fun k i wr=>∃j:Nat,i= .int .i64 j/\j+k=l1.length/\l1.take j=I.take j/\Bw w wr)
 case atStart=>exact⟨0,rfl,by omega,rfl,Below.refl _ _⟩
 case round=>
  obtain⟨j,rfl,hj,ht,hb⟩:=hrel;have L:=zc hb;have HT:=zc ht;clear hb ht;by_cases J:j<l1.length
  ·have O:(j:Int)<(l1.length:Int):=by omega
   obtain⟨x,hx⟩:=zb4 J;obtain⟨y,hy⟩:=zb4 (show j<I.length by rw[<-HL.o];exact J);obtain⟨g',ga,q⟩:=OwnR.elem (f:=exL) (m:=6) (fun _=>rfl) (H1.o.keep fun k g=>L.o.block k (H1.o.typed g).2.1) hx;obtain rfl:g'=g1:=by have:=ga.symm.trans E1.o;simpa using this
   obtain⟨g',gb,h⟩:=OwnR.elem (f:=exL) (m:=6) (fun _=>rfl) (H2.o.keep fun k g=>L.o.block k (H2.o.typed g).2.1) hy;obtain rfl:g'=g2:=by have:=gb.symm.trans E2.o;simpa using this
   have C0:=zc (q 0 (by omega));have D0:=zc (h 0 (by omega));have C1:=zc (q 1 (by omega));have D1:=zc (h 1 (by omega));have C2:=zc (q 2 (by omega));have D2:=zc (h 2 (by omega));have C3:=zc (q 3 (by omega));have D3:=zc (h 3 (by omega));have C4:=zc (q 4 (by omega));have D4:=zc (h 4 (by omega));have C5:=zc (q 5 (by omega));have D5:=zc (h 5 (by omega));have HX:=zc hx;have HY:=zc hy;clear q h ga gb hx hy;obtain⟨U,K⟩: ∃U,U=j+1:=⟨_,rfl⟩;have ej:(j:Int)+1=(U:Int):=by omega
   have HJ:=zc K;clear K;obtain⟨b,A⟩: ∃b,zdD x y=b:=⟨_,rfl⟩;have ab: ∀W:World,Sem.run prog (binOp .neq 106 (.agg #[.int .i64 x.kind,.int .i64 x.num,.string x.name,.string x.field,.int .i64 x.l,.int .i64 x.r]) (.agg #[.int .i64 y.kind,.int .i64 y.num,.string y.name,.string y.field,.int .i64 y.l,.int .i64 y.r])) W= .ok (.bool !b) W:=fun W=>by rw[Y,A]
   have ac: ∀(N:BinOp) (a b:Operand) (W:World),Sem.run prog (eqGuard N 106 a b (.agg #[.int .i64 x.kind,.int .i64 x.num,.string x.name,.string x.field,.int .i64 x.l,.int .i64 x.r]) (.agg #[.int .i64 y.kind,.int .i64 y.num,.string y.name,.string y.field,.int .i64 y.l,.int .i64 y.r])) W= .ok () W:=fun N a b W=>V N a b x y W;go_wp2;have k0:=cR0 C0.o;have m0:=cR0 D0.o;have k1:=cR0 C1.o;have m1:=cR0 D1.o;have k2:=cR0 C2.o;have m2:=cR0 D2.o;have k3:=cR0 C3.o;have m3:=cR0 D3.o;have k4:=cR0 C4.o;have m4:=cR0 D4.o;have k5:=cR0 C5.o;have m5:=cR0 D5.o;simp only[add_zero] at k0 m0;refine wp_region_quiet_below (by kernel_rfl) (by kernel_rfl) ?_
   repeat (go_big_quiet_step (fail))
   refine wpQuiet_nil ?_;intro w2 X;obtain⟨⟨dq,aa⟩,H⟩:=X;have M:Hid (Bw w w2):=by show Below _ _ _;rw[H];exact L.o.trans ((below_regrown wr dq aa).mono L.o.size)
   clear H k0 m0 C0 D0 k1 m1 C1 D1 k2 m2 C2 D2 k3 m3 C3 D3 k4 m4 C4 D4 k5 m5 C5 D5;cases b with
   |true=>
    go_wp2;go_roundg (gk-1)
    case rel=>exact⟨U,rfl,by have:=HJ.o;omega,by rw[HJ.o];have e:=zhn.1 A;exact zd8 HT.o HX.o (by rw[e];exact HY.o),M.o⟩
    case measure=>omega
   |false=>
    go_wp2;go_ret;exact⟨⟨false,rfl,⟨fun k=>(by cases k),fun k=>(by have e:=HX.o;rw[k,HY.o] at e;cases e;rw[zhn.2 rfl] at A;cases A)⟩⟩,M.o⟩
  ·have O: ¬(j:Int)<(l1.length:Int):=by omega
   obtain rfl:j=l1.length:=by omega
   go_wp2;go_ret;exact⟨⟨true,rfl,⟨fun _=>zd9 HL.o HT.o,fun _=>rfl⟩⟩,L.o⟩
theorem zrm (I: ∀(x y:Ex) (W:World),Sem.run prog (binOp .neq 106 (.agg #[.int .i64 x.kind,.int .i64 x.num,.string x.name,.string x.field,.int .i64 x.l,.int .i64 x.r]) (.agg #[.int .i64 y.kind,.int .i64 y.num,.string y.name,.string y.field,.int .i64 y.l,.int .i64 y.r])) W= .ok (.bool (!zdD x y)) W) (H: ∀(M:BinOp) (a b:Operand) (x y:Ex) (W:World),Sem.run prog (eqGuard M 106 a b (.agg #[.int .i64 x.kind,.int .i64 x.num,.string x.name,.string x.field,.int .i64 x.l,.int .i64 x.r]) (.agg #[.int .i64 y.kind,.int .i64 y.num,.string y.name,.string y.field,.int .i64 y.l,.int .i64 y.r])) W= .ok () W) (J b2:Nat) (A q:Rw) (l1 h:List Ex) (w:World) (L:OwnR w J 106 6 A l1.length (l1.flatMap exL)) (K:OwnR w b2 106 6 q h.length (h.flatMap exL)) (X:l1.length<=4294967296):
  Calls prog 199 #[.slice A.a l1.length A.cap,.slice q.a h.length q.cap] w fun e w'=>SameOut (l1=h) e/\Bw w w':=
 zgn L K zrj zrk fun O N U Y V=>zrl I H J b2 O N A q l1 h w L K U Y V X
open Go.Deep
theorem zev {α:Type} {f:α->List Value} {m:Nat} (h: ∀x,(f x).length=m) (l:List α):(l.flatMap f).length=l.length*m:=zqR f m h l
def OwnC (w:World) (base:Nat) (e:TypeId) (m g n:Nat) (cs:List Value) (c:Nat):Prop:=
 ∃xs,w.ownsRow base e m (.slice (some ⟨g,0,none⟩) n n) n xs/\∀i,i<c->xs[i]? =cs[i]?
variable {w:World} {g b c:Nat} {W:TypeId} {C:List Value}
theorem OwnC.has {S z:Nat} (h:OwnC w g W c S b C z) (j:Nat) (A:j<b*c): ∃v,w.cell? ⟨S,j,none⟩=some v:=by
 obtain⟨J,q,_⟩:=h;have I:=q.1;rw[q.cellAt j A];exact⟨_,gE (by omega)⟩
theorem OwnC.free {S z:Nat} (h:OwnC w g W c S b C z) (j:Nat):w.frozen? ⟨S,j,none⟩=false:=by
 obtain⟨H,q,_⟩:=h;exact q.frozenAt j
theorem OwnC.put {S z:Nat} {e:TypeId} (h:OwnC w g e c S b C z) {v:Value} (M:z<b*c) (H:C[z]? =some v):OwnC (w.setCell ⟨S,z,none⟩ v) g e c S b C (z+1):=by
 obtain⟨L,A,I⟩:=h;have J:=A.1;refine⟨_,(A.stored z v).1,fun j K=>?_⟩;by_cases e:j=z
 ·rw[e,List.getElem?_set,if_pos rfl,if_pos (by omega),H]
 ·rw[List.getElem?_set,if_neg (by omega)];exact I j (by omega)
theorem OwnC.lt {base g S:Nat} (h:OwnC w base W c g b C S):g<w.heap.size/\base<=g:=by
 obtain⟨M,J,_⟩:=h;rcases J.2 with ⟨q,_⟩|⟨N,A,H,q,K,L,_⟩
 ·simp at q
 ·simp only[vI,sI0,Addr.mk.injEq,and_true,true_and] at q;obtain⟨rfl,rfl⟩:=q;exact⟨(aLt L),K⟩
theorem OwnC.later {w':World} {S z:Nat} (h:OwnC w g W c S b C z) (U:Bw w w'):OwnC w' g W c S b C z:=by
 have H:=h.lt.1;obtain⟨O,K,M⟩:=h;refine⟨O,⟨K.1,?_⟩,M⟩;rcases K.2 with k|⟨X,L,A,I,q,V,N⟩
 ·exact .inl k
 ·simp only[vI,sI0,Addr.mk.injEq,and_true,true_and] at I;obtain⟨rfl,rfl⟩:=I;exact .inr ⟨S,b,A,rfl,q,(U.block S H).trans V,N⟩
theorem OwnC.all {S:Nat} (h:OwnC w g W c S b C (b*c)) (L:C.length=b*c):OwnR w g W c ⟨some ⟨S,0,none⟩,b⟩ b C:=by
 obtain⟨I,A,H⟩:=h;have K:I=C:=by
  apply List.ext_getElem?;intro i;by_cases J:i<b*c
  ·exact H i J
  ·have:=A.1;rw[List.getElem?_eq_none (by omega),List.getElem?_eq_none (by omega)]
 rw[K] at A;exact A
def zf0 (w:World) (t:TypeId) (m n:Nat) (cs:List Value) (e:Ending) (w':World):Prop:=∃g,e= .returned (.slice (some ⟨g,0,none⟩) n n)/\OwnR w' w.heap.size t m ⟨some ⟨g,0,none⟩,n⟩ n cs/\Bw w w'
def zE {α:Type} (c:α->Nat) (l:List α):Nat:=(l.map c).sum
theorem zeM {α:Type} (c:α->Nat) {l:List α} {x:α} (h:l[g]? =some x):zE c (l.take (g+1))=zE c (l.take g)+c x:=by
 obtain⟨q,rfl⟩:=gS h;rw[tG q,zE,List.map_append,List.sum_append];simp[zE]
def zb6 (x:BA0):Nat:=x.size
def zcn (x:Im):Nat:=x.spec.size+x.first.size+x.loc.size
def zco (x:Ep):Nat:=x.name.size+x.loc.size+x.spec.size
def zc7 (x:Sm):Nat:=x.name.size
def zda (x:Ex):Nat:=x.name.size+x.field.size
def zaU (m:Md):Nat:=(m.rq.length+zE zb6 m.rq)+(m.im.length+zE zcn m.im)+(m.ep.length+zE zco m.ep)+(m.st.length+zE zc7 m.st)+(m.ex.length+zE zda m.ex)
set_option maxHeartbeats 1600000
def zbs (e:Ep):Im:=⟨sNone,e.loc,e.name⟩
def zbN (C:Cx) (exp:Bool) (q:PS):Except Nat (PS×Ep):=bd (zq C true q) fun a=>bd (asP C exp a) fun b=>.ok (b.1,⟨0,b.2,a.2,sNone⟩)
theorem zlI (C:Cx) (h:Bool) (q:PS) (acc:List Ep):zaC C h q acc=bd (zbN C h q) fun x=>
  if isT C x.1.pos 4 zbS then zaC C h (adv x.1) (acc++[x.2]) else bd (zd C 4 zbE x.1) fun q'=>.ok (q',acc++[x.2]):=by
 rw[zgU,zbN,zX];refine zam fun a _=>?_;rw[zX];rfl
variable {C:Cx} {q:PS} {w:World} {g:Nat} {W:TypeId} {S:Value}
theorem zsI {a:PS×BA0} (w:zq C true q= .ok a) (h:isT C a.1.pos 1 sAs=true):zbN C false q=bd (zq C false (adv a.1)) fun b=>.ok (b.1,⟨0,b.2,a.2,sNone⟩):=by
 rw[zbN,w,zJ,asP,if_pos h]
theorem zsJ {a:PS×BA0} (A:zq C true q= .ok a) (h:isT C a.1.pos 1 sAs=false) (w:(a.2.toList==[100,101,102,97,117,108,116])=true):zbN C false q= .error (zz C a.1.pos):=by
 rw[zbN,A,zJ,asP,if_neg (by rw[h];decide),if_pos (by rw[w];rfl)];rfl
theorem zsK {a:PS×BA0} (A:zq C true q= .ok a) (h:isT C a.1.pos 1 sAs=false) (w:(a.2.toList==[100,101,102,97,117,108,116])=false):zbN C false q= .ok (a.1,⟨0,a.2,a.2,sNone⟩):=by
 rw[zbN,A,zJ,asP,if_neg (by rw[h];decide),if_neg (by rw[w];decide)];rfl
theorem zg {v1 v2:Value} (h:w.heap[g]? =some (.cells #[S,v1,v2] W (0,0))):
  w.cell? ⟨g,0,none⟩=some S/\w.cell? ⟨g,1,none⟩=some v1/\w.cell? ⟨g,2,none⟩=some v2/\∀i,w.frozen? ⟨g,i,none⟩=false:=by
 refine⟨?_,?_,?_,fun i=>?_⟩<;>simp[World.cell?,World.frozen?,h]
theorem put3 {v1 v2 q H A:Value} (h:w.heap[g]? =some (.cells #[S,v1,v2] W (0,0))):
  (((w.setCell ⟨g,0,none⟩ q).setCell ⟨g,1,none⟩ H).setCell ⟨g,2,none⟩ A).heap[g]? =some (.cells #[q,H,A] W (0,0)):=by
 have e:=zaj (i:=2) (u:=A) (zaj (i:=1) (u:=H) (zaj (i:=0) (u:=q) h));rw[e];simp
theorem zsL (C:Cx) (N H base L:Nat) (S:Sv) (q:PS) (w:World) (h:IM C N H base L S q w):
  Calls prog 264 #[.pointer (some ⟨L,0,none⟩)] w (zaa C N H base L (zbN C false q) (·.1) (fun a=>imV (zbs a.2)) S w):=by
 have K:w.heap.size≠L:=by have:=h.lt;omega
 have J:w.heap.size≠N:=by have:=(za1 h.mem.tok).1;omega
 go_enter func264,ntmps264;go_wp2_with fail;refine (zgf C N H base L S q _ (h.alloc _)).mono ?_;cases M:zq C true q with
 |error p=>
  rintro e w1 ⟨rfl,hb⟩;have HB:Below base w w1:=(h.back ((IS.refl _ _ _).alloc _)).trans hb;have Z:Hid (zbN C false q= .error p):=by show _=_;rw[zbN,M];rfl
  unfold Pan;go_wp2;refine⟨rfl,?_⟩;rw[Z.o];exact⟨rfl,HB⟩
 |ok a=>
  rintro e w1 ⟨rfl,X,V,U⟩;cases hi:isT C a.1.pos 1 sAs with
  |true=>
   have HY:=zc (zsI M hi);go_wp2_with fail;refine (zV C N H base L X a.1 1 sAs _ V (by decide)).mono ?_;rintro e w2 ⟨rfl,A,s⟩;rw[hi] at A ⊢;have I:=U.trans s;clear s;go_wp2_with fail;refine (zdX C N H base L X (adv a.1) _ A).mono ?_;cases aa:zq C false (adv a.1) with
   |error p=>
    rintro e w3 ⟨rfl,hb⟩;have HB:=(h.back I.from).trans hb;have Z:Hid (zbN C false q= .error p):=bdE HY.o aa;unfold Pan;go_wp2;refine⟨rfl,?_⟩;rw[Z.o];exact⟨rfl,HB⟩
   |ok c=>
    rintro e w3 ⟨rfl,S3,ab,s⟩;have Y:=I.trans s;clear s;have Z:=zc (bdO HY.o aa);have HG:Hid (w3.heap[w.heap.size]? =some (.cells #[.string sNone,.string sNone,.string sNone] 101 (0,0))):=IS.kept h Y rfl;have O:Hid (¬S3.has w.heap.size):=IS.free h Y;obtain⟨b0,b1,b2,bf⟩:=zg HG.o;go_wp2;refine bodyPost_ret (results_cell_row rfl _ _ w.heap.size 101 _ (0,0) _ rfl (put3 HG.o) underlying101 rfl (by kernel_rfl)) rfl ?_;rw[Z.o];exact⟨rfl,S3,((ab.set K J O.o _ _).set K J O.o _ _).set K J O.o _ _,((Y.from.new (Nat.le_refl _) _ _).new (Nat.le_refl _) _ _).new (Nat.le_refl _) _ _⟩
  |false=>
   cases hd:(a.2.toList==[100,101,102,97,117,108,116]) with
   |true=>
    have HY:=zc (zsJ M hi hd);go_wp2_with fail;refine (zV C N H base L X a.1 1 sAs _ V (by decide)).mono ?_;rintro e w2 ⟨rfl,A,s⟩;rw[hi] at A ⊢;have I:=U.trans s;clear s;go_wp2_with fail;refine (zft C N H base L X a.1 _ A).mono ?_;rintro e w3 ⟨rfl,hb⟩;have HB:=(h.back I.from).trans (hb.mono A.mem.base);unfold Pan;go_wp2;refine⟨rfl,?_⟩;rw[HY.o];exact⟨rfl,HB⟩
   |false=>
    have Z:=zc (zsK M hi hd);go_wp2_with fail;refine (zV C N H base L X a.1 1 sAs _ V (by decide)).mono ?_;rintro e w2 ⟨rfl,A,s⟩;rw[hi] at A ⊢;have I:=U.trans s;clear s;have HG:Hid (w2.heap[w.heap.size]? =some (.cells #[.string sNone,.string sNone,.string sNone] 101 (0,0))):=IS.kept h I rfl;have O:Hid (¬X.has w.heap.size):=IS.free h I;obtain⟨b0,b1,b2,bf⟩:=zg HG.o;go_wp2;refine bodyPost_ret (results_cell_row rfl _ _ w.heap.size 101 _ (0,0) _ rfl (put3 HG.o) underlying101 rfl (by kernel_rfl)) rfl ?_;rw[Z.o];exact⟨rfl,X,((A.set K J O.o _ _).set K J O.o _ _).set K J O.o _ _,((I.from.new (Nat.le_refl _) _ _).new (Nat.le_refl _) _ _).new (Nat.le_refl _) _ _⟩
variable (w:List Sm) (W:List Ex) (C:Nat->Nat) (S:List Sm) (q:List Ex) (z:Int) (g:Nat) (s:Nat->Nat) {b:List Ex} {c:Nat} {d:List Sm}
theorem zmb:za0 (W++q) z=za0 W z+za0 q z:=by simp[za0]
theorem zmc:zaW (w++S) z=zaW w z+zaW S z:=by simp[zaW]
theorem zmd (h:c<b.length) (k:Int):za0 (b.take (c+1)) k=za0 (b.take c) k+u1 b[c] k:=by
 rw[tG h,zmb];simp[za0,u1]
theorem zt0 (q:c<d.length) (k:Int):zaW (d.take (c+1)) k=zaW (d.take c) k+if d[c].expr==k then 1 else 0:=by
 rw[tG q,zmc];simp[zaW]
theorem zh7:za0 W z<=2*W.length:=by
 induction W with
 |nil=>simp[za0]
 |cons x l h=>
  rw[show x::l=[x]++l from rfl,zmb];have:za0 [x] z<=2:=by
   simp only[za0,List.map_cons,List.map_nil,List.sum_cons,List.sum_nil]
   split
   ·split<;>split<;>omega
   ·omega
  simp only[List.length_append,List.length_cons,List.length_nil];omega
theorem zme:zaW w z<=w.length:=by
 induction w with
 |nil=>simp[zaW]
 |cons x l q=>
  rw[show x::l=[x]++l from rfl,zmc];have:zaW [x] z<=1:=by
   simp only[zaW,List.map_cons,List.map_nil,List.sum_cons,List.sum_nil]
   split<;>omega
  simp only[List.length_append,List.length_cons,List.length_nil];omega
def zaz (n:Nat) (f:Nat->Nat):List Value:=(List.range n).map fun k=>.int .i64 (f k:Int)
theorem zje:(zaz g s).length=g:=by simp[zaz]
theorem zh8 {k:Nat} (h:k<c):(zaz c C)[k]? =some (.int .i64 (C k:Int)):=by
 unfold zaz;rw[List.getElem?_map,List.getElem?_range h];rfl
theorem zt1 {l:Nat} (v:Nat) (w:s l=v) (h: ∀k,k≠l->s k=C k):(zaz c C).set l (.int .i64 (v:Int))=zaz c s:=by
 apply List.ext_getElem?;intro k;by_cases q:k<c
 ·by_cases e:k=l
  ·subst e;rw[List.getElem?_set_self (by rw[zje];exact q),zh8 s q,w]
  ·rw[List.getElem?_set_ne (fun x=>e x.symm),zh8 C q,zh8 s q,h k e]
 ·rw[List.getElem?_eq_none (by rw[List.length_set,zje];omega),List.getElem?_eq_none (by rw[zje];omega)]
theorem zeV {f g:Nat->Nat} (h: ∀k,k<c->f k=g k):zaz c f=zaz c g:=by
 unfold zaz;refine List.map_congr_left fun k q=>?_;rw[h k (List.mem_range.1 q)]
def zaS (f:Nat->Nat) (l:Nat):Nat->Nat:=fun k=>f k+if k=l then 1 else 0
theorem zt2:zaS C g g=C g+1:=by simp[zaS]
theorem zt3 {k:Nat} (h:k≠c):zaS C c k=C k:=by simp[zaS,h]
theorem zmf (A:c<b.length) (w:zag b[c].kind=true) (I:0<=b[c].l) (H:0<=b[c].r) (k:Nat):zaS (zaS (fun k=>za0 (b.take c) (k:Int)) b[c].l.toNat) b[c].r.toNat k=za0 (b.take (c+1)) (k:Int):=by
 rw[zmd A,u1,if_pos w];unfold zaS;have h:(b[c].l==(k:Int))=decide (k=b[c].l.toNat):=by
  rw[Bool.eq_iff_iff,beq_iff_eq,decide_eq_true_iff];omega
 have q:(b[c].r==(k:Int))=decide (k=b[c].r.toNat):=by
  rw[Bool.eq_iff_iff,beq_iff_eq,decide_eq_true_iff];omega
 rw[h,q];simp only[decide_eq_true_eq];omega
theorem zmg (h:c<b.length) (q:zag b[c].kind=false) (k:Nat):za0 (b.take c) (k:Int)=za0 (b.take (c+1)) (k:Int):=by
 rw[zmd h,u1,if_neg (by rw[q];decide),Nat.add_zero]
theorem zmh {ex:List Ex} (q:c<d.length) (A:0<=d[c].expr) (k:Nat):zaS (fun k=>za0 ex (k:Int)+zaW (d.take c) (k:Int)) d[c].expr.toNat k=za0 ex (k:Int)+zaW (d.take (c+1)) (k:Int):=by
 rw[zt0 q];unfold zaS;have w:(d[c].expr==(k:Int))=decide (k=d[c].expr.toNat):=by
  rw[Bool.eq_iff_iff,beq_iff_eq,decide_eq_true_iff];omega
 rw[w];simp only[decide_eq_true_eq];omega
def AheadTo (ex:List Ex) (n:Nat):Prop:=∀(i:Nat) (x:Ex),i<n->ex[i]? =some x->zag x.kind=true->0<=x.l/\x.l<(i:Int)/\0<=x.r/\x.r<(i:Int)
theorem AheadTo.all (h:AheadTo b b.length):zbH b:=fun i x q=>h i x (gS q).1 q
theorem AheadTo.next (h:AheadTo b c) (I:c<b.length) (A:zag b[c].kind=true->0<=b[c].l/\b[c].l<(c:Int)/\0<=b[c].r/\b[c].r<(c:Int)):AheadTo b (c+1):=by
 intro j x H q w;by_cases e:j=c
 ·subst e;obtain⟨_,rfl⟩:=gS q;exact A w
 ·exact h j x (by omega) q w
theorem AheadTo.not (q:c<b.length) (w:zag b[c].kind=true) (A: ¬(0<=b[c].l/\b[c].l<(c:Int)/\0<=b[c].r/\b[c].r<(c:Int))): ¬zbH b:=fun h=>A (h c _ (gE q) w)
set_option maxHeartbeats 3200000
variable (C:Cx) (g b c d n:Nat) (S:Sv) (q:PS) (w:World) {D:Cx} {p:PS} {k:Nat} {T:Sv} {W:World}
theorem zjs {w:Bool} {x:PS×Ep} (h:zbN D w p= .ok x):p.pos<x.1.pos:=by
 obtain⟨a,J,H⟩:=zr h;obtain⟨b,K,I⟩:=zr H;have A:=zfZ K;rw[(zbF J).1] at A;cases I;exact A
def znf (C:Cx) (gt cap base gp:Nat) (t:TypeId) (size:Nat) (f:Ep->List Value) (y:PRL) (S:Sv) (w:World) (e:Ending) (w':World):Prop:=
 match y with
 | .ok a=>∃r S',e= .returned (.slice r.a a.2.length r.cap)/\IM C gt cap base gp S' a.1 w'/\IS gp S w S' w'/\Fr t size w' w.heap.size r a.2.length (a.2.flatMap f) S'/\0<a.2.length/\a.2.length<=4000
 | .error p=>e=Pan p/\Below base w w'
theorem zng {A base H:Nat} (h:IM D k A base H T p W) (t:TypeId) (size:Nat):Fr t size (W.alloc (.cells #[] t)) W.heap.size ⟨some ⟨W.heap.size,0,none⟩,0⟩ 0 [] T:=by
 refine⟨World.ownsRow_lit W #[] 0 (Nat.le_refl _) (by unfold maxLen;omega) (Nat.zero_mul _).symm,fun z g I=>?_⟩;have K:W.heap.size=z:=by simpa [Rw.blk,Value.ownBlock] using g
 have:=(h.mem.own.has I).2;omega
theorem zv4 (h:IM C g b c d S q w):
  Calls prog 247 #[.pointer (some ⟨d,0,none⟩)] w (znf C g b c d 101 3 (fun e=>imL (zbs e)) (zaC C false q []) S w):=by
 obtain⟨i0,hi,ap,ar,av⟩:=info_parts Tryz.infoImp;go_enter func247,ntmps247;go_wp2;go_loopg [3] (C.ts.length+1) (fun k v wr=>∃(S':Sv) (Z:PS) (r:Rw) (l:List Ep),v= .slice r.a l.length r.cap/\zaC C false q []=zaC C false Z l/\C.ts.length-Z.pos<k/\l.length+(C.ts.length-Z.pos)<=C.ts.length/\IM C g b c d S' Z wr/\IS d S w S' wr/\Fr 101 3 wr w.heap.size r l.length (l.flatMap (fun e=>imL (zbs e))) S')
 case atStart=>exact⟨S,q,⟨some ⟨w.heap.size,0,none⟩,0⟩,[],rfl,rfl,by omega,by simp,h.alloc _,(IS.refl _ _ _).alloc _,zng h _ _⟩
 case round=>
  obtain⟨S',Z,r,l,rfl,hy,hk,hl,m',s',f'⟩:=hrel;have HY:=zc hy;have HZ:=zc (HY.o.trans (zlI C false Z l));have ae:=m';have an:=s';have au:Hid (Fr 101 3 wr w.heap.size r l.length (l.flatMap (fun e=>imL (zbs e))) S'):=f';have ay:=m'.mem.few;clear hy m' s' f';go_wp2_with fail;refine (zsL C g b c d S' Z _ ae).mono ?_;cases aa:zbN C false Z with
  |error p=>
   rintro e w1 ⟨rfl,hb⟩;have HB:=(h.back an).trans hb;have HX:Hid (zaC C false q []= .error p):=bdE HZ.o aa;unfold Pan;go_wp2;refine⟨rfl,?_⟩;rw[HX.o];exact⟨rfl,HB⟩
  |ok A=>
   rintro e w1 ⟨rfl,L,m,s⟩;have J:Hid (Fr 101 3 w1 w.heap.size r l.length (l.flatMap (fun e=>imL (zbs e))) L):=au.o.step ae (by decide) s;have N:=zc m;have ah:Hid (IS d S w L w1):=an.trans s;clear m s;have aj:=zc (bdO HZ.o aa);have aB:=zjs aa;have aA:=N.o.mem.inv.pos;unfold imV;have V:=fun o1=>(J.o.later ((Below.refl w1.heap.size w1).alloc (Nat.le_refl _) o1)).1;have ak:=fun o1=>(ah.o.alloc o1).size;go_wp2_with (at_builtin;refine zbm _ rfl _ _ 54 rfl w.heap.size 101 i0 _ 3 48 underlying54 hi ap ar av rfl (by decide) (by decide) r l.length _ (by rfl) (V _) w1.heap.size (imL (zbs A.2)) (by rfl) (by exact hN0 w1 _) rfl (zkO _) (by omega) (ak _) ?_;intro X w2 hr ac ag;have HR:Hid (OwnR w2 w.heap.size 101 3 X (l.length+1) _):=hr;have O:Hid (IM C g b c d L A.1 w2):=(N.o.alloc _).aside ac (fun k z=>⟨J.o.2 k z,J.o.ngp N.o (by decide) z,J.o.ngt N.o (by decide) z⟩);have ai:Hid (IS d S w L w2):=(ah.o.alloc _).aside ac (fun k z=>(J.o.1.typed z).1);have al:Hid (Fr 101 3 w2 w.heap.size X (l.length+1) _ L):=(J.o.later (bA0)).grown (N.o.alloc _) hr ag;clear hr ac ag V ak);have el:(l++[A.2]).length=l.length+1:=by simp
   have am:Hid (Fr 101 3 w2 w.heap.size X (l++[A.2]).length ((l++[A.2]).flatMap (fun e=>imL (zbs e))) L):=by
    show Fr ..;rw[el,List.flatMap_append]
    simpa using al.o
   have M:=zc el;clear el al HR;go_wp2_with fail;cases hc:isT C A.1.pos 4 zbS with
   |true=>
    have az:=zaG hc (by decide);have HC:=zc (aj.o.trans (if_pos hc));refine (zV C g b c d L (A.1) 4 zbS _ O.o (by decide)).mono ?_;rintro e w3 ⟨rfl,I,s⟩;rw[hc] at I ⊢;have U:=ai.o.trans s;have af:=s;clear s;have ab:Hid (Fr 101 3 w3 w.heap.size X (l++[A.2]).length ((l++[A.2]).flatMap (fun e=>imL (zbs e))) L):=am.o.step O.o (by decide) af;clear af;go_wp2;go_roundg (gk-1)
    case rel=>exact⟨L,adv A.1,X,l++[A.2],by rw[M.o],HC.o,by rw[zH];omega,by rw[zH,M.o];omega,I,U,ab.o⟩
    case measure=>omega
   |false=>
    have HC:=zc (aj.o.trans (if_neg (by rw[hc];decide)));refine (zV C g b c d L (A.1) 4 zbS _ O.o (by decide)).mono ?_;rintro e w3 ⟨rfl,I,s⟩;rw[hc] at I ⊢;have U:=ai.o.trans s;have ab:Hid (Fr 101 3 w3 w.heap.size X (l++[A.2]).length ((l++[A.2]).flatMap (fun e=>imL (zbs e))) L):=am.o.step O.o (by decide) s;clear s;go_wp2_with fail;refine (zcI C g b c d L A.1 125 _ I).mono ?_;cases ad:zd C 4 zbE A.1 with
    |error p=>
     rintro e w4 ⟨rfl,hb⟩;have HB:=(h.back U).trans hb;have HX:Hid (zaC C false q []= .error p):=bdE HC.o ad;unfold Pan;go_wp2;refine⟨rfl,?_⟩;rw[HX.o];exact⟨rfl,HB⟩
    |ok a4=>
     rintro e w4 ⟨rfl,S4,aq,s⟩;have ax:Hid (Fr 101 3 w4 w.heap.size X (l++[A.2]).length ((l++[A.2]).flatMap (fun e=>imL (zbs e))) S4):=ab.o.step I (by decide) s;have ao:=U.trans s;clear s;have aw:=zc (bdO HC.o ad);go_wp2;go_ret;rw[aw.o];exact⟨X,S4,by rw[M.o];rfl,aq,ao,ax.o,by show 0<(l++[A.2]).length;rw[M.o];omega,by show (l++[A.2]).length<=4000;rw[M.o];omega⟩
def impFromI (C:Cx) (l:List Ep) (q:PS):PR:=bd (zd C 1 zac q) fun a=>bd (zR C a) fun b=>bd (zd C 4 cSemi b.1) fun c=>zaf (fun e=>zau C (zcs b.2 e)) l (.ok c)
theorem zhK {α:Type} (f:α->PS->PR) (p:Nat): ∀l:List α,zaf f l (.error p)= .error p
 |[]=>rfl
 |_::l=>zhK f p l
theorem zjt {α:Type} (f:α->PS->PR) {l:List α} {x:α} (h:l[k]? =some x) (q:PS):zaf f (l.drop k) (.ok q)=zaf f (l.drop (k+1)) (f x q):=by
 obtain⟨w,rfl⟩:=gS h;rw[List.drop_eq_getElem_cons w];rfl
theorem zv5 {x:Im} {a:PS} (h:zau D x p= .ok a):a.pos=p.pos:=by
 unfold zau at h
 split at h
 ·cases h
 ·cases h;rfl
theorem znh {x:Ep} {a:PS} (h:zv D x p= .ok a):a.pos=p.pos:=by
 unfold zv at h
 split at h
 ·cases h
 ·split at h
  ·cases h;rfl
  ·cases h;rfl
theorem zg4 {α:Type} {l:List α} (h:k<l.length): ∃x,l[k]? =some x:=⟨_,gE h⟩
theorem zv6 (z:Nat) (r:Rw) (S:Sv) (q:PS) (l:List Ep) (w:World) (h:IM C g b c d S q w) (hC:zb2 C) (hl:l.length<=4000) (hf:Fr 101 3 w n r l.length (l.flatMap (fun e=>imL (zbs e))) S) (hg:r.a=some ⟨z,0,none⟩):
  Calls prog 246 #[.pointer (some ⟨d,0,none⟩),.slice (some ⟨z,0,none⟩) l.length r.cap] w (zaa C g b c d (impFromI C l q) id (fun _=>.tuple #[]) S w):=by
 have HF:=zc hf;have HG:=zc hg;have HY:=zc (impFromI.eq_1 C l q);clear hf hg;go_enter func246,ntmps246;go_wp2_with fail;refine (zfu C g b c d S q zac _ h).mono ?_;cases aa:zd C 1 zac q with
 |error p=>
  rintro e w1 ⟨rfl,L⟩;have Y:Below c w w1:=(h.back (IS.refl _ _ _)).trans L;have HX:Hid (impFromI C l q= .error p):=bdE HY.o aa;unfold Pan;go_wp2;refine⟨rfl,?_⟩;rw[HX.o];exact⟨rfl,Y⟩
 |ok a1=>
  rintro e w1 ⟨rfl,S1,al,M⟩;have an:Hid (Fr 101 3 w1 n r l.length (l.flatMap (fun e=>imL (zbs e))) S1):=HF.o.step h (by decide) M;have ah:=zc (bdO HY.o aa);go_wp2_with fail;refine (zhh C g b c d S1 a1 _ al hC).mono ?_;cases ak:zR C a1 with
  |error p=>
   rintro e w2 ⟨rfl,L⟩;have Y:=(h.back M).trans L;have HX:Hid (impFromI C l q= .error p):=bdE ah.o ak;unfold Pan;go_wp2;refine⟨rfl,?_⟩;rw[HX.o];exact⟨rfl,Y⟩
  |ok a2=>
   rintro e w2 ⟨rfl,S2,ai,s⟩;have ay:Hid (Fr 101 3 w2 n r l.length (l.flatMap (fun e=>imL (zbs e))) S2):=an.o.step al (by decide) s;have ad:=M.trans s;clear s;have aj:=zc (bdO ah.o ak);go_wp2_with fail;refine (zcI C g b c d S2 a2.1 59 _ ai).mono ?_;cases O:zd C 4 cSemi (a2.1) with
   |error p=>
    rintro e w3 ⟨rfl,L⟩;have Y:=(h.back ad).trans L;have HX:Hid (impFromI C l q= .error p):=bdE aj.o O;unfold Pan;go_wp2;refine⟨rfl,?_⟩;rw[HX.o];exact⟨rfl,Y⟩
   |ok a3=>
    rintro e w3 ⟨rfl,S3,ax,s⟩;have az:Hid (Fr 101 3 w3 n r l.length (l.flatMap (fun e=>imL (zbs e))) S3):=ay.o.step ai (by decide) s;have ar:=ad.trans s;clear s;have aq:=zc (bdO aj.o O);have ae:0<a3.pos:=by rw[(zcj O).1];exact Nat.succ_pos _
    generalize aA:a2.2=sp at*;clear aA;go_wp2;go_loopg [15] l.length (fun k i wr=>∃(j:Nat) (V:Sv) (K:PS),i= .int .i64 j/\j+k=l.length/\impFromI C l q=zaf (fun e=>zau C (zcs sp e)) (l.drop j) (.ok K)/\0<K.pos/\IM C g b c d V K wr/\IS d S w V wr/\Fr 101 3 wr n r l.length (l.flatMap (fun e=>imL (zbs e))) V)
    case atStart=>exact⟨0,S3,a3,rfl,by omega,aq.o,ae,ax,ar,az.o⟩
    case round=>
     obtain⟨j,V,K,rfl,hj,hy,ab,m',s',f'⟩:=hrel;have af:=zc hy;have I:=m';have X:=s';have Z:Hid (Fr 101 3 wr n r l.length (l.flatMap (fun e=>imL (zbs e))) V):=f';clear hy m' s' f';by_cases ao:j<l.length
     ·have ag:(j:Int)<(l.length:Int):=by omega
      obtain⟨x,hx⟩:=zg4 ao;obtain⟨g',ac,J⟩:=OwnR.elem (f:=fun e=>imL (zbs e)) (m:=3) (fun _=>rfl) Z.o.1 hx;have eg:g'=z:=by have:=ac.symm.trans HG.o;simpa using this
      subst eg;have k0:=J 0 (by omega);have k1:=J 1 (by omega);have k2:=J 2 (by omega);simp only[imL,zbs,Nat.add_zero,List.getElem?_cons_zero,List.getElem?_cons_succ] at k0 k1 k2;have HZ:=zc (af.o.trans (zjt (fun e=>zau C (zcs sp e)) hx K));clear J ac hx;obtain⟨j1,N⟩: ∃j1,j1=j+1:=⟨_,rfl⟩;have ej:(j:Int)+1=(j1:Int):=by omega
      rw[<-N] at HZ;have aB:=(aLt (Z.o.1.typed (by rw[Rw.blk,HG.o];rfl)).2.2.choose_spec);have aC:=I.lt;have HJ:=zc N;clear N;go_wp2_with fail;refine (zqt C g b c d V K (zcs sp x) _ (I.alloc _) ab).mono ?_;cases hn:zau C (zcs sp x) K with
      |error p=>
       rintro e w5 ⟨rfl,L⟩;have Y:Below c w w5:=(h.back (X.alloc _)).trans L;have HX:Hid (impFromI C l q= .error p):=by show _=_;rw[HZ.o,hn];exact zhK _ _ _
       unfold Pan;go_wp2;refine⟨rfl,?_⟩;rw[HX.o];exact⟨rfl,Y⟩
      |ok a5=>
       rintro e w5 ⟨rfl,S5,am,s⟩;have au:IS d S w S5 w5:=(X.alloc _).trans s;have av:Hid (Fr 101 3 w5 n r l.length (l.flatMap (fun e=>imL (zbs e))) S5):=(Z.o.later (bA0)).step (I.alloc _) (by decide) s;have ap:Hid (impFromI C l q=zaf (fun e=>zau C (zcs sp e)) (l.drop j1) (.ok a5)):=by show _=_;rw[HZ.o,hn]
       have aw:Hid (0<a5.pos):=by show 0<a5.pos;rw[zv5 hn];exact ab
       clear s;go_wp2;go_roundg (gk-1)
       case rel=>exact⟨j1,S5,a5,rfl,by have:=HJ.o;omega,ap.o,aw.o,am,au,av.o⟩
       case measure=>omega
     ·have ag: ¬(j:Int)<(l.length:Int):=by omega
      have HZ:Hid (impFromI C l q= .ok K):=by show _=_;rw[af.o,List.drop_eq_nil_of_le (by omega)];rfl
      go_wp2;go_end0;rw[HZ.o];exact⟨rfl,V,I,X⟩
theorem zju (r:Rw) (S:Sv) (q:PS) (l:List Ep) (w:World) (h:IM C g b c d S q w) (L:zb2 C) (M:l.length<=4000) (N:l.length≠0) (J:Fr 101 3 w n r l.length (l.flatMap (fun e=>imL (zbs e))) S):
  Calls prog 246 #[.pointer (some ⟨d,0,none⟩),.slice r.a l.length r.cap] w (zaa C g b c d (impFromI C l q) id (fun _=>.tuple #[]) S w):=by
 rcases J.1.nil_or with ⟨_,_,e⟩|⟨z,K⟩
 ·exact absurd e N
 ·rw[K];exact zv6 C g b c d n z r S q l w h L M J K
theorem zni {A base H:Nat} (h:IM D k A base H T p W) (t:TypeId) (xs:List Value):Fr t xs.length (W.alloc (.cells xs.toArray t)) W.heap.size ⟨some ⟨W.heap.size,0,none⟩,1⟩ 1 xs T:=by
 refine⟨?_,fun z g I=>?_⟩
 ·have:=World.ownsRow_lit (e:=t) (size:=xs.length) W xs.toArray 1 (Nat.le_refl _) (by unfold maxLen;omega) (by simp)
  simpa [OwnR] using this
 ·have K:W.heap.size=z:=by simpa [Rw.blk,Value.ownBlock] using g
  have:=(h.mem.own.has I).2;omega
def zba (C:Cx) (q:PS):PR:=
 if (ze C q.pos).kind==3 then bd (zR C q) fun a=>zd C 4 cSemi a.1
 else if isT C q.pos 4 zU then bd (zaC C false (adv q) []) fun a=>impFromI C a.2 a.1
 else if isT C q.pos 4 zG then bd (zd C 1 sAs (adv q)) fun a=>bd (zq C false a) fun b=>impFromI C [⟨0,b.2,zG,sNone⟩] b.1
 else bd (zq C false q) fun b=>impFromI C [⟨0,b.2,sDefault,sNone⟩] b.1
theorem zv7 (h:IM C g b c d S q w) (hC:zb2 C) (hk:((ze C q.pos).kind==3)=true):
  Calls prog 232 #[.pointer (some ⟨d,0,none⟩)] w (zaa C g b c d (zba C q) id (fun _=>.tuple #[]) S w):=by
 have ab:=zd4;have HY:Hid (zba C q=bd (zR C q) fun a=>zd C 4 cSemi a.1):=if_pos hk;go_enter func232,ntmps232;go_wp2_with fail;refine (zbL C g b c d S q _ h).mono ?_;rintro e w1 ⟨rfl,H⟩;unfold tkV;have aa:=h.later H;have K:IS d S w S w1:=IS.below H;clear H;go_wp2_with fail;refine (zhh C g b c d S q _ aa hC).mono ?_;cases O:zR C q with
 |error p=>
  rintro e w2 ⟨rfl,H⟩;have V:=(h.back K).trans H;have HX:Hid (zba C q= .error p):=bdE HY.o O;unfold Pan;go_wp2;refine⟨rfl,?_⟩;rw[HX.o];exact⟨rfl,V⟩
 |ok a2=>
  rintro e w2 ⟨rfl,S2,U,s⟩;have L:=K.trans s;clear s;have J:=zc (bdO HY.o O);go_wp2_with fail;refine (zcI C g b c d S2 a2.1 59 _ U).mono ?_;cases M:zd C 4 cSemi a2.1 with
  |error p=>
   rintro e w3 ⟨rfl,H⟩;have V:=(h.back L).trans H;have HX:Hid (zba C q= .error p):=J.o.trans M;unfold Pan;go_wp2;refine⟨rfl,?_⟩;rw[HX.o];exact⟨rfl,V⟩
  |ok a3=>
   rintro e w3 ⟨rfl,S3,X,s⟩;have Z:=L.trans s;clear s;have Y:=zc (J.o.trans M);go_wp2;go_end0;rw[Y.o];exact⟨rfl,S3,X,Z⟩
theorem zv8 (h:IM C g b c d S q w) (hC:zb2 C) (hk:((ze C q.pos).kind==3)=false) (h1:isT C q.pos 4 zU=true):
  Calls prog 232 #[.pointer (some ⟨d,0,none⟩)] w (zaa C g b c d (zba C q) id (fun _=>.tuple #[]) S w):=by
 have ae:=zd4;have HY:Hid (zba C q=bd (zaC C false (adv q) []) fun a=>impFromI C a.2 a.1):=by show _=_;rw[zba,hk,h1];rfl
 go_enter func232,ntmps232;go_wp2_with fail;refine (zbL C g b c d S q _ h).mono ?_;rintro e w1 ⟨rfl,I⟩;unfold tkV;have ad:=h.later I;have Z:IS d S w S w1:=IS.below I;clear I;go_wp2_with fail;refine (zV C g b c d S q 4 zU _ ad (by decide)).mono ?_;rintro e w2 ⟨rfl,L,s⟩;rw[h1] at L ⊢;have M:=Z.trans s;clear s;go_wp2_with fail;refine (zv4 C g b c d S (adv q) _ L).mono ?_;cases N:zaC C false (adv q) [] with
 |error p=>
  rintro e w3 ⟨rfl,I⟩;have HB:=(h.back M).trans I;have HX:Hid (zba C q= .error p):=bdE HY.o N;unfold Pan;go_wp2;refine⟨rfl,?_⟩;rw[HX.o];exact⟨rfl,HB⟩
 |ok V=>
  rintro e w3 ⟨r,S3,rfl,aa,s,f,l0,l1⟩;have U:=M.trans s;have ab:=zc f;clear s f;have O:=zc (bdO HY.o N);go_wp2_with fail;refine (zju C g b c d _ r S3 V.1 V.2 _ aa hC l1 (by omega) ab.o).mono ?_;cases K:impFromI C V.2 V.1 with
  |error p=>
   rintro e w4 ⟨rfl,I⟩;have HB:=(h.back U).trans I;have HX:Hid (zba C q= .error p):=O.o.trans K;unfold Pan;go_wp2;refine⟨rfl,?_⟩;rw[HX.o];exact⟨rfl,HB⟩
  |ok a4=>
   rintro e w4 ⟨rfl,S4,Y,s⟩;have X:=U.trans s;clear s;have ac:=zc (O.o.trans K);go_wp2;go_end0;rw[ac.o];exact⟨rfl,S4,Y,X⟩
theorem zv9 (h:IM C g b c d S q w) (hC:zb2 C) (hk:((ze C q.pos).kind==3)=false) (h1:isT C q.pos 4 zU=false) (h2:isT C q.pos 4 zG=true):
  Calls prog 232 #[.pointer (some ⟨d,0,none⟩)] w (zaa C g b c d (zba C q) id (fun _=>.tuple #[]) S w):=by
 have ak:=zd4;have HY:Hid (zba C q=bd (zd C 1 sAs (adv q)) fun a=>bd (zq C false a) fun z=>impFromI C [⟨0,z.2,zG,sNone⟩] z.1):=by show _=_;rw[zba,hk,h1,h2];rfl
 go_enter func232,ntmps232;go_wp2_with fail;refine (zbL C g b c d S q _ h).mono ?_;rintro e w1 ⟨rfl,I⟩;unfold tkV;have ai:=h.later I;have ae:IS d S w S w1:=IS.below I;clear I;go_wp2_with fail;refine (zV C g b c d S q 4 zU _ ai (by decide)).mono ?_;rintro e w2 ⟨rfl,N,s⟩;rw[h1] at N ⊢;have af:=ae.trans s;clear s;go_wp2_with fail;refine (zV C g b c d S q 4 zG _ N (by decide)).mono ?_;rintro e w3 ⟨rfl,Z,s⟩;rw[h2] at Z ⊢;have aa:=af.trans s;clear s;go_wp2_with fail;refine (zfu C g b c d S (adv q) sAs _ Z).mono ?_;cases K:zd C 1 sAs (adv q) with
 |error p=>
  rintro e w4 ⟨rfl,I⟩;have V:=(h.back aa).trans I;have HX:Hid (zba C q= .error p):=bdE HY.o K;unfold Pan;go_wp2;refine⟨rfl,?_⟩;rw[HX.o];exact⟨rfl,V⟩
 |ok a4=>
  rintro e w4 ⟨rfl,S4,ad,s⟩;have L:=aa.trans s;clear s;have ab:=zc (bdO HY.o K);go_wp2_with fail;refine (zdX C g b c d S4 a4 _ ad).mono ?_;cases M:zq C false a4 with
  |error p=>
   rintro e w5 ⟨rfl,I⟩;have V:=(h.back L).trans I;have HX:Hid (zba C q= .error p):=bdE ab.o M;unfold Pan;go_wp2;refine⟨rfl,?_⟩;rw[HX.o];exact⟨rfl,V⟩
  |ok Y=>
   rintro e w5 ⟨rfl,S5,O,s⟩;have ac:=L.trans s;clear s;have U:=zc (bdO ab.o M);go_wp2_with fail;refine (zju C g b c d _ ⟨some ⟨w5.heap.size,0,none⟩,1⟩ S5 Y.1 [⟨0,Y.2,zG,sNone⟩] _ (O.alloc _) hC (by simp) (by simp) (zni O 101 (imL (zbs ⟨0,Y.2,zG,sNone⟩)))).mono ?_;cases X:impFromI C [⟨0,Y.2,zG,sNone⟩] Y.1 with
   |error p=>
    rintro e w6 ⟨rfl,I⟩;have V:Below c w w6:=(h.back (ac.alloc _)).trans I;have HX:Hid (zba C q= .error p):=U.o.trans X;unfold Pan;go_wp2;refine⟨rfl,?_⟩;rw[HX.o];exact⟨rfl,V⟩
   |ok a6=>
    rintro e w6 ⟨rfl,S6,ag,s⟩;have ah:IS d S w S6 w6:=(ac.alloc _).trans s;clear s;have aj:=zc (U.o.trans X);go_wp2;go_end0;rw[aj.o];exact⟨rfl,S6,ag,ah⟩
theorem zvA (h:IM C g b c d S q w) (hC:zb2 C) (hk:((ze C q.pos).kind==3)=false) (h1:isT C q.pos 4 zU=false) (h2:isT C q.pos 4 zG=false):
  Calls prog 232 #[.pointer (some ⟨d,0,none⟩)] w (zaa C g b c d (zba C q) id (fun _=>.tuple #[]) S w):=by
 have af:=zd4;have HY:Hid (zba C q=bd (zq C false q) fun z=>impFromI C [⟨0,z.2,sDefault,sNone⟩] z.1):=by show _=_;rw[zba,hk,h1,h2];rfl
 go_enter func232,ntmps232;go_wp2_with fail;refine (zbL C g b c d S q _ h).mono ?_;rintro e w1 ⟨rfl,I⟩;unfold tkV;have ae:=h.later I;have aa:IS d S w S w1:=IS.below I;clear I;go_wp2_with fail;refine (zV C g b c d S q 4 zU _ ae (by decide)).mono ?_;rintro e w2 ⟨rfl,N,s⟩;rw[h1] at N ⊢;have ab:=aa.trans s;clear s;go_wp2_with fail;refine (zV C g b c d S q 4 zG _ N (by decide)).mono ?_;rintro e w3 ⟨rfl,V,s⟩;rw[h2] at V ⊢;have X:=ab.trans s;clear s;go_wp2_with fail;refine (zdX C g b c d S q _ V).mono ?_;cases K:zq C false q with
 |error p=>
  rintro e w4 ⟨rfl,I⟩;have HB:=(h.back X).trans I;have HX:Hid (zba C q= .error p):=bdE HY.o K;unfold Pan;go_wp2;refine⟨rfl,?_⟩;rw[HX.o];exact⟨rfl,HB⟩
 |ok U=>
  rintro e w4 ⟨rfl,S4,O,s⟩;have L:=X.trans s;clear s;have Y:=zc (bdO HY.o K);go_wp2_with fail;refine (zju C g b c d _ ⟨some ⟨w4.heap.size,0,none⟩,1⟩ S4 U.1 [⟨0,U.2,sDefault,sNone⟩] _ (O.alloc _) hC (by simp) (by simp) (zni O 101 (imL (zbs ⟨0,U.2,sDefault,sNone⟩)))).mono ?_;cases M:impFromI C [⟨0,U.2,sDefault,sNone⟩] U.1 with
  |error p=>
   rintro e w5 ⟨rfl,I⟩;have HB:Below c w w5:=(h.back (L.alloc _)).trans I;have HX:Hid (zba C q= .error p):=Y.o.trans M;unfold Pan;go_wp2;refine⟨rfl,?_⟩;rw[HX.o];exact⟨rfl,HB⟩
  |ok a5=>
   rintro e w5 ⟨rfl,S5,Z,s⟩;have ad:IS d S w S5 w5:=(L.alloc _).trans s;clear s;have ac:=zc (Y.o.trans M);go_wp2;go_end0;rw[ac.o];exact⟨rfl,S5,Z,ad⟩
theorem zvB (h:IM C g b c d S q w) (K:zb2 C):
  Calls prog 232 #[.pointer (some ⟨d,0,none⟩)] w (zaa C g b c d (zba C q) id (fun _=>.tuple #[]) S w):=by
 cases J:((ze C q.pos).kind==3) with
 |true=>exact zv7 C g b c d S q w h K J
 |false=>
  cases L:isT C q.pos 4 zU with
  |true=>exact zv8 C g b c d S q w h K J L
  |false=>
   cases M:isT C q.pos 4 zG with
   |true=>exact zv9 C g b c d S q w h K J L M
   |false=>exact zvA C g b c d S q w h K J L M
theorem zvC {a:PS×BA0} (w:zq D true p= .ok a) (h:isT D a.1.pos 1 sAs=true):zbN D true p=bd (zq D true (adv a.1)) fun b=>.ok (b.1,⟨0,b.2,a.2,sNone⟩):=by
 rw[zbN,w,zJ,asP,if_pos h]
theorem zvD {a:PS×BA0} (w:zq D true p= .ok a) (h:isT D a.1.pos 1 sAs=false):zbN D true p= .ok (a.1,⟨0,a.2,a.2,sNone⟩):=by
 rw[zbN,w,zJ,asP,if_neg (by rw[h];decide),if_neg (by simp)];rfl
theorem zvE (h:IM C g b c d S q w):
  Calls prog 249 #[.pointer (some ⟨d,0,none⟩)] w (znf C g b c d 103 4 (fun e=>epL (zL e)) (zaC C true q []) S w):=by
 obtain⟨i0,hi,ap,ay,aw⟩:=info_parts Tryz.infoExp;have HH:=h;clear h;go_enter func249,ntmps249;go_wp2;go_loopg [3] (C.ts.length+1) (fun k v wr=>∃(S':Sv) (q':PS) (r:Rw) (l:List Ep),v= .slice r.a l.length r.cap/\zaC C true q []=zaC C true q' l/\C.ts.length-q'.pos<k/\l.length+(C.ts.length-q'.pos)<=C.ts.length/\IM C g b c d S' q' wr/\IS d S w S' wr/\Fr 103 4 wr w.heap.size r l.length (l.flatMap (fun e=>epL (zL e))) S')
 case atStart=>exact⟨S,q,⟨some ⟨w.heap.size,0,none⟩,0⟩,[],rfl,rfl,by omega,by simp,HH.alloc _,(IS.refl _ _ _).alloc _,zng HH _ _⟩
 case round=>
  obtain⟨S',q',r,l,rfl,hy,hk,hl,m',s',f'⟩:=hrel;have aA:Hid (zaC C true q []=zaC C true q' l):=hy;have HY:=zc (aA.o.trans (zlI C true q' l));have au:=m';have ax:=s';have aI:Hid (Fr 103 4 wr w.heap.size r l.length (l.flatMap (fun e=>epL (zL e))) S'):=f';have aJ:=m'.mem.few;clear hy m' s' f';go_wp2_with fail;refine (zgf C g b c d S' q' _ au).mono ?_;cases am:zq C true q' with
  |error p=>
   rintro e w1 ⟨rfl,hb⟩;have HB:=(HH.back ax).trans hb;have HX:Hid (zaC C true q []= .error p):=by show _=_;rw[HY.o,zbN,am];rfl
   unfold Pan;go_wp2;refine⟨rfl,?_⟩;rw[HX.o];exact⟨rfl,HB⟩
  |ok a=>
   rintro e w1 ⟨rfl,I,m,s⟩;have al:=m;have an:=ax.trans s;have ao:Hid (Fr 103 4 w1 w.heap.size r l.length (l.flatMap (fun e=>epL (zL e))) I):=aI.o.step au (by decide) s;clear m s;cases ak:isT C a.1.pos 1 sAs with
   |true=>
    have HW:=zc (zvC am ak);go_wp2_with fail;refine (zV C g b c d I a.1 1 sAs _ al (by decide)).mono ?_;rintro e w2 ⟨rfl,m,s⟩;rw[ak] at m ⊢;have V:Hid (IM C g b c d I (adv a.1) w2):=m;have af:Hid (IS d S w I w2):=an.trans s;have X:Hid (Fr 103 4 w2 w.heap.size r l.length (l.flatMap (fun e=>epL (zL e))) I):=ao.o.step al (by decide) s;clear m s;go_wp2_with fail;refine (zgf C g b c d I (adv a.1) _ V.o).mono ?_;cases aq:zq C true (adv a.1) with
    |error p=>
     rintro e w3 ⟨rfl,hb⟩;have HB:=(HH.back af.o).trans hb;have HX:Hid (zaC C true q []= .error p):=by show _=_;rw[HY.o,HW.o,aq];rfl
     unfold Pan;go_wp2;refine⟨rfl,?_⟩;rw[HX.o];exact⟨rfl,HB⟩
    |ok x=>
     rintro e w3 ⟨rfl,S3,m,s⟩;have L:Hid (IM C g b c d S3 x.1 w3):=m;have ag:Hid (IS d S w S3 w3):=af.o.trans s;have O:Hid (Fr 103 4 w3 w.heap.size r l.length (l.flatMap (fun e=>epL (zL e))) S3):=X.o.step V.o (by decide) s;clear m s;have J:=zc (bdO HW.o aq);have HE:=zc (bdO HY.o J.o);have aH:=zjs J.o;have az:=L.o.mem.inv.pos;have U:=fun o1=>(O.o.later ((Below.refl w3.heap.size w3).alloc (Nat.le_refl _) o1)).1;have ae:=fun o1=>(ag.o.alloc o1).size;go_wp2_with (at_builtin;refine zbm _ rfl _ _ 55 rfl w.heap.size 103 i0 _ 4 56 underlying55 hi ap ay aw rfl (by decide) (by decide) r l.length _ (by rfl) (U _) w3.heap.size (epL (zL (⟨0,x.2,a.2,sNone⟩:Ep))) (by rfl) (by exact hN0 w3 _) rfl (zhf _) (by omega) (ae _) ?_;intro Y w4 hr aa ai;have N:Hid (IM C g b c d S3 x.1 w4):=(L.o.alloc _).aside aa (fun k z=>⟨O.o.2 k z,O.o.ngp L.o (by decide) z,O.o.ngt L.o (by decide) z⟩);have Z:Hid (IS d S w S3 w4):=(ag.o.alloc _).aside aa (fun k z=>(O.o.1.typed z).1);have aj:Hid (Fr 103 4 w4 w.heap.size Y (l.length+1) _ S3):=(O.o.later (bA0)).grown (L.o.alloc _) hr ai;clear hr aa ai U ae);have el:(l++[(⟨0,x.2,a.2,sNone⟩:Ep)]).length=l.length+1:=by simp
     have ad:Hid (Fr 103 4 w4 w.heap.size Y (l++[(⟨0,x.2,a.2,sNone⟩:Ep)]).length ((l++[(⟨0,x.2,a.2,sNone⟩:Ep)]).flatMap (fun e=>epL (zL e))) S3):=by
      show Fr ..;rw[el,List.flatMap_append]
      simpa using aj.o
     have K:Hid ((l++[(⟨0,x.2,a.2,sNone⟩:Ep)]).length=l.length+1):=el;clear el aj;go_wp2_with fail;cases hc:isT C x.1.pos 4 zbS with
     |true=>
      have aC:=zaG hc (by decide);have HC:=zc (HE.o.trans (if_pos hc));refine (zV C g b c d S3 (x.1) 4 zbS _ N.o (by decide)).mono ?_;rintro e w5 ⟨rfl,m,s⟩;rw[hc] at m ⊢;have ab:=m;have ac:=Z.o.trans s;have ah:Hid (Fr 103 4 w5 w.heap.size Y (l++[(⟨0,x.2,a.2,sNone⟩:Ep)]).length ((l++[(⟨0,x.2,a.2,sNone⟩:Ep)]).flatMap (fun e=>epL (zL e))) S3):=ad.o.step N.o (by decide) s;clear m s;go_wp2;go_roundg (gk-1)
      case rel=>exact⟨S3,adv x.1,Y,(l++[(⟨0,x.2,a.2,sNone⟩:Ep)]),by rw[K.o],HC.o,by rw[zH];omega,by rw[zH,K.o];omega,ab,ac,ah.o⟩
      case measure=>omega
     |false=>
      have HC:=zc (HE.o.trans (if_neg (by rw[hc];decide)));refine (zV C g b c d S3 (x.1) 4 zbS _ N.o (by decide)).mono ?_;rintro e w5 ⟨rfl,m,s⟩;rw[hc] at m ⊢;have ab:=m;have ac:=Z.o.trans s;have ah:Hid (Fr 103 4 w5 w.heap.size Y (l++[(⟨0,x.2,a.2,sNone⟩:Ep)]).length ((l++[(⟨0,x.2,a.2,sNone⟩:Ep)]).flatMap (fun e=>epL (zL e))) S3):=ad.o.step N.o (by decide) s;clear m s;go_wp2_with fail;refine (zcI C g b c d S3 x.1 125 _ ab).mono ?_;cases av:zd C 4 zbE x.1 with
      |error p=>
       rintro e w6 ⟨rfl,hb⟩;have HB:=(HH.back ac).trans hb;have HX:Hid (zaC C true q []= .error p):=bdE HC.o av;unfold Pan;go_wp2;refine⟨rfl,?_⟩;rw[HX.o];exact⟨rfl,HB⟩
      |ok a6=>
       rintro e w6 ⟨rfl,S6,m,s⟩;have aG:Hid (Fr 103 4 w6 w.heap.size Y (l++[(⟨0,x.2,a.2,sNone⟩:Ep)]).length ((l++[(⟨0,x.2,a.2,sNone⟩:Ep)]).flatMap (fun e=>epL (zL e))) S6):=ah.o.step ab (by decide) s;have aF:=m;have aE:=ac.trans s;clear m s;have aB:=zc (bdO HC.o av);go_wp2;go_ret;rw[aB.o];exact⟨Y,S6,by rw[K.o];rfl,aF,aE,aG.o,by show 0<(l++[(⟨0,x.2,a.2,sNone⟩:Ep)]).length;rw[K.o];omega,by show (l++[(⟨0,x.2,a.2,sNone⟩:Ep)]).length<=4000;rw[K.o];omega⟩
   |false=>
    have J:=zc (zvD am ak);have HE:=zc (bdO HY.o J.o);go_wp2_with fail;refine (zV C g b c d I a.1 1 sAs _ al (by decide)).mono ?_;rintro e w2 ⟨rfl,m,s⟩;rw[ak] at m ⊢;have V:Hid (IM C g b c d I a.1 w2):=m;have af:Hid (IS d S w I w2):=an.trans s;have X:Hid (Fr 103 4 w2 w.heap.size r l.length (l.flatMap (fun e=>epL (zL e))) I):=ao.o.step al (by decide) s;clear m s;have aH:=zjs J.o;have az:=V.o.mem.inv.pos;have U:=fun o1=>(X.o.later ((Below.refl w2.heap.size w2).alloc (Nat.le_refl _) o1)).1;have ae:=fun o1=>(af.o.alloc o1).size;go_wp2_with (at_builtin;refine zbm _ rfl _ _ 55 rfl w.heap.size 103 i0 _ 4 56 underlying55 hi ap ay aw rfl (by decide) (by decide) r l.length _ (by rfl) (U _) w2.heap.size (epL (zL (⟨0,a.2,a.2,sNone⟩:Ep))) (by rfl) (by exact hN0 w2 _) rfl (zhf _) (by omega) (ae _) ?_;intro Y w3 hr aa ai;have L:Hid (IM C g b c d I a.1 w3):=(V.o.alloc _).aside aa (fun k z=>⟨X.o.2 k z,X.o.ngp V.o (by decide) z,X.o.ngt V.o (by decide) z⟩);have ag:Hid (IS d S w I w3):=(af.o.alloc _).aside aa (fun k z=>(X.o.1.typed z).1);have aj:Hid (Fr 103 4 w3 w.heap.size Y (l.length+1) _ I):=(X.o.later (bA0)).grown (V.o.alloc _) hr ai;clear hr aa ai U ae);have el:(l++[(⟨0,a.2,a.2,sNone⟩:Ep)]).length=l.length+1:=by simp
    have O:Hid (Fr 103 4 w3 w.heap.size Y (l++[(⟨0,a.2,a.2,sNone⟩:Ep)]).length ((l++[(⟨0,a.2,a.2,sNone⟩:Ep)]).flatMap (fun e=>epL (zL e))) I):=by
     show Fr ..;rw[el,List.flatMap_append]
     simpa using aj.o
    have K:Hid ((l++[(⟨0,a.2,a.2,sNone⟩:Ep)]).length=l.length+1):=el;clear el aj;go_wp2_with fail;cases hc:isT C a.1.pos 4 zbS with
    |true=>
     have aC:=zaG hc (by decide);have HC:=zc (HE.o.trans (if_pos hc));refine (zV C g b c d I (a.1) 4 zbS _ L.o (by decide)).mono ?_;rintro e w4 ⟨rfl,m,s⟩;rw[hc] at m ⊢;have N:Hid (IM C g b c d I (adv (a.1)) w4):=m;have Z:Hid (IS d S w I w4):=ag.o.trans s;have ad:Hid (Fr 103 4 w4 w.heap.size Y (l++[(⟨0,a.2,a.2,sNone⟩:Ep)]).length ((l++[(⟨0,a.2,a.2,sNone⟩:Ep)]).flatMap (fun e=>epL (zL e))) I):=O.o.step L.o (by decide) s;clear m s;go_wp2;go_roundg (gk-1)
     case rel=>exact⟨I,adv a.1,Y,(l++[(⟨0,a.2,a.2,sNone⟩:Ep)]),by rw[K.o],HC.o,by rw[zH];omega,by rw[zH,K.o];omega,N.o,Z.o,ad.o⟩
     case measure=>omega
    |false=>
     have HC:=zc (HE.o.trans (if_neg (by rw[hc];decide)));refine (zV C g b c d I (a.1) 4 zbS _ L.o (by decide)).mono ?_;rintro e w4 ⟨rfl,m,s⟩;rw[hc] at m ⊢;have N:Hid (IM C g b c d I (a.1) w4):=m;have Z:Hid (IS d S w I w4):=ag.o.trans s;have ad:Hid (Fr 103 4 w4 w.heap.size Y (l++[(⟨0,a.2,a.2,sNone⟩:Ep)]).length ((l++[(⟨0,a.2,a.2,sNone⟩:Ep)]).flatMap (fun e=>epL (zL e))) I):=O.o.step L.o (by decide) s;clear m s;go_wp2_with fail;refine (zcI C g b c d I a.1 125 _ N.o).mono ?_;cases ar:zd C 4 zbE a.1 with
     |error p=>
      rintro e w5 ⟨rfl,hb⟩;have HB:=(HH.back Z.o).trans hb;have HX:Hid (zaC C true q []= .error p):=bdE HC.o ar;unfold Pan;go_wp2;refine⟨rfl,?_⟩;rw[HX.o];exact⟨rfl,HB⟩
     |ok a5=>
      rintro e w5 ⟨rfl,S5,m,s⟩;have ah:Hid (Fr 103 4 w5 w.heap.size Y (l++[(⟨0,a.2,a.2,sNone⟩:Ep)]).length ((l++[(⟨0,a.2,a.2,sNone⟩:Ep)]).flatMap (fun e=>epL (zL e))) S5):=ad.o.step N.o (by decide) s;have ab:=m;have ac:=Z.o.trans s;clear m s;have aD:=zc (bdO HC.o ar);go_wp2;go_ret;rw[aD.o];exact⟨Y,S5,by rw[K.o];rfl,ab,ac,ah.o,by show 0<(l++[(⟨0,a.2,a.2,sNone⟩:Ep)]).length;rw[K.o];omega,by show (l++[(⟨0,a.2,a.2,sNone⟩:Ep)]).length<=4000;rw[K.o];omega⟩
set_option maxHeartbeats 1600000
theorem zx6 (x:Ex) (w:World):Calls prog 182 #[.agg #[.int .i64 x.kind,.int .i64 x.num,.string x.name,.string x.field,.int .i64 x.l,.int .i64 x.r]] w fun e w'=>e= .returned (.bool (x.kind==4||x.kind==5))/\Bw w w':=by
 have h:Hid (Bw w (w.alloc (.cells #[.int .i64 x.kind,.int .i64 x.num,.string x.name,.string x.field,.int .i64 x.l,.int .i64 x.r] 106))):=bA0;cases A:(x.kind==4) with
 |true=>
  go_enter func182,ntmps182;go_wp2;go_ret;exact⟨rfl,h.o⟩
 |false=>
  cases q:(x.kind==5) with
  |true=>
   go_enter func182,ntmps182;go_wp2;go_ret;exact⟨rfl,h.o⟩
  |false=>
   go_enter func182,ntmps182;go_wp2;go_ret;exact⟨rfl,h.o⟩
