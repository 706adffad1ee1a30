/- Facts and walks that the theorem stands on. -/
import Derived.Test.YtgcbmogmniahjaaGreatA13
import Derived.Test.YtgcbmogmniahjaaGreatA14
namespace Go.Proofs.YtgcbmogmniahjaaGreat
open Go.Proofs.Tryz
set_option maxRecDepth 100000
set_option maxHeartbeats 6400000
open Go.RowKit Go.PlainAid Go.Sort
theorem zjE (s:BA) (w:World) (h:s.size<=281474976710656):
  Calls prog 191 #[.string s] w fun e w'=>e= .returned (.string s)/\Below w.heap.size w w':=by
 go_enter func191,ntmps191;go_wp2_with fail;refine (Tryz.stringslite_Clone _ _ h).mono ?_;rintro e z ⟨rfl,q⟩;go_wp2;go_ret;exact⟨rfl,q⟩
theorem OwnR.text {w:World} {base n:Nat} {r:Rw} {l:List BA} (h:OwnR w base 9 1 r n (l.map .string)) {j:Nat} (I:j<n): ∃g,r.a=some ⟨g,0,none⟩/\w.cell? ⟨g,j,none⟩=some (.string (l.getD j sNone)):=by
 rcases h.2 with ⟨_,K⟩|⟨g,H,A,q,_⟩
 ·omega
 ·simp only[Value.slice.injEq] at q;have z:=h;unfold OwnR at z;rw[q.1,q.2.2] at z;have J:l.length=n:=by have:=h.1;simpa using this
  refine⟨g,q.1,?_⟩;rw[World.ownsRow.cellAt z j (by omega)];simp only[List.getElem?_map,List.getD];rw[List.getElem?_eq_getElem (by omega)];rfl
theorem zop {l:List BA} {x:BA} {j:Nat} (h:j<l.length):zaS (l.drop j) x=((l.getD j sNone).toList==x.toList||zaS (l.drop (j+1)) x):=by
 rw[List.drop_eq_getElem_cons h];simp only[zaS,List.any_cons,List.getD,List.getElem?_eq_getElem h,Option.getD_some]
theorem zoq (base g:Nat) (r:Rw) (l:List BA) (x:BA) (w:World) (h:OwnR w base 9 1 r l.length (l.map .string)) (hl:l.length<=1000000) (U:r.a=some ⟨g,0,none⟩):
  Calls prog 96 #[.slice (some ⟨g,0,none⟩) l.length r.cap,.string x] w fun e w'=>(∃v:Int,e= .returned (.int .i64 v)/\decide (0<=v)=zaS l x)/\w'=w:=by
 have Z:=zc h;have L:=zc U;clear h U;go_enter func96,ntmps96;go_wp2;go_loopg [8] (l.length+1) (fun k i wr=>∃j:Nat,i= .int .i64 j/\j+k=l.length+1/\zaS (l.drop j) x=zaS l x/\wr=w)
 case atStart=>exact⟨0,rfl,by omega,by simp,rfl⟩
 case round=>
  obtain⟨j,rfl,hj,V,rfl⟩:=hrel;have N:=zc V;clear V;by_cases q:j<l.length
  ·have H:(j:Int)<(l.length:Int):=by omega
   obtain⟨Y,A,hc⟩:=Z.o.text q;have X:Y=g:=by have:=A.symm.trans L.o;simpa using this
   subst X;clear A;obtain⟨I,z⟩: ∃I,I=j+1:=⟨_,rfl⟩;have ej:(j:Int)+1=(I:Int):=by omega
   have O:=zc z;clear z;have M:Hid (zaS (l.drop j) x=((l.getD j sNone).toList==x.toList||zaS (l.drop (j+1)) x)):=zop q;generalize l.getD j sNone=y at hc M;cases J:(x.toList==y.toList) with
   |true=>
    go_wp2;go_ret;refine⟨⟨_,rfl,?_⟩,rfl⟩;have K:(y.toList==x.toList)=true:=by rw[beq_iff_eq] at J ⊢;exact J.symm
    rw[<-N.o,M.o,K];simp
   |false=>
    go_wp2;go_roundg (gk-1)
    case rel=>
     have K:(y.toList==x.toList)=false:=by
      rw[beq_eq_false_iff_ne] at J ⊢;exact fun e=>J e.symm
     refine⟨I,rfl,by have:=O.o;omega,?_,rfl⟩;rw[<-N.o,M.o,K,O.o];simp
    case measure=>omega
  ·have H: ¬(j:Int)<(l.length:Int):=by omega
   go_wp2;go_ret;refine⟨⟨_,rfl,?_⟩,rfl⟩;rw[<-N.o,List.drop_eq_nil_of_le (by omega)];rfl
theorem zor (x:BA) (w:World):
  Calls prog 96 #[.slice none 0 0,.string x] w fun e w'=>e= .returned (.int .i64 (-1))/\w'=w:=by
 go_enter func96,ntmps96;go_wp2;go_loopg [8] 1 (fun k i wr=>k=1/\i= .int .i64 0/\wr=w)
 case atStart=>exact⟨rfl,rfl,rfl⟩
 case round=>
  obtain⟨rfl,rfl,rfl⟩:=hrel;go_wp2;go_ret;exact⟨rfl,rfl⟩
theorem zos (base:Nat) (r:Rw) (l:List BA) (x:BA) (w:World) (h:OwnR w base 9 1 r l.length (l.map .string)) (H:l.length<=1000000):
  Calls prog 96 #[.slice r.a l.length r.cap,.string x] w fun e w'=>(∃v:Int,e= .returned (.int .i64 v)/\decide (0<=v)=zaS l x)/\w'=w:=by
 rcases h.nil_or with ⟨A,I,q⟩|⟨g,z⟩
 ·rw[A,I,q];refine (zor x w).mono ?_;rintro e J ⟨rfl,rfl⟩;have:l=[]:=List.length_eq_zero_iff.1 q;subst this;exact⟨⟨_,rfl,rfl⟩,rfl⟩
 ·rw[z];exact zoq base g r l x w h H z
theorem zgs (base:Nat) (r:Rw) (l:List BA) (x:BA) (w:World) (h:OwnR w base 9 1 r l.length (l.map .string)) (A:l.length<=1000000):
  Calls prog 64 #[.slice r.a l.length r.cap,.string x] w fun e w'=>e= .returned (.bool (zaS l x))/\w'=w:=by
 have z:=zc h;clear h;go_enter func64,ntmps64;go_wp2_with fail;refine (zos base r l x _ z.o A).mono ?_;rintro e I ⟨⟨v,rfl,q⟩,rfl⟩;have H:=zc q;clear q;go_wp2;go_ret;exact⟨zi H.o,rfl⟩
theorem Tryz.infoText:(prog.info? 9).map (fun i=>(i.zero,i.size,i.bytes))=some (some (.string {data:=#[]}),1,16):=by kernel_rfl
def zbr (C:Cx):Prop:=∀i,(ze C i).text.size<=281474976710656
theorem zcT (x:BA): ∀u∈[Value.string x],u.oneCell'=true:=by
 intro u h;simp at h;rw[h];rfl
theorem zot (C:Cx) (Y A base z:Nat) (S:Sv) (q:PS) (w:World) (h:IM C Y A base z S q w) (hC:zbr C) (hk:((ze C q.pos).kind==3)=true) (hs:zaS q.rq (ze C q.pos).text=false) (hn:q.rq.length<40):
  Calls prog 228 #[.pointer (some ⟨z,0,none⟩)] w fun e w'=>e= .returned (.string (ze C q.pos).text)/\∃S',IM C Y A base z S' {adv q with rq:=q.rq++[(ze C q.pos).text]} w'/\IS z S w S' w':=by
 obtain⟨i0,hi,aa,af,ag⟩:=info_parts Tryz.infoText;have ai:=zcR;have N:=hC q.pos;go_enter func228,ntmps228;go_wp2_with fail;refine (zef C Y A base z S q 3 _ h hk (by decide)).mono ?_;rintro e U ⟨rfl,m1,s1⟩;have X:=zc m1;have ae:=zc s1;clear m1 s1;unfold tkV;obtain⟨c0,c1,c2,c3,c4,c5,c6,c7,c8,c9,cf⟩:=zah X.o.cells;rw[show (adv q).rq=q.rq from rfl] at c4;generalize M:(ze C q.pos).text=tx at hs N ⊢;have Z:=zc M;clear M;go_wp2_with fail;refine (zgs base S.rq q.rq tx _ X.o.mem.own.rq (by omega)).mono ?_;rintro e J ⟨rfl,O⟩;rw[hs,O];clear O J;go_wp2_with fail;refine (zeg z q.rq.length 40 _ (by omega)).mono ?_;rintro e J ⟨rfl,O⟩;rw[O];clear O J;have HN:Hid (some z≠S.rq.blk):=fun e=>X.o.free (.inl e.symm);go_wp2_with fail;go_region_law (first|(refine zf0 rfl (.tmp 28) (.tmp 31) 22 rfl base 9 i0 _ 1 16 underlying22 hi aa af ag rfl (by decide) (by decide) S.rq q.rq.length (q.rq.map .string) (by rfl) (by exact H.o.mem.own.rq.alloc _) V.heap.size [.string tx] (by rfl) (by exact heap_alloc_new V _) rfl (zcT tx) (by omega) (by exact (H.o.alloc _).mem.base) ?_;intro r' w2 hr I L;have g2:=(I.block z (by exact (H.o.alloc _).lt) HN.o).trans (by exact (H.o.alloc _).cells);obtain⟨d0,d1,d2,d3,d4,d5,d6,d7,d8,d9,df⟩:=zah g2)|(go_simp;go_wp2_with (go_at_call 191;refine (zjE _ _ N).mono ?_;rintro e V ⟨rfl,K⟩;have H:Hid (IM C Y A base z S (adv q) V):=X.o.drew.later K;have ad:Hid (Below U.heap.size U V):=(Below.refl U.heap.size U).drew.trans K;obtain⟨e0,e1,e2,e3,e4,e5,e6,e7,e8,e9,ef⟩:=zah H.o.cells;rw[show (adv q).rq=q.rq from rfl] at e4;have ah:=H.o.lt;clear K)))
 all_goals
  have HR:=zc hr;have ac:=zc I;have ab:=zc L;clear hr I L g2 c0 c1 c2 c3 c4 c5 c6 c7 c8 c9 cf e0 e1 e2 e3 e4 e5 e6 e7 e8 e9 ef;go_wp2;go_ret;obtain⟨m',s'⟩:=H.o.grow_rq (x:=tx) ((Below.refl _ _).alloc (Nat.le_refl _) _) ac.o HR.o ab.o hn;rw[Z.o];exact⟨rfl,_,m',ae.o.trans (s'.grownI ad.o)⟩
theorem zgt (C:Cx) (J z base A:Nat) (S:Sv) (q:PS) (w:World) (h:IM C J z base A S q w) (hC:zbr C):
  Calls prog 228 #[.pointer (some ⟨A,0,none⟩)] w (zU C J z base A (zL C q) (·.1) (fun a=>.string a.2) S w):=by
 cases H:((ze C q.pos).kind==3) with
 |false=>
  have N:=zc h;have Y:Hid (zL C q= .error (zs C q.pos)):=by show _=_;rw[zL,H];rfl
  clear h;go_enter func228,ntmps228;go_wp2_with fail;refine (zjC C J z base A S q 3 _ N.o H).mono ?_;rintro e Z ⟨rfl,V⟩;have HB:=V.mono N.o.mem.base;clear V;unfold Pan;go_wp2;refine⟨rfl,?_⟩;rw[Y.o];exact⟨rfl,HB⟩
 |true=>
  cases U:zaS q.rq (ze C q.pos).text with
  |true=>
   have N:=zc h;have Y:Hid (zL C q= .ok (adv q,(ze C q.pos).text)):=by show _=_;rw[zL,H,U];rfl
   have ab:=zcR;have aa:=h.mem.inv.rq;clear h;go_enter func228,ntmps228;go_wp2_with fail;refine (zef C J z base A S q 3 _ N.o H (by decide)).mono ?_;rintro e Z ⟨rfl,M,L⟩;have I:=zc M;have K:=zc L;clear M L;unfold tkV;obtain⟨c0,c1,c2,c3,c4,c5,c6,c7,c8,c9,cf⟩:=zah I.o.cells;rw[show (adv q).rq=q.rq from rfl] at c4;go_wp2_with fail;refine (zgs base S.rq q.rq (ze C q.pos).text _ I.o.mem.own.rq (by omega)).mono ?_;rintro e O ⟨rfl,X⟩;rw[U,X];clear X O;go_wp2;go_ret;rw[Y.o];exact⟨rfl,S,I.o,K.o⟩
  |false=>
   by_cases hn:q.rq.length<40
   ·refine (zot C J z base A S q w h hC H U hn).mono ?_;rintro e Z ⟨rfl,S1,M,L⟩;rw[zL,H,U,if_pos rfl,if_neg (by decide),if_neg (by omega)];exact⟨rfl,S1,M,L⟩
   ·have N:Hid (IM C J z base A S q w):=h;have Y:Hid (zL C q= .error (zs C q.pos)):=by show _=_;rw[zL,H,U,if_pos rfl,if_neg (by decide),if_pos (by omega)]
    have ab:=zcR;have aa:=h.mem.inv.rq;clear h;go_enter func228,ntmps228;go_wp2_with fail;refine (zef C J z base A S q 3 _ N.o H (by decide)).mono ?_;rintro e Z ⟨rfl,M,L⟩;have I:=zc M;have K:=zc L;clear M L;unfold tkV;obtain⟨c0,c1,c2,c3,c4,c5,c6,c7,c8,c9,cf⟩:=zah I.o.cells;rw[show (adv q).rq=q.rq from rfl] at c4;go_wp2_with fail;refine (zgs base S.rq q.rq (ze C q.pos).text _ I.o.mem.own.rq (by omega)).mono ?_;rintro e O ⟨rfl,X⟩;rw[U,X];clear X O;go_wp2_with fail;refine (zeK C J z base A S (adv q) q.rq.length 40 _ I.o (by omega) (by rw[zz];omega)).mono ?_;rintro e w2 ⟨rfl,V⟩;have HB:=(N.o.back K.o).trans (V.mono I.o.mem.base);clear V;unfold Pan;go_wp2;refine⟨rfl,?_⟩;rw[Y.o];exact⟨rfl,HB⟩
theorem bdO {α β:Type} {Y:Except Nat β} {x:Except Nat α} {f:α->Except Nat β} {a:α} (h:Y=bd x f) (q:x= .ok a):Y=f a:=by rw[h,q];rfl
theorem bdE {α β:Type} {Y:Except Nat β} {x:Except Nat α} {f:α->Except Nat β} {p:Nat} (h:Y=bd x f) (q:x= .error p):Y= .error p:=by rw[h,q];rfl
theorem zeM {α:Type} (x:Except Nat α):bd x .ok=x:=by cases x<;>rfl
abbrev cCall:BA:={data:=#[40,41,123]}
abbrev cShutSemi:BA:={data:=#[41,59]}
abbrev cSemiRight:BA:={data:=#[59,125]}
theorem zjF (C:Cx) (b:UInt8) (q:PS):zaI C {data:=#[b]} 1 0 q=zd C 4 {data:=#[b]} q:=by
 have e:({data:=#[b]}:BA).extract 0 (0+1)={data:=#[b]}:=by simp[ByteArray.extract,ByteArray.copySlice]
 rw[zaI,e];exact zeM _
theorem zjG (C:Cx) (b c:UInt8) (q:PS):zaI C {data:=#[b,c]} 2 0 q=bd (zd C 4 {data:=#[b]} q) (zd C 4 {data:=#[c]}):=by
 have e:({data:=#[b,c]}:BA).extract 0 (0+1)={data:=#[b]}:=by simp[ByteArray.extract,ByteArray.copySlice]
 have h:({data:=#[b,c]}:BA).extract (0+1) (0+1+1)={data:=#[c]}:=by simp[ByteArray.extract,ByteArray.copySlice]
 rw[zaI,e];refine zag fun a _=>?_;rw[zaI,h];exact zeM _
theorem zou (C:Cx) (b c d:UInt8) (q:PS):zaI C {data:=#[b,c,d]} 3 0 q=bd (zd C 4 {data:=#[b]} q) fun a=>bd (zd C 4 {data:=#[c]} a) (zd C 4 {data:=#[d]}):=by
 have e:({data:=#[b,c,d]}:BA).extract 0 (0+1)={data:=#[b]}:=by simp[ByteArray.extract,ByteArray.copySlice]
 have w:({data:=#[b,c,d]}:BA).extract (0+1) (0+1+1)={data:=#[c]}:=by simp[ByteArray.extract,ByteArray.copySlice]
 have h:({data:=#[b,c,d]}:BA).extract (0+1+1) (0+1+1+1)={data:=#[d]}:=by simp[ByteArray.extract,ByteArray.copySlice]
 rw[zaI,e];refine zag fun a _=>?_;rw[zaI,w];refine zag fun a _=>?_;rw[zaI,h];exact zeM _
theorem zov (C:Cx) (H z base A:Nat) (S:Sv) (q:PS) (s:BA) (f:PS->PR) (w:World) (h:IM C H z base A S q w) (I:zaI C s s.size 0 q=f q) (J:s.size<=100):
  Calls prog 220 #[.pointer (some ⟨A,0,none⟩),.string s] w (zU C H z base A (f q) id (fun _=>.tuple #[]) S w):=by
 rw[<-I];exact zh7 C H z base A S q s w h J
theorem zc3 (C:Cx) (H z base A:Nat) (S:Sv) (q:PS) (b:UInt8) (w:World) (h:IM C H z base A S q w):
  Calls prog 220 #[.pointer (some ⟨A,0,none⟩),.string {data:=#[b]}] w (zU C H z base A (zd C 4 {data:=#[b]} q) id (fun _=>.tuple #[]) S w):=
 zov C H z base A S q {data:=#[b]} (zd C 4 {data:=#[b]}) w h (zjF C b q) (by show 1<=100;omega)
structure Six (w:World) (b:Nat) (v0 v1 v2 v3 v4 v5:Value):Prop where
 c0:w.cell? ⟨b,0,none⟩=some v0
 c1:w.cell? ⟨b,1,none⟩=some v1
 c2:w.cell? ⟨b,2,none⟩=some v2
 c3:w.cell? ⟨b,3,none⟩=some v3
 c4:w.cell? ⟨b,4,none⟩=some v4
 c5:w.cell? ⟨b,5,none⟩=some v5
 fz: ∀i,w.frozen? ⟨b,i,none⟩=false
theorem zw {w:World} {b:Nat} {t:TypeId} {v0 v1 v2 v3 v4 q:Value} (h:w.heap[b]? =some (.cells #[v0,v1,v2,v3,v4,q] t (0,0))):Six w b v0 v1 v2 v3 v4 q:=by
 constructor<;>simp[World.cell?,World.frozen?,h]
theorem IS.kept {C:Cx} {J z base A b:Nat} {S H:Sv} {q:PS} {w w':World} {o:Obj} (h:IM C J z base A S q w) (s:IS A S (w.alloc o) H w') (I:b=w.heap.size):w'.heap[b]? =some o:=by
 subst I;refine (s.block _ (by rw[zg];omega) (fun g=>?_) (by have:=h.lt;omega)).trans (heap_alloc_new w _);have:=(h.mem.own.has g).2;omega
theorem IS.from {q:Nat} {S h:Sv} {w w':World} {o:Obj} (s:IS q S (w.alloc o) h w'):IS q S w h w':=(IS.below ((Below.refl _ _).alloc (Nat.le_refl _) _)).trans s
theorem IS.free {C:Cx} {I z base H:Nat} {S A:Sv} {q:PS} {w w':World} {o:Obj} (h:IM C I z base H S q w) (s:IS H S (w.alloc o) A w'): ¬A.has w.heap.size:=by
 intro g;rcases s.sub _ g with k|k
 ·have:=(h.mem.own.has k).2;omega
 ·rw[zg] at k;omega
def zbs (C:Cx) (x:Ex) (call:Int) (q:PS):PR:=if isT C q.pos 4 zp then bd (zd C 4 za8 (adv q)) (zR C ⟨call,x.num,x.name,x.field,x.l,x.r⟩) else zR C x q
theorem zf4 (C:Cx) (M A base J:Nat) (S:Sv) (q:PS) (x:Ex) (z:Int) (w:World) (h:IM C M A base J S q w) (hp:0<q.pos):
  Calls prog 257 #[.pointer (some ⟨J,0,none⟩),exV x,.int .i64 z] w (zU C M A base J (zbs C x z q) id (fun q'=>.int .i64 ((q'.ex.length:Int)-1)) S w):=by
 cases hi:isT C q.pos 4 zp with
 |false=>
  have Z:Hid (zbs C x z q=zR C x q):=by show _=_;rw[zbs,hi];rfl
  unfold exV;go_enter func257,ntmps257;go_wp2_with fail;refine (zO C M A base J S q 4 zp _ (h.alloc _) (by decide)).mono ?_;rintro e w1 ⟨rfl,I,s⟩;rw[hi] at I ⊢;have V:=s.from;have ah:Hid (w1.heap[w.heap.size]? =some (.cells #[.int .i64 x.kind,.int .i64 x.num,.string x.name,.string x.field,.int .i64 x.l,.int .i64 x.r] 100 (0,0))):=IS.kept h s rfl;obtain⟨b0,b1,b2,b3,b4,b5,bf⟩:=zw ah.o;clear s;go_wp2_with fail;refine (zeL C M A base J S q x _ I hp).mono ?_;cases H:zR C x q with
  |error p=>
   rintro e w2 ⟨rfl,O⟩;have X:=(h.back V).trans O;have L:Hid (zbs C x z q= .error p):=Z.o.trans H;unfold Pan;go_wp2;refine⟨rfl,?_⟩;rw[L.o];exact⟨rfl,X⟩
  |ok a2=>
   rintro e w2 ⟨rfl,S2,N,s⟩;have ab:=V.trans s;clear s;have L:=zc (Z.o.trans H);go_wp2;go_ret;rw[L.o];exact⟨rfl,S2,N,ab⟩
 |true=>
  have Z:Hid (zbs C x z q=bd (zd C 4 za8 (adv q)) (zR C ⟨z,x.num,x.name,x.field,x.l,x.r⟩)):=by show _=_;rw[zbs,hi];rfl
  unfold exV;go_enter func257,ntmps257;go_wp2_with fail;refine (zO C M A base J S q 4 zp _ (h.alloc _) (by decide)).mono ?_;rintro e w1 ⟨rfl,I,aa⟩;rw[hi] at I ⊢;go_wp2_with fail;refine (zc3 C M A base J S (adv q) 41 _ I).mono ?_;cases H:zd C 4 za8 (adv q) with
  |error p=>
   rintro e w2 ⟨rfl,O⟩;have X:=(h.back aa.from).trans O;have L:Hid (zbs C x z q= .error p):=bdE Z.o H;unfold Pan;go_wp2;refine⟨rfl,?_⟩;rw[L.o];exact⟨rfl,X⟩
  |ok a2=>
   rintro e w2 ⟨rfl,S2,N,s⟩;have K:=aa.trans s;have ac:Hid (w2.heap[w.heap.size]? =some (.cells #[.int .i64 x.kind,.int .i64 x.num,.string x.name,.string x.field,.int .i64 x.l,.int .i64 x.r] 100 (0,0))):=IS.kept h K rfl;have ag:Hid (a2=adv (adv q)):=(zbV H).1;have ae:Hid (¬S2.has w.heap.size):=IS.free h K;have aj:J<w.heap.size:=h.lt;have ai:M<w.heap.size:=(zau h.mem.tok).1;clear s;have U:=zc (bdO Z.o H);obtain⟨b0,b1,b2,b3,b4,b5,bf⟩:=zw ac.o;go_wp2_with fail;refine (zeL C M A base J S2 a2 ⟨z,x.num,x.name,x.field,x.l,x.r⟩ _ (N.set (by omega) (by omega) ae.o _ _) (by rw[ag.o];show 0<q.pos+1+1;omega)).mono ?_;cases Y:zR C ⟨z,x.num,x.name,x.field,x.l,x.r⟩ a2 with
   |error p=>
    rintro e w3 ⟨rfl,O⟩;have X:Below base w w3:=(h.back (K.from.new (Nat.le_refl _) _ _)).trans O;have L:Hid (zbs C x z q= .error p):=U.o.trans Y;unfold Pan;go_wp2;refine⟨rfl,?_⟩;rw[L.o];exact⟨rfl,X⟩
   |ok a3=>
    rintro e w3 ⟨rfl,S3,ad,s⟩;have af:IS J S w S3 w3:=(K.from.new (Nat.le_refl _) _ _).trans s;clear s;have L:=zc (U.o.trans Y);go_wp2;go_ret;rw[L.o];exact⟨rfl,S3,ad,af⟩
def exI (q:PS):Value:=.int .i64 ((q.ex.length:Int)-1)
def zf5 (C:Cx) (gt cap base gp m:Nat):Prop:=∀(d:Nat) (S:Sv) (q:PS) (w:World),C.ts.length-q.pos<m->d<=20->IM C gt cap base gp S q w->
 Calls prog 239 #[.pointer (some ⟨gp,0,none⟩),.int .i64 d] w (zU C gt cap base gp (pE C .sum d q) id exI S w)
theorem zjH (C:Cx) (n:BA) (q:PS):zbG C n q=zbs C ⟨2,0,n,sNone,0,0⟩ 3 q:=by
 unfold zbG zbs;cases h:isT C q.pos 4 zp with
 |true=>rw[zcg h];rfl
 |false=>rfl
theorem zow (C:Cx) (n f:BA) (q:PS):zbU C n f q=zbs C ⟨4,0,n,f,0,0⟩ 5 q:=by
 unfold zbU zbs;cases h:isT C q.pos 4 zp with
 |true=>rw[zcg h];rfl
 |false=>rfl
theorem zox {x y:BA} (h:(x.toList==y.toList)=true):x=y:=by
 rw[beq_iff_eq,Lib.toList_data,Lib.toList_data] at h;cases x;cases y;simp only at h;rw[Array.toList_inj.1 h]
theorem zhB {C:Cx} {i:Nat} {k:Int} {x:BA} (h:isT C i k x=true):(ze C i).text=x:=by
 simp only[isT,Bool.and_eq_true] at h;exact zox h.2
theorem zgu {C:Cx} {i:Nat} {k:Int} {x:BA} (h:isT C i k x=true):((ze C i).kind==k)=true:=by
 simp only[isT,Bool.and_eq_true] at h;exact h.1
theorem zoy {C:Cx} {d:Nat} {q:PS} (h:((ze C q.pos).kind==2)=true):pE C .part d q=zR C ⟨1,(ze C q.pos).num,sNone,sNone,0,0⟩ (adv q):=by rw[zbO,h];rfl
theorem zoz {C:Cx} {d:Nat} {q:PS} (h:((ze C q.pos).kind==2)=false) (w:isT C q.pos 4 zp=true) (z:20<=d):pE C .part d q= .error (zs C q.pos):=by rw[zbO,h,w,if_neg (by decide),if_pos rfl,if_pos z]
theorem zo0 {C:Cx} {d:Nat} {q:PS} (h:((ze C q.pos).kind==2)=false) (w:isT C q.pos 4 zp=true) (z: ¬20<=d):pE C .part d q=bd (pE C .sum (d+1) (adv q)) (zd C 4 za8):=by rw[zbO,h,w,if_neg (by decide),if_pos rfl,if_neg z]
theorem zo1 {C:Cx} {d:Nat} {q:PS} (h:((ze C q.pos).kind==2)=false) (w:isT C q.pos 4 zp=false) (z:C.scr=true) (A:isT C q.pos 1 zaG=true):pE C .part d q=zbs C ⟨2,0,zaG,sNone,0,0⟩ 3 (adv q):=by
 rw[zbO,h,w,z,A,if_neg (by decide),if_neg (by decide),if_pos (by decide),zjH]
theorem zjI {C:Cx} {d:Nat} {q:PS} (h:((ze C q.pos).kind==2)=false) (w:isT C q.pos 4 zp=false) (z:(C.scr&&isT C q.pos 1 zaG)=false):
  pE C .part d q=bd (zm C false q) fun x=>if isT C x.1.pos 4 cPoint then bd (zm C true (adv x.1)) fun y=>zbs C ⟨4,0,x.2,y.2,0,0⟩ 5 y.1 else zbs C ⟨2,0,x.2,sNone,0,0⟩ 3 x.1:=by
 rw[zbO,h,w,z,if_neg (by decide),if_neg (by decide),if_neg (by decide)];simp only[zjH,zow]
theorem zo2 (C:Cx) (K z base A d:Nat) (S:Sv) (q:PS) (w:World) (h:IM C K z base A S q w) (X:((ze C q.pos).kind==2)=true):
  Calls prog 256 #[.pointer (some ⟨A,0,none⟩),.int .i64 d] w (zU C K z base A (pE C .part d q) id exI S w):=by
 have aa:=zdg;have ac:=zcR;have ab:=zeH;have Y:=zc (zoy (d:=d) X);go_enter func256,ntmps256;go_wp2_with fail;refine (zb8 C K z base A S q _ h).mono ?_;rintro e Z ⟨rfl,H⟩;unfold tkV;have V:=h.later H;have M:IS A S w S Z:=IS.below H;clear H;go_wp2_with fail;refine (zef C K z base A S q 2 _ V X (by decide)).mono ?_;rintro e w2 ⟨rfl,L,s⟩;have I:=M.trans s;clear s;unfold tkV;go_wp2_with fail;refine (zeL C K z base A S (adv q) ⟨1,(ze C q.pos).num,sNone,sNone,0,0⟩ _ L (by rw[zz];omega)).mono ?_;cases J:zR C ⟨1,(ze C q.pos).num,sNone,sNone,0,0⟩ (adv q) with
 |error p=>
  rintro e w3 ⟨rfl,H⟩;have HB:=(h.back I).trans H;have HX:Hid (pE C .part d q= .error p):=Y.o.trans J;unfold Pan;go_wp2;refine⟨rfl,?_⟩;rw[HX.o];exact⟨rfl,HB⟩
 |ok a3=>
  rintro e w3 ⟨rfl,S3,N,s⟩;have U:=I.trans s;clear s;have O:=zc (Y.o.trans J);go_wp2;go_ret;rw[O.o];exact⟨rfl,S3,N,U⟩
theorem zo3 (C:Cx) (J z base H d:Nat) (S:Sv) (q:PS) (w:World) (h:IM C J z base H S q w) (V:((ze C q.pos).kind==2)=false) (N:isT C q.pos 4 zp=true) (O:20<=d):
  Calls prog 256 #[.pointer (some ⟨H,0,none⟩),.int .i64 d] w (zU C J z base H (pE C .part d q) id exI S w):=by
 have Y:=zdg;have ac:=zcR;have ab:=zeH;have Z:=zc (zoz (d:=d) V N O);have aa:(20:Int)<=(d:Int):=by omega
 go_enter func256,ntmps256;go_wp2_with fail;refine (zb8 C J z base H S q _ h).mono ?_;rintro e U ⟨rfl,I⟩;unfold tkV;have M:=h.later I;have K:IS H S w S U:=IS.below I;clear I;go_wp2_with fail;refine (zO C J z base H S q 4 zp _ M (by decide)).mono ?_;rintro e w2 ⟨rfl,A,s⟩;rw[N] at A ⊢;have L:=K.trans s;clear s;go_wp2_with fail;refine (zeK C J z base H S (adv q) d 20 _ A (by omega) (by rw[zz];omega)).mono ?_;rintro e w3 ⟨rfl,I⟩;have X:=(h.back L).trans (I.mono A.mem.base);have HX:Hid (pE C .part d q= .error (zs C q.pos)):=Z.o;unfold Pan;go_wp2;refine⟨rfl,?_⟩;rw[HX.o];exact⟨rfl,X⟩
theorem zo4 (C:Cx) (K z base A m d:Nat) (S:Sv) (q:PS) (w:World) (h:IM C K z base A S q w) (hk:((ze C q.pos).kind==2)=false) (h1:isT C q.pos 4 zp=true) (hd:d<20) (hS:zf5 C K z base A m) (hm:C.ts.length-q.pos<=m):
  Calls prog 256 #[.pointer (some ⟨A,0,none⟩),.int .i64 d] w (zU C K z base A (pE C .part d q) id exI S w):=by
 have af:=zdg;have ai:=zcR;have ah:=zeH;have HY:=zc (zo0 (d:=d) hk h1 (by omega));have ag: ¬(20:Int)<=(d:Int):=by omega
 have ae:=za9 h1 (by decide);obtain⟨J,O⟩: ∃J:Nat,J=d+1:=⟨_,rfl⟩;have ed:(d:Int)+1=(J:Int):=by omega
 rw[<-O] at HY;have X:J<=20:=by omega
 clear O;go_enter func256,ntmps256;go_wp2_with fail;refine (zb8 C K z base A S q _ h).mono ?_;rintro e w1 ⟨rfl,I⟩;unfold tkV;have ad:=h.later I;have aa:IS A S w S w1:=IS.below I;clear I;go_wp2_with fail;refine (zO C K z base A S q 4 zp _ ad (by decide)).mono ?_;rintro e w2 ⟨rfl,L,s⟩;rw[h1] at L ⊢;have M:=aa.trans s;clear s;go_wp2_with fail;refine (zeg A d 20 _ (by omega)).mono ?_;rintro e w' ⟨rfl,hw⟩;rw[hw];clear hw w';go_wp2_with fail;refine (hS J S (adv q) _ (by rw[zz];omega) X L).mono ?_;cases N:pE C .sum J (adv q) with
 |error p=>
  rintro e w3 ⟨rfl,I⟩;have HB:=(h.back M).trans I;have HX:Hid (pE C .part d q= .error p):=bdE HY.o N;unfold Pan;go_wp2;refine⟨rfl,?_⟩;rw[HX.o];exact⟨rfl,HB⟩
 |ok a3=>
  rintro e w3 ⟨rfl,S3,ab,s⟩;have V:=M.trans s;clear s;have U:=zc (bdO HY.o N);unfold exI;go_wp2_with fail;refine (zc3 C K z base A S3 a3 41 _ ab).mono ?_;cases H:zd C 4 za8 a3 with
  |error p=>
   rintro e w4 ⟨rfl,I⟩;have HB:=(h.back V).trans I;have HX:Hid (pE C .part d q= .error p):=U.o.trans H;unfold Pan;go_wp2;refine⟨rfl,?_⟩;rw[HX.o];exact⟨rfl,HB⟩
  |ok a4=>
   rintro e w4 ⟨rfl,S4,Z,s⟩;have Y:=V.trans s;clear s;have ac:=zc (U.o.trans H);have HP:Hid (a4=adv a3):=(zbV H).1;go_wp2;go_ret;rw[ac.o];exact⟨by rw[HP.o];rfl,S4,Z,Y⟩
theorem zo5 (C:Cx) (J z base H d:Nat) (S:Sv) (q:PS) (w:World) (h:IM C J z base H S q w) (hk:((ze C q.pos).kind==2)=false) (h1:isT C q.pos 4 zp=false) (h2:C.scr=true) (M:isT C q.pos 1 zaG=true):
  Calls prog 256 #[.pointer (some ⟨H,0,none⟩),.int .i64 d] w (zU C J z base H (pE C .part d q) id exI S w):=by
 have ac:=zdg;have ae:=zcR;have ad:=zeH;have HY:=zc (zo1 (d:=d) hk h1 h2 M);go_enter func256,ntmps256;go_wp2_with fail;refine (zb8 C J z base H S q _ h).mono ?_;rintro e w1 ⟨rfl,A⟩;unfold tkV;have ab:=h.later A;have U:IS H S w S w1:=IS.below A;clear A;go_wp2_with fail;refine (zO C J z base H S q 4 zp _ ab (by decide)).mono ?_;rintro e w2 ⟨rfl,m,s⟩;rw[h1] at m ⊢;have I:=zc m;have V:=U.trans s;clear m s;obtain⟨_,_,_,c3,_,_,_,_,_,_,cf⟩:=zah I.o.cells;rw[h2] at c3;go_wp2_with fail;refine (zcr C J z base H S q 1 zaG _ I.o).mono ?_;rintro e w3 ⟨rfl,A⟩;rw[M];have Y:=I.o.later A;have Z:=(V.trans (IS.below A));clear A;go_wp2_with fail;refine (zef C J z base H S q 1 _ Y (zgu M) (by decide)).mono ?_;rintro e w4 ⟨rfl,N,s⟩;have L:=Z.trans s;clear s;unfold tkV;rw[zhB M];go_wp2_with fail;refine (zf4 C J z base H S (adv q) ⟨2,0,zaG,sNone,0,0⟩ 3 _ N (by rw[zz];omega)).mono ?_;cases K:zbs C ⟨2,0,zaG,sNone,0,0⟩ 3 (adv q) with
 |error p=>
  rintro e w5 ⟨rfl,A⟩;have HB:=(h.back L).trans A;have HX:Hid (pE C .part d q= .error p):=HY.o.trans K;unfold Pan;go_wp2;refine⟨rfl,?_⟩;rw[HX.o];exact⟨rfl,HB⟩
 |ok a5=>
  rintro e w5 ⟨rfl,S5,O,s⟩;have aa:=L.trans s;clear s;have X:=zc (HY.o.trans K);go_wp2;go_ret;rw[X.o];exact⟨rfl,S5,O,aa⟩
theorem zo6 (C:Cx) (M z base H d:Nat) (S:Sv) (q:PS) (w:World) (h:IM C M z base H S q w) (hk:((ze C q.pos).kind==2)=false) (h1:isT C q.pos 4 zp=false) (h2:C.scr=true) (h3:isT C q.pos 1 zaG=false):
  Calls prog 256 #[.pointer (some ⟨H,0,none⟩),.int .i64 d] w (zU C M z base H (pE C .part d q) id exI S w):=by
 have an:=zdg;have ap:=zcR;have ao:=zeH;have HY:=zc (zjI (d:=d) hk h1 (by rw[h2,h3];rfl));go_enter func256,ntmps256;go_wp2_with fail;refine (zb8 C M z base H S q _ h).mono ?_;rintro e w1 ⟨rfl,A⟩;unfold tkV;have am:=h.later A;have ai:IS H S w S w1:=IS.below A;clear A;go_wp2_with fail;refine (zO C M z base H S q 4 zp _ am (by decide)).mono ?_;rintro e w2 ⟨rfl,m,s⟩;rw[h1] at m ⊢;have V:=zc m;have aj:=ai.trans s;clear m s;obtain⟨_,_,_,c3,_,_,_,_,_,_,cf⟩:=zah V.o.cells;rw[h2] at c3;go_wp2_with fail;refine (zcr C M z base H S q 1 zaG _ V.o).mono ?_;rintro e w3 ⟨rfl,A⟩;rw[h3];have ak:=V.o.later A;have ad:=(aj.trans (IS.below A));clear A;go_wp2_with fail;refine (zd8 C M z base H S q _ ak).mono ?_;cases U:zm C false q with
 |error p=>
  rintro e w4 ⟨rfl,A⟩;have X:=(h.back ad).trans A;have Z:Hid (pE C .part d q= .error p):=bdE HY.o U;unfold Pan;go_wp2;refine⟨rfl,?_⟩;rw[Z.o];exact⟨rfl,X⟩
 |ok J=>
  rintro e w4 ⟨rfl,S4,ab,s⟩;have aa:=ad.trans s;clear s;have ae:=zc (bdO HY.o U);have ac:0<J.1.pos:=by rw[(zb2 U).1];exact Nat.succ_pos _
  cases hd:isT C J.1.pos 4 cPoint with
  |true=>
   have HZ:=zc (ae.o.trans (if_pos hd));go_wp2_with fail;refine (zO C M z base H S4 (J.1) 4 cPoint _ ab (by decide)).mono ?_;rintro e w5 ⟨rfl,K,s⟩;rw[hd] at K ⊢;have L:=aa.trans s;clear s;go_wp2_with fail;refine (zfz C M z base H S4 (adv (J.1)) _ K).mono ?_;cases I:zm C true (adv (J.1)) with
   |error p=>
    rintro e w6 ⟨rfl,A⟩;have X:=(h.back L).trans A;have Z:Hid (pE C .part d q= .error p):=bdE HZ.o I;unfold Pan;go_wp2;refine⟨rfl,?_⟩;rw[Z.o];exact⟨rfl,X⟩
   |ok a6=>
    rintro e w6 ⟨rfl,S6,Y,s⟩;have N:=L.trans s;clear s;have O:=zc (bdO HZ.o I);go_wp2_with fail;refine (zf4 C M z base H S6 (a6.1) ⟨4,0,J.2,a6.2,0,0⟩ 5 _ Y (by rw[(zb2 I).1];exact Nat.succ_pos _)).mono ?_;cases af:zbs C ⟨4,0,J.2,a6.2,0,0⟩ 5 (a6.1) with
    |error p=>
     rintro e w7 ⟨rfl,A⟩;have X:=(h.back N).trans A;have Z:Hid (pE C .part d q= .error p):=O.o.trans af;unfold Pan;go_wp2;refine⟨rfl,?_⟩;rw[Z.o];exact⟨rfl,X⟩
    |ok a7=>
     rintro e w7 ⟨rfl,S7,ah,s⟩;have al:=N.trans s;clear s;have ag:=zc (O.o.trans af);go_wp2;go_ret;rw[ag.o];exact⟨rfl,S7,ah,al⟩
  |false=>
   have HZ:=zc (ae.o.trans (if_neg (by rw[hd];decide)));go_wp2_with fail;refine (zO C M z base H S4 (J.1) 4 cPoint _ ab (by decide)).mono ?_;rintro e w5 ⟨rfl,K,s⟩;rw[hd] at K ⊢;have L:=aa.trans s;clear s;go_wp2_with fail;refine (zf4 C M z base H S4 (J.1) ⟨2,0,J.2,sNone,0,0⟩ 3 _ K ac).mono ?_;cases I:zbs C ⟨2,0,J.2,sNone,0,0⟩ 3 (J.1) with
   |error p=>
    rintro e w6 ⟨rfl,A⟩;have X:=(h.back L).trans A;have Z:Hid (pE C .part d q= .error p):=HZ.o.trans I;unfold Pan;go_wp2;refine⟨rfl,?_⟩;rw[Z.o];exact⟨rfl,X⟩
   |ok a6=>
    rintro e w6 ⟨rfl,S6,Y,s⟩;have N:=L.trans s;clear s;have O:=zc (HZ.o.trans I);go_wp2;go_ret;rw[O.o];exact⟨rfl,S6,Y,N⟩
theorem zo7 (C:Cx) (M z base H d:Nat) (S:Sv) (q:PS) (w:World) (h:IM C M z base H S q w) (hk:((ze C q.pos).kind==2)=false) (h1:isT C q.pos 4 zp=false) (h2:C.scr=false):
  Calls prog 256 #[.pointer (some ⟨H,0,none⟩),.int .i64 d] w (zU C M z base H (pE C .part d q) id exI S w):=by
 have al:=zdg;have an:=zcR;have am:=zeH;have HY:=zc (zjI (d:=d) hk h1 (by rw[h2];rfl));go_enter func256,ntmps256;go_wp2_with fail;refine (zb8 C M z base H S q _ h).mono ?_;rintro e w1 ⟨rfl,K⟩;unfold tkV;have aj:=h.later K;have ag:IS H S w S w1:=IS.below K;clear K;go_wp2_with fail;refine (zO C M z base H S q 4 zp _ aj (by decide)).mono ?_;rintro e w2 ⟨rfl,m,s⟩;rw[h1] at m ⊢;have Z:=zc m;have aa:=ag.trans s;clear m s;obtain⟨_,_,_,c3,_,_,_,_,_,_,cf⟩:=zah Z.o.cells;rw[h2] at c3;go_wp2_with fail;refine (zd8 C M z base H S q _ Z.o).mono ?_;cases X:zm C false q with
 |error p=>
  rintro e w3 ⟨rfl,K⟩;have V:=(h.back aa).trans K;have Y:Hid (pE C .part d q= .error p):=bdE HY.o X;unfold Pan;go_wp2;refine⟨rfl,?_⟩;rw[Y.o];exact⟨rfl,V⟩
 |ok I=>
  rintro e w3 ⟨rfl,S3,ad,s⟩;have af:=aa.trans s;clear s;have ae:=zc (bdO HY.o X);have ab:0<I.1.pos:=by rw[(zb2 X).1];exact Nat.succ_pos _
  cases hd:isT C I.1.pos 4 cPoint with
  |true=>
   have HZ:=zc (ae.o.trans (if_pos hd));go_wp2_with fail;refine (zO C M z base H S3 (I.1) 4 cPoint _ ad (by decide)).mono ?_;rintro e w4 ⟨rfl,L,s⟩;rw[hd] at L ⊢;have J:=af.trans s;clear s;go_wp2_with fail;refine (zfz C M z base H S3 (adv (I.1)) _ L).mono ?_;cases A:zm C true (adv (I.1)) with
   |error p=>
    rintro e w5 ⟨rfl,K⟩;have V:=(h.back J).trans K;have Y:Hid (pE C .part d q= .error p):=bdE HZ.o A;unfold Pan;go_wp2;refine⟨rfl,?_⟩;rw[Y.o];exact⟨rfl,V⟩
   |ok a5=>
    rintro e w5 ⟨rfl,S5,U,s⟩;have O:=J.trans s;clear s;have N:=zc (bdO HZ.o A);go_wp2_with fail;refine (zf4 C M z base H S5 (a5.1) ⟨4,0,I.2,a5.2,0,0⟩ 5 _ U (by rw[(zb2 A).1];exact Nat.succ_pos _)).mono ?_;cases ac:zbs C ⟨4,0,I.2,a5.2,0,0⟩ 5 (a5.1) with
    |error p=>
     rintro e w6 ⟨rfl,K⟩;have V:=(h.back O).trans K;have Y:Hid (pE C .part d q= .error p):=N.o.trans ac;unfold Pan;go_wp2;refine⟨rfl,?_⟩;rw[Y.o];exact⟨rfl,V⟩
    |ok a6=>
     rintro e w6 ⟨rfl,S6,ah,s⟩;have ai:=O.trans s;clear s;have ak:=zc (N.o.trans ac);go_wp2;go_ret;rw[ak.o];exact⟨rfl,S6,ah,ai⟩
  |false=>
   have HZ:=zc (ae.o.trans (if_neg (by rw[hd];decide)));go_wp2_with fail;refine (zO C M z base H S3 (I.1) 4 cPoint _ ad (by decide)).mono ?_;rintro e w4 ⟨rfl,L,s⟩;rw[hd] at L ⊢;have J:=af.trans s;clear s;go_wp2_with fail;refine (zf4 C M z base H S3 (I.1) ⟨2,0,I.2,sNone,0,0⟩ 3 _ L ab).mono ?_;cases A:zbs C ⟨2,0,I.2,sNone,0,0⟩ 3 (I.1) with
   |error p=>
    rintro e w5 ⟨rfl,K⟩;have V:=(h.back J).trans K;have Y:Hid (pE C .part d q= .error p):=HZ.o.trans A;unfold Pan;go_wp2;refine⟨rfl,?_⟩;rw[Y.o];exact⟨rfl,V⟩
   |ok a5=>
    rintro e w5 ⟨rfl,S5,U,s⟩;have O:=J.trans s;clear s;have N:=zc (HZ.o.trans A);go_wp2;go_ret;rw[N.o];exact⟨rfl,S5,U,O⟩
theorem zjJ (C:Cx) (H z base A m d:Nat) (S:Sv) (q:PS) (w:World) (h:IM C H z base A S q w) (U:d<=20) (O:zf5 C H z base A m) (N:C.ts.length-q.pos<=m):
  Calls prog 256 #[.pointer (some ⟨A,0,none⟩),.int .i64 d] w (zU C H z base A (pE C .part d q) id exI S w):=by
 cases I:((ze C q.pos).kind==2) with
 |true=>exact zo2 C H z base A d S q w h I
 |false=>
  cases J:isT C q.pos 4 zp with
  |true=>
   by_cases K:20<=d
   ·exact zo3 C H z base A d S q w h I J K
   ·exact zo4 C H z base A m d S q w h I J (by omega) O N
  |false=>
   cases L:C.scr with
   |true=>
    cases M:isT C q.pos 1 zaG with
    |true=>exact zo5 C H z base A d S q w h I J L M
    |false=>exact zo6 C H z base A d S q w h I J L M
   |false=>exact zo7 C H z base A d S q w h I J L
theorem zo8 {C:Cx} {d:Nat} {q:PS} (h:isT C q.pos 4 zy=false):pE C .prodT d q= .ok q:=by rw[zgb,if_neg (by rw[h];decide)]
theorem zo9 {C:Cx} {d:Nat} {q:PS} (h:isT C q.pos 4 zy=true):pE C .prodT d q=bd (pE C .part d (adv q)) fun a=>bd (zR C ⟨8,0,sNone,sNone,(q.ex.length:Int)-1,(a.ex.length:Int)-1⟩ a) (pE C .prodT d):=by rw[zgb,if_pos h,zP]
theorem zoA {C:Cx} {d:Nat} {q:PS} (h:isT C q.pos 4 zbp=false) (w:isT C q.pos 4 zc0=false):pE C .sumT d q= .ok q:=by rw[zfq,if_neg (by rw[h,w];decide)]
theorem zoB {C:Cx} {d:Nat} {q:PS} (h:isT C q.pos 4 zbp=true):pE C .sumT d q=bd (pE C .prod d (adv q)) fun a=>bd (zR C ⟨7,0,sNone,sNone,(q.ex.length:Int)-1,(a.ex.length:Int)-1⟩ a) (pE C .sumT d):=by
 rw[zfq,if_pos (by rw[h];exact Bool.or_true _),zP,zd2,if_pos h]
theorem zoC {C:Cx} {d:Nat} {q:PS} (h:isT C q.pos 4 zbp=false) (w:isT C q.pos 4 zc0=true):pE C .sumT d q=bd (pE C .prod d (adv q)) fun a=>bd (zR C ⟨6,0,sNone,sNone,(q.ex.length:Int)-1,(a.ex.length:Int)-1⟩ a) (pE C .sumT d):=by
 rw[zfq,if_pos (by rw[w];rfl),zP,zd2,if_neg (by rw[h];decide)]
theorem zhC (C:Cx) (K z base I m d:Nat) (S:Sv) (q:PS) (w:World) (h:IM C K z base I S q w) (hd:d<=20) (hS:zf5 C K z base I m) (hm:C.ts.length-q.pos<=m):
  Calls prog 252 #[.pointer (some ⟨I,0,none⟩),.int .i64 d] w (zU C K z base I (pE C .prod d q) id exI S w):=by
 have HY:=zc (zjm C d q);go_enter func252,ntmps252;go_wp2_with fail;refine (zjJ C K z base I m d S q _ h hd hS hm).mono ?_;cases M:pE C .part d q with
 |error p=>
  rintro e w1 ⟨rfl,X⟩;have Y:Below base w w1:=(h.back (IS.refl _ _ _)).trans X;have HX:Hid (pE C .prod d q= .error p):=bdE HY.o M;unfold Pan;go_wp2;refine⟨rfl,?_⟩;rw[HX.o];exact⟨rfl,Y⟩
 |ok a1=>
  rintro e w1 ⟨rfl,S1,ak,ag⟩;have al:=zc (bdO HY.o M);unfold exI;have ao:=zbh M;go_wp2;go_loopg [5] (C.ts.length+1) (fun k l wr=>∃(O:Sv) (A:PS),l=exI A/\pE C .prod d q=pE C .prodT d A/\C.ts.length-A.pos<k/\C.ts.length-A.pos<=m/\IM C K z base I O A wr/\IS I S w O wr)
  case atStart=>exact⟨S1,a1,rfl,al.o,by omega,by omega,ak,ag⟩
  case round=>
   obtain⟨O,A,rfl,hy,hk,an,m',s'⟩:=hrel;have Z:=zc hy;have V:=m';have ad:=s';clear hy m' s';unfold exI;cases hi:isT C A.pos 4 zy with
   |false=>
    have HZ:=zc (Z.o.trans (zo8 hi));go_wp2_with fail;refine (zO C K z base I O A 4 zy _ V (by decide)).mono ?_;rintro e w2 ⟨rfl,H,s⟩;rw[hi] at H ⊢;have J:=ad.trans s;clear s;go_wp2;go_ret;rw[HZ.o];exact⟨rfl,O,H,J⟩
   |true=>
    have am:=za9 hi (by decide);have HZ:=zc (Z.o.trans (zo9 hi));go_wp2_with fail;refine (zO C K z base I O A 4 zy _ V (by decide)).mono ?_;rintro e w2 ⟨rfl,H,s⟩;rw[hi] at H ⊢;have J:=ad.trans s;clear s;go_wp2_with fail;refine (zjJ C K z base I m d O (adv A) _ H hd hS (by rw[zz];omega)).mono ?_;cases N:pE C .part d (adv A) with
    |error p=>
     rintro e w3 ⟨rfl,X⟩;have Y:=(h.back J).trans X;have HX:Hid (pE C .prod d q= .error p):=bdE HZ.o N;unfold Pan;go_wp2;refine⟨rfl,?_⟩;rw[HX.o];exact⟨rfl,Y⟩
    |ok U=>
     rintro e w3 ⟨rfl,S3,ai,s⟩;have ac:=J.trans s;clear s;have ab:=zc (bdO HZ.o N);unfold exI;have aa:=zbh N;rw[zz] at aa;have ah:0<U.pos:=by omega
     go_wp2_with fail;refine (zeL C K z base I S3 U ⟨8,0,sNone,sNone,(A.ex.length:Int)-1,(U.ex.length:Int)-1⟩ _ ai ah).mono ?_;cases L:zR C ⟨8,0,sNone,sNone,(A.ex.length:Int)-1,(U.ex.length:Int)-1⟩ U with
     |error p=>
      rintro e w4 ⟨rfl,X⟩;have Y:=(h.back ac).trans X;have HX:Hid (pE C .prod d q= .error p):=bdE ab.o L;unfold Pan;go_wp2;refine⟨rfl,?_⟩;rw[HX.o];exact⟨rfl,Y⟩
     |ok a4=>
      rintro e w4 ⟨rfl,S4,af,s⟩;have ae:=ac.trans s;clear s;have aj:=zc (bdO ab.o L);have HP:Hid (a4.pos=U.pos):=by show _=_;rw[(zb3 L).1]
      go_wp2;go_roundg (gk-1)
      case rel=>exact⟨S4,a4,rfl,aj.o,by have:=HP.o;omega,by have:=HP.o;omega,af,ae⟩
      case measure=>omega
theorem zoD (C:Cx) (J z base I m d:Nat) (S:Sv) (q:PS) (w:World) (h:IM C J z base I S q w) (hd:d<=20) (hS:zf5 C J z base I m) (hm:C.ts.length-q.pos<=m):
  Calls prog 239 #[.pointer (some ⟨I,0,none⟩),.int .i64 d] w (zU C J z base I (pE C .sum d q) id exI S w):=by
 have HY:=zc (zjl C d q);go_enter func239,ntmps239;go_wp2_with fail;refine (zhC C J z base I m d S q _ h hd hS hm).mono ?_;cases ad:pE C .prod d q with
 |error p=>
  rintro e w1 ⟨rfl,H⟩;have HB:Below base w w1:=(h.back (IS.refl _ _ _)).trans H;have HX:Hid (pE C .sum d q= .error p):=bdE HY.o ad;unfold Pan;go_wp2;refine⟨rfl,?_⟩;rw[HX.o];exact⟨rfl,HB⟩
 |ok a1=>
  rintro e w1 ⟨rfl,S1,ap,al⟩;have am:=zc (bdO HY.o ad);unfold exI;have av:=zbh ad;go_wp2;go_loopg [5] (C.ts.length+1) (fun k l wr=>∃(K:Sv) (A:PS),l=exI A/\pE C .sum d q=pE C .sumT d A/\C.ts.length-A.pos<k/\C.ts.length-A.pos<=m/\IM C J z base I K A wr/\IS I S w K wr)
  case atStart=>exact⟨S1,a1,rfl,am.o,by omega,by omega,ap,al⟩
  case round=>
   obtain⟨K,A,rfl,hy,hk,au,m',s'⟩:=hrel;have ag:=zc hy;have N:=m';have aj:=s';clear hy m' s';unfold exI;have ar:=N.mem.few;cases hi:isT C A.pos 4 zbp with
   |true=>
    have ac:=za9 hi (by decide);have HZ:=zc (ag.o.trans (zoB hi));go_wp2_with fail;refine (zcr C J z base I K A 4 zbp _ N).mono ?_;rintro e w2 ⟨rfl,H⟩;rw[hi];have L:Hid (IM C J z base I K A w2):=N.later H;have X:=(aj.trans (IS.below H));clear H;obtain⟨c0,c1,c2,c3,c4,c5,c6,c7,c8,c9,cf⟩:=zah L.o.cells;go_wp2_with fail;have O:Hid (IM C J z base I K (adv A) (w2.setCell ⟨I,1,none⟩ (.int .i64 ((A.pos:Int)+1)))):=L.o.adv ac;have U:IS I S w K (w2.setCell ⟨I,1,none⟩ (.int .i64 ((A.pos:Int)+1))):=X.set _ _;refine (zhC C J z base I m d K (adv A) _ O.o hd hS (by rw[zz];omega)).mono ?_;cases ab:pE C .prod d (adv A) with
    |error p=>
     rintro e w4 ⟨rfl,H⟩;have HB:=(h.back U).trans H;have HX:Hid (pE C .sum d q= .error p):=bdE HZ.o ab;unfold Pan;go_wp2;refine⟨rfl,?_⟩;rw[HX.o];exact⟨rfl,HB⟩
    |ok a4=>
     rintro e w4 ⟨rfl,S4,ae,s⟩;have V:=U.trans s;clear s;have ak:=zc (bdO HZ.o ab);unfold exI;have Y:=zbh ab;rw[zz] at Y;have ai:0<a4.pos:=by omega
     go_wp2_with fail;refine (zeL C J z base I S4 a4 ⟨7,0,sNone,sNone,(A.ex.length:Int)-1,(a4.ex.length:Int)-1⟩ _ ae ai).mono ?_;cases M:zR C ⟨7,0,sNone,sNone,(A.ex.length:Int)-1,(a4.ex.length:Int)-1⟩ a4 with
     |error p=>
      rintro e w5 ⟨rfl,H⟩;have HB:=(h.back V).trans H;have HX:Hid (pE C .sum d q= .error p):=bdE ak.o M;unfold Pan;go_wp2;refine⟨rfl,?_⟩;rw[HX.o];exact⟨rfl,HB⟩
     |ok a5=>
      rintro e w5 ⟨rfl,S5,af,s⟩;have aa:=V.trans s;clear s;have Z:=zc (bdO ak.o M);have HP:Hid (a5.pos=a4.pos):=by show _=_;rw[(zb3 M).1]
      go_wp2;go_roundg (gk-1)
      case rel=>exact⟨S5,a5,rfl,Z.o,by have:=HP.o;omega,by have:=HP.o;omega,af,aa⟩
      case measure=>omega
   |false=>
    cases hj:isT C A.pos 4 zc0 with
    |true=>
     have ac:=za9 hj (by decide);have HZ:=zc (ag.o.trans (zoC hi hj));go_wp2_with fail;refine (zcr C J z base I K A 4 zbp _ N).mono ?_;rintro e w2 ⟨rfl,H⟩;rw[hi];have L:Hid (IM C J z base I K A w2):=N.later H;have X:=(aj.trans (IS.below H));clear H;go_wp2_with fail;refine (zcr C J z base I K A 4 zc0 _ L.o).mono ?_;rintro e w3 ⟨rfl,H⟩;rw[hj];have O:Hid (IM C J z base I K A w3):=L.o.later H;have U:=(X.trans (IS.below H));clear H;obtain⟨c0,c1,c2,c3,c4,c5,c6,c7,c8,c9,cf⟩:=zah O.o.cells;go_wp2_with fail;have ae:=O.o.adv ac;have V:IS I S w K (w3.setCell ⟨I,1,none⟩ (.int .i64 ((A.pos:Int)+1))):=U.set _ _;refine (zhC C J z base I m d K (adv A) _ ae hd hS (by rw[zz];omega)).mono ?_;cases M:pE C .prod d (adv A) with
     |error p=>
      rintro e w5 ⟨rfl,H⟩;have HB:=(h.back V).trans H;have HX:Hid (pE C .sum d q= .error p):=bdE HZ.o M;unfold Pan;go_wp2;refine⟨rfl,?_⟩;rw[HX.o];exact⟨rfl,HB⟩
     |ok a5=>
      rintro e w5 ⟨rfl,S5,af,s⟩;have aa:=V.trans s;clear s;have Z:=zc (bdO HZ.o M);unfold exI;have Y:=zbh M;rw[zz] at Y;have ai:0<a5.pos:=by omega
      go_wp2_with fail;refine (zeL C J z base I S5 a5 ⟨6,0,sNone,sNone,(A.ex.length:Int)-1,(a5.ex.length:Int)-1⟩ _ af ai).mono ?_;cases ah:zR C ⟨6,0,sNone,sNone,(A.ex.length:Int)-1,(a5.ex.length:Int)-1⟩ a5 with
      |error p=>
       rintro e w6 ⟨rfl,H⟩;have HB:=(h.back aa).trans H;have HX:Hid (pE C .sum d q= .error p):=bdE Z.o ah;unfold Pan;go_wp2;refine⟨rfl,?_⟩;rw[HX.o];exact⟨rfl,HB⟩
      |ok a6=>
       rintro e w6 ⟨rfl,S6,an,s⟩;have ao:=aa.trans s;clear s;have aq:=zc (bdO Z.o ah);have HP:Hid (a6.pos=a5.pos):=by show _=_;rw[(zb3 ah).1]
       go_wp2;go_roundg (gk-1)
       case rel=>exact⟨S6,a6,rfl,aq.o,by have:=HP.o;omega,by have:=HP.o;omega,an,ao⟩
       case measure=>omega
    |false=>
     have HZ:=zc (ag.o.trans (zoA hi hj));go_wp2_with fail;refine (zcr C J z base I K A 4 zbp _ N).mono ?_;rintro e w2 ⟨rfl,H⟩;rw[hi];have L:Hid (IM C J z base I K A w2):=N.later H;have X:=(aj.trans (IS.below H));clear H;go_wp2_with fail;refine (zcr C J z base I K A 4 zc0 _ L.o).mono ?_;rintro e w3 ⟨rfl,H⟩;rw[hj];have O:Hid (IM C J z base I K A w3):=L.o.later H;have U:=(X.trans (IS.below H));clear H;go_wp2;go_ret;rw[HZ.o];exact⟨rfl,K,O.o,U⟩
theorem zoE (C:Cx) (I z base H m:Nat):zf5 C I z base H m:=by
 induction m with
 |zero=>intro d S q w A;omega
 |succ m K=>intro d S q w A J h;exact zoD C I z base H m d S q w h J K (by omega)
theorem zoF (C:Cx) (H z base A d:Nat) (S:Sv) (q:PS) (w:World) (h:IM C H z base A S q w) (I:d<=20):
  Calls prog 239 #[.pointer (some ⟨A,0,none⟩),.int .i64 d] w (zU C H z base A (pE C .sum d q) id exI S w):=zoE C H z base A _ d S q w (Nat.lt_succ_self _) I h
theorem zjK {C:Cx} {s:BA} (n:Nat): ∀{k:Nat} {q b:PS},zaI C s n k q= .ok b->b={q with pos:=q.pos+n}:=by
 induction n with
 |zero=>intro k q b h;cases h;rfl
 |succ n z=>
  intro k q b h;rw[zaI] at h;obtain⟨a,w,A⟩:=zn h;rw[z A,(zbV w).1];show ({q with pos:=q.pos+1+n}:PS)=_;congr 1;omega
theorem zoG (x:Sm): ∀u∈smL x,u.oneCell'=true:=by
 intro u h;simp[smL] at h;rcases h with rfl|rfl|rfl<;>rfl
def stmtI (C:Cx) (k:Int) (n s:BA) (q:PS):PR:=bd (pE C .sum 0 q) fun a=>bd (zaI C s s.size 0 a) fun b=>zY C k n b
theorem zel (C:Cx) (gt H base J:Nat) (S:Sv) (q:PS) (I:Int) (n s:BA) (w:World) (h:IM C gt H base J S q w) (hs:s.size<=100) (h0:0<s.size):
  Calls prog 221 #[.pointer (some ⟨J,0,none⟩),.int .i64 I,.string n,.string s] w (zU C gt H base J (stmtI C I n s q) id (fun _=>.tuple #[]) S w):=by
 obtain⟨i0,hi,ag,ak,aj⟩:=info_parts Tryz.infoStmt;have HY:=zc (stmtI.eq_1 C I n s q);go_enter func221,ntmps221;go_wp2_with fail;refine (zoF C gt H base J 0 S q _ h (by omega)).mono ?_;cases U:pE C .sum 0 q with
 |error p=>
  rintro e w1 ⟨rfl,V⟩;have HB:Below base w w1:=(h.back (IS.refl _ _ _)).trans V;have HX:Hid (stmtI C I n s q= .error p):=bdE HY.o U;unfold Pan;go_wp2;refine⟨rfl,?_⟩;rw[HX.o];exact⟨rfl,HB⟩
 |ok a1=>
  rintro e w1 ⟨rfl,S1,al,X⟩;have ac:=zc (bdO HY.o U);unfold exI;go_wp2_with fail;refine (zh7 C gt H base J S1 a1 s _ al hs).mono ?_;cases O:zaI C s s.size 0 a1 with
  |error p=>
   rintro e w2 ⟨rfl,V⟩;have HB:=(h.back X).trans V;have HX:Hid (stmtI C I n s q= .error p):=bdE ac.o O;unfold Pan;go_wp2;refine⟨rfl,?_⟩;rw[HX.o];exact⟨rfl,HB⟩
  |ok A=>
   rintro e w2 ⟨rfl,S2,m,s⟩;have z:=zc m;have aa:=X.trans s;clear m s;have ad:=zc (bdO ac.o O);have M:=zjK _ O;have ab:0<A.pos:=by rw[M];show 0<a1.pos+s.size;omega
   have HE:Hid (A.ex=a1.ex):=by show _=_;rw[M]
   clear M;have an:=z.o.mem.inv.st;obtain⟨c0,c1,c2,c3,c4,c5,c6,c7,c8,c9,cf⟩:=zah z.o.cells;go_wp2_with fail;by_cases hn:A.st.length<80
   ·have HZ:=zc (ad.o.trans (show zY C I n A=_ from if_neg (by omega)));refine (zeg J A.st.length 80 _ (by omega)).mono ?_;rintro e w' ⟨rfl,hw⟩;rw[hw];clear hw w';have HN:Hid (some J≠S2.st.blk):=fun e=>z.o.free (.inr (.inr (.inr (.inl e.symm))));have am:=z.o.lt;have K:=fun L=>(z.o.mem.own.st.alloc L);have Y:=fun L=>(z.o.alloc L).mem.base;have Z:=fun L=>(z.o.alloc L).lt;have af:=fun L=>(z.o.alloc L).cells;go_wp2_with (at_builtin;refine zbb _ rfl _ _ 51 rfl base 102 i0 _ 3 32 underlying51 hi ag ak aj rfl (by decide) (by decide) S2.st A.st.length _ (by rfl) (K _) w2.heap.size (smL ⟨I,n,(a1.ex.length:Int)-1⟩) (by rfl) (by exact heap_alloc_new w2 _) rfl (zoG _) (by omega) (Y _) ?_;intro r' wz hr N ae;have g2:=(N.block J (Z _) HN.o).trans (af _);obtain⟨d0,d1,d2,d3,d4,d5,d6,d7,d8,d9,df⟩:=zah g2;have HR:Hid (OwnR wz base 102 3 r' (A.st.length+1) _):=hr;have ai:Hid (World.grownBy _ wz _):=N;have ah:Hid (_∨_):=ae;clear hr N ae g2 c0 c1 c2 c3 c4 c5 c6 c7 c8 c9 cf K Y Z af);go_wp2;go_end0;obtain⟨m',s'⟩:=z.o.grow_st ((Below.refl _ _).alloc (Nat.le_refl _) _) ai.o HR.o ah.o hn;rw[HZ.o];rw[<-HE.o] at m';exact⟨rfl,_,m',aa.trans s'⟩
   ·have HZ:Hid (stmtI C I n s q= .error (zs C (A.pos-1))):=ad.o.trans (if_pos (by omega));refine (zeK C gt H base J S2 A A.st.length 80 _ z.o (by omega) ab).mono ?_;rintro e wz ⟨rfl,V⟩;have HB:=(h.back aa).trans (V.mono z.o.mem.base);have HX:Hid (stmtI C I n s q= .error (zs C (A.pos-1))):=HZ.o;unfold Pan;go_wp2;refine⟨rfl,?_⟩;rw[HX.o];exact⟨rfl,HB⟩
def letJ (C:Cx) (k:Int) (q:PS):PR:=bd (zm C false q) fun a=>bd (zd C 4 cEq a.1) fun b=>stmtI C k a.2 cSemi b
def fnI (C:Cx) (q:PS):PR:=bd (zm C false q) fun a=>bd (zaI C cCall cCall.size 0 a.1) fun b=>bd (zd C 1 ze9 b) fun c=>stmtI C 2 a.2 cSemiRight c
def printI (C:Cx) (q:PS):PR:=bd (zd C 4 zp q) fun a=>stmtI C 4 sNone cShutSemi a
theorem zhD (C:Cx) (O z base A:Nat) (S:Sv) (q:PS) (w:World) (h:IM C O z base A S q w):
  Calls prog 211 #[.pointer (some ⟨A,0,none⟩)] w (zU C O z base A (letJ C 1 q) id (fun _=>.tuple #[]) S w):=by
 have HY:=zc (letJ.eq_1 C 1 q);go_enter func211,ntmps211;go_wp2_with fail;refine (zd8 C O z base A S q _ h).mono ?_;cases I:zm C false q with
 |error p=>
  rintro e w1 ⟨rfl,H⟩;have M:Below base w w1:=(h.back (IS.refl _ _ _)).trans H;have X:Hid (letJ C 1 q= .error p):=bdE HY.o I;unfold Pan;go_wp2;refine⟨rfl,?_⟩;rw[X.o];exact⟨rfl,M⟩
 |ok Y=>
  rintro e w1 ⟨rfl,S1,ad,K⟩;have V:=zc (bdO HY.o I);go_wp2_with fail;refine (zc3 C O z base A S1 (Y.1) 61 _ ad).mono ?_;cases U:zd C 4 cEq (Y.1) with
  |error p=>
   rintro e w2 ⟨rfl,H⟩;have M:=(h.back K).trans H;have X:Hid (letJ C 1 q= .error p):=bdE V.o U;unfold Pan;go_wp2;refine⟨rfl,?_⟩;rw[X.o];exact⟨rfl,M⟩
  |ok a2=>
   rintro e w2 ⟨rfl,S2,Z,s⟩;have L:=K.trans s;clear s;have J:=zc (bdO V.o U);go_wp2_with fail;refine (zel C O z base A S2 a2 1 Y.2 cSemi _ Z (by decide) (by decide)).mono ?_;cases N:stmtI C 1 Y.2 cSemi a2 with
   |error p=>
    rintro e w3 ⟨rfl,H⟩;have M:=(h.back L).trans H;have X:Hid (letJ C 1 q= .error p):=J.o.trans N;unfold Pan;go_wp2;refine⟨rfl,?_⟩;rw[X.o];exact⟨rfl,M⟩
   |ok a3=>
    rintro e w3 ⟨rfl,S3,aa,s⟩;have ac:=L.trans s;clear s;have ab:=zc (J.o.trans N);go_wp2;go_end0;rw[ab.o];exact⟨rfl,S3,aa,ac⟩
theorem zjL (C:Cx) (O z base A:Nat) (S:Sv) (q:PS) (w:World) (h:IM C O z base A S q w):
  Calls prog 196 #[.pointer (some ⟨A,0,none⟩)] w (zU C O z base A (letJ C 3 q) id (fun _=>.tuple #[]) S w):=by
 have HY:=zc (letJ.eq_1 C 3 q);go_enter func196,ntmps196;go_wp2_with fail;refine (zd8 C O z base A S q _ h).mono ?_;cases I:zm C false q with
 |error p=>
  rintro e w1 ⟨rfl,H⟩;have M:Below base w w1:=(h.back (IS.refl _ _ _)).trans H;have X:Hid (letJ C 3 q= .error p):=bdE HY.o I;unfold Pan;go_wp2;refine⟨rfl,?_⟩;rw[X.o];exact⟨rfl,M⟩
 |ok Y=>
  rintro e w1 ⟨rfl,S1,ad,K⟩;have V:=zc (bdO HY.o I);go_wp2_with fail;refine (zc3 C O z base A S1 (Y.1) 61 _ ad).mono ?_;cases U:zd C 4 cEq (Y.1) with
  |error p=>
   rintro e w2 ⟨rfl,H⟩;have M:=(h.back K).trans H;have X:Hid (letJ C 3 q= .error p):=bdE V.o U;unfold Pan;go_wp2;refine⟨rfl,?_⟩;rw[X.o];exact⟨rfl,M⟩
  |ok a2=>
   rintro e w2 ⟨rfl,S2,Z,s⟩;have L:=K.trans s;clear s;have J:=zc (bdO V.o U);go_wp2_with fail;refine (zel C O z base A S2 a2 3 Y.2 cSemi _ Z (by decide) (by decide)).mono ?_;cases N:stmtI C 3 Y.2 cSemi a2 with
   |error p=>
    rintro e w3 ⟨rfl,H⟩;have M:=(h.back L).trans H;have X:Hid (letJ C 3 q= .error p):=J.o.trans N;unfold Pan;go_wp2;refine⟨rfl,?_⟩;rw[X.o];exact⟨rfl,M⟩
   |ok a3=>
    rintro e w3 ⟨rfl,S3,aa,s⟩;have ac:=L.trans s;clear s;have ab:=zc (J.o.trans N);go_wp2;go_end0;rw[ab.o];exact⟨rfl,S3,aa,ac⟩
theorem zhE (C:Cx) (K z base H:Nat) (S:Sv) (q:PS) (w:World) (h:IM C K z base H S q w):
  Calls prog 212 #[.pointer (some ⟨H,0,none⟩)] w (zU C K z base H (fnI C q) id (fun _=>.tuple #[]) S w):=by
 have HY:=zc (fnI.eq_1 C q);go_enter func212,ntmps212;go_wp2_with fail;refine (zd8 C K z base H S q _ h).mono ?_;cases M:zm C false q with
 |error p=>
  rintro e w1 ⟨rfl,A⟩;have I:Below base w w1:=(h.back (IS.refl _ _ _)).trans A;have J:Hid (fnI C q= .error p):=bdE HY.o M;unfold Pan;go_wp2;refine⟨rfl,?_⟩;rw[J.o];exact⟨rfl,I⟩
 |ok a1=>
  rintro e w1 ⟨rfl,S1,ag,O⟩;have aa:=zc (bdO HY.o M);go_wp2_with fail;refine (zh7 C K z base H S1 (a1.1) cCall _ ag (by decide)).mono ?_;cases Z:zaI C cCall cCall.size 0 (a1.1) with
  |error p=>
   rintro e w2 ⟨rfl,A⟩;have I:=(h.back O).trans A;have J:Hid (fnI C q= .error p):=bdE aa.o Z;unfold Pan;go_wp2;refine⟨rfl,?_⟩;rw[J.o];exact⟨rfl,I⟩
  |ok a2=>
   rintro e w2 ⟨rfl,S2,ac,s⟩;have U:=O.trans s;clear s;have N:=zc (bdO aa.o Z);go_wp2_with fail;refine (zeJ C K z base H S2 a2 ze9 _ ac).mono ?_;cases V:zd C 1 ze9 a2 with
   |error p=>
    rintro e w3 ⟨rfl,A⟩;have I:=(h.back U).trans A;have J:Hid (fnI C q= .error p):=bdE N.o V;unfold Pan;go_wp2;refine⟨rfl,?_⟩;rw[J.o];exact⟨rfl,I⟩
   |ok a3=>
    rintro e w3 ⟨rfl,S3,ae,s⟩;have Y:=U.trans s;clear s;have X:=zc (bdO N.o V);go_wp2_with fail;refine (zel C K z base H S3 a3 2 a1.2 cSemiRight _ ae (by decide) (by decide)).mono ?_;cases L:stmtI C 2 a1.2 cSemiRight a3 with
    |error p=>
     rintro e w4 ⟨rfl,A⟩;have I:=(h.back Y).trans A;have J:Hid (fnI C q= .error p):=X.o.trans L;unfold Pan;go_wp2;refine⟨rfl,?_⟩;rw[J.o];exact⟨rfl,I⟩
    |ok a4=>
     rintro e w4 ⟨rfl,S4,ad,s⟩;have ab:=Y.trans s;clear s;have af:=zc (X.o.trans L);go_wp2;go_end0;rw[af.o];exact⟨rfl,S4,ad,ab⟩
theorem zjM (C:Cx) (L z base H:Nat) (S:Sv) (q:PS) (w:World) (h:IM C L z base H S q w):
  Calls prog 213 #[.pointer (some ⟨H,0,none⟩)] w (zU C L z base H (printI C q) id (fun _=>.tuple #[]) S w):=by
 have HY:=zc (printI.eq_1 C q);go_enter func213,ntmps213;go_wp2_with fail;refine (zc3 C L z base H S q 40 _ h).mono ?_;cases A:zd C 4 zp q with
 |error p=>
  rintro e Z ⟨rfl,N⟩;have V:Below base w Z:=(h.back (IS.refl _ _ _)).trans N;have Y:Hid (printI C q= .error p):=bdE HY.o A;unfold Pan;go_wp2;refine⟨rfl,?_⟩;rw[Y.o];exact⟨rfl,V⟩
 |ok a1=>
  rintro e Z ⟨rfl,S1,X,I⟩;have K:=zc (bdO HY.o A);go_wp2_with fail;refine (zel C L z base H S1 a1 4 sNone cShutSemi _ X (by decide) (by decide)).mono ?_;cases J:stmtI C 4 sNone cShutSemi a1 with
  |error p=>
   rintro e w2 ⟨rfl,N⟩;have V:=(h.back I).trans N;have Y:Hid (printI C q= .error p):=K.o.trans J;unfold Pan;go_wp2;refine⟨rfl,?_⟩;rw[Y.o];exact⟨rfl,V⟩
  |ok a2=>
   rintro e w2 ⟨rfl,S2,M,s⟩;have U:=I.trans s;clear s;have O:=zc (K.o.trans J);go_wp2;go_end0;rw[O.o];exact⟨rfl,S2,M,U⟩
theorem zjN (C:Cx) (H z base A:Nat) (S:Sv) (q:PS) (w:World) (h:IM C H z base A S q w):
  Calls prog 214 #[.pointer (some ⟨A,0,none⟩)] w (zU C H z base A (stmtI C 5 sNone cSemi q) id (fun _=>.tuple #[]) S w):=by
 go_enter func214,ntmps214;go_wp2_with fail;refine (zel C H z base A S q 5 sNone cSemi _ h (by decide) (by decide)).mono ?_;cases I:stmtI C 5 sNone cSemi q with
 |error p=>
  rintro e J ⟨rfl,N⟩;unfold Pan;go_wp2;refine⟨rfl,?_⟩;rw[I];exact⟨rfl,N⟩
 |ok a=>
  rintro e J ⟨rfl,K,L,M⟩;go_wp2;go_end0;rw[I];exact⟨rfl,K,L,M⟩
theorem zoH (C:Cx) (H z base A:Nat) (S:Sv) (q:PS) (w:World) (h:IM C H z base A S q w):
  Calls prog 215 #[.pointer (some ⟨A,0,none⟩)] w (zU C H z base A (stmtI C 6 sNone cSemi q) id (fun _=>.tuple #[]) S w):=by
 go_enter func215,ntmps215;go_wp2_with fail;refine (zel C H z base A S q 6 sNone cSemi _ h (by decide) (by decide)).mono ?_;cases I:stmtI C 6 sNone cSemi q with
 |error p=>
  rintro e J ⟨rfl,N⟩;unfold Pan;go_wp2;refine⟨rfl,?_⟩;rw[I];exact⟨rfl,N⟩
 |ok a=>
  rintro e J ⟨rfl,K,L,M⟩;go_wp2;go_end0;rw[I];exact⟨rfl,K,L,M⟩
def zcG (C:Cx) (i:Nat):BA:=if (ze C i).kind==1 then (ze C i).text else sNone
theorem zjO (C:Cx) (J z base H:Nat) (S:Sv) (q:PS) (w:World) (h:IM C J z base H S q w):
  Calls prog 195 #[.pointer (some ⟨H,0,none⟩)] w fun e w'=>e= .returned (.string (zcG C q.pos))/\Below w.heap.size w w':=by
 cases K:((ze C q.pos).kind==1) with
 |true=>
  have I:Hid (zcG C q.pos=(ze C q.pos).text):=by show _=_;rw[zcG,K];rfl
  go_enter func195,ntmps195;go_wp2_with fail;refine (zb8 C J z base H S q _ h).mono ?_;rintro e L ⟨rfl,A⟩;unfold tkV;go_wp2;go_ret;rw[I.o];exact⟨rfl,A.alloc A.size _⟩
 |false=>
  have I:Hid (zcG C q.pos=sNone):=by show _=_;rw[zcG,K];rfl
  go_enter func195,ntmps195;go_wp2_with fail;refine (zb8 C J z base H S q _ h).mono ?_;rintro e L ⟨rfl,A⟩;unfold tkV;go_wp2;go_ret;rw[I.o];exact⟨rfl,A.alloc A.size _⟩
theorem OwnR.stmtName {w:World} {base:Nat} {r:Rw} {l:List Sm} {x:Sm} (h:OwnR w base 102 3 r (l++[x]).length ((l++[x]).flatMap smL)): ∃g,r.a=some ⟨g,0,none⟩/\w.cell? ⟨g,l.length*3+1,none⟩=some (.string x.name):=by
 rcases h.2 with ⟨_,K⟩|⟨g,J,I,q,_⟩
 ·simp at K
 ·simp only[Value.slice.injEq] at q;have z:=h;unfold OwnR at z;rw[q.1,q.2.2] at z;refine⟨g,q.1,?_⟩;rw[World.ownsRow.cellAt z _ (by simp;omega)];have A: ∀l:List Sm,(l.flatMap smL).length=l.length*3:=by
   intro l
   induction l with
   |nil=>rfl
   |cons y l H=>simp[List.flatMap_cons,smL,H] at H ⊢;omega
  rw[List.flatMap_append,List.getElem?_append_right (by rw[A];omega),A];simp[smL]
theorem zoI (C:Cx) (U A base I:Nat) (S:Sv) (q:PS) (l:List Sm) (x:Sm) (w:World) (h:IM C U A base I S q w) (X:q.st=l++[x]) (N:x.name.size<=281474976710656) (hp:0<q.pos):
  Calls prog 235 #[.pointer (some ⟨I,0,none⟩)] w (zU C U A base I (zq C ⟨1,x.name,x.name,sNone⟩ q) id (fun _=>.tuple #[]) S w):=by
 obtain⟨_,_,_,_,_,_,_,J,_,_,_⟩:=zah h.cells;have O:=h.mem.own.st;rw[X] at O J;obtain⟨g,Z,hc⟩:=O.stmtName;have L:=h.mem.inv.st;rw[X] at L;have K:(l++[x]).length=l.length+1:=by simp
 rw[K] at J L;rw[Z] at J;have C7:=zc J;have CN:=zc hc;have e1:((l.length+1:Nat):Int)-1=(l.length:Int):=by omega
 have e2:(l.length:Int)+1-1=(l.length:Int):=by omega
 have ad:IntKind.i64.wrap (l.length:Int)=(l.length:Int):=IntWalk.i64_in _ ⟨by omega,by omega⟩;have aa:(l.length:Int)<((l.length+1:Nat):Int):=by omega
 have ab:(l.length:Int)<(l.length:Int)+1:=by omega
 have cC: ∀d os,Calls prog 191 #[.string x.name] (grow (redrawn w d) os) fun e V=>e= .returned (.string x.name)/\∃p:Regrown,V=grow (redrawn w p.d) p.os:=fun d os=>Calls.regrown_of (zjE _ _ N);clear J hc O Z X;go_enter func235,ntmps235;go_wp2_with fail;have k7:=cell_regrown C7.o;have kN:=cell_regrown CN.o;refine wp_region_quiet_below (by kernel_rfl) (by kernel_rfl) ?_
 repeat (go_big_quiet_step (exact cC _ _))
 refine wpQuiet_nil ?_;intro w1 M;obtain⟨⟨dq,ac⟩,z⟩:=M;have H:Below w.heap.size w w1:=by show Below _ _ _;rw[z];exact below_regrown _ _ _
 clear z k7 kN cC C7 CN;have Y:=h.later H;go_wp2_with fail;refine (zf3 C U A base I S q ⟨1,x.name,x.name,sNone⟩ _ Y hp).mono ?_;cases hn:zq C ⟨1,x.name,x.name,sNone⟩ q with
 |error p=>
  rintro e w2 ⟨rfl,hb⟩;have HB:=(H.mono h.mem.base).trans hb;unfold Pan;go_wp2;refine⟨rfl,?_⟩;rw[hn];exact⟨rfl,HB⟩
 |ok a=>
  rintro e w2 ⟨rfl,S1,HM,s⟩;have HS:IS I S w S1 w2:=(IS.below H).trans s;clear s;go_wp2;go_end0;rw[hn];exact⟨rfl,S1,HM,HS⟩
def Fr (e:TypeId) (size:Nat) (w:World) (b:Nat) (r:Rw) (n:Nat) (xs:List Value) (S:Sv):Prop:=OwnR w b e size r n xs/\∀k,r.blk=some k->¬S.has k
theorem Fr.ngp {C:Cx} {J z base A size b n:Nat} {S:Sv} {q:PS} {w:World} {e:TypeId} {r:Rw} {xs:List Value} (f:Fr e size w b r n xs S) (h:IM C J z base A S q w) (I:e≠211) {k:Nat} (H:r.blk=some k):k≠A:=by
 rintro rfl;obtain⟨_,_,c,g⟩:=f.1.typed H;rw[h.cells] at g;simp only[Option.some.injEq,Obj.cells.injEq] at g;exact I g.2.1.symm
theorem Fr.ngt {C:Cx} {A z base I size b n:Nat} {S:Sv} {q:PS} {w:World} {e:TypeId} {r:Rw} {xs:List Value} (f:Fr e size w b r n xs S) (h:IM C A z base I S q w) (J:e≠158) {k:Nat} (H:r.blk=some k):k≠A:=by
 rintro rfl;obtain⟨_,_,c,g⟩:=f.1.typed H;obtain⟨L,K⟩:=zgf h.mem.tok;rw[K] at g;simp only[Option.some.injEq,Obj.cells.injEq] at g;exact J g.2.1.symm
theorem Fr.step {C:Cx} {L z base H size b n:Nat} {S A:Sv} {q:PS} {w w':World} {e:TypeId} {r:Rw} {xs:List Value} (f:Fr e size w b r n xs S) (h:IM C L z base H S q w) (J:e≠211) (s:IS H S w A w'):Fr e size w' b r n xs A:=by
 refine⟨f.1.keep fun k g=>s.block k (f.1.typed g).2.1 (f.2 k g) (f.ngp h J g),fun k g K=>?_⟩;rcases s.sub k K with I|I
 ·exact f.2 k g I
 ·have:=(f.1.typed g).2.1;omega
theorem Fr.low {size b h n:Nat} {S:Sv} {w:World} {e:TypeId} {r:Rw} {xs:List Value} (f:Fr e size w b r n xs S) (q:h<=b):Fr e size w h r n xs S:=⟨f.1.low q,f.2⟩
theorem Fr.later {size b n:Nat} {S:Sv} {w w':World} {e:TypeId} {r:Rw} {xs:List Value} (f:Fr e size w b r n xs S) (h:Below w.heap.size w w'):Fr e size w' b r n xs S:=⟨f.1.keep fun k g=>h.block k (f.1.typed g).2.1,f.2⟩
theorem IM.aside {C:Cx} {z A base w:Nat} {S:Sv} {q:PS} {W J:World} {b:Option Nat} (h:IM C z A base w S q W) (H:W.grownBy J b) (I: ∀k,b=some k->¬S.has k/\k≠w/\k≠z):IM C z A base w S q J:=by
 refine⟨⟨h.mem.own.keep fun k g=>H.block k (h.mem.own.has g).2 fun e=>(I k e.symm).1 g,h.mem.inv,zbI h.mem.tok (H.block z (zau h.mem.tok).1 fun e=>(I z e.symm).2.2 rfl),h.mem.few,Nat.le_trans h.mem.base H.size⟩,(H.block w h.lt fun e=>(I w e.symm).2.1 rfl).trans h.cells,h.ge⟩
theorem IS.aside {A:Nat} {S H:Sv} {w W I:World} {b:Option Nat} (s:IS A S w H W) (h:W.grownBy I b) (J: ∀k,b=some k->w.heap.size<=k):IS A S w H I:=
 ⟨h.os.trans s.os,h.tape.trans s.tape,h.output.trans s.output,Nat.le_trans s.size h.size,fun k z K q=>(h.block k (Nat.lt_of_lt_of_le z s.size) fun e=>by have:=J k e.symm;omega).trans (s.block k z K q),s.sub⟩
theorem Fr.grown {size b n:Nat} {S:Sv} {W J:World} {e:TypeId} {r w:Rw} {xs I:List Value} {C:Cx} {N z base L:Nat} {q:PS} (f:Fr e size W b r n xs S) (h:IM C N z base L S q W) (M:OwnR J b e size w (n+1) I) (H:w.blk=r.blk∨w.blk=some W.heap.size):Fr e size J b w (n+1) I S:=by
 refine⟨M,fun k g K=>?_⟩;rcases H with A|A
 ·exact f.2 k (A.symm.trans g) K
 ·have O:W.heap.size=k:=Option.some.inj (A.symm.trans g);have:=(h.mem.own.has K).2;omega
theorem zoJ {α:Type} (f:α->List Value) (m:Nat) (q: ∀x,(f x).length=m) (l:List α):(l.flatMap f).length=l.length*m:=by
 induction l with
 |nil=>simp
 |cons y l h=>rw[List.flatMap_cons,List.length_append,q,h,List.length_cons,Nat.succ_mul];omega
theorem zoK {α:Type} (f:α->List Value) (m:Nat) (q: ∀x,(f x).length=m): ∀(l:List α) (j i:Nat) (x:α),l[j]? =some x->i<m->(l.flatMap f)[j*m+i]? =(f x)[i]?:=by
 intro l
 induction l with
 |nil=>intro j i x h;simp at h
 |cons y l z=>
  intro j i x h w;rw[List.flatMap_cons]
  match j with
  |0=>
   simp only[List.getElem?_cons_zero,Option.some.injEq] at h;subst h;rw[Nat.zero_mul,Nat.zero_add,List.getElem?_append_left (by rw[q];exact w)]
  |j+1=>
   simp only[List.getElem?_cons_succ] at h;rw[List.getElem?_append_right (by rw[q,Nat.succ_mul];omega),q,<-z j i x h w];congr 1;rw[Nat.succ_mul];omega
theorem OwnR.elem {α:Type} {f:α->List Value} {m:Nat} (J: ∀x,(f x).length=m) {w:World} {base:Nat} {e:TypeId} {r:Rw} {l:List α} (h:OwnR w base e m r l.length (l.flatMap f)) {j:Nat} {x:α} (H:l[j]? =some x): ∃g,r.a=some ⟨g,0,none⟩/\∀i,i<m->w.cell? ⟨g,j*m+i,none⟩=(f x)[i]?:=by
 have z:j<l.length:=(List.getElem?_eq_some_iff.1 H).1;rcases h.2 with ⟨_,N⟩|⟨g,K,I,q,_⟩
 ·omega
 ·simp only[Value.slice.injEq] at q;have A:=h;unfold OwnR at A;rw[q.1,q.2.2] at A;refine⟨g,q.1,fun i M=>?_⟩;have L:j*m+i<l.length*m:=by
   have:=Nat.mul_le_mul_right m z;rw[Nat.succ_mul] at this;omega
  rw[World.ownsRow.cellAt A _ L];exact zoK f m J l j i x H M
structure OwnMd (w:World) (base:Nat) (S:Sv) (m:Md):Prop where
 rq:OwnR w base 9 1 S.rq m.rq.length (m.rq.map .string)
 im:OwnR w base 95 3 S.im m.im.length (m.im.flatMap imL)
 ep:OwnR w base 97 4 S.ep m.ep.length (m.ep.flatMap epL)
 st:OwnR w base 102 3 S.st m.st.length (m.st.flatMap smL)
 ex:OwnR w base 100 6 S.ex m.ex.length (m.ex.flatMap exL)
theorem OwnMod.md {w:World} {base:Nat} {S:Sv} {q:PS} (h:OwnMod w base S q):OwnMd w base S (zeD q):=⟨h.rq,h.im,h.ep,h.st,h.ex⟩
theorem OwnMd.later {w w':World} {base:Nat} {S:Sv} {m:Md} (h:OwnMd w base S m) (q:Below w.heap.size w w'):OwnMd w' base S m:=
 ⟨h.rq.keep fun k g=>q.block k (h.rq.typed g).2.1,h.im.keep fun k g=>q.block k (h.im.typed g).2.1,h.ep.keep fun k g=>q.block k (h.ep.typed g).2.1,h.st.keep fun k g=>q.block k (h.st.typed g).2.1,h.ex.keep fun k g=>q.block k (h.ex.typed g).2.1⟩
theorem OwnMd.alloc {w:World} {base:Nat} {S:Sv} {m:Md} (h:OwnMd w base S m) (o:Obj):OwnMd (w.alloc o) base S m:=h.later ((Below.refl _ _).alloc (Nat.le_refl _) _)
def zl (S:Sv) (m:Md):Value:=.agg #[.slice S.rq.a m.rq.length S.rq.cap,.slice S.im.a m.im.length S.im.cap,.slice S.ep.a m.ep.length S.ep.cap,.slice S.st.a m.st.length S.st.cap,.slice S.ex.a m.ex.length S.ex.cap]
theorem OwnMd.expr {w:World} {base:Nat} {S:Sv} {m:Md} (h:OwnMd w base S m) {i:Nat} (A:i<m.ex.length): ∃g,S.ex.a=some ⟨g,0,none⟩/\g<w.heap.size/\w.cell? ⟨g,i*6,none⟩=some (.int .i64 (m.ex.getD i zh).kind)/\w.cell? ⟨g,i*6+1,none⟩=some (.int .i64 (m.ex.getD i zh).num)/\w.cell? ⟨g,i*6+2,none⟩=some (.string (m.ex.getD i zh).name)/\w.cell? ⟨g,i*6+3,none⟩=some (.string (m.ex.getD i zh).field)/\w.cell? ⟨g,i*6+4,none⟩=some (.int .i64 (m.ex.getD i zh).l)/\w.cell? ⟨g,i*6+5,none⟩=some (.int .i64 (m.ex.getD i zh).r):=by
 obtain⟨g,z,q⟩:=OwnR.elem (f:=exL) (m:=6) (fun _=>rfl) h.ex (List.getElem?_eq_getElem A);rw[zed A];exact⟨g,z,(h.ex.typed (by rw[Rw.blk,z];rfl)).2.1,q 0 (by omega),q 1 (by omega),q 2 (by omega),q 3 (by omega),q 4 (by omega),q 5 (by omega)⟩
def SameOut (P:Prop) (e:Ending):Prop:=∃b,e= .returned (.bool b)/\(b=true↔P)
theorem zbt {α:Type} {l:List α} {j:Nat} (h:j<l.length): ∃x,l[j]? =some x:=⟨_,List.getElem?_eq_getElem h⟩
theorem zdk {α:Type} {l1 q:List α} {j:Nat} {x:α} (h:l1.take j=q.take j) (w:l1[j]? =some x) (z:q[j]? =some x):l1.take (j+1)=q.take (j+1):=by
 obtain⟨a,rfl⟩:=List.getElem?_eq_some_iff.1 w;obtain⟨b,A⟩:=List.getElem?_eq_some_iff.1 z;rw[List.take_succ_eq_append_getElem a,List.take_succ_eq_append_getElem b,h,A]
theorem zdl {α:Type} {l1 q:List α} (w:l1.length=q.length) (h:l1.take l1.length=q.take l1.length):l1=q:=by
 rw[List.take_length,w,List.take_length] at h;exact h
theorem zf6 {a b:BA} (h:(a.toList==b.toList)=true):a=b:=(zdY a b).1 h
def zhF (x y:BA):Bool:=x.toList==y.toList
theorem zgv {x y:BA}:zhF x y=true↔x=y:=⟨fun h=>zf6 h,fun h=>by rw[h];exact beq_self_eq_true _⟩
theorem zoL (H I:Option Addr) (q z J A:Nat) (w:World) (h:(q:Int)≠(z:Int)):Calls prog 173 #[.slice H q J,.slice I z A] w fun e w'=>e= .returned (.bool false)/\Below w.heap.size w w':=by
 go_enter func173,ntmps173;go_wp2;go_ret;exact⟨rfl,Below.refl _ _⟩
theorem zoM (q z:Option Addr) (A h:Nat) (w:World):Calls prog 173 #[.slice q 0 A,.slice z 0 h] w fun e w'=>e= .returned (.bool true)/\Below w.heap.size w w':=by
 go_enter func173,ntmps173;go_wp2;go_loopg [13] 1 (fun k i wr=>k=1/\i= .int .i64 0/\wr=w)
 case atStart=>exact⟨rfl,rfl,rfl⟩
 case round=>
  obtain⟨rfl,rfl,rfl⟩:=hrel;go_wp2;go_ret;exact⟨rfl,Below.refl _ _⟩
theorem zoN (b1 b2 g1 Y:Nat) (U r2:Rw) (l1 z:List BA) (w:World) (K:OwnR w b1 9 1 U l1.length (l1.flatMap (fun x=>[Value.string x]))) (H:OwnR w b2 9 1 r2 z.length (z.flatMap (fun x=>[Value.string x]))) (e1:U.a=some ⟨g1,0,none⟩) (e2:r2.a=some ⟨Y,0,none⟩) (hl:l1.length=z.length) (X:l1.length<=4294967296):
  Calls prog 173 #[.slice (some ⟨g1,0,none⟩) l1.length U.cap,.slice (some ⟨Y,0,none⟩) l1.length r2.cap] w fun e w'=>SameOut (l1=z) e/\Below w.heap.size w w':=by
 have H1:=zc K;have H2:=zc H;have E1:=zc e1;have E2:=zc e2;have HL:=zc hl;clear K H e1 e2 hl;go_enter func173,ntmps173;go_wp2;go_loopg [13] l1.length (fun k i wr=>∃j:Nat,i= .int .i64 j/\j+k=l1.length/\l1.take j=z.take j/\Below w.heap.size w wr)
 case atStart=>exact⟨0,rfl,by omega,rfl,Below.refl _ _⟩
 case round=>
  obtain⟨j,rfl,hj,ht,X⟩:=hrel;have J:=zc X;have HT:=zc ht;clear X ht;by_cases A:j<l1.length
  ·have M:(j:Int)<(l1.length:Int):=by omega
   obtain⟨x,hx⟩:=zbt A;obtain⟨y,hy⟩:=zbt (show j<z.length by rw[<-HL.o];exact A);obtain⟨Z,ga,K⟩:=OwnR.elem (f:=(fun x=>[Value.string x])) (m:=1) (fun _=>rfl) (H1.o.keep fun k g=>J.o.block k (H1.o.typed g).2.1) hx;obtain rfl:Z=g1:=by have:=ga.symm.trans E1.o;simpa using this
   obtain⟨Z,gb,H⟩:=OwnR.elem (f:=(fun x=>[Value.string x])) (m:=1) (fun _=>rfl) (H2.o.keep fun k g=>J.o.block k (H2.o.typed g).2.1) hy;obtain rfl:Z=Y:=by have:=gb.symm.trans E2.o;simpa using this
   have C0:=zc (K 0 (by omega));have D0:=zc (H 0 (by omega));have HX:=zc hx;have HY:=zc hy;clear K H ga gb hx hy;obtain⟨N,I⟩: ∃N,N=j+1:=⟨_,rfl⟩;have ej:(j:Int)+1=(N:Int):=by omega
   have HJ:=zc I;clear I;obtain⟨b,h⟩: ∃b,zhF x y=b:=⟨_,rfl⟩;have aa:(x.toList==y.toList)=b:=h;go_wp2;have k0:=cell_regrown C0.o;have m0:=cell_regrown D0.o;simp only[Nat.add_zero,Nat.mul_one] at k0 m0;refine wp_region_quiet_below (by kernel_rfl) (by kernel_rfl) ?_
   repeat (go_big_quiet_step (fail))
   refine wpQuiet_nil ?_;intro w2 O;obtain⟨⟨dq,V⟩,q⟩:=O;have L:Hid (Below w.heap.size w w2):=by show Below _ _ _;rw[q];exact J.o.trans ((below_regrown wr dq V).mono J.o.size)
   clear q k0 m0 C0 D0;cases b with
   |true=>
    go_wp2;go_roundg (gk-1)
    case rel=>exact⟨N,rfl,by have:=HJ.o;omega,by rw[HJ.o];have e:=zgv.1 h;exact zdk HT.o HX.o (by rw[e];exact HY.o),L.o⟩
    case measure=>omega
   |false=>
    go_wp2;go_ret;exact⟨⟨false,rfl,⟨fun k=>(by cases k),fun k=>(by have e:=HX.o;rw[k,HY.o] at e;cases e;rw[zgv.2 rfl] at h;cases h)⟩⟩,L.o⟩
  ·have M: ¬(j:Int)<(l1.length:Int):=by omega
   obtain rfl:j=l1.length:=by omega
   go_wp2;go_ret;exact⟨⟨true,rfl,⟨fun _=>zdl HL.o HT.o,fun _=>rfl⟩⟩,J.o⟩
theorem zoO (J b2:Nat) (H A:Rw) (l1 h:List BA) (w:World) (M:OwnR w J 9 1 H l1.length (l1.flatMap (fun x=>[Value.string x]))) (L:OwnR w b2 9 1 A h.length (h.flatMap (fun x=>[Value.string x]))) (V:l1.length<=4294967296):
  Calls prog 173 #[.slice H.a l1.length H.cap,.slice A.a h.length A.cap] w fun e w'=>SameOut (l1=h) e/\Below w.heap.size w w':=by
 by_cases q:l1.length=h.length
 ·rw[<-q];by_cases z:l1.length=0
  ·rw[z];refine (zoM _ _ _ _ w).mono ?_;rintro e w' ⟨rfl,I⟩;exact⟨⟨true,rfl,⟨fun _=>(by rw[List.eq_nil_of_length_eq_zero z,List.eq_nil_of_length_eq_zero (q.symm.trans z)]),fun _=>rfl⟩⟩,I⟩
  ·rcases M.nil_or with ⟨_,_,e⟩|⟨U,K⟩
   ·exact absurd e z
   ·rcases L.nil_or with ⟨_,_,e⟩|⟨O,N⟩
    ·exact absurd (q.trans e) z
    ·rw[K,N];exact zoN J b2 U O H A l1 h w M L K N q V
 ·refine (zoL _ _ _ _ _ _ w (by omega)).mono ?_;rintro e w' ⟨rfl,I⟩;exact⟨⟨false,rfl,⟨fun k=>(by cases k),fun k=>absurd (by rw[k]) q⟩⟩,I⟩
def zdm (x y:Im):Bool:=x.spec.toList==y.spec.toList&&x.first.toList==y.first.toList&&x.loc.toList==y.loc.toList
theorem zgw {x y:Im}:zdm x y=true↔x=y:=by
 constructor
 ·intro h;unfold zdm at h;simp only[Bool.and_eq_true] at h;obtain⟨⟨z,q⟩,w⟩:=h;cases x;cases y;simp only at z q w;congr 1<;>first|(apply zf6;assumption)|(apply eq_of_beq;assumption)
 ·intro h;rw[h];simp[zdm]
theorem zoP (H I:Option Addr) (q z J A:Nat) (w:World) (h:(q:Int)≠(z:Int)):Calls prog 174 #[.slice H q J,.slice I z A] w fun e w'=>e= .returned (.bool false)/\Below w.heap.size w w':=by
 go_enter func174,ntmps174;go_wp2;go_ret;exact⟨rfl,Below.refl _ _⟩
theorem zoQ (q z:Option Addr) (A h:Nat) (w:World):Calls prog 174 #[.slice q 0 A,.slice z 0 h] w fun e w'=>e= .returned (.bool true)/\Below w.heap.size w w':=by
 go_enter func174,ntmps174;go_wp2;go_loopg [13] 1 (fun k i wr=>k=1/\i= .int .i64 0/\wr=w)
 case atStart=>exact⟨rfl,rfl,rfl⟩
 case round=>
  obtain⟨rfl,rfl,rfl⟩:=hrel;go_wp2;go_ret;exact⟨rfl,Below.refl _ _⟩
theorem zoR (X: ∀(x y:Im) (W:World),Sem.run prog (binOp .neq 95 (.agg #[.string x.spec,.string x.first,.string x.loc]) (.agg #[.string y.spec,.string y.first,.string y.loc])) W= .ok (.bool (!zdm x y)) W) (U: ∀(M:BinOp) (a b:Operand) (x y:Im) (W:World),Sem.run prog (eqGuard M 95 a b (.agg #[.string x.spec,.string x.first,.string x.loc]) (.agg #[.string y.spec,.string y.first,.string y.loc])) W= .ok () W) (b1 b2 g1 g2:Nat) (Y r2:Rw) (l1 H:List Im) (w:World) (A:OwnR w b1 95 3 Y l1.length (l1.flatMap imL)) (z:OwnR w b2 95 3 r2 H.length (H.flatMap imL)) (e1:Y.a=some ⟨g1,0,none⟩) (e2:r2.a=some ⟨g2,0,none⟩) (hl:l1.length=H.length) (hb:l1.length<=4294967296):
  Calls prog 174 #[.slice (some ⟨g1,0,none⟩) l1.length Y.cap,.slice (some ⟨g2,0,none⟩) l1.length r2.cap] w fun e w'=>SameOut (l1=H) e/\Below w.heap.size w w':=by
 have H1:=zc A;have H2:=zc z;have E1:=zc e1;have E2:=zc e2;have HL:=zc hl;clear A z e1 e2 hl;go_enter func174,ntmps174;go_wp2;go_loopg [13] l1.length (fun k i wr=>∃j:Nat,i= .int .i64 j/\j+k=l1.length/\l1.take j=H.take j/\Below w.heap.size w wr)
 case atStart=>exact⟨0,rfl,by omega,rfl,Below.refl _ _⟩
 case round=>
  obtain⟨j,rfl,hj,ht,hb⟩:=hrel;have K:=zc hb;have HT:=zc ht;clear hb ht;by_cases I:j<l1.length
  ·have N:(j:Int)<(l1.length:Int):=by omega
   obtain⟨x,hx⟩:=zbt I;obtain⟨y,hy⟩:=zbt (show j<H.length by rw[<-HL.o];exact I);obtain⟨g',ga,A⟩:=OwnR.elem (f:=imL) (m:=3) (fun _=>rfl) (H1.o.keep fun k g=>K.o.block k (H1.o.typed g).2.1) hx;obtain rfl:g'=g1:=by have:=ga.symm.trans E1.o;simpa using this
   obtain⟨g',gb,z⟩:=OwnR.elem (f:=imL) (m:=3) (fun _=>rfl) (H2.o.keep fun k g=>K.o.block k (H2.o.typed g).2.1) hy;obtain rfl:g'=g2:=by have:=gb.symm.trans E2.o;simpa using this
   have C0:=zc (A 0 (by omega));have D0:=zc (z 0 (by omega));have C1:=zc (A 1 (by omega));have D1:=zc (z 1 (by omega));have C2:=zc (A 2 (by omega));have D2:=zc (z 2 (by omega));have HX:=zc hx;have HY:=zc hy;clear A z ga gb hx hy;obtain⟨O,J⟩: ∃O,O=j+1:=⟨_,rfl⟩;have ej:(j:Int)+1=(O:Int):=by omega
   have HJ:=zc J;clear J;obtain⟨b,h⟩: ∃b,zdm x y=b:=⟨_,rfl⟩;have aa: ∀W:World,Sem.run prog (binOp .neq 95 (.agg #[.string x.spec,.string x.first,.string x.loc]) (.agg #[.string y.spec,.string y.first,.string y.loc])) W= .ok (.bool !b) W:=fun W=>by rw[X,h]
   have ab: ∀(M:BinOp) (a b:Operand) (W:World),Sem.run prog (eqGuard M 95 a b (.agg #[.string x.spec,.string x.first,.string x.loc]) (.agg #[.string y.spec,.string y.first,.string y.loc])) W= .ok () W:=fun M a b W=>U M a b x y W;go_wp2;have k0:=cell_regrown C0.o;have m0:=cell_regrown D0.o;have k1:=cell_regrown C1.o;have m1:=cell_regrown D1.o;have k2:=cell_regrown C2.o;have m2:=cell_regrown D2.o;simp only[Nat.add_zero] at k0 m0;refine wp_region_quiet_below (by kernel_rfl) (by kernel_rfl) ?_
   repeat (go_big_quiet_step (fail))
   refine wpQuiet_nil ?_;intro w2 V;obtain⟨⟨dq,Z⟩,q⟩:=V;have L:Hid (Below w.heap.size w w2):=by show Below _ _ _;rw[q];exact K.o.trans ((below_regrown wr dq Z).mono K.o.size)
   clear q k0 m0 C0 D0 k1 m1 C1 D1 k2 m2 C2 D2;cases b with
   |true=>
    go_wp2;go_roundg (gk-1)
    case rel=>exact⟨O,rfl,by have:=HJ.o;omega,by rw[HJ.o];have e:=zgw.1 h;exact zdk HT.o HX.o (by rw[e];exact HY.o),L.o⟩
    case measure=>omega
   |false=>
    go_wp2;go_ret;exact⟨⟨false,rfl,⟨fun k=>(by cases k),fun k=>(by have e:=HX.o;rw[k,HY.o] at e;cases e;rw[zgw.2 rfl] at h;cases h)⟩⟩,L.o⟩
  ·have N: ¬(j:Int)<(l1.length:Int):=by omega
   obtain rfl:j=l1.length:=by omega
   go_wp2;go_ret;exact⟨⟨true,rfl,⟨fun _=>zdl HL.o HT.o,fun _=>rfl⟩⟩,K.o⟩
theorem zoS (K: ∀(x y:Im) (W:World),Sem.run prog (binOp .neq 95 (.agg #[.string x.spec,.string x.first,.string x.loc]) (.agg #[.string y.spec,.string y.first,.string y.loc])) W= .ok (.bool (!zdm x y)) W) (J: ∀(X:BinOp) (a b:Operand) (x y:Im) (W:World),Sem.run prog (eqGuard X 95 a b (.agg #[.string x.spec,.string x.first,.string x.loc]) (.agg #[.string y.spec,.string y.first,.string y.loc])) W= .ok () W) (L b2:Nat) (H A:Rw) (l1 h:List Im) (w:World) (O:OwnR w L 95 3 H l1.length (l1.flatMap imL)) (N:OwnR w b2 95 3 A h.length (h.flatMap imL)) (Z:l1.length<=4294967296):
  Calls prog 174 #[.slice H.a l1.length H.cap,.slice A.a h.length A.cap] w fun e w'=>SameOut (l1=h) e/\Below w.heap.size w w':=by
 by_cases q:l1.length=h.length
 ·rw[<-q];by_cases z:l1.length=0
  ·rw[z];refine (zoQ _ _ _ _ w).mono ?_;rintro e w' ⟨rfl,I⟩;exact⟨⟨true,rfl,⟨fun _=>(by rw[List.eq_nil_of_length_eq_zero z,List.eq_nil_of_length_eq_zero (q.symm.trans z)]),fun _=>rfl⟩⟩,I⟩
  ·rcases O.nil_or with ⟨_,_,e⟩|⟨Y,M⟩
   ·exact absurd e z
   ·rcases N.nil_or with ⟨_,_,e⟩|⟨V,U⟩
    ·exact absurd (q.trans e) z
    ·rw[M,U];exact zoR K J L b2 Y V H A l1 h w O N M U q Z
 ·refine (zoP _ _ _ _ _ _ w (by omega)).mono ?_;rintro e w' ⟨rfl,I⟩;exact⟨⟨false,rfl,⟨fun k=>(by cases k),fun k=>absurd (by rw[k]) q⟩⟩,I⟩
def zdn (x y:Ep):Bool:=x.kind==y.kind&&x.name.toList==y.name.toList&&x.loc.toList==y.loc.toList&&x.spec.toList==y.spec.toList
theorem zgx {x y:Ep}:zdn x y=true↔x=y:=by
 constructor
 ·intro h;unfold zdn at h;simp only[Bool.and_eq_true] at h;obtain⟨⟨⟨z,q⟩,w⟩,A⟩:=h;cases x;cases y;simp only at z q w A;congr 1<;>first|(apply zf6;assumption)|(apply eq_of_beq;assumption)
 ·intro h;rw[h];simp[zdn]
theorem zoT (H I:Option Addr) (q z J A:Nat) (w:World) (h:(q:Int)≠(z:Int)):Calls prog 175 #[.slice H q J,.slice I z A] w fun e w'=>e= .returned (.bool false)/\Below w.heap.size w w':=by
 go_enter func175,ntmps175;go_wp2;go_ret;exact⟨rfl,Below.refl _ _⟩
theorem zoU (q z:Option Addr) (A h:Nat) (w:World):Calls prog 175 #[.slice q 0 A,.slice z 0 h] w fun e w'=>e= .returned (.bool true)/\Below w.heap.size w w':=by
 go_enter func175,ntmps175;go_wp2;go_loopg [13] 1 (fun k i wr=>k=1/\i= .int .i64 0/\wr=w)
 case atStart=>exact⟨rfl,rfl,rfl⟩
 case round=>
  obtain⟨rfl,rfl,rfl⟩:=hrel;go_wp2;go_ret;exact⟨rfl,Below.refl _ _⟩
theorem zoV (X: ∀(x y:Ep) (W:World),Sem.run prog (binOp .neq 97 (.agg #[.int .i64 x.kind,.string x.name,.string x.loc,.string x.spec]) (.agg #[.int .i64 y.kind,.string y.name,.string y.loc,.string y.spec])) W= .ok (.bool (!zdn x y)) W) (U: ∀(M:BinOp) (a b:Operand) (x y:Ep) (W:World),Sem.run prog (eqGuard M 97 a b (.agg #[.int .i64 x.kind,.string x.name,.string x.loc,.string x.spec]) (.agg #[.int .i64 y.kind,.string y.name,.string y.loc,.string y.spec])) W= .ok () W) (b1 b2 g1 g2:Nat) (Y r2:Rw) (l1 H:List Ep) (w:World) (z:OwnR w b1 97 4 Y l1.length (l1.flatMap epL)) (q:OwnR w b2 97 4 r2 H.length (H.flatMap epL)) (e1:Y.a=some ⟨g1,0,none⟩) (e2:r2.a=some ⟨g2,0,none⟩) (hl:l1.length=H.length) (hb:l1.length<=4294967296):
  Calls prog 175 #[.slice (some ⟨g1,0,none⟩) l1.length Y.cap,.slice (some ⟨g2,0,none⟩) l1.length r2.cap] w fun e w'=>SameOut (l1=H) e/\Below w.heap.size w w':=by
 have H1:=zc z;have H2:=zc q;have E1:=zc e1;have E2:=zc e2;have HL:=zc hl;clear z q e1 e2 hl;go_enter func175,ntmps175;go_wp2;go_loopg [13] l1.length (fun k i wr=>∃j:Nat,i= .int .i64 j/\j+k=l1.length/\l1.take j=H.take j/\Below w.heap.size w wr)
 case atStart=>exact⟨0,rfl,by omega,rfl,Below.refl _ _⟩
 case round=>
  obtain⟨j,rfl,hj,ht,hb⟩:=hrel;have K:=zc hb;have HT:=zc ht;clear hb ht;by_cases I:j<l1.length
  ·have N:(j:Int)<(l1.length:Int):=by omega
   obtain⟨x,hx⟩:=zbt I;obtain⟨y,hy⟩:=zbt (show j<H.length by rw[<-HL.o];exact I);obtain⟨g',ga,z⟩:=OwnR.elem (f:=epL) (m:=4) (fun _=>rfl) (H1.o.keep fun k g=>K.o.block k (H1.o.typed g).2.1) hx;obtain rfl:g'=g1:=by have:=ga.symm.trans E1.o;simpa using this
   obtain⟨g',gb,q⟩:=OwnR.elem (f:=epL) (m:=4) (fun _=>rfl) (H2.o.keep fun k g=>K.o.block k (H2.o.typed g).2.1) hy;obtain rfl:g'=g2:=by have:=gb.symm.trans E2.o;simpa using this
   have C0:=zc (z 0 (by omega));have D0:=zc (q 0 (by omega));have C1:=zc (z 1 (by omega));have D1:=zc (q 1 (by omega));have C2:=zc (z 2 (by omega));have D2:=zc (q 2 (by omega));have C3:=zc (z 3 (by omega));have D3:=zc (q 3 (by omega));have HX:=zc hx;have HY:=zc hy;clear z q ga gb hx hy;obtain⟨O,J⟩: ∃O,O=j+1:=⟨_,rfl⟩;have ej:(j:Int)+1=(O:Int):=by omega
   have HJ:=zc J;clear J;obtain⟨b,h⟩: ∃b,zdn x y=b:=⟨_,rfl⟩;have aa: ∀W:World,Sem.run prog (binOp .neq 97 (.agg #[.int .i64 x.kind,.string x.name,.string x.loc,.string x.spec]) (.agg #[.int .i64 y.kind,.string y.name,.string y.loc,.string y.spec])) W= .ok (.bool !b) W:=fun W=>by rw[X,h]
   have ab: ∀(M:BinOp) (a b:Operand) (W:World),Sem.run prog (eqGuard M 97 a b (.agg #[.int .i64 x.kind,.string x.name,.string x.loc,.string x.spec]) (.agg #[.int .i64 y.kind,.string y.name,.string y.loc,.string y.spec])) W= .ok () W:=fun M a b W=>U M a b x y W;go_wp2;have k0:=cell_regrown C0.o;have m0:=cell_regrown D0.o;have k1:=cell_regrown C1.o;have m1:=cell_regrown D1.o;have k2:=cell_regrown C2.o;have m2:=cell_regrown D2.o;have k3:=cell_regrown C3.o;have m3:=cell_regrown D3.o;simp only[Nat.add_zero] at k0 m0;refine wp_region_quiet_below (by kernel_rfl) (by kernel_rfl) ?_
   repeat (go_big_quiet_step (fail))
   refine wpQuiet_nil ?_;intro w2 V;obtain⟨⟨dq,Z⟩,A⟩:=V;have L:Hid (Below w.heap.size w w2):=by show Below _ _ _;rw[A];exact K.o.trans ((below_regrown wr dq Z).mono K.o.size)
   clear A k0 m0 C0 D0 k1 m1 C1 D1 k2 m2 C2 D2 k3 m3 C3 D3;cases b with
   |true=>
    go_wp2;go_roundg (gk-1)
    case rel=>exact⟨O,rfl,by have:=HJ.o;omega,by rw[HJ.o];have e:=zgx.1 h;exact zdk HT.o HX.o (by rw[e];exact HY.o),L.o⟩
    case measure=>omega
   |false=>
    go_wp2;go_ret;exact⟨⟨false,rfl,⟨fun k=>(by cases k),fun k=>(by have e:=HX.o;rw[k,HY.o] at e;cases e;rw[zgx.2 rfl] at h;cases h)⟩⟩,L.o⟩
  ·have N: ¬(j:Int)<(l1.length:Int):=by omega
   obtain rfl:j=l1.length:=by omega
   go_wp2;go_ret;exact⟨⟨true,rfl,⟨fun _=>zdl HL.o HT.o,fun _=>rfl⟩⟩,K.o⟩
theorem zoW (K: ∀(x y:Ep) (W:World),Sem.run prog (binOp .neq 97 (.agg #[.int .i64 x.kind,.string x.name,.string x.loc,.string x.spec]) (.agg #[.int .i64 y.kind,.string y.name,.string y.loc,.string y.spec])) W= .ok (.bool (!zdn x y)) W) (J: ∀(X:BinOp) (a b:Operand) (x y:Ep) (W:World),Sem.run prog (eqGuard X 97 a b (.agg #[.int .i64 x.kind,.string x.name,.string x.loc,.string x.spec]) (.agg #[.int .i64 y.kind,.string y.name,.string y.loc,.string y.spec])) W= .ok () W) (L b2:Nat) (H A:Rw) (l1 h:List Ep) (w:World) (O:OwnR w L 97 4 H l1.length (l1.flatMap epL)) (N:OwnR w b2 97 4 A h.length (h.flatMap epL)) (Z:l1.length<=4294967296):
  Calls prog 175 #[.slice H.a l1.length H.cap,.slice A.a h.length A.cap] w fun e w'=>SameOut (l1=h) e/\Below w.heap.size w w':=by
 by_cases q:l1.length=h.length
 ·rw[<-q];by_cases z:l1.length=0
  ·rw[z];refine (zoU _ _ _ _ w).mono ?_;rintro e w' ⟨rfl,I⟩;exact⟨⟨true,rfl,⟨fun _=>(by rw[List.eq_nil_of_length_eq_zero z,List.eq_nil_of_length_eq_zero (q.symm.trans z)]),fun _=>rfl⟩⟩,I⟩
  ·rcases O.nil_or with ⟨_,_,e⟩|⟨Y,M⟩
   ·exact absurd e z
   ·rcases N.nil_or with ⟨_,_,e⟩|⟨V,U⟩
    ·exact absurd (q.trans e) z
    ·rw[M,U];exact zoV K J L b2 Y V H A l1 h w O N M U q Z
 ·refine (zoT _ _ _ _ _ _ w (by omega)).mono ?_;rintro e w' ⟨rfl,I⟩;exact⟨⟨false,rfl,⟨fun k=>(by cases k),fun k=>absurd (by rw[k]) q⟩⟩,I⟩
def zdo (x y:Sm):Bool:=x.kind==y.kind&&x.name.toList==y.name.toList&&x.expr==y.expr
theorem zgy {x y:Sm}:zdo x y=true↔x=y:=by
 constructor
 ·intro h;unfold zdo at h;simp only[Bool.and_eq_true] at h;obtain⟨⟨z,q⟩,w⟩:=h;cases x;cases y;simp only at z q w;congr 1<;>first|(apply zf6;assumption)|(apply eq_of_beq;assumption)
 ·intro h;rw[h];simp[zdo]
theorem zoX (H I:Option Addr) (q z J A:Nat) (w:World) (h:(q:Int)≠(z:Int)):Calls prog 176 #[.slice H q J,.slice I z A] w fun e w'=>e= .returned (.bool false)/\Below w.heap.size w w':=by
 go_enter func176,ntmps176;go_wp2;go_ret;exact⟨rfl,Below.refl _ _⟩
theorem zoY (q z:Option Addr) (A h:Nat) (w:World):Calls prog 176 #[.slice q 0 A,.slice z 0 h] w fun e w'=>e= .returned (.bool true)/\Below w.heap.size w w':=by
 go_enter func176,ntmps176;go_wp2;go_loopg [13] 1 (fun k i wr=>k=1/\i= .int .i64 0/\wr=w)
 case atStart=>exact⟨rfl,rfl,rfl⟩
 case round=>
  obtain⟨rfl,rfl,rfl⟩:=hrel;go_wp2;go_ret;exact⟨rfl,Below.refl _ _⟩
theorem zoZ (X: ∀(x y:Sm) (W:World),Sem.run prog (binOp .neq 102 (.agg #[.int .i64 x.kind,.string x.name,.int .i64 x.expr]) (.agg #[.int .i64 y.kind,.string y.name,.int .i64 y.expr])) W= .ok (.bool (!zdo x y)) W) (U: ∀(M:BinOp) (a b:Operand) (x y:Sm) (W:World),Sem.run prog (eqGuard M 102 a b (.agg #[.int .i64 x.kind,.string x.name,.int .i64 x.expr]) (.agg #[.int .i64 y.kind,.string y.name,.int .i64 y.expr])) W= .ok () W) (b1 b2 g1 g2:Nat) (Y r2:Rw) (l1 H:List Sm) (w:World) (A:OwnR w b1 102 3 Y l1.length (l1.flatMap smL)) (z:OwnR w b2 102 3 r2 H.length (H.flatMap smL)) (e1:Y.a=some ⟨g1,0,none⟩) (e2:r2.a=some ⟨g2,0,none⟩) (hl:l1.length=H.length) (hb:l1.length<=4294967296):
  Calls prog 176 #[.slice (some ⟨g1,0,none⟩) l1.length Y.cap,.slice (some ⟨g2,0,none⟩) l1.length r2.cap] w fun e w'=>SameOut (l1=H) e/\Below w.heap.size w w':=by
 have H1:=zc A;have H2:=zc z;have E1:=zc e1;have E2:=zc e2;have HL:=zc hl;clear A z e1 e2 hl;go_enter func176,ntmps176;go_wp2;go_loopg [13] l1.length (fun k i wr=>∃j:Nat,i= .int .i64 j/\j+k=l1.length/\l1.take j=H.take j/\Below w.heap.size w wr)
 case atStart=>exact⟨0,rfl,by omega,rfl,Below.refl _ _⟩
 case round=>
  obtain⟨j,rfl,hj,ht,hb⟩:=hrel;have K:=zc hb;have HT:=zc ht;clear hb ht;by_cases I:j<l1.length
  ·have N:(j:Int)<(l1.length:Int):=by omega
   obtain⟨x,hx⟩:=zbt I;obtain⟨y,hy⟩:=zbt (show j<H.length by rw[<-HL.o];exact I);obtain⟨g',ga,A⟩:=OwnR.elem (f:=smL) (m:=3) (fun _=>rfl) (H1.o.keep fun k g=>K.o.block k (H1.o.typed g).2.1) hx;obtain rfl:g'=g1:=by have:=ga.symm.trans E1.o;simpa using this
   obtain⟨g',gb,z⟩:=OwnR.elem (f:=smL) (m:=3) (fun _=>rfl) (H2.o.keep fun k g=>K.o.block k (H2.o.typed g).2.1) hy;obtain rfl:g'=g2:=by have:=gb.symm.trans E2.o;simpa using this
   have C0:=zc (A 0 (by omega));have D0:=zc (z 0 (by omega));have C1:=zc (A 1 (by omega));have D1:=zc (z 1 (by omega));have C2:=zc (A 2 (by omega));have D2:=zc (z 2 (by omega));have HX:=zc hx;have HY:=zc hy;clear A z ga gb hx hy;obtain⟨O,J⟩: ∃O,O=j+1:=⟨_,rfl⟩;have ej:(j:Int)+1=(O:Int):=by omega
   have HJ:=zc J;clear J;obtain⟨b,h⟩: ∃b,zdo x y=b:=⟨_,rfl⟩;have aa: ∀W:World,Sem.run prog (binOp .neq 102 (.agg #[.int .i64 x.kind,.string x.name,.int .i64 x.expr]) (.agg #[.int .i64 y.kind,.string y.name,.int .i64 y.expr])) W= .ok (.bool !b) W:=fun W=>by rw[X,h]
   have ab: ∀(M:BinOp) (a b:Operand) (W:World),Sem.run prog (eqGuard M 102 a b (.agg #[.int .i64 x.kind,.string x.name,.int .i64 x.expr]) (.agg #[.int .i64 y.kind,.string y.name,.int .i64 y.expr])) W= .ok () W:=fun M a b W=>U M a b x y W;go_wp2;have k0:=cell_regrown C0.o;have m0:=cell_regrown D0.o;have k1:=cell_regrown C1.o;have m1:=cell_regrown D1.o;have k2:=cell_regrown C2.o;have m2:=cell_regrown D2.o;simp only[Nat.add_zero] at k0 m0;refine wp_region_quiet_below (by kernel_rfl) (by kernel_rfl) ?_
   repeat (go_big_quiet_step (fail))
   refine wpQuiet_nil ?_;intro w2 V;obtain⟨⟨dq,Z⟩,q⟩:=V;have L:Hid (Below w.heap.size w w2):=by show Below _ _ _;rw[q];exact K.o.trans ((below_regrown wr dq Z).mono K.o.size)
   clear q k0 m0 C0 D0 k1 m1 C1 D1 k2 m2 C2 D2;cases b with
   |true=>
    go_wp2;go_roundg (gk-1)
    case rel=>exact⟨O,rfl,by have:=HJ.o;omega,by rw[HJ.o];have e:=zgy.1 h;exact zdk HT.o HX.o (by rw[e];exact HY.o),L.o⟩
    case measure=>omega
   |false=>
    go_wp2;go_ret;exact⟨⟨false,rfl,⟨fun k=>(by cases k),fun k=>(by have e:=HX.o;rw[k,HY.o] at e;cases e;rw[zgy.2 rfl] at h;cases h)⟩⟩,L.o⟩
  ·have N: ¬(j:Int)<(l1.length:Int):=by omega
   obtain rfl:j=l1.length:=by omega
   go_wp2;go_ret;exact⟨⟨true,rfl,⟨fun _=>zdl HL.o HT.o,fun _=>rfl⟩⟩,K.o⟩
theorem zpa (K: ∀(x y:Sm) (W:World),Sem.run prog (binOp .neq 102 (.agg #[.int .i64 x.kind,.string x.name,.int .i64 x.expr]) (.agg #[.int .i64 y.kind,.string y.name,.int .i64 y.expr])) W= .ok (.bool (!zdo x y)) W) (J: ∀(X:BinOp) (a b:Operand) (x y:Sm) (W:World),Sem.run prog (eqGuard X 102 a b (.agg #[.int .i64 x.kind,.string x.name,.int .i64 x.expr]) (.agg #[.int .i64 y.kind,.string y.name,.int .i64 y.expr])) W= .ok () W) (L b2:Nat) (H A:Rw) (l1 h:List Sm) (w:World) (O:OwnR w L 102 3 H l1.length (l1.flatMap smL)) (N:OwnR w b2 102 3 A h.length (h.flatMap smL)) (Z:l1.length<=4294967296):
  Calls prog 176 #[.slice H.a l1.length H.cap,.slice A.a h.length A.cap] w fun e w'=>SameOut (l1=h) e/\Below w.heap.size w w':=by
 by_cases q:l1.length=h.length
 ·rw[<-q];by_cases z:l1.length=0
  ·rw[z];refine (zoY _ _ _ _ w).mono ?_;rintro e w' ⟨rfl,I⟩;exact⟨⟨true,rfl,⟨fun _=>(by rw[List.eq_nil_of_length_eq_zero z,List.eq_nil_of_length_eq_zero (q.symm.trans z)]),fun _=>rfl⟩⟩,I⟩
  ·rcases O.nil_or with ⟨_,_,e⟩|⟨Y,M⟩
   ·exact absurd e z
   ·rcases N.nil_or with ⟨_,_,e⟩|⟨V,U⟩
    ·exact absurd (q.trans e) z
    ·rw[M,U];exact zoZ K J L b2 Y V H A l1 h w O N M U q Z
 ·refine (zoX _ _ _ _ _ _ w (by omega)).mono ?_;rintro e w' ⟨rfl,I⟩;exact⟨⟨false,rfl,⟨fun k=>(by cases k),fun k=>absurd (by rw[k]) q⟩⟩,I⟩
def zdp (x y:Ex):Bool:=x.kind==y.kind&&x.num==y.num&&x.name.toList==y.name.toList&&x.field.toList==y.field.toList&&x.l==y.l&&x.r==y.r
theorem zgz {x y:Ex}:zdp x y=true↔x=y:=by
 constructor
 ·intro h;unfold zdp at h;simp only[Bool.and_eq_true] at h;obtain⟨⟨⟨⟨⟨H,z⟩,q⟩,I⟩,w⟩,A⟩:=h;cases x;cases y;simp only at H z q I w A;congr 1<;>first|(apply zf6;assumption)|(apply eq_of_beq;assumption)
 ·intro h;rw[h];simp[zdp]
theorem zpb (H I:Option Addr) (q z J A:Nat) (w:World) (h:(q:Int)≠(z:Int)):Calls prog 177 #[.slice H q J,.slice I z A] w fun e w'=>e= .returned (.bool false)/\Below w.heap.size w w':=by
 go_enter func177,ntmps177;go_wp2;go_ret;exact⟨rfl,Below.refl _ _⟩
theorem zpc (q z:Option Addr) (A h:Nat) (w:World):Calls prog 177 #[.slice q 0 A,.slice z 0 h] w fun e w'=>e= .returned (.bool true)/\Below w.heap.size w w':=by
 go_enter func177,ntmps177;go_wp2;go_loopg [13] 1 (fun k i wr=>k=1/\i= .int .i64 0/\wr=w)
 case atStart=>exact⟨rfl,rfl,rfl⟩
 case round=>
  obtain⟨rfl,rfl,rfl⟩:=hrel;go_wp2;go_ret;exact⟨rfl,Below.refl _ _⟩
theorem zpd (X: ∀(x y:Ex) (W:World),Sem.run prog (binOp .neq 100 (.agg #[.int .i64 x.kind,.int .i64 x.num,.string x.name,.string x.field,.int .i64 x.l,.int .i64 x.r]) (.agg #[.int .i64 y.kind,.int .i64 y.num,.string y.name,.string y.field,.int .i64 y.l,.int .i64 y.r])) W= .ok (.bool (!zdp x y)) W) (U: ∀(M:BinOp) (a b:Operand) (x y:Ex) (W:World),Sem.run prog (eqGuard M 100 a b (.agg #[.int .i64 x.kind,.int .i64 x.num,.string x.name,.string x.field,.int .i64 x.l,.int .i64 x.r]) (.agg #[.int .i64 y.kind,.int .i64 y.num,.string y.name,.string y.field,.int .i64 y.l,.int .i64 y.r])) W= .ok () W) (b1 b2 g1 g2:Nat) (Y r2:Rw) (l1 H:List Ex) (w:World) (q:OwnR w b1 100 6 Y l1.length (l1.flatMap exL)) (h:OwnR w b2 100 6 r2 H.length (H.flatMap exL)) (e1:Y.a=some ⟨g1,0,none⟩) (e2:r2.a=some ⟨g2,0,none⟩) (hl:l1.length=H.length) (hb:l1.length<=4294967296):
  Calls prog 177 #[.slice (some ⟨g1,0,none⟩) l1.length Y.cap,.slice (some ⟨g2,0,none⟩) l1.length r2.cap] w fun e w'=>SameOut (l1=H) e/\Below w.heap.size w w':=by
 have H1:=zc q;have H2:=zc h;have E1:=zc e1;have E2:=zc e2;have HL:=zc hl;clear q h e1 e2 hl;go_enter func177,ntmps177;go_wp2;go_loopg [13] l1.length (fun k i wr=>∃j:Nat,i= .int .i64 j/\j+k=l1.length/\l1.take j=H.take j/\Below w.heap.size w wr)
 case atStart=>exact⟨0,rfl,by omega,rfl,Below.refl _ _⟩
 case round=>
  obtain⟨j,rfl,hj,ht,hb⟩:=hrel;have K:=zc hb;have HT:=zc ht;clear hb ht;by_cases I:j<l1.length
  ·have N:(j:Int)<(l1.length:Int):=by omega
   obtain⟨x,hx⟩:=zbt I;obtain⟨y,hy⟩:=zbt (show j<H.length by rw[<-HL.o];exact I);obtain⟨g',ga,q⟩:=OwnR.elem (f:=exL) (m:=6) (fun _=>rfl) (H1.o.keep fun k g=>K.o.block k (H1.o.typed g).2.1) hx;obtain rfl:g'=g1:=by have:=ga.symm.trans E1.o;simpa using this
   obtain⟨g',gb,h⟩:=OwnR.elem (f:=exL) (m:=6) (fun _=>rfl) (H2.o.keep fun k g=>K.o.block k (H2.o.typed g).2.1) hy;obtain rfl:g'=g2:=by have:=gb.symm.trans E2.o;simpa using this
   have C0:=zc (q 0 (by omega));have D0:=zc (h 0 (by omega));have C1:=zc (q 1 (by omega));have D1:=zc (h 1 (by omega));have C2:=zc (q 2 (by omega));have D2:=zc (h 2 (by omega));have C3:=zc (q 3 (by omega));have D3:=zc (h 3 (by omega));have C4:=zc (q 4 (by omega));have D4:=zc (h 4 (by omega));have C5:=zc (q 5 (by omega));have D5:=zc (h 5 (by omega));have HX:=zc hx;have HY:=zc hy;clear q h ga gb hx hy;obtain⟨O,J⟩: ∃O,O=j+1:=⟨_,rfl⟩;have ej:(j:Int)+1=(O:Int):=by omega
   have HJ:=zc J;clear J;obtain⟨b,z⟩: ∃b,zdp x y=b:=⟨_,rfl⟩;have aa: ∀W:World,Sem.run prog (binOp .neq 100 (.agg #[.int .i64 x.kind,.int .i64 x.num,.string x.name,.string x.field,.int .i64 x.l,.int .i64 x.r]) (.agg #[.int .i64 y.kind,.int .i64 y.num,.string y.name,.string y.field,.int .i64 y.l,.int .i64 y.r])) W= .ok (.bool !b) W:=fun W=>by rw[X,z]
   have ab: ∀(M:BinOp) (a b:Operand) (W:World),Sem.run prog (eqGuard M 100 a b (.agg #[.int .i64 x.kind,.int .i64 x.num,.string x.name,.string x.field,.int .i64 x.l,.int .i64 x.r]) (.agg #[.int .i64 y.kind,.int .i64 y.num,.string y.name,.string y.field,.int .i64 y.l,.int .i64 y.r])) W= .ok () W:=fun M a b W=>U M a b x y W;go_wp2;have k0:=cell_regrown C0.o;have m0:=cell_regrown D0.o;have k1:=cell_regrown C1.o;have m1:=cell_regrown D1.o;have k2:=cell_regrown C2.o;have m2:=cell_regrown D2.o;have k3:=cell_regrown C3.o;have m3:=cell_regrown D3.o;have k4:=cell_regrown C4.o;have m4:=cell_regrown D4.o;have k5:=cell_regrown C5.o;have m5:=cell_regrown D5.o;simp only[Nat.add_zero] at k0 m0;refine wp_region_quiet_below (by kernel_rfl) (by kernel_rfl) ?_
   repeat (go_big_quiet_step (fail))
   refine wpQuiet_nil ?_;intro w2 V;obtain⟨⟨dq,Z⟩,A⟩:=V;have L:Hid (Below w.heap.size w w2):=by show Below _ _ _;rw[A];exact K.o.trans ((below_regrown wr dq Z).mono K.o.size)
   clear A k0 m0 C0 D0 k1 m1 C1 D1 k2 m2 C2 D2 k3 m3 C3 D3 k4 m4 C4 D4 k5 m5 C5 D5;cases b with
   |true=>
    go_wp2;go_roundg (gk-1)
    case rel=>exact⟨O,rfl,by have:=HJ.o;omega,by rw[HJ.o];have e:=zgz.1 z;exact zdk HT.o HX.o (by rw[e];exact HY.o),L.o⟩
    case measure=>omega
   |false=>
    go_wp2;go_ret;exact⟨⟨false,rfl,⟨fun k=>(by cases k),fun k=>(by have e:=HX.o;rw[k,HY.o] at e;cases e;rw[zgz.2 rfl] at z;cases z)⟩⟩,L.o⟩
  ·have N: ¬(j:Int)<(l1.length:Int):=by omega
   obtain rfl:j=l1.length:=by omega
   go_wp2;go_ret;exact⟨⟨true,rfl,⟨fun _=>zdl HL.o HT.o,fun _=>rfl⟩⟩,K.o⟩
theorem zpe (K: ∀(x y:Ex) (W:World),Sem.run prog (binOp .neq 100 (.agg #[.int .i64 x.kind,.int .i64 x.num,.string x.name,.string x.field,.int .i64 x.l,.int .i64 x.r]) (.agg #[.int .i64 y.kind,.int .i64 y.num,.string y.name,.string y.field,.int .i64 y.l,.int .i64 y.r])) W= .ok (.bool (!zdp x y)) W) (J: ∀(X:BinOp) (a b:Operand) (x y:Ex) (W:World),Sem.run prog (eqGuard X 100 a b (.agg #[.int .i64 x.kind,.int .i64 x.num,.string x.name,.string x.field,.int .i64 x.l,.int .i64 x.r]) (.agg #[.int .i64 y.kind,.int .i64 y.num,.string y.name,.string y.field,.int .i64 y.l,.int .i64 y.r])) W= .ok () W) (L b2:Nat) (H A:Rw) (l1 h:List Ex) (w:World) (O:OwnR w L 100 6 H l1.length (l1.flatMap exL)) (N:OwnR w b2 100 6 A h.length (h.flatMap exL)) (Z:l1.length<=4294967296):
  Calls prog 177 #[.slice H.a l1.length H.cap,.slice A.a h.length A.cap] w fun e w'=>SameOut (l1=h) e/\Below w.heap.size w w':=by
 by_cases q:l1.length=h.length
 ·rw[<-q];by_cases z:l1.length=0
  ·rw[z];refine (zpc _ _ _ _ w).mono ?_;rintro e w' ⟨rfl,I⟩;exact⟨⟨true,rfl,⟨fun _=>(by rw[List.eq_nil_of_length_eq_zero z,List.eq_nil_of_length_eq_zero (q.symm.trans z)]),fun _=>rfl⟩⟩,I⟩
  ·rcases O.nil_or with ⟨_,_,e⟩|⟨Y,M⟩
   ·exact absurd e z
   ·rcases N.nil_or with ⟨_,_,e⟩|⟨V,U⟩
    ·exact absurd (q.trans e) z
    ·rw[M,U];exact zpd K J L b2 Y V H A l1 h w O N M U q Z
 ·refine (zpb _ _ _ _ _ _ w (by omega)).mono ?_;rintro e w' ⟨rfl,I⟩;exact⟨⟨false,rfl,⟨fun k=>(by cases k),fun k=>absurd (by rw[k]) q⟩⟩,I⟩
end Go.Proofs.YtgcbmogmniahjaaGreat
