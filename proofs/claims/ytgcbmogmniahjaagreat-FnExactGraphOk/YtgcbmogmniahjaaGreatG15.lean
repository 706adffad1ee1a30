/- Facts and walks that the theorem stands on. -/
import Derived.Test.YtgcbmogmniahjaaGreatG13
import Derived.Test.YtgcbmogmniahjaaGreatG14
namespace Go.Proofs.YtgcbmogmniahjaaGreat
open Go.Proofs.Tryz
set_option maxRecDepth 100000
set_option maxHeartbeats 6400000
open Go.RowKit Go.PlainAid Go.Sort
theorem zjv (s:BA) (w:World) (h:s.size<=281474976710656):
  Calls prog 191 #[.string s] w fun e q=>e= .returned (.string s)/\Below w.heap.size w q:=by
 go_enter func191,ntmps191;go_wp2_with fail;refine (Tryz.stringslite_Clone _ _ h).mono ?_;rintro e A ⟨rfl,z⟩;go_wp2;go_ret;exact⟨rfl,z⟩
theorem OwnR.text {w:World} {base n:Nat} {r:Rw} {l:List BA} (h:OwnR w base 9 1 r n (l.map .string)) {j:Nat} (E:j<n): ∃g,r.a=some ⟨g,0,none⟩/\w.cell? ⟨g,j,none⟩=some (.string (l.getD j sNone)):=by
 rcases h.2 with ⟨_,I⟩|⟨g,D,A,q,_⟩
 ·omega
 ·simp only[Value.slice.injEq] at q;have z:=h;unfold OwnR at z;rw[q.1,q.2.2] at z;have H:l.length=n:=by have:=h.1;simpa using this
  refine⟨g,q.1,?_⟩;rw[World.ownsRow.cellAt z j (by omega)];simp only[List.getElem?_map,List.getD];rw[List.getElem?_eq_getElem (by omega)];rfl
theorem znO {l:List BA} {x:BA} {j:Nat} (h:j<l.length):zaQ (l.drop j) x=((l.getD j sNone).toList==x.toList||zaQ (l.drop (j+1)) x):=by
 rw[List.drop_eq_getElem_cons h];simp only[zaQ,List.any_cons,List.getD,List.getElem?_eq_getElem h,Option.getD_some]
theorem znP (base g:Nat) (r:Rw) (l:List BA) (x:BA) (w:World) (h:OwnR w base 9 1 r l.length (l.map .string)) (hl:l.length<=1000000) (N:r.a=some ⟨g,0,none⟩):
  Calls prog 96 #[.slice (some ⟨g,0,none⟩) l.length r.cap,.string x] w fun e U=>(∃v:Int,e= .returned (.int .i64 v)/\decide (0<=v)=zaQ l x)/\U=w:=by
 have Y:=zc h;have J:=zc N;clear h N;go_enter func96,ntmps96;go_wp2;go_loopg [8] (l.length+1) (fun k i wr=>∃j:Nat,i= .int .i64 j/\j+k=l.length+1/\zaQ (l.drop j) x=zaQ l x/\wr=w)
 case atStart=>exact⟨0,rfl,by omega,by simp,rfl⟩
 case round=>
  obtain⟨j,rfl,hj,O,rfl⟩:=hrel;have L:=zc O;clear O;by_cases q:j<l.length
  ·have D:(j:Int)<(l.length:Int):=by omega
   obtain⟨X,A,Z⟩:=Y.o.text q;have V:X=g:=by have:=A.symm.trans J.o;simpa using this
   subst V;clear A;obtain⟨E,z⟩: ∃E,E=j+1:=⟨_,rfl⟩;have ej:(j:Int)+1=(E:Int):=by omega
   have M:=zc z;clear z;have K:Hid (zaQ (l.drop j) x=((l.getD j sNone).toList==x.toList||zaQ (l.drop (j+1)) x)):=znO q;generalize l.getD j sNone=y at Z K;cases H:(x.toList==y.toList) with
   |true=>
    go_wp2;go_ret;refine⟨⟨_,rfl,?_⟩,rfl⟩;have I:(y.toList==x.toList)=true:=by rw[beq_iff_eq] at H ⊢;exact H.symm
    rw[<-L.o,K.o,I];simp
   |false=>
    go_wp2;go_roundg (gk-1)
    case rel=>
     have I:(y.toList==x.toList)=false:=by
      rw[beq_eq_false_iff_ne] at H ⊢;exact fun e=>H e.symm
     refine⟨E,rfl,by have:=M.o;omega,?_,rfl⟩;rw[<-L.o,K.o,I,M.o];simp
    case measure=>omega
  ·have D: ¬(j:Int)<(l.length:Int):=by omega
   go_wp2;go_ret;refine⟨⟨_,rfl,?_⟩,rfl⟩;rw[<-L.o,List.drop_eq_nil_of_le (by omega)];rfl
theorem znQ (x:BA) (w:World):
  Calls prog 96 #[.slice none 0 0,.string x] w fun e h=>e= .returned (.int .i64 (-1))/\h=w:=by
 go_enter func96,ntmps96;go_wp2;go_loopg [8] 1 (fun k i wr=>k=1/\i= .int .i64 0/\wr=w)
 case atStart=>exact⟨rfl,rfl,rfl⟩
 case round=>
  obtain⟨rfl,rfl,rfl⟩:=hrel;go_wp2;go_ret;exact⟨rfl,rfl⟩
theorem znR (base:Nat) (r:Rw) (l:List BA) (x:BA) (w:World) (h:OwnR w base 9 1 r l.length (l.map .string)) (E:l.length<=1000000):
  Calls prog 96 #[.slice r.a l.length r.cap,.string x] w fun e D=>(∃v:Int,e= .returned (.int .i64 v)/\decide (0<=v)=zaQ l x)/\D=w:=by
 rcases h.nil_or with ⟨A,H,q⟩|⟨g,z⟩
 ·rw[A,H,q];refine (znQ x w).mono ?_;rintro e I ⟨rfl,rfl⟩;have:l=[]:=List.length_eq_zero_iff.1 q;subst this;exact⟨⟨_,rfl,rfl⟩,rfl⟩
 ·rw[z];exact znP base g r l x w h E z
theorem zgj (base:Nat) (r:Rw) (l:List BA) (x:BA) (w:World) (h:OwnR w base 9 1 r l.length (l.map .string)) (D:l.length<=1000000):
  Calls prog 64 #[.slice r.a l.length r.cap,.string x] w fun e A=>e= .returned (.bool (zaQ l x))/\A=w:=by
 have z:=zc h;clear h;go_enter func64,ntmps64;go_wp2_with fail;refine (znR base r l x _ z.o D).mono ?_;rintro e H ⟨⟨v,rfl,q⟩,rfl⟩;have E:=zc q;clear q;go_wp2;go_ret;exact⟨zi E.o,rfl⟩
theorem Tryz.infoText:(prog.info? 9).map (fun i=>(i.zero,i.size,i.bytes))=some (some (.string {data:=#[]}),1,16):=by kernel_rfl
def zbo (C:Cx):Prop:=∀i,(ze C i).text.size<=281474976710656
theorem zcO (x:BA): ∀u∈[Value.string x],u.oneCell'=true:=by
 intro u h;simp at h;rw[h];rfl
theorem znS (C:Cx) (V A base z:Nat) (S:Sv) (q:PS) (w:World) (h:IM C V A base z S q w) (hC:zbo C) (hk:((ze C q.pos).kind==3)=true) (hs:zaQ q.rq (ze C q.pos).text=false) (hn:q.rq.length<40):
  Calls prog 228 #[.pointer (some ⟨z,0,none⟩)] w fun e w'=>e= .returned (.string (ze C q.pos).text)/\∃S',IM C V A base z S' {adv q with rq:=q.rq++[(ze C q.pos).text]} w'/\IS z S w S' w':=by
 obtain⟨i0,hi,Y,ad,ae⟩:=info_parts Tryz.infoText;have ag:=zcM;have L:=hC q.pos;go_enter func228,ntmps228;go_wp2_with fail;refine (zdX C V A base z S q 3 _ h hk (by decide)).mono ?_;rintro e N ⟨rfl,m1,s1⟩;have U:=zc m1;have ac:=zc s1;clear m1 s1;unfold tkV;obtain⟨c0,c1,c2,c3,c4,c5,c6,c7,c8,c9,cf⟩:=zag U.o.cells;rw[show (adv q).rq=q.rq from rfl] at c4;generalize K:(ze C q.pos).text=tx at hs L ⊢;have X:=zc K;clear K;go_wp2_with fail;refine (zgj base S.rq q.rq tx _ U.o.mem.own.rq (by omega)).mono ?_;rintro e H ⟨rfl,M⟩;rw[hs,M];clear M H;go_wp2_with fail;refine (zdY z q.rq.length 40 _ (by omega)).mono ?_;rintro e H ⟨rfl,M⟩;rw[M];clear M H;have HN:Hid (some z≠S.rq.blk):=fun e=>U.o.free (.inl e.symm);go_wp2_with fail;go_region_law (first|(refine zfs rfl (.tmp 28) (.tmp 31) 22 rfl base 9 i0 _ 1 16 underlying22 hi Y ad ae rfl (by decide) (by decide) S.rq q.rq.length (q.rq.map .string) (by rfl) (by exact D.o.mem.own.rq.alloc _) O.heap.size [.string tx] (by rfl) (by exact heap_alloc_new O _) rfl (zcO tx) (by omega) (by exact (D.o.alloc _).mem.base) ?_;intro r' w2 hr E J;have g2:=(E.block z (by exact (D.o.alloc _).lt) HN.o).trans (by exact (D.o.alloc _).cells);obtain⟨d0,d1,d2,d3,d4,d5,d6,d7,d8,d9,df⟩:=zag g2)|(go_simp;go_wp2_with (go_at_call 191;refine (zjv _ _ L).mono ?_;rintro e O ⟨rfl,I⟩;have D:Hid (IM C V A base z S (adv q) O):=U.o.drew.later I;have ab:Hid (Below N.heap.size N O):=(Below.refl N.heap.size N).drew.trans I;obtain⟨e0,e1,e2,e3,e4,e5,e6,e7,e8,e9,ef⟩:=zag D.o.cells;rw[show (adv q).rq=q.rq from rfl] at e4;have af:=D.o.lt;clear I)))
 all_goals
  have HR:=zc hr;have aa:=zc E;have Z:=zc J;clear hr E J g2 c0 c1 c2 c3 c4 c5 c6 c7 c8 c9 cf e0 e1 e2 e3 e4 e5 e6 e7 e8 e9 ef;go_wp2;go_ret;obtain⟨m',s'⟩:=D.o.grow_rq (x:=tx) ((Below.refl _ _).alloc (Nat.le_refl _) _) aa.o HR.o Z.o hn;rw[X.o];exact⟨rfl,_,m',ac.o.trans (s'.grownI ab.o)⟩
theorem zgk (C:Cx) (H z base A:Nat) (S:Sv) (q:PS) (w:World) (h:IM C H z base A S q w) (hC:zbo C):
  Calls prog 228 #[.pointer (some ⟨A,0,none⟩)] w (zT C H z base A (zK C q) (·.1) (fun a=>.string a.2) S w):=by
 cases D:((ze C q.pos).kind==3) with
 |false=>
  have L:=zc h;have V:Hid (zK C q= .error (zs C q.pos)):=by show _=_;rw[zK,D];rfl
  clear h;go_enter func228,ntmps228;go_wp2_with fail;refine (zjt C H z base A S q 3 _ L.o D).mono ?_;rintro e X ⟨rfl,O⟩;have Y:=O.mono L.o.mem.base;clear O;unfold Pan;go_wp2;refine⟨rfl,?_⟩;rw[V.o];exact⟨rfl,Y⟩
 |true=>
  cases N:zaQ q.rq (ze C q.pos).text with
  |true=>
   have L:=zc h;have V:Hid (zK C q= .ok (adv q,(ze C q.pos).text)):=by show _=_;rw[zK,D,N];rfl
   have aa:=zcM;have Z:=h.mem.inv.rq;clear h;go_enter func228,ntmps228;go_wp2_with fail;refine (zdX C H z base A S q 3 _ L.o D (by decide)).mono ?_;rintro e X ⟨rfl,K,J⟩;have E:=zc K;have I:=zc J;clear K J;unfold tkV;obtain⟨c0,c1,c2,c3,c4,c5,c6,c7,c8,c9,cf⟩:=zag E.o.cells;rw[show (adv q).rq=q.rq from rfl] at c4;go_wp2_with fail;refine (zgj base S.rq q.rq (ze C q.pos).text _ E.o.mem.own.rq (by omega)).mono ?_;rintro e M ⟨rfl,U⟩;rw[N,U];clear U M;go_wp2;go_ret;rw[V.o];exact⟨rfl,S,E.o,I.o⟩
  |false=>
   by_cases hn:q.rq.length<40
   ·refine (znS C H z base A S q w h hC D N hn).mono ?_;rintro e X ⟨rfl,S1,K,J⟩;rw[zK,D,N,if_pos rfl,if_neg (by decide),if_neg (by omega)];exact⟨rfl,S1,K,J⟩
   ·have L:Hid (IM C H z base A S q w):=h;have V:Hid (zK C q= .error (zs C q.pos)):=by show _=_;rw[zK,D,N,if_pos rfl,if_neg (by decide),if_pos (by omega)]
    have aa:=zcM;have Z:=h.mem.inv.rq;clear h;go_enter func228,ntmps228;go_wp2_with fail;refine (zdX C H z base A S q 3 _ L.o D (by decide)).mono ?_;rintro e X ⟨rfl,K,J⟩;have E:=zc K;have I:=zc J;clear K J;unfold tkV;obtain⟨c0,c1,c2,c3,c4,c5,c6,c7,c8,c9,cf⟩:=zag E.o.cells;rw[show (adv q).rq=q.rq from rfl] at c4;go_wp2_with fail;refine (zgj base S.rq q.rq (ze C q.pos).text _ E.o.mem.own.rq (by omega)).mono ?_;rintro e M ⟨rfl,U⟩;rw[N,U];clear U M;go_wp2_with fail;refine (zeC C H z base A S (adv q) q.rq.length 40 _ E.o (by omega) (by rw[zz];omega)).mono ?_;rintro e w2 ⟨rfl,O⟩;have Y:=(L.o.back I.o).trans (O.mono E.o.mem.base);clear O;unfold Pan;go_wp2;refine⟨rfl,?_⟩;rw[V.o];exact⟨rfl,Y⟩
theorem bdO {α β:Type} {Y:Except Nat β} {x:Except Nat α} {f:α->Except Nat β} {a:α} (h:Y=bd x f) (q:x= .ok a):Y=f a:=by rw[h,q];rfl
theorem bdE {α β:Type} {Y:Except Nat β} {x:Except Nat α} {f:α->Except Nat β} {p:Nat} (h:Y=bd x f) (q:x= .error p):Y= .error p:=by rw[h,q];rfl
theorem zeE {α:Type} (x:Except Nat α):bd x .ok=x:=by cases x<;>rfl
abbrev cCall:BA:={data:=#[40,41,123]}
abbrev cShutSemi:BA:={data:=#[41,59]}
abbrev cSemiRight:BA:={data:=#[59,125]}
theorem zjw (C:Cx) (b:UInt8) (q:PS):zaF C {data:=#[b]} 1 0 q=zd C 4 {data:=#[b]} q:=by
 have e:({data:=#[b]}:BA).extract 0 (0+1)={data:=#[b]}:=by simp[ByteArray.extract,ByteArray.copySlice]
 rw[zaF,e];exact zeE _
theorem zjx (C:Cx) (b c:UInt8) (q:PS):zaF C {data:=#[b,c]} 2 0 q=bd (zd C 4 {data:=#[b]} q) (zd C 4 {data:=#[c]}):=by
 have e:({data:=#[b,c]}:BA).extract 0 (0+1)={data:=#[b]}:=by simp[ByteArray.extract,ByteArray.copySlice]
 have h:({data:=#[b,c]}:BA).extract (0+1) (0+1+1)={data:=#[c]}:=by simp[ByteArray.extract,ByteArray.copySlice]
 rw[zaF,e];refine zaf fun a _=>?_;rw[zaF,h];exact zeE _
theorem znT (C:Cx) (b c d:UInt8) (q:PS):zaF C {data:=#[b,c,d]} 3 0 q=bd (zd C 4 {data:=#[b]} q) fun a=>bd (zd C 4 {data:=#[c]} a) (zd C 4 {data:=#[d]}):=by
 have e:({data:=#[b,c,d]}:BA).extract 0 (0+1)={data:=#[b]}:=by simp[ByteArray.extract,ByteArray.copySlice]
 have w:({data:=#[b,c,d]}:BA).extract (0+1) (0+1+1)={data:=#[c]}:=by simp[ByteArray.extract,ByteArray.copySlice]
 have h:({data:=#[b,c,d]}:BA).extract (0+1+1) (0+1+1+1)={data:=#[d]}:=by simp[ByteArray.extract,ByteArray.copySlice]
 rw[zaF,e];refine zaf fun a _=>?_;rw[zaF,w];refine zaf fun a _=>?_;rw[zaF,h];exact zeE _
theorem znU (C:Cx) (D z base A:Nat) (S:Sv) (q:PS) (s:BA) (f:PS->PR) (w:World) (h:IM C D z base A S q w) (E:zaF C s s.size 0 q=f q) (H:s.size<=100):
  Calls prog 220 #[.pointer (some ⟨A,0,none⟩),.string s] w (zT C D z base A (f q) id (fun _=>.tuple #[]) S w):=by
 rw[<-E];exact zht C D z base A S q s w h H
theorem zcy (C:Cx) (D z base A:Nat) (S:Sv) (q:PS) (b:UInt8) (w:World) (h:IM C D z base A S q w):
  Calls prog 220 #[.pointer (some ⟨A,0,none⟩),.string {data:=#[b]}] w (zT C D z base A (zd C 4 {data:=#[b]} q) id (fun _=>.tuple #[]) S w):=
 znU C D z base A S q {data:=#[b]} (zd C 4 {data:=#[b]}) w h (zjw C b q) (by show 1<=100;omega)
structure Six (w:World) (b:Nat) (v0 v1 v2 v3 v4 v5:Value):Prop where
 c0:w.cell? ⟨b,0,none⟩=some v0
 c1:w.cell? ⟨b,1,none⟩=some v1
 c2:w.cell? ⟨b,2,none⟩=some v2
 c3:w.cell? ⟨b,3,none⟩=some v3
 c4:w.cell? ⟨b,4,none⟩=some v4
 c5:w.cell? ⟨b,5,none⟩=some v5
 fz: ∀i,w.frozen? ⟨b,i,none⟩=false
theorem zw {w:World} {b:Nat} {t:TypeId} {v0 v1 v2 v3 v4 q:Value} (h:w.heap[b]? =some (.cells #[v0,v1,v2,v3,v4,q] t (0,0))):Six w b v0 v1 v2 v3 v4 q:=by
 constructor<;>simp[World.cell?,World.frozen?,h]
theorem IS.kept {C:Cx} {I z base A b:Nat} {S E:Sv} {q:PS} {w D:World} {o:Obj} (h:IM C I z base A S q w) (s:IS A S (w.alloc o) E D) (H:b=w.heap.size):D.heap[b]? =some o:=by
 subst H;refine (s.block _ (by rw[zg];omega) (fun g=>?_) (by have:=h.lt;omega)).trans (heap_alloc_new w _);have:=(h.mem.own.has g).2;omega
theorem IS.from {z:Nat} {S h:Sv} {w q:World} {o:Obj} (s:IS z S (w.alloc o) h q):IS z S w h q:=(IS.below ((Below.refl _ _).alloc (Nat.le_refl _) _)).trans s
theorem IS.free {C:Cx} {H z base D:Nat} {S A:Sv} {q:PS} {w E:World} {o:Obj} (h:IM C H z base D S q w) (s:IS D S (w.alloc o) A E): ¬A.has w.heap.size:=by
 intro g;rcases s.sub _ g with k|k
 ·have:=(h.mem.own.has k).2;omega
 ·rw[zg] at k;omega
def zbp (C:Cx) (x:Ex) (call:Int) (q:PS):PR:=if isT C q.pos 4 zo then bd (zd C 4 za6 (adv q)) (zQ C ⟨call,x.num,x.name,x.field,x.l,x.r⟩) else zQ C x q
theorem zfw (C:Cx) (K A base H:Nat) (S:Sv) (q:PS) (x:Ex) (z:Int) (w:World) (h:IM C K A base H S q w) (hp:0<q.pos):
  Calls prog 257 #[.pointer (some ⟨H,0,none⟩),exV x,.int .i64 z] w (zT C K A base H (zbp C x z q) id (fun q'=>.int .i64 ((q'.ex.length:Int)-1)) S w):=by
 cases hi:isT C q.pos 4 zo with
 |false=>
  have X:Hid (zbp C x z q=zQ C x q):=by show _=_;rw[zbp,hi];rfl
  unfold exV;go_enter func257,ntmps257;go_wp2_with fail;refine (zN C K A base H S q 4 zo _ (h.alloc _) (by decide)).mono ?_;rintro e w1 ⟨rfl,E,s⟩;rw[hi] at E ⊢;have O:=s.from;have ag:Hid (w1.heap[w.heap.size]? =some (.cells #[.int .i64 x.kind,.int .i64 x.num,.string x.name,.string x.field,.int .i64 x.l,.int .i64 x.r] 100 (0,0))):=IS.kept h s rfl;obtain⟨b0,b1,b2,b3,b4,b5,bf⟩:=zw ag.o;clear s;go_wp2_with fail;refine (zeD C K A base H S q x _ E hp).mono ?_;cases D:zQ C x q with
  |error p=>
   rintro e w2 ⟨rfl,M⟩;have U:=(h.back O).trans M;have J:Hid (zbp C x z q= .error p):=X.o.trans D;unfold Pan;go_wp2;refine⟨rfl,?_⟩;rw[J.o];exact⟨rfl,U⟩
  |ok a2=>
   rintro e w2 ⟨rfl,Z,L,s⟩;have aa:=O.trans s;clear s;have J:=zc (X.o.trans D);go_wp2;go_ret;rw[J.o];exact⟨rfl,Z,L,aa⟩
 |true=>
  have X:Hid (zbp C x z q=bd (zd C 4 za6 (adv q)) (zQ C ⟨z,x.num,x.name,x.field,x.l,x.r⟩)):=by show _=_;rw[zbp,hi];rfl
  unfold exV;go_enter func257,ntmps257;go_wp2_with fail;refine (zN C K A base H S q 4 zo _ (h.alloc _) (by decide)).mono ?_;rintro e w1 ⟨rfl,E,Y⟩;rw[hi] at E ⊢;go_wp2_with fail;refine (zcy C K A base H S (adv q) 41 _ E).mono ?_;cases D:zd C 4 za6 (adv q) with
  |error p=>
   rintro e w2 ⟨rfl,M⟩;have U:=(h.back Y.from).trans M;have J:Hid (zbp C x z q= .error p):=bdE X.o D;unfold Pan;go_wp2;refine⟨rfl,?_⟩;rw[J.o];exact⟨rfl,U⟩
  |ok a2=>
   rintro e w2 ⟨rfl,Z,L,s⟩;have I:=Y.trans s;have ab:Hid (w2.heap[w.heap.size]? =some (.cells #[.int .i64 x.kind,.int .i64 x.num,.string x.name,.string x.field,.int .i64 x.l,.int .i64 x.r] 100 (0,0))):=IS.kept h I rfl;have af:Hid (a2=adv (adv q)):=(zbS D).1;have ad:Hid (¬Z.has w.heap.size):=IS.free h I;have ai:H<w.heap.size:=h.lt;have ah:K<w.heap.size:=(zat h.mem.tok).1;clear s;have N:=zc (bdO X.o D);obtain⟨b0,b1,b2,b3,b4,b5,bf⟩:=zw ab.o;go_wp2_with fail;refine (zeD C K A base H Z a2 ⟨z,x.num,x.name,x.field,x.l,x.r⟩ _ (L.set (by omega) (by omega) ad.o _ _) (by rw[af.o];show 0<q.pos+1+1;omega)).mono ?_;cases V:zQ C ⟨z,x.num,x.name,x.field,x.l,x.r⟩ a2 with
   |error p=>
    rintro e w3 ⟨rfl,M⟩;have U:Below base w w3:=(h.back (I.from.new (Nat.le_refl _) _ _)).trans M;have J:Hid (zbp C x z q= .error p):=N.o.trans V;unfold Pan;go_wp2;refine⟨rfl,?_⟩;rw[J.o];exact⟨rfl,U⟩
   |ok a3=>
    rintro e w3 ⟨rfl,S3,ac,s⟩;have ae:IS H S w S3 w3:=(I.from.new (Nat.le_refl _) _ _).trans s;clear s;have J:=zc (N.o.trans V);go_wp2;go_ret;rw[J.o];exact⟨rfl,S3,ac,ae⟩
def exI (q:PS):Value:=.int .i64 ((q.ex.length:Int)-1)
def zfx (C:Cx) (gt cap base gp m:Nat):Prop:=∀(d:Nat) (S:Sv) (q:PS) (w:World),C.ts.length-q.pos<m->d<=20->IM C gt cap base gp S q w->
 Calls prog 239 #[.pointer (some ⟨gp,0,none⟩),.int .i64 d] w (zT C gt cap base gp (pE C .sum d q) id exI S w)
theorem zjy (C:Cx) (n:BA) (q:PS):zbE C n q=zbp C ⟨2,0,n,sNone,0,0⟩ 3 q:=by
 unfold zbE zbp;cases h:isT C q.pos 4 zo with
 |true=>rw[zcc h];rfl
 |false=>rfl
theorem znV (C:Cx) (n f:BA) (q:PS):zbR C n f q=zbp C ⟨4,0,n,f,0,0⟩ 5 q:=by
 unfold zbR zbp;cases h:isT C q.pos 4 zo with
 |true=>rw[zcc h];rfl
 |false=>rfl
theorem znW {x y:BA} (h:(x.toList==y.toList)=true):x=y:=by
 rw[beq_iff_eq,Lib.toList_data,Lib.toList_data] at h;cases x;cases y;simp only at h;rw[Array.toList_inj.1 h]
theorem zhx {C:Cx} {i:Nat} {k:Int} {x:BA} (h:isT C i k x=true):(ze C i).text=x:=by
 simp only[isT,Bool.and_eq_true] at h;exact znW h.2
theorem zgl {C:Cx} {i:Nat} {k:Int} {x:BA} (h:isT C i k x=true):((ze C i).kind==k)=true:=by
 simp only[isT,Bool.and_eq_true] at h;exact h.1
theorem znX {C:Cx} {d:Nat} {q:PS} (h:((ze C q.pos).kind==2)=true):pE C .part d q=zQ C ⟨1,(ze C q.pos).num,sNone,sNone,0,0⟩ (adv q):=by rw[zbL,h];rfl
theorem znY {C:Cx} {d:Nat} {q:PS} (h:((ze C q.pos).kind==2)=false) (w:isT C q.pos 4 zo=true) (z:20<=d):pE C .part d q= .error (zs C q.pos):=by rw[zbL,h,w,if_neg (by decide),if_pos rfl,if_pos z]
theorem znZ {C:Cx} {d:Nat} {q:PS} (h:((ze C q.pos).kind==2)=false) (w:isT C q.pos 4 zo=true) (z: ¬20<=d):pE C .part d q=bd (pE C .sum (d+1) (adv q)) (zd C 4 za6):=by rw[zbL,h,w,if_neg (by decide),if_pos rfl,if_neg z]
theorem zoa {C:Cx} {d:Nat} {q:PS} (h:((ze C q.pos).kind==2)=false) (w:isT C q.pos 4 zo=false) (z:C.scr=true) (A:isT C q.pos 1 zaD=true):pE C .part d q=zbp C ⟨2,0,zaD,sNone,0,0⟩ 3 (adv q):=by
 rw[zbL,h,w,z,A,if_neg (by decide),if_neg (by decide),if_pos (by decide),zjy]
theorem zjz {C:Cx} {d:Nat} {q:PS} (h:((ze C q.pos).kind==2)=false) (w:isT C q.pos 4 zo=false) (z:(C.scr&&isT C q.pos 1 zaD)=false):
  pE C .part d q=bd (zm C false q) fun x=>if isT C x.1.pos 4 cPoint then bd (zm C true (adv x.1)) fun y=>zbp C ⟨4,0,x.2,y.2,0,0⟩ 5 y.1 else zbp C ⟨2,0,x.2,sNone,0,0⟩ 3 x.1:=by
 rw[zbL,h,w,z,if_neg (by decide),if_neg (by decide),if_neg (by decide)];simp only[zjy,znV]
theorem zob (C:Cx) (I z base A d:Nat) (S:Sv) (q:PS) (w:World) (h:IM C I z base A S q w) (U:((ze C q.pos).kind==2)=true):
  Calls prog 256 #[.pointer (some ⟨A,0,none⟩),.int .i64 d] w (zT C I z base A (pE C .part d q) id exI S w):=by
 have aa:=zdb;have ac:=zcM;have ab:=ze9;have V:=zc (znX (d:=d) U);go_enter func256,ntmps256;go_wp2_with fail;refine (zb7 C I z base A S q _ h).mono ?_;rintro e X ⟨rfl,D⟩;unfold tkV;have O:=h.later D;have K:IS A S w S X:=IS.below D;clear D;go_wp2_with fail;refine (zdX C I z base A S q 2 _ O U (by decide)).mono ?_;rintro e w2 ⟨rfl,J,s⟩;have E:=K.trans s;clear s;unfold tkV;go_wp2_with fail;refine (zeD C I z base A S (adv q) ⟨1,(ze C q.pos).num,sNone,sNone,0,0⟩ _ J (by rw[zz];omega)).mono ?_;cases H:zQ C ⟨1,(ze C q.pos).num,sNone,sNone,0,0⟩ (adv q) with
 |error p=>
  rintro e Y ⟨rfl,D⟩;have Z:=(h.back E).trans D;have HX:Hid (pE C .part d q= .error p):=V.o.trans H;unfold Pan;go_wp2;refine⟨rfl,?_⟩;rw[HX.o];exact⟨rfl,Z⟩
 |ok a3=>
  rintro e Y ⟨rfl,S3,L,s⟩;have N:=E.trans s;clear s;have M:=zc (V.o.trans H);go_wp2;go_ret;rw[M.o];exact⟨rfl,S3,L,N⟩
theorem zoc (C:Cx) (H z base D d:Nat) (S:Sv) (q:PS) (w:World) (h:IM C H z base D S q w) (O:((ze C q.pos).kind==2)=false) (L:isT C q.pos 4 zo=true) (M:20<=d):
  Calls prog 256 #[.pointer (some ⟨D,0,none⟩),.int .i64 d] w (zT C H z base D (pE C .part d q) id exI S w):=by
 have V:=zdb;have aa:=zcM;have Z:=ze9;have X:=zc (znY (d:=d) O L M);have Y:(20:Int)<=(d:Int):=by omega
 go_enter func256,ntmps256;go_wp2_with fail;refine (zb7 C H z base D S q _ h).mono ?_;rintro e N ⟨rfl,E⟩;unfold tkV;have K:=h.later E;have I:IS D S w S N:=IS.below E;clear E;go_wp2_with fail;refine (zN C H z base D S q 4 zo _ K (by decide)).mono ?_;rintro e w2 ⟨rfl,A,s⟩;rw[L] at A ⊢;have J:=I.trans s;clear s;go_wp2_with fail;refine (zeC C H z base D S (adv q) d 20 _ A (by omega) (by rw[zz];omega)).mono ?_;rintro e w3 ⟨rfl,E⟩;have U:=(h.back J).trans (E.mono A.mem.base);have HX:Hid (pE C .part d q= .error (zs C q.pos)):=X.o;unfold Pan;go_wp2;refine⟨rfl,?_⟩;rw[HX.o];exact⟨rfl,U⟩
theorem zod (C:Cx) (I z base A m d:Nat) (S:Sv) (q:PS) (w:World) (h:IM C I z base A S q w) (hk:((ze C q.pos).kind==2)=false) (h1:isT C q.pos 4 zo=true) (hd:d<20) (hS:zfx C I z base A m) (hm:C.ts.length-q.pos<=m):
  Calls prog 256 #[.pointer (some ⟨A,0,none⟩),.int .i64 d] w (zT C I z base A (pE C .part d q) id exI S w):=by
 have ae:=zdb;have ah:=zcM;have ag:=ze9;have HY:=zc (znZ (d:=d) hk h1 (by omega));have af: ¬(20:Int)<=(d:Int):=by omega
 have ad:=za7 h1 (by decide);obtain⟨H,M⟩: ∃H:Nat,H=d+1:=⟨_,rfl⟩;have ed:(d:Int)+1=(H:Int):=by omega
 rw[<-M] at HY;have U:H<=20:=by omega
 clear M;go_enter func256,ntmps256;go_wp2_with fail;refine (zb7 C I z base A S q _ h).mono ?_;rintro e w1 ⟨rfl,E⟩;unfold tkV;have ac:=h.later E;have Y:IS A S w S w1:=IS.below E;clear E;go_wp2_with fail;refine (zN C I z base A S q 4 zo _ ac (by decide)).mono ?_;rintro e w2 ⟨rfl,J,s⟩;rw[h1] at J ⊢;have K:=Y.trans s;clear s;go_wp2_with fail;refine (zdY A d 20 _ (by omega)).mono ?_;rintro e w' ⟨rfl,hw⟩;rw[hw];clear hw w';go_wp2_with fail;refine (hS H S (adv q) _ (by rw[zz];omega) U J).mono ?_;cases L:pE C .sum H (adv q) with
 |error p=>
  rintro e w3 ⟨rfl,E⟩;have Z:=(h.back K).trans E;have HX:Hid (pE C .part d q= .error p):=bdE HY.o L;unfold Pan;go_wp2;refine⟨rfl,?_⟩;rw[HX.o];exact⟨rfl,Z⟩
 |ok a3=>
  rintro e w3 ⟨rfl,S3,aa,s⟩;have O:=K.trans s;clear s;have N:=zc (bdO HY.o L);unfold exI;go_wp2_with fail;refine (zcy C I z base A S3 a3 41 _ aa).mono ?_;cases D:zd C 4 za6 a3 with
  |error p=>
   rintro e w4 ⟨rfl,E⟩;have Z:=(h.back O).trans E;have HX:Hid (pE C .part d q= .error p):=N.o.trans D;unfold Pan;go_wp2;refine⟨rfl,?_⟩;rw[HX.o];exact⟨rfl,Z⟩
  |ok a4=>
   rintro e w4 ⟨rfl,S4,X,s⟩;have V:=O.trans s;clear s;have ab:=zc (N.o.trans D);have HP:Hid (a4=adv a3):=(zbS D).1;go_wp2;go_ret;rw[ab.o];exact⟨by rw[HP.o];rfl,S4,X,V⟩
theorem zoe (C:Cx) (H z base D d:Nat) (S:Sv) (q:PS) (w:World) (h:IM C H z base D S q w) (hk:((ze C q.pos).kind==2)=false) (h1:isT C q.pos 4 zo=false) (h2:C.scr=true) (K:isT C q.pos 1 zaD=true):
  Calls prog 256 #[.pointer (some ⟨D,0,none⟩),.int .i64 d] w (zT C H z base D (pE C .part d q) id exI S w):=by
 have aa:=zdb;have ac:=zcM;have ab:=ze9;have HY:=zc (zoa (d:=d) hk h1 h2 K);go_enter func256,ntmps256;go_wp2_with fail;refine (zb7 C H z base D S q _ h).mono ?_;rintro e w1 ⟨rfl,A⟩;unfold tkV;have Z:=h.later A;have N:IS D S w S w1:=IS.below A;clear A;go_wp2_with fail;refine (zN C H z base D S q 4 zo _ Z (by decide)).mono ?_;rintro e w2 ⟨rfl,m,s⟩;rw[h1] at m ⊢;have E:=zc m;have O:=N.trans s;clear m s;obtain⟨_,_,_,c3,_,_,_,_,_,_,cf⟩:=zag E.o.cells;rw[h2] at c3;go_wp2_with fail;refine (zcm C H z base D S q 1 zaD _ E.o).mono ?_;rintro e w3 ⟨rfl,A⟩;rw[K];have V:=E.o.later A;have X:=(O.trans (IS.below A));clear A;go_wp2_with fail;refine (zdX C H z base D S q 1 _ V (zgl K) (by decide)).mono ?_;rintro e w4 ⟨rfl,L,s⟩;have J:=X.trans s;clear s;unfold tkV;rw[zhx K];go_wp2_with fail;refine (zfw C H z base D S (adv q) ⟨2,0,zaD,sNone,0,0⟩ 3 _ L (by rw[zz];omega)).mono ?_;cases I:zbp C ⟨2,0,zaD,sNone,0,0⟩ 3 (adv q) with
 |error p=>
  rintro e w5 ⟨rfl,A⟩;have HB:=(h.back J).trans A;have HX:Hid (pE C .part d q= .error p):=HY.o.trans I;unfold Pan;go_wp2;refine⟨rfl,?_⟩;rw[HX.o];exact⟨rfl,HB⟩
 |ok a5=>
  rintro e w5 ⟨rfl,S5,M,s⟩;have Y:=J.trans s;clear s;have U:=zc (HY.o.trans I);go_wp2;go_ret;rw[U.o];exact⟨rfl,S5,M,Y⟩
theorem zof (C:Cx) (K z base D d:Nat) (S:Sv) (q:PS) (w:World) (h:IM C K z base D S q w) (hk:((ze C q.pos).kind==2)=false) (h1:isT C q.pos 4 zo=false) (h2:C.scr=true) (h3:isT C q.pos 1 zaD=false):
  Calls prog 256 #[.pointer (some ⟨D,0,none⟩),.int .i64 d] w (zT C K z base D (pE C .part d q) id exI S w):=by
 have al:=zdb;have an:=zcM;have am:=ze9;have HY:=zc (zjz (d:=d) hk h1 (by rw[h2,h3];rfl));go_enter func256,ntmps256;go_wp2_with fail;refine (zb7 C K z base D S q _ h).mono ?_;rintro e w1 ⟨rfl,A⟩;unfold tkV;have ak:=h.later A;have ag:IS D S w S w1:=IS.below A;clear A;go_wp2_with fail;refine (zN C K z base D S q 4 zo _ ak (by decide)).mono ?_;rintro e w2 ⟨rfl,m,s⟩;rw[h1] at m ⊢;have O:=zc m;have ah:=ag.trans s;clear m s;obtain⟨_,_,_,c3,_,_,_,_,_,_,cf⟩:=zag O.o.cells;rw[h2] at c3;go_wp2_with fail;refine (zcm C K z base D S q 1 zaD _ O.o).mono ?_;rintro e w3 ⟨rfl,A⟩;rw[h3];have ai:=O.o.later A;have ab:=(ah.trans (IS.below A));clear A;go_wp2_with fail;refine (zd1 C K z base D S q _ ai).mono ?_;cases N:zm C false q with
 |error p=>
  rintro e w4 ⟨rfl,A⟩;have U:=(h.back ab).trans A;have X:Hid (pE C .part d q= .error p):=bdE HY.o N;unfold Pan;go_wp2;refine⟨rfl,?_⟩;rw[X.o];exact⟨rfl,U⟩
 |ok H=>
  rintro e w4 ⟨rfl,S4,Z,s⟩;have Y:=ab.trans s;clear s;have ac:=zc (bdO HY.o N);have aa:0<H.1.pos:=by rw[(zb1 N).1];exact Nat.succ_pos _
  cases hd:isT C H.1.pos 4 cPoint with
  |true=>
   have HZ:=zc (ac.o.trans (if_pos hd));go_wp2_with fail;refine (zN C K z base D S4 (H.1) 4 cPoint _ Z (by decide)).mono ?_;rintro e w5 ⟨rfl,I,s⟩;rw[hd] at I ⊢;have J:=Y.trans s;clear s;go_wp2_with fail;refine (zfr C K z base D S4 (adv (H.1)) _ I).mono ?_;cases E:zm C true (adv (H.1)) with
   |error p=>
    rintro e w6 ⟨rfl,A⟩;have U:=(h.back J).trans A;have X:Hid (pE C .part d q= .error p):=bdE HZ.o E;unfold Pan;go_wp2;refine⟨rfl,?_⟩;rw[X.o];exact⟨rfl,U⟩
   |ok a6=>
    rintro e w6 ⟨rfl,S6,V,s⟩;have L:=J.trans s;clear s;have M:=zc (bdO HZ.o E);go_wp2_with fail;refine (zfw C K z base D S6 (a6.1) ⟨4,0,H.2,a6.2,0,0⟩ 5 _ V (by rw[(zb1 E).1];exact Nat.succ_pos _)).mono ?_;cases ad:zbp C ⟨4,0,H.2,a6.2,0,0⟩ 5 (a6.1) with
    |error p=>
     rintro e w7 ⟨rfl,A⟩;have U:=(h.back L).trans A;have X:Hid (pE C .part d q= .error p):=M.o.trans ad;unfold Pan;go_wp2;refine⟨rfl,?_⟩;rw[X.o];exact⟨rfl,U⟩
    |ok a7=>
     rintro e w7 ⟨rfl,S7,af,s⟩;have aj:=L.trans s;clear s;have ae:=zc (M.o.trans ad);go_wp2;go_ret;rw[ae.o];exact⟨rfl,S7,af,aj⟩
  |false=>
   have HZ:=zc (ac.o.trans (if_neg (by rw[hd];decide)));go_wp2_with fail;refine (zN C K z base D S4 (H.1) 4 cPoint _ Z (by decide)).mono ?_;rintro e w5 ⟨rfl,I,s⟩;rw[hd] at I ⊢;have J:=Y.trans s;clear s;go_wp2_with fail;refine (zfw C K z base D S4 (H.1) ⟨2,0,H.2,sNone,0,0⟩ 3 _ I aa).mono ?_;cases E:zbp C ⟨2,0,H.2,sNone,0,0⟩ 3 (H.1) with
   |error p=>
    rintro e w6 ⟨rfl,A⟩;have U:=(h.back J).trans A;have X:Hid (pE C .part d q= .error p):=HZ.o.trans E;unfold Pan;go_wp2;refine⟨rfl,?_⟩;rw[X.o];exact⟨rfl,U⟩
   |ok a6=>
    rintro e w6 ⟨rfl,S6,V,s⟩;have L:=J.trans s;clear s;have M:=zc (HZ.o.trans E);go_wp2;go_ret;rw[M.o];exact⟨rfl,S6,V,L⟩
theorem zog (C:Cx) (K z base D d:Nat) (S:Sv) (q:PS) (w:World) (h:IM C K z base D S q w) (hk:((ze C q.pos).kind==2)=false) (h1:isT C q.pos 4 zo=false) (h2:C.scr=false):
  Calls prog 256 #[.pointer (some ⟨D,0,none⟩),.int .i64 d] w (zT C K z base D (pE C .part d q) id exI S w):=by
 have aj:=zdb;have al:=zcM;have ak:=ze9;have HY:=zc (zjz (d:=d) hk h1 (by rw[h2];rfl));go_enter func256,ntmps256;go_wp2_with fail;refine (zb7 C K z base D S q _ h).mono ?_;rintro e w1 ⟨rfl,I⟩;unfold tkV;have ah:=h.later I;have ae:IS D S w S w1:=IS.below I;clear I;go_wp2_with fail;refine (zN C K z base D S q 4 zo _ ah (by decide)).mono ?_;rintro e w2 ⟨rfl,m,s⟩;rw[h1] at m ⊢;have X:=zc m;have Y:=ae.trans s;clear m s;obtain⟨_,_,_,c3,_,_,_,_,_,_,cf⟩:=zag X.o.cells;rw[h2] at c3;go_wp2_with fail;refine (zd1 C K z base D S q _ X.o).mono ?_;cases U:zm C false q with
 |error p=>
  rintro e w3 ⟨rfl,I⟩;have O:=(h.back Y).trans I;have V:Hid (pE C .part d q= .error p):=bdE HY.o U;unfold Pan;go_wp2;refine⟨rfl,?_⟩;rw[V.o];exact⟨rfl,O⟩
 |ok E=>
  rintro e w3 ⟨rfl,S3,ab,s⟩;have ad:=Y.trans s;clear s;have ac:=zc (bdO HY.o U);have Z:0<E.1.pos:=by rw[(zb1 U).1];exact Nat.succ_pos _
  cases hd:isT C E.1.pos 4 cPoint with
  |true=>
   have HZ:=zc (ac.o.trans (if_pos hd));go_wp2_with fail;refine (zN C K z base D S3 (E.1) 4 cPoint _ ab (by decide)).mono ?_;rintro e w4 ⟨rfl,J,s⟩;rw[hd] at J ⊢;have H:=ad.trans s;clear s;go_wp2_with fail;refine (zfr C K z base D S3 (adv (E.1)) _ J).mono ?_;cases A:zm C true (adv (E.1)) with
   |error p=>
    rintro e w5 ⟨rfl,I⟩;have O:=(h.back H).trans I;have V:Hid (pE C .part d q= .error p):=bdE HZ.o A;unfold Pan;go_wp2;refine⟨rfl,?_⟩;rw[V.o];exact⟨rfl,O⟩
   |ok a5=>
    rintro e w5 ⟨rfl,S5,N,s⟩;have M:=H.trans s;clear s;have L:=zc (bdO HZ.o A);go_wp2_with fail;refine (zfw C K z base D S5 (a5.1) ⟨4,0,E.2,a5.2,0,0⟩ 5 _ N (by rw[(zb1 A).1];exact Nat.succ_pos _)).mono ?_;cases aa:zbp C ⟨4,0,E.2,a5.2,0,0⟩ 5 (a5.1) with
    |error p=>
     rintro e w6 ⟨rfl,I⟩;have O:=(h.back M).trans I;have V:Hid (pE C .part d q= .error p):=L.o.trans aa;unfold Pan;go_wp2;refine⟨rfl,?_⟩;rw[V.o];exact⟨rfl,O⟩
    |ok a6=>
     rintro e w6 ⟨rfl,S6,af,s⟩;have ag:=M.trans s;clear s;have ai:=zc (L.o.trans aa);go_wp2;go_ret;rw[ai.o];exact⟨rfl,S6,af,ag⟩
  |false=>
   have HZ:=zc (ac.o.trans (if_neg (by rw[hd];decide)));go_wp2_with fail;refine (zN C K z base D S3 (E.1) 4 cPoint _ ab (by decide)).mono ?_;rintro e w4 ⟨rfl,J,s⟩;rw[hd] at J ⊢;have H:=ad.trans s;clear s;go_wp2_with fail;refine (zfw C K z base D S3 (E.1) ⟨2,0,E.2,sNone,0,0⟩ 3 _ J Z).mono ?_;cases A:zbp C ⟨2,0,E.2,sNone,0,0⟩ 3 (E.1) with
   |error p=>
    rintro e w5 ⟨rfl,I⟩;have O:=(h.back H).trans I;have V:Hid (pE C .part d q= .error p):=HZ.o.trans A;unfold Pan;go_wp2;refine⟨rfl,?_⟩;rw[V.o];exact⟨rfl,O⟩
   |ok a5=>
    rintro e w5 ⟨rfl,S5,N,s⟩;have M:=H.trans s;clear s;have L:=zc (HZ.o.trans A);go_wp2;go_ret;rw[L.o];exact⟨rfl,S5,N,M⟩
theorem zj0 (C:Cx) (D z base A m d:Nat) (S:Sv) (q:PS) (w:World) (h:IM C D z base A S q w) (N:d<=20) (M:zfx C D z base A m) (L:C.ts.length-q.pos<=m):
  Calls prog 256 #[.pointer (some ⟨A,0,none⟩),.int .i64 d] w (zT C D z base A (pE C .part d q) id exI S w):=by
 cases E:((ze C q.pos).kind==2) with
 |true=>exact zob C D z base A d S q w h E
 |false=>
  cases H:isT C q.pos 4 zo with
  |true=>
   by_cases I:20<=d
   ·exact zoc C D z base A d S q w h E H I
   ·exact zod C D z base A m d S q w h E H (by omega) M L
  |false=>
   cases J:C.scr with
   |true=>
    cases K:isT C q.pos 1 zaD with
    |true=>exact zoe C D z base A d S q w h E H J K
    |false=>exact zof C D z base A d S q w h E H J K
   |false=>exact zog C D z base A d S q w h E H J
theorem zoh {C:Cx} {d:Nat} {q:PS} (h:isT C q.pos 4 zx=false):pE C .prodT d q= .ok q:=by rw[zfS,if_neg (by rw[h];decide)]
theorem zoi {C:Cx} {d:Nat} {q:PS} (h:isT C q.pos 4 zx=true):pE C .prodT d q=bd (pE C .part d (adv q)) fun a=>bd (zQ C ⟨8,0,sNone,sNone,(q.ex.length:Int)-1,(a.ex.length:Int)-1⟩ a) (pE C .prodT d):=by rw[zfS,if_pos h,zO]
theorem zoj {C:Cx} {d:Nat} {q:PS} (h:isT C q.pos 4 zbm=false) (w:isT C q.pos 4 zcv=false):pE C .sumT d q= .ok q:=by rw[zfi,if_neg (by rw[h,w];decide)]
theorem zok {C:Cx} {d:Nat} {q:PS} (h:isT C q.pos 4 zbm=true):pE C .sumT d q=bd (pE C .prod d (adv q)) fun a=>bd (zQ C ⟨7,0,sNone,sNone,(q.ex.length:Int)-1,(a.ex.length:Int)-1⟩ a) (pE C .sumT d):=by
 rw[zfi,if_pos (by rw[h];exact Bool.or_true _),zO,zdv,if_pos h]
theorem zol {C:Cx} {d:Nat} {q:PS} (h:isT C q.pos 4 zbm=false) (w:isT C q.pos 4 zcv=true):pE C .sumT d q=bd (pE C .prod d (adv q)) fun a=>bd (zQ C ⟨6,0,sNone,sNone,(q.ex.length:Int)-1,(a.ex.length:Int)-1⟩ a) (pE C .sumT d):=by
 rw[zfi,if_pos (by rw[w];rfl),zO,zdv,if_neg (by rw[h];decide)]
theorem zhy (C:Cx) (I z base E m d:Nat) (S:Sv) (q:PS) (w:World) (h:IM C I z base E S q w) (hd:d<=20) (hS:zfx C I z base E m) (hm:C.ts.length-q.pos<=m):
  Calls prog 252 #[.pointer (some ⟨E,0,none⟩),.int .i64 d] w (zT C I z base E (pE C .prod d q) id exI S w):=by
 have HY:=zc (ziT C d q);go_enter func252,ntmps252;go_wp2_with fail;refine (zj0 C I z base E m d S q _ h hd hS hm).mono ?_;cases K:pE C .part d q with
 |error p=>
  rintro e w1 ⟨rfl,U⟩;have V:Below base w w1:=(h.back (IS.refl _ _ _)).trans U;have HX:Hid (pE C .prod d q= .error p):=bdE HY.o K;unfold Pan;go_wp2;refine⟨rfl,?_⟩;rw[HX.o];exact⟨rfl,V⟩
 |ok a1=>
  rintro e w1 ⟨rfl,S1,ai,ae⟩;have aj:=zc (bdO HY.o K);unfold exI;have am:=zbf K;go_wp2;go_loopg [5] (C.ts.length+1) (fun k l wr=>∃(M:Sv) (A:PS),l=exI A/\pE C .prod d q=pE C .prodT d A/\C.ts.length-A.pos<k/\C.ts.length-A.pos<=m/\IM C I z base E M A wr/\IS E S w M wr)
  case atStart=>exact⟨S1,a1,rfl,aj.o,by omega,by omega,ai,ae⟩
  case round=>
   obtain⟨M,A,rfl,hy,hk,al,m',s'⟩:=hrel;have X:=zc hy;have O:=m';have ab:=s';clear hy m' s';unfold exI;cases hi:isT C A.pos 4 zx with
   |false=>
    have HZ:=zc (X.o.trans (zoh hi));go_wp2_with fail;refine (zN C I z base E M A 4 zx _ O (by decide)).mono ?_;rintro e w2 ⟨rfl,D,s⟩;rw[hi] at D ⊢;have H:=ab.trans s;clear s;go_wp2;go_ret;rw[HZ.o];exact⟨rfl,M,D,H⟩
   |true=>
    have ak:=za7 hi (by decide);have HZ:=zc (X.o.trans (zoi hi));go_wp2_with fail;refine (zN C I z base E M A 4 zx _ O (by decide)).mono ?_;rintro e w2 ⟨rfl,D,s⟩;rw[hi] at D ⊢;have H:=ab.trans s;clear s;go_wp2_with fail;refine (zj0 C I z base E m d M (adv A) _ D hd hS (by rw[zz];omega)).mono ?_;cases L:pE C .part d (adv A) with
    |error p=>
     rintro e w3 ⟨rfl,U⟩;have V:=(h.back H).trans U;have HX:Hid (pE C .prod d q= .error p):=bdE HZ.o L;unfold Pan;go_wp2;refine⟨rfl,?_⟩;rw[HX.o];exact⟨rfl,V⟩
    |ok N=>
     rintro e w3 ⟨rfl,S3,ag,s⟩;have aa:=H.trans s;clear s;have Z:=zc (bdO HZ.o L);unfold exI;have Y:=zbf L;rw[zz] at Y;have af:0<N.pos:=by omega
     go_wp2_with fail;refine (zeD C I z base E S3 N ⟨8,0,sNone,sNone,(A.ex.length:Int)-1,(N.ex.length:Int)-1⟩ _ ag af).mono ?_;cases J:zQ C ⟨8,0,sNone,sNone,(A.ex.length:Int)-1,(N.ex.length:Int)-1⟩ N with
     |error p=>
      rintro e w4 ⟨rfl,U⟩;have V:=(h.back aa).trans U;have HX:Hid (pE C .prod d q= .error p):=bdE Z.o J;unfold Pan;go_wp2;refine⟨rfl,?_⟩;rw[HX.o];exact⟨rfl,V⟩
     |ok a4=>
      rintro e w4 ⟨rfl,S4,ad,s⟩;have ac:=aa.trans s;clear s;have ah:=zc (bdO Z.o J);have HP:Hid (a4.pos=N.pos):=by show _=_;rw[(zb2 J).1]
      go_wp2;go_roundg (gk-1)
      case rel=>exact⟨S4,a4,rfl,ah.o,by have:=HP.o;omega,by have:=HP.o;omega,ad,ac⟩
      case measure=>omega
theorem zom (C:Cx) (H z base E m d:Nat) (S:Sv) (q:PS) (w:World) (h:IM C H z base E S q w) (hd:d<=20) (hS:zfx C H z base E m) (hm:C.ts.length-q.pos<=m):
  Calls prog 239 #[.pointer (some ⟨E,0,none⟩),.int .i64 d] w (zT C H z base E (pE C .sum d q) id exI S w):=by
 have HY:=zc (ziS C d q);go_enter func239,ntmps239;go_wp2_with fail;refine (zhy C H z base E m d S q _ h hd hS hm).mono ?_;cases ad:pE C .prod d q with
 |error p=>
  rintro e w1 ⟨rfl,D⟩;have Y:Below base w w1:=(h.back (IS.refl _ _ _)).trans D;have HX:Hid (pE C .sum d q= .error p):=bdE HY.o ad;unfold Pan;go_wp2;refine⟨rfl,?_⟩;rw[HX.o];exact⟨rfl,Y⟩
 |ok a1=>
  rintro e w1 ⟨rfl,S1,ap,al⟩;have am:=zc (bdO HY.o ad);unfold exI;have av:=zbf ad;go_wp2;go_loopg [5] (C.ts.length+1) (fun k l wr=>∃(I:Sv) (A:PS),l=exI A/\pE C .sum d q=pE C .sumT d A/\C.ts.length-A.pos<k/\C.ts.length-A.pos<=m/\IM C H z base E I A wr/\IS E S w I wr)
  case atStart=>exact⟨S1,a1,rfl,am.o,by omega,by omega,ap,al⟩
  case round=>
   obtain⟨I,A,rfl,hy,hk,au,m',s'⟩:=hrel;have ag:=zc hy;have L:=m';have aj:=s';clear hy m' s';unfold exI;have ar:=L.mem.few;cases hi:isT C A.pos 4 zbm with
   |true=>
    have ac:=za7 hi (by decide);have HZ:=zc (ag.o.trans (zok hi));go_wp2_with fail;refine (zcm C H z base E I A 4 zbm _ L).mono ?_;rintro e w2 ⟨rfl,D⟩;rw[hi];have J:Hid (IM C H z base E I A w2):=L.later D;have U:=(aj.trans (IS.below D));clear D;obtain⟨c0,c1,c2,c3,c4,c5,c6,c7,c8,c9,cf⟩:=zag J.o.cells;go_wp2_with fail;have M:Hid (IM C H z base E I (adv A) (w2.setCell ⟨E,1,none⟩ (.int .i64 ((A.pos:Int)+1)))):=J.o.adv ac;have N:IS E S w I (w2.setCell ⟨E,1,none⟩ (.int .i64 ((A.pos:Int)+1))):=U.set _ _;refine (zhy C H z base E m d I (adv A) _ M.o hd hS (by rw[zz];omega)).mono ?_;cases ab:pE C .prod d (adv A) with
    |error p=>
     rintro e w4 ⟨rfl,D⟩;have Y:=(h.back N).trans D;have HX:Hid (pE C .sum d q= .error p):=bdE HZ.o ab;unfold Pan;go_wp2;refine⟨rfl,?_⟩;rw[HX.o];exact⟨rfl,Y⟩
    |ok a4=>
     rintro e w4 ⟨rfl,S4,ae,s⟩;have O:=N.trans s;clear s;have ak:=zc (bdO HZ.o ab);unfold exI;have V:=zbf ab;rw[zz] at V;have ai:0<a4.pos:=by omega
     go_wp2_with fail;refine (zeD C H z base E S4 a4 ⟨7,0,sNone,sNone,(A.ex.length:Int)-1,(a4.ex.length:Int)-1⟩ _ ae ai).mono ?_;cases K:zQ C ⟨7,0,sNone,sNone,(A.ex.length:Int)-1,(a4.ex.length:Int)-1⟩ a4 with
     |error p=>
      rintro e w5 ⟨rfl,D⟩;have Y:=(h.back O).trans D;have HX:Hid (pE C .sum d q= .error p):=bdE ak.o K;unfold Pan;go_wp2;refine⟨rfl,?_⟩;rw[HX.o];exact⟨rfl,Y⟩
     |ok Z=>
      rintro e w5 ⟨rfl,S5,af,s⟩;have aa:=O.trans s;clear s;have X:=zc (bdO ak.o K);have HP:Hid (Z.pos=a4.pos):=by show _=_;rw[(zb2 K).1]
      go_wp2;go_roundg (gk-1)
      case rel=>exact⟨S5,Z,rfl,X.o,by have:=HP.o;omega,by have:=HP.o;omega,af,aa⟩
      case measure=>omega
   |false=>
    cases hj:isT C A.pos 4 zcv with
    |true=>
     have ac:=za7 hj (by decide);have HZ:=zc (ag.o.trans (zol hi hj));go_wp2_with fail;refine (zcm C H z base E I A 4 zbm _ L).mono ?_;rintro e w2 ⟨rfl,D⟩;rw[hi];have J:Hid (IM C H z base E I A w2):=L.later D;have U:=(aj.trans (IS.below D));clear D;go_wp2_with fail;refine (zcm C H z base E I A 4 zcv _ J.o).mono ?_;rintro e w3 ⟨rfl,D⟩;rw[hj];have M:Hid (IM C H z base E I A w3):=J.o.later D;have N:=(U.trans (IS.below D));clear D;obtain⟨c0,c1,c2,c3,c4,c5,c6,c7,c8,c9,cf⟩:=zag M.o.cells;go_wp2_with fail;have ae:=M.o.adv ac;have O:IS E S w I (w3.setCell ⟨E,1,none⟩ (.int .i64 ((A.pos:Int)+1))):=N.set _ _;refine (zhy C H z base E m d I (adv A) _ ae hd hS (by rw[zz];omega)).mono ?_;cases K:pE C .prod d (adv A) with
     |error p=>
      rintro e w5 ⟨rfl,D⟩;have Y:=(h.back O).trans D;have HX:Hid (pE C .sum d q= .error p):=bdE HZ.o K;unfold Pan;go_wp2;refine⟨rfl,?_⟩;rw[HX.o];exact⟨rfl,Y⟩
     |ok Z=>
      rintro e w5 ⟨rfl,S5,af,s⟩;have aa:=O.trans s;clear s;have X:=zc (bdO HZ.o K);unfold exI;have V:=zbf K;rw[zz] at V;have ai:0<Z.pos:=by omega
      go_wp2_with fail;refine (zeD C H z base E S5 Z ⟨6,0,sNone,sNone,(A.ex.length:Int)-1,(Z.ex.length:Int)-1⟩ _ af ai).mono ?_;cases ah:zQ C ⟨6,0,sNone,sNone,(A.ex.length:Int)-1,(Z.ex.length:Int)-1⟩ Z with
      |error p=>
       rintro e w6 ⟨rfl,D⟩;have Y:=(h.back aa).trans D;have HX:Hid (pE C .sum d q= .error p):=bdE X.o ah;unfold Pan;go_wp2;refine⟨rfl,?_⟩;rw[HX.o];exact⟨rfl,Y⟩
      |ok a6=>
       rintro e w6 ⟨rfl,S6,an,s⟩;have ao:=aa.trans s;clear s;have aq:=zc (bdO X.o ah);have HP:Hid (a6.pos=Z.pos):=by show _=_;rw[(zb2 ah).1]
       go_wp2;go_roundg (gk-1)
       case rel=>exact⟨S6,a6,rfl,aq.o,by have:=HP.o;omega,by have:=HP.o;omega,an,ao⟩
       case measure=>omega
    |false=>
     have HZ:=zc (ag.o.trans (zoj hi hj));go_wp2_with fail;refine (zcm C H z base E I A 4 zbm _ L).mono ?_;rintro e w2 ⟨rfl,D⟩;rw[hi];have J:Hid (IM C H z base E I A w2):=L.later D;have U:=(aj.trans (IS.below D));clear D;go_wp2_with fail;refine (zcm C H z base E I A 4 zcv _ J.o).mono ?_;rintro e w3 ⟨rfl,D⟩;rw[hj];have M:Hid (IM C H z base E I A w3):=J.o.later D;have N:=(U.trans (IS.below D));clear D;go_wp2;go_ret;rw[HZ.o];exact⟨rfl,I,M.o,N⟩
theorem zon (C:Cx) (E z base D m:Nat):zfx C E z base D m:=by
 induction m with
 |zero=>intro d S q w A;omega
 |succ m I=>intro d S q w A H h;exact zom C E z base D m d S q w h H I (by omega)
theorem zoo (C:Cx) (D z base A d:Nat) (S:Sv) (q:PS) (w:World) (h:IM C D z base A S q w) (E:d<=20):
  Calls prog 239 #[.pointer (some ⟨A,0,none⟩),.int .i64 d] w (zT C D z base A (pE C .sum d q) id exI S w):=zon C D z base A _ d S q w (Nat.lt_succ_self _) E h
theorem zj1 {C:Cx} {s:BA} (n:Nat): ∀{k:Nat} {q b:PS},zaF C s n k q= .ok b->b={q with pos:=q.pos+n}:=by
 induction n with
 |zero=>intro k q b h;cases h;rfl
 |succ n z=>
  intro k q b h;rw[zaF] at h;obtain⟨a,w,A⟩:=zn h;rw[z A,(zbS w).1];show ({q with pos:=q.pos+1+n}:PS)=_;congr 1;omega
theorem zop (x:Sm): ∀u∈smL x,u.oneCell'=true:=by
 intro u h;simp[smL] at h;rcases h with rfl|rfl|rfl<;>rfl
def stmtI (C:Cx) (k:Int) (n s:BA) (q:PS):PR:=bd (pE C .sum 0 q) fun a=>bd (zaF C s s.size 0 a) fun b=>zX C k n b
theorem zed (C:Cx) (gt D base H:Nat) (S:Sv) (q:PS) (E:Int) (n s:BA) (w:World) (h:IM C gt D base H S q w) (hs:s.size<=100) (h0:0<s.size):
  Calls prog 221 #[.pointer (some ⟨H,0,none⟩),.int .i64 E,.string n,.string s] w (zT C gt D base H (stmtI C E n s q) id (fun _=>.tuple #[]) S w):=by
 obtain⟨i0,hi,ae,ai,ah⟩:=info_parts Tryz.infoStmt;have HY:=zc (stmtI.eq_1 C E n s q);go_enter func221,ntmps221;go_wp2_with fail;refine (zoo C gt D base H 0 S q _ h (by omega)).mono ?_;cases N:pE C .sum 0 q with
 |error p=>
  rintro e w1 ⟨rfl,O⟩;have HB:Below base w w1:=(h.back (IS.refl _ _ _)).trans O;have HX:Hid (stmtI C E n s q= .error p):=bdE HY.o N;unfold Pan;go_wp2;refine⟨rfl,?_⟩;rw[HX.o];exact⟨rfl,HB⟩
 |ok a1=>
  rintro e w1 ⟨rfl,S1,aj,U⟩;have aa:=zc (bdO HY.o N);unfold exI;go_wp2_with fail;refine (zht C gt D base H S1 a1 s _ aj hs).mono ?_;cases M:zaF C s s.size 0 a1 with
  |error p=>
   rintro e w2 ⟨rfl,O⟩;have HB:=(h.back U).trans O;have HX:Hid (stmtI C E n s q= .error p):=bdE aa.o M;unfold Pan;go_wp2;refine⟨rfl,?_⟩;rw[HX.o];exact⟨rfl,HB⟩
  |ok A=>
   rintro e w2 ⟨rfl,S2,m,s⟩;have z:=zc m;have Y:=U.trans s;clear m s;have ab:=zc (bdO aa.o M);have K:=zj1 _ M;have Z:0<A.pos:=by rw[K];show 0<a1.pos+s.size;omega
   have HE:Hid (A.ex=a1.ex):=by show _=_;rw[K]
   clear K;have al:=z.o.mem.inv.st;obtain⟨c0,c1,c2,c3,c4,c5,c6,c7,c8,c9,cf⟩:=zag z.o.cells;go_wp2_with fail;by_cases hn:A.st.length<80
   ·have HZ:=zc (ab.o.trans (show zX C E n A=_ from if_neg (by omega)));refine (zdY H A.st.length 80 _ (by omega)).mono ?_;rintro e w' ⟨rfl,hw⟩;rw[hw];clear hw w';have HN:Hid (some H≠S2.st.blk):=fun e=>z.o.free (.inr (.inr (.inr (.inl e.symm))));have ak:=z.o.lt;have I:=fun J=>(z.o.mem.own.st.alloc J);have V:=fun J=>(z.o.alloc J).mem.base;have X:=fun J=>(z.o.alloc J).lt;have ad:=fun J=>(z.o.alloc J).cells;go_wp2_with (at_builtin;refine zba _ rfl _ _ 51 rfl base 102 i0 _ 3 32 underlying51 hi ae ai ah rfl (by decide) (by decide) S2.st A.st.length _ (by rfl) (I _) w2.heap.size (smL ⟨E,n,(a1.ex.length:Int)-1⟩) (by rfl) (by exact heap_alloc_new w2 _) rfl (zop _) (by omega) (V _) ?_;intro r' wz hr L ac;have g2:=(L.block H (X _) HN.o).trans (ad _);obtain⟨d0,d1,d2,d3,d4,d5,d6,d7,d8,d9,df⟩:=zag g2;have HR:Hid (OwnR wz base 102 3 r' (A.st.length+1) _):=hr;have ag:Hid (World.grownBy _ wz _):=L;have af:Hid (_∨_):=ac;clear hr L ac g2 c0 c1 c2 c3 c4 c5 c6 c7 c8 c9 cf I V X ad);go_wp2;go_end0;obtain⟨m',s'⟩:=z.o.grow_st ((Below.refl _ _).alloc (Nat.le_refl _) _) ag.o HR.o af.o hn;rw[HZ.o];rw[<-HE.o] at m';exact⟨rfl,_,m',Y.trans s'⟩
   ·have HZ:Hid (stmtI C E n s q= .error (zs C (A.pos-1))):=ab.o.trans (if_pos (by omega));refine (zeC C gt D base H S2 A A.st.length 80 _ z.o (by omega) Z).mono ?_;rintro e wz ⟨rfl,O⟩;have HB:=(h.back Y).trans (O.mono z.o.mem.base);have HX:Hid (stmtI C E n s q= .error (zs C (A.pos-1))):=HZ.o;unfold Pan;go_wp2;refine⟨rfl,?_⟩;rw[HX.o];exact⟨rfl,HB⟩
def letJ (C:Cx) (k:Int) (q:PS):PR:=bd (zm C false q) fun a=>bd (zd C 4 cEq a.1) fun b=>stmtI C k a.2 cSemi b
def fnI (C:Cx) (q:PS):PR:=bd (zm C false q) fun a=>bd (zaF C cCall cCall.size 0 a.1) fun b=>bd (zd C 1 ze1 b) fun c=>stmtI C 2 a.2 cSemiRight c
def printI (C:Cx) (q:PS):PR:=bd (zd C 4 zo q) fun a=>stmtI C 4 sNone cShutSemi a
theorem zhz (C:Cx) (M z base A:Nat) (S:Sv) (q:PS) (w:World) (h:IM C M z base A S q w):
  Calls prog 211 #[.pointer (some ⟨A,0,none⟩)] w (zT C M z base A (letJ C 1 q) id (fun _=>.tuple #[]) S w):=by
 have HY:=zc (letJ.eq_1 C 1 q);go_enter func211,ntmps211;go_wp2_with fail;refine (zd1 C M z base A S q _ h).mono ?_;cases E:zm C false q with
 |error p=>
  rintro e w1 ⟨rfl,D⟩;have K:Below base w w1:=(h.back (IS.refl _ _ _)).trans D;have U:Hid (letJ C 1 q= .error p):=bdE HY.o E;unfold Pan;go_wp2;refine⟨rfl,?_⟩;rw[U.o];exact⟨rfl,K⟩
 |ok V=>
  rintro e w1 ⟨rfl,S1,ab,I⟩;have O:=zc (bdO HY.o E);go_wp2_with fail;refine (zcy C M z base A S1 (V.1) 61 _ ab).mono ?_;cases N:zd C 4 cEq (V.1) with
  |error p=>
   rintro e w2 ⟨rfl,D⟩;have K:=(h.back I).trans D;have U:Hid (letJ C 1 q= .error p):=bdE O.o N;unfold Pan;go_wp2;refine⟨rfl,?_⟩;rw[U.o];exact⟨rfl,K⟩
  |ok a2=>
   rintro e w2 ⟨rfl,S2,X,s⟩;have J:=I.trans s;clear s;have H:=zc (bdO O.o N);go_wp2_with fail;refine (zed C M z base A S2 a2 1 V.2 cSemi _ X (by decide) (by decide)).mono ?_;cases L:stmtI C 1 V.2 cSemi a2 with
   |error p=>
    rintro e w3 ⟨rfl,D⟩;have K:=(h.back J).trans D;have U:Hid (letJ C 1 q= .error p):=H.o.trans L;unfold Pan;go_wp2;refine⟨rfl,?_⟩;rw[U.o];exact⟨rfl,K⟩
   |ok a3=>
    rintro e w3 ⟨rfl,S3,Y,s⟩;have aa:=J.trans s;clear s;have Z:=zc (H.o.trans L);go_wp2;go_end0;rw[Z.o];exact⟨rfl,S3,Y,aa⟩
theorem zj2 (C:Cx) (M z base A:Nat) (S:Sv) (q:PS) (w:World) (h:IM C M z base A S q w):
  Calls prog 196 #[.pointer (some ⟨A,0,none⟩)] w (zT C M z base A (letJ C 3 q) id (fun _=>.tuple #[]) S w):=by
 have HY:=zc (letJ.eq_1 C 3 q);go_enter func196,ntmps196;go_wp2_with fail;refine (zd1 C M z base A S q _ h).mono ?_;cases E:zm C false q with
 |error p=>
  rintro e w1 ⟨rfl,D⟩;have K:Below base w w1:=(h.back (IS.refl _ _ _)).trans D;have U:Hid (letJ C 3 q= .error p):=bdE HY.o E;unfold Pan;go_wp2;refine⟨rfl,?_⟩;rw[U.o];exact⟨rfl,K⟩
 |ok V=>
  rintro e w1 ⟨rfl,S1,ab,I⟩;have O:=zc (bdO HY.o E);go_wp2_with fail;refine (zcy C M z base A S1 (V.1) 61 _ ab).mono ?_;cases N:zd C 4 cEq (V.1) with
  |error p=>
   rintro e w2 ⟨rfl,D⟩;have K:=(h.back I).trans D;have U:Hid (letJ C 3 q= .error p):=bdE O.o N;unfold Pan;go_wp2;refine⟨rfl,?_⟩;rw[U.o];exact⟨rfl,K⟩
  |ok a2=>
   rintro e w2 ⟨rfl,S2,X,s⟩;have J:=I.trans s;clear s;have H:=zc (bdO O.o N);go_wp2_with fail;refine (zed C M z base A S2 a2 3 V.2 cSemi _ X (by decide) (by decide)).mono ?_;cases L:stmtI C 3 V.2 cSemi a2 with
   |error p=>
    rintro e w3 ⟨rfl,D⟩;have K:=(h.back J).trans D;have U:Hid (letJ C 3 q= .error p):=H.o.trans L;unfold Pan;go_wp2;refine⟨rfl,?_⟩;rw[U.o];exact⟨rfl,K⟩
   |ok a3=>
    rintro e w3 ⟨rfl,S3,Y,s⟩;have aa:=J.trans s;clear s;have Z:=zc (H.o.trans L);go_wp2;go_end0;rw[Z.o];exact⟨rfl,S3,Y,aa⟩
theorem zh0 (C:Cx) (I z base D:Nat) (S:Sv) (q:PS) (w:World) (h:IM C I z base D S q w):
  Calls prog 212 #[.pointer (some ⟨D,0,none⟩)] w (zT C I z base D (fnI C q) id (fun _=>.tuple #[]) S w):=by
 have HY:=zc (fnI.eq_1 C q);go_enter func212,ntmps212;go_wp2_with fail;refine (zd1 C I z base D S q _ h).mono ?_;cases K:zm C false q with
 |error p=>
  rintro e w1 ⟨rfl,A⟩;have E:Below base w w1:=(h.back (IS.refl _ _ _)).trans A;have H:Hid (fnI C q= .error p):=bdE HY.o K;unfold Pan;go_wp2;refine⟨rfl,?_⟩;rw[H.o];exact⟨rfl,E⟩
 |ok Z=>
  rintro e w1 ⟨rfl,S1,af,M⟩;have Y:=zc (bdO HY.o K);go_wp2_with fail;refine (zht C I z base D S1 (Z.1) cCall _ af (by decide)).mono ?_;cases X:zaF C cCall cCall.size 0 (Z.1) with
  |error p=>
   rintro e w2 ⟨rfl,A⟩;have E:=(h.back M).trans A;have H:Hid (fnI C q= .error p):=bdE Y.o X;unfold Pan;go_wp2;refine⟨rfl,?_⟩;rw[H.o];exact⟨rfl,E⟩
  |ok a2=>
   rintro e w2 ⟨rfl,S2,ab,s⟩;have N:=M.trans s;clear s;have L:=zc (bdO Y.o X);go_wp2_with fail;refine (zeB C I z base D S2 a2 ze1 _ ab).mono ?_;cases O:zd C 1 ze1 a2 with
   |error p=>
    rintro e w3 ⟨rfl,A⟩;have E:=(h.back N).trans A;have H:Hid (fnI C q= .error p):=bdE L.o O;unfold Pan;go_wp2;refine⟨rfl,?_⟩;rw[H.o];exact⟨rfl,E⟩
   |ok a3=>
    rintro e w3 ⟨rfl,S3,ad,s⟩;have V:=N.trans s;clear s;have U:=zc (bdO L.o O);go_wp2_with fail;refine (zed C I z base D S3 a3 2 Z.2 cSemiRight _ ad (by decide) (by decide)).mono ?_;cases J:stmtI C 2 Z.2 cSemiRight a3 with
    |error p=>
     rintro e w4 ⟨rfl,A⟩;have E:=(h.back V).trans A;have H:Hid (fnI C q= .error p):=U.o.trans J;unfold Pan;go_wp2;refine⟨rfl,?_⟩;rw[H.o];exact⟨rfl,E⟩
    |ok a4=>
     rintro e w4 ⟨rfl,S4,ac,s⟩;have aa:=V.trans s;clear s;have ae:=zc (U.o.trans J);go_wp2;go_end0;rw[ae.o];exact⟨rfl,S4,ac,aa⟩
theorem zj3 (C:Cx) (J z base D:Nat) (S:Sv) (q:PS) (w:World) (h:IM C J z base D S q w):
  Calls prog 213 #[.pointer (some ⟨D,0,none⟩)] w (zT C J z base D (printI C q) id (fun _=>.tuple #[]) S w):=by
 have Y:=zc (printI.eq_1 C q);go_enter func213,ntmps213;go_wp2_with fail;refine (zcy C J z base D S q 40 _ h).mono ?_;cases A:zd C 4 zo q with
 |error p=>
  rintro e X ⟨rfl,L⟩;have O:Below base w X:=(h.back (IS.refl _ _ _)).trans L;have V:Hid (printI C q= .error p):=bdE Y.o A;unfold Pan;go_wp2;refine⟨rfl,?_⟩;rw[V.o];exact⟨rfl,O⟩
 |ok Z=>
  rintro e X ⟨rfl,S1,U,E⟩;have I:=zc (bdO Y.o A);go_wp2_with fail;refine (zed C J z base D S1 Z 4 sNone cShutSemi _ U (by decide) (by decide)).mono ?_;cases H:stmtI C 4 sNone cShutSemi Z with
  |error p=>
   rintro e w2 ⟨rfl,L⟩;have O:=(h.back E).trans L;have V:Hid (printI C q= .error p):=I.o.trans H;unfold Pan;go_wp2;refine⟨rfl,?_⟩;rw[V.o];exact⟨rfl,O⟩
  |ok a2=>
   rintro e w2 ⟨rfl,S2,K,s⟩;have N:=E.trans s;clear s;have M:=zc (I.o.trans H);go_wp2;go_end0;rw[M.o];exact⟨rfl,S2,K,N⟩
theorem zj4 (C:Cx) (D z base A:Nat) (S:Sv) (q:PS) (w:World) (h:IM C D z base A S q w):
  Calls prog 214 #[.pointer (some ⟨A,0,none⟩)] w (zT C D z base A (stmtI C 5 sNone cSemi q) id (fun _=>.tuple #[]) S w):=by
 go_enter func214,ntmps214;go_wp2_with fail;refine (zed C D z base A S q 5 sNone cSemi _ h (by decide) (by decide)).mono ?_;cases E:stmtI C 5 sNone cSemi q with
 |error p=>
  rintro e H ⟨rfl,L⟩;unfold Pan;go_wp2;refine⟨rfl,?_⟩;rw[E];exact⟨rfl,L⟩
 |ok a=>
  rintro e H ⟨rfl,I,J,K⟩;go_wp2;go_end0;rw[E];exact⟨rfl,I,J,K⟩
theorem zoq (C:Cx) (D z base A:Nat) (S:Sv) (q:PS) (w:World) (h:IM C D z base A S q w):
  Calls prog 215 #[.pointer (some ⟨A,0,none⟩)] w (zT C D z base A (stmtI C 6 sNone cSemi q) id (fun _=>.tuple #[]) S w):=by
 go_enter func215,ntmps215;go_wp2_with fail;refine (zed C D z base A S q 6 sNone cSemi _ h (by decide) (by decide)).mono ?_;cases E:stmtI C 6 sNone cSemi q with
 |error p=>
  rintro e H ⟨rfl,L⟩;unfold Pan;go_wp2;refine⟨rfl,?_⟩;rw[E];exact⟨rfl,L⟩
 |ok a=>
  rintro e H ⟨rfl,I,J,K⟩;go_wp2;go_end0;rw[E];exact⟨rfl,I,J,K⟩
def zcB (C:Cx) (i:Nat):BA:=if (ze C i).kind==1 then (ze C i).text else sNone
theorem zj5 (C:Cx) (H z base D:Nat) (S:Sv) (q:PS) (w:World) (h:IM C H z base D S q w):
  Calls prog 195 #[.pointer (some ⟨D,0,none⟩)] w fun e K=>e= .returned (.string (zcB C q.pos))/\Below w.heap.size w K:=by
 cases I:((ze C q.pos).kind==1) with
 |true=>
  have E:Hid (zcB C q.pos=(ze C q.pos).text):=by show _=_;rw[zcB,I];rfl
  go_enter func195,ntmps195;go_wp2_with fail;refine (zb7 C H z base D S q _ h).mono ?_;rintro e J ⟨rfl,A⟩;unfold tkV;go_wp2;go_ret;rw[E.o];exact⟨rfl,A.alloc A.size _⟩
 |false=>
  have E:Hid (zcB C q.pos=sNone):=by show _=_;rw[zcB,I];rfl
  go_enter func195,ntmps195;go_wp2_with fail;refine (zb7 C H z base D S q _ h).mono ?_;rintro e J ⟨rfl,A⟩;unfold tkV;go_wp2;go_ret;rw[E.o];exact⟨rfl,A.alloc A.size _⟩
theorem OwnR.stmtName {w:World} {base:Nat} {r:Rw} {l:List Sm} {x:Sm} (h:OwnR w base 102 3 r (l++[x]).length ((l++[x]).flatMap smL)): ∃g,r.a=some ⟨g,0,none⟩/\w.cell? ⟨g,l.length*3+1,none⟩=some (.string x.name):=by
 rcases h.2 with ⟨_,I⟩|⟨g,H,E,q,_⟩
 ·simp at I
 ·simp only[Value.slice.injEq] at q;have z:=h;unfold OwnR at z;rw[q.1,q.2.2] at z;refine⟨g,q.1,?_⟩;rw[World.ownsRow.cellAt z _ (by simp;omega)];have A: ∀l:List Sm,(l.flatMap smL).length=l.length*3:=by
   intro l
   induction l with
   |nil=>rfl
   |cons y l D=>simp[List.flatMap_cons,smL,D] at D ⊢;omega
  rw[List.flatMap_append,List.getElem?_append_right (by rw[A];omega),A];simp[smL]
theorem zor (C:Cx) (N A base E:Nat) (S:Sv) (q:PS) (l:List Sm) (x:Sm) (w:World) (h:IM C N A base E S q w) (U:q.st=l++[x]) (L:x.name.size<=281474976710656) (hp:0<q.pos):
  Calls prog 235 #[.pointer (some ⟨E,0,none⟩)] w (zT C N A base E (zp C ⟨1,x.name,x.name,sNone⟩ q) id (fun _=>.tuple #[]) S w):=by
 obtain⟨_,_,_,_,_,_,_,H,_,_,_⟩:=zag h.cells;have M:=h.mem.own.st;rw[U] at M H;obtain⟨g,X,hc⟩:=M.stmtName;have J:=h.mem.inv.st;rw[U] at J;have I:(l++[x]).length=l.length+1:=by simp
 rw[I] at H J;rw[X] at H;have C7:=zc H;have CN:=zc hc;have e1:((l.length+1:Nat):Int)-1=(l.length:Int):=by omega
 have e2:(l.length:Int)+1-1=(l.length:Int):=by omega
 have ac:IntKind.i64.wrap (l.length:Int)=(l.length:Int):=IntWalk.i64_in _ ⟨by omega,by omega⟩;have Y:(l.length:Int)<((l.length+1:Nat):Int):=by omega
 have aa:(l.length:Int)<(l.length:Int)+1:=by omega
 have cC: ∀d Z,Calls prog 191 #[.string x.name] (grow (redrawn w d) Z) fun e O=>e= .returned (.string x.name)/\∃p:Regrown,O=grow (redrawn w p.d) p.os:=fun d Z=>Calls.regrown_of (zjv _ _ L);clear H hc M X U;go_enter func235,ntmps235;go_wp2_with fail;have k7:=cell_regrown C7.o;have kN:=cell_regrown CN.o;refine wp_region_quiet_below (by kernel_rfl) (by kernel_rfl) ?_
 repeat (go_big_quiet_step (exact cC _ _))
 refine wpQuiet_nil ?_;intro w1 K;obtain⟨⟨dq,ab⟩,z⟩:=K;have D:Below w.heap.size w w1:=by show Below _ _ _;rw[z];exact below_regrown _ _ _
 clear z k7 kN cC C7 CN;have V:=h.later D;go_wp2_with fail;refine (zfv C N A base E S q ⟨1,x.name,x.name,sNone⟩ _ V hp).mono ?_;cases hn:zp C ⟨1,x.name,x.name,sNone⟩ q with
 |error p=>
  rintro e w2 ⟨rfl,hb⟩;have HB:=(D.mono h.mem.base).trans hb;unfold Pan;go_wp2;refine⟨rfl,?_⟩;rw[hn];exact⟨rfl,HB⟩
 |ok a=>
  rintro e w2 ⟨rfl,S1,HM,s⟩;have HS:IS E S w S1 w2:=(IS.below D).trans s;clear s;go_wp2;go_end0;rw[hn];exact⟨rfl,S1,HM,HS⟩
def Fr (e:TypeId) (size:Nat) (w:World) (b:Nat) (r:Rw) (n:Nat) (xs:List Value) (S:Sv):Prop:=OwnR w b e size r n xs/\∀k,r.blk=some k->¬S.has k
theorem Fr.ngp {C:Cx} {H z base A size b n:Nat} {S:Sv} {q:PS} {w:World} {e:TypeId} {r:Rw} {xs:List Value} (f:Fr e size w b r n xs S) (h:IM C H z base A S q w) (E:e≠211) {k:Nat} (D:r.blk=some k):k≠A:=by
 rintro rfl;obtain⟨_,_,c,g⟩:=f.1.typed D;rw[h.cells] at g;simp only[Option.some.injEq,Obj.cells.injEq] at g;exact E g.2.1.symm
theorem Fr.ngt {C:Cx} {A z base E size b n:Nat} {S:Sv} {q:PS} {w:World} {e:TypeId} {r:Rw} {xs:List Value} (f:Fr e size w b r n xs S) (h:IM C A z base E S q w) (H:e≠158) {k:Nat} (D:r.blk=some k):k≠A:=by
 rintro rfl;obtain⟨_,_,c,g⟩:=f.1.typed D;obtain⟨J,I⟩:=zfW h.mem.tok;rw[I] at g;simp only[Option.some.injEq,Obj.cells.injEq] at g;exact H g.2.1.symm
theorem Fr.step {C:Cx} {K z base D size b n:Nat} {S A:Sv} {q:PS} {w E:World} {e:TypeId} {r:Rw} {xs:List Value} (f:Fr e size w b r n xs S) (h:IM C K z base D S q w) (I:e≠211) (s:IS D S w A E):Fr e size E b r n xs A:=by
 refine⟨f.1.keep fun k g=>s.block k (f.1.typed g).2.1 (f.2 k g) (f.ngp h I g),fun k g J=>?_⟩;rcases s.sub k J with H|H
 ·exact f.2 k g H
 ·have:=(f.1.typed g).2.1;omega
theorem Fr.low {size b h n:Nat} {S:Sv} {w:World} {e:TypeId} {r:Rw} {xs:List Value} (f:Fr e size w b r n xs S) (q:h<=b):Fr e size w h r n xs S:=⟨f.1.low q,f.2⟩
theorem Fr.later {size b n:Nat} {S:Sv} {w h:World} {e:TypeId} {r:Rw} {xs:List Value} (f:Fr e size w b r n xs S) (q:Below w.heap.size w h):Fr e size h b r n xs S:=⟨f.1.keep fun k g=>q.block k (f.1.typed g).2.1,f.2⟩
theorem IM.aside {C:Cx} {z A base w:Nat} {S:Sv} {q:PS} {W H:World} {b:Option Nat} (h:IM C z A base w S q W) (D:W.grownBy H b) (E: ∀k,b=some k->¬S.has k/\k≠w/\k≠z):IM C z A base w S q H:=by
 refine⟨⟨h.mem.own.keep fun k g=>D.block k (h.mem.own.has g).2 fun e=>(E k e.symm).1 g,h.mem.inv,zbG h.mem.tok (D.block z (zat h.mem.tok).1 fun e=>(E z e.symm).2.2 rfl),h.mem.few,Nat.le_trans h.mem.base D.size⟩,(D.block w h.lt fun e=>(E w e.symm).2.1 rfl).trans h.cells,h.ge⟩
theorem IS.aside {A:Nat} {S D:Sv} {w W E:World} {b:Option Nat} (s:IS A S w D W) (h:W.grownBy E b) (H: ∀k,b=some k->w.heap.size<=k):IS A S w D E:=
 ⟨h.os.trans s.os,h.tape.trans s.tape,h.output.trans s.output,Nat.le_trans s.size h.size,fun k z I q=>(h.block k (Nat.lt_of_lt_of_le z s.size) fun e=>by have:=H k e.symm;omega).trans (s.block k z I q),s.sub⟩
theorem Fr.grown {size b n:Nat} {S:Sv} {W H:World} {e:TypeId} {r w:Rw} {xs E:List Value} {C:Cx} {L z base J:Nat} {q:PS} (f:Fr e size W b r n xs S) (h:IM C L z base J S q W) (K:OwnR H b e size w (n+1) E) (D:w.blk=r.blk∨w.blk=some W.heap.size):Fr e size H b w (n+1) E S:=by
 refine⟨K,fun k g I=>?_⟩;rcases D with A|A
 ·exact f.2 k (A.symm.trans g) I
 ·have M:W.heap.size=k:=Option.some.inj (A.symm.trans g);have:=(h.mem.own.has I).2;omega
theorem zos {α:Type} (f:α->List Value) (m:Nat) (q: ∀x,(f x).length=m) (l:List α):(l.flatMap f).length=l.length*m:=by
 induction l with
 |nil=>simp
 |cons y l h=>rw[List.flatMap_cons,List.length_append,q,h,List.length_cons,Nat.succ_mul];omega
theorem zot {α:Type} (f:α->List Value) (m:Nat) (q: ∀x,(f x).length=m): ∀(l:List α) (j i:Nat) (x:α),l[j]? =some x->i<m->(l.flatMap f)[j*m+i]? =(f x)[i]?:=by
 intro l
 induction l with
 |nil=>intro j i x h;simp at h
 |cons y l z=>
  intro j i x h w;rw[List.flatMap_cons]
  match j with
  |0=>
   simp only[List.getElem?_cons_zero,Option.some.injEq] at h;subst h;rw[Nat.zero_mul,Nat.zero_add,List.getElem?_append_left (by rw[q];exact w)]
  |j+1=>
   simp only[List.getElem?_cons_succ] at h;rw[List.getElem?_append_right (by rw[q,Nat.succ_mul];omega),q,<-z j i x h w];congr 1;rw[Nat.succ_mul];omega
theorem OwnR.elem {α:Type} {f:α->List Value} {m:Nat} (H: ∀x,(f x).length=m) {w:World} {base:Nat} {e:TypeId} {r:Rw} {l:List α} (h:OwnR w base e m r l.length (l.flatMap f)) {j:Nat} {x:α} (D:l[j]? =some x): ∃g,r.a=some ⟨g,0,none⟩/\∀i,i<m->w.cell? ⟨g,j*m+i,none⟩=(f x)[i]?:=by
 have z:j<l.length:=(List.getElem?_eq_some_iff.1 D).1;rcases h.2 with ⟨_,L⟩|⟨g,I,E,q,_⟩
 ·omega
 ·simp only[Value.slice.injEq] at q;have A:=h;unfold OwnR at A;rw[q.1,q.2.2] at A;refine⟨g,q.1,fun i K=>?_⟩;have J:j*m+i<l.length*m:=by
   have:=Nat.mul_le_mul_right m z;rw[Nat.succ_mul] at this;omega
  rw[World.ownsRow.cellAt A _ J];exact zot f m H l j i x D K
structure OwnMd (w:World) (base:Nat) (S:Sv) (m:Md):Prop where
 rq:OwnR w base 9 1 S.rq m.rq.length (m.rq.map .string)
 im:OwnR w base 95 3 S.im m.im.length (m.im.flatMap imL)
 ep:OwnR w base 97 4 S.ep m.ep.length (m.ep.flatMap epL)
 st:OwnR w base 102 3 S.st m.st.length (m.st.flatMap smL)
 ex:OwnR w base 100 6 S.ex m.ex.length (m.ex.flatMap exL)
theorem OwnMod.md {w:World} {base:Nat} {S:Sv} {q:PS} (h:OwnMod w base S q):OwnMd w base S (ze5 q):=⟨h.rq,h.im,h.ep,h.st,h.ex⟩
theorem OwnMd.later {w z:World} {base:Nat} {S:Sv} {m:Md} (h:OwnMd w base S m) (q:Below w.heap.size w z):OwnMd z base S m:=
 ⟨h.rq.keep fun k g=>q.block k (h.rq.typed g).2.1,h.im.keep fun k g=>q.block k (h.im.typed g).2.1,h.ep.keep fun k g=>q.block k (h.ep.typed g).2.1,h.st.keep fun k g=>q.block k (h.st.typed g).2.1,h.ex.keep fun k g=>q.block k (h.ex.typed g).2.1⟩
theorem OwnMd.alloc {w:World} {base:Nat} {S:Sv} {m:Md} (h:OwnMd w base S m) (o:Obj):OwnMd (w.alloc o) base S m:=h.later ((Below.refl _ _).alloc (Nat.le_refl _) _)
def zl (S:Sv) (m:Md):Value:=.agg #[.slice S.rq.a m.rq.length S.rq.cap,.slice S.im.a m.im.length S.im.cap,.slice S.ep.a m.ep.length S.ep.cap,.slice S.st.a m.st.length S.st.cap,.slice S.ex.a m.ex.length S.ex.cap]
theorem OwnMd.expr {w:World} {base:Nat} {S:Sv} {m:Md} (h:OwnMd w base S m) {i:Nat} (A:i<m.ex.length): ∃g,S.ex.a=some ⟨g,0,none⟩/\g<w.heap.size/\w.cell? ⟨g,i*6,none⟩=some (.int .i64 (m.ex.getD i zh).kind)/\w.cell? ⟨g,i*6+1,none⟩=some (.int .i64 (m.ex.getD i zh).num)/\w.cell? ⟨g,i*6+2,none⟩=some (.string (m.ex.getD i zh).name)/\w.cell? ⟨g,i*6+3,none⟩=some (.string (m.ex.getD i zh).field)/\w.cell? ⟨g,i*6+4,none⟩=some (.int .i64 (m.ex.getD i zh).l)/\w.cell? ⟨g,i*6+5,none⟩=some (.int .i64 (m.ex.getD i zh).r):=by
 obtain⟨g,z,q⟩:=OwnR.elem (f:=exL) (m:=6) (fun _=>rfl) h.ex (List.getElem?_eq_getElem A);rw[zdV A];exact⟨g,z,(h.ex.typed (by rw[Rw.blk,z];rfl)).2.1,q 0 (by omega),q 1 (by omega),q 2 (by omega),q 3 (by omega),q 4 (by omega),q 5 (by omega)⟩
def SameOut (P:Prop) (e:Ending):Prop:=∃b,e= .returned (.bool b)/\(b=true↔P)
theorem zbq {α:Type} {l:List α} {j:Nat} (h:j<l.length): ∃x,l[j]? =some x:=⟨_,List.getElem?_eq_getElem h⟩
theorem zdf {α:Type} {l1 q:List α} {j:Nat} {x:α} (h:l1.take j=q.take j) (w:l1[j]? =some x) (z:q[j]? =some x):l1.take (j+1)=q.take (j+1):=by
 obtain⟨a,rfl⟩:=List.getElem?_eq_some_iff.1 w;obtain⟨b,A⟩:=List.getElem?_eq_some_iff.1 z;rw[List.take_succ_eq_append_getElem a,List.take_succ_eq_append_getElem b,h,A]
theorem zdg {α:Type} {l1 q:List α} (w:l1.length=q.length) (h:l1.take l1.length=q.take l1.length):l1=q:=by
 rw[List.take_length,w,List.take_length] at h;exact h
theorem zfy {a b:BA} (h:(a.toList==b.toList)=true):a=b:=(zdP a b).1 h
def zh1 (x y:BA):Bool:=x.toList==y.toList
theorem zgm {x y:BA}:zh1 x y=true↔x=y:=⟨fun h=>zfy h,fun h=>by rw[h];exact beq_self_eq_true _⟩
theorem zou (E H:Option Addr) (q z I A:Nat) (w:World) (h:(q:Int)≠(z:Int)):Calls prog 173 #[.slice E q I,.slice H z A] w fun e D=>e= .returned (.bool false)/\Below w.heap.size w D:=by
 go_enter func173,ntmps173;go_wp2;go_ret;exact⟨rfl,Below.refl _ _⟩
theorem zov (z A:Option Addr) (D h:Nat) (w:World):Calls prog 173 #[.slice z 0 D,.slice A 0 h] w fun e q=>e= .returned (.bool true)/\Below w.heap.size w q:=by
 go_enter func173,ntmps173;go_wp2;go_loopg [13] 1 (fun k i wr=>k=1/\i= .int .i64 0/\wr=w)
 case atStart=>exact⟨rfl,rfl,rfl⟩
 case round=>
  obtain⟨rfl,rfl,rfl⟩:=hrel;go_wp2;go_ret;exact⟨rfl,Below.refl _ _⟩
theorem zow (b1 b2 Y V:Nat) (N r2:Rw) (l1 z:List BA) (w:World) (I:OwnR w b1 9 1 N l1.length (l1.flatMap (fun x=>[Value.string x]))) (D:OwnR w b2 9 1 r2 z.length (z.flatMap (fun x=>[Value.string x]))) (e1:N.a=some ⟨Y,0,none⟩) (e2:r2.a=some ⟨V,0,none⟩) (hl:l1.length=z.length) (U:l1.length<=4294967296):
  Calls prog 173 #[.slice (some ⟨Y,0,none⟩) l1.length N.cap,.slice (some ⟨V,0,none⟩) l1.length r2.cap] w fun e w'=>SameOut (l1=z) e/\Below w.heap.size w w':=by
 have H1:=zc I;have H2:=zc D;have E1:=zc e1;have E2:=zc e2;have HL:=zc hl;clear I D e1 e2 hl;go_enter func173,ntmps173;go_wp2;go_loopg [13] l1.length (fun k i wr=>∃j:Nat,i= .int .i64 j/\j+k=l1.length/\l1.take j=z.take j/\Below w.heap.size w wr)
 case atStart=>exact⟨0,rfl,by omega,rfl,Below.refl _ _⟩
 case round=>
  obtain⟨j,rfl,hj,ht,U⟩:=hrel;have H:=zc U;have HT:=zc ht;clear U ht;by_cases A:j<l1.length
  ·have K:(j:Int)<(l1.length:Int):=by omega
   obtain⟨x,hx⟩:=zbq A;obtain⟨y,Z⟩:=zbq (show j<z.length by rw[<-HL.o];exact A);obtain⟨X,ga,I⟩:=OwnR.elem (f:=(fun x=>[Value.string x])) (m:=1) (fun _=>rfl) (H1.o.keep fun k g=>H.o.block k (H1.o.typed g).2.1) hx;obtain rfl:X=Y:=by have:=ga.symm.trans E1.o;simpa using this
   obtain⟨X,gb,D⟩:=OwnR.elem (f:=(fun x=>[Value.string x])) (m:=1) (fun _=>rfl) (H2.o.keep fun k g=>H.o.block k (H2.o.typed g).2.1) Z;obtain rfl:X=V:=by have:=gb.symm.trans E2.o;simpa using this
   have C0:=zc (I 0 (by omega));have D0:=zc (D 0 (by omega));have HX:=zc hx;have HY:=zc Z;clear I D ga gb hx Z;obtain⟨L,E⟩: ∃L,L=j+1:=⟨_,rfl⟩;have ej:(j:Int)+1=(L:Int):=by omega
   have HJ:=zc E;clear E;obtain⟨b,h⟩: ∃b,zh1 x y=b:=⟨_,rfl⟩;have aa:(x.toList==y.toList)=b:=h;go_wp2;have k0:=cell_regrown C0.o;have m0:=cell_regrown D0.o;simp only[Nat.add_zero,Nat.mul_one] at k0 m0;refine wp_region_quiet_below (by kernel_rfl) (by kernel_rfl) ?_
   repeat (go_big_quiet_step (fail))
   refine wpQuiet_nil ?_;intro w2 M;obtain⟨⟨dq,O⟩,q⟩:=M;have J:Hid (Below w.heap.size w w2):=by show Below _ _ _;rw[q];exact H.o.trans ((below_regrown wr dq O).mono H.o.size)
   clear q k0 m0 C0 D0;cases b with
   |true=>
    go_wp2;go_roundg (gk-1)
    case rel=>exact⟨L,rfl,by have:=HJ.o;omega,by rw[HJ.o];have e:=zgm.1 h;exact zdf HT.o HX.o (by rw[e];exact HY.o),J.o⟩
    case measure=>omega
   |false=>
    go_wp2;go_ret;exact⟨⟨false,rfl,⟨fun k=>(by cases k),fun k=>(by have e:=HX.o;rw[k,HY.o] at e;cases e;rw[zgm.2 rfl] at h;cases h)⟩⟩,J.o⟩
  ·have K: ¬(j:Int)<(l1.length:Int):=by omega
   obtain rfl:j=l1.length:=by omega
   go_wp2;go_ret;exact⟨⟨true,rfl,⟨fun _=>zdg HL.o HT.o,fun _=>rfl⟩⟩,H.o⟩
theorem zox (I b2:Nat) (D A:Rw) (l1 h:List BA) (w:World) (L:OwnR w I 9 1 D l1.length (l1.flatMap (fun x=>[Value.string x]))) (K:OwnR w b2 9 1 A h.length (h.flatMap (fun x=>[Value.string x]))) (U:l1.length<=4294967296):
  Calls prog 173 #[.slice D.a l1.length D.cap,.slice A.a h.length A.cap] w fun e H=>SameOut (l1=h) e/\Below w.heap.size w H:=by
 by_cases q:l1.length=h.length
 ·rw[<-q];by_cases z:l1.length=0
  ·rw[z];refine (zov _ _ _ _ w).mono ?_;rintro e H ⟨rfl,E⟩;exact⟨⟨true,rfl,⟨fun _=>(by rw[List.eq_nil_of_length_eq_zero z,List.eq_nil_of_length_eq_zero (q.symm.trans z)]),fun _=>rfl⟩⟩,E⟩
  ·rcases L.nil_or with ⟨_,_,e⟩|⟨O,J⟩
   ·exact absurd e z
   ·rcases K.nil_or with ⟨_,_,e⟩|⟨N,M⟩
    ·exact absurd (q.trans e) z
    ·rw[J,M];exact zow I b2 O N D A l1 h w L K J M q U
 ·refine (zou _ _ _ _ _ _ w (by omega)).mono ?_;rintro e H ⟨rfl,E⟩;exact⟨⟨false,rfl,⟨fun k=>(by cases k),fun k=>absurd (by rw[k]) q⟩⟩,E⟩
def zdh (x y:Im):Bool:=x.spec.toList==y.spec.toList&&x.first.toList==y.first.toList&&x.loc.toList==y.loc.toList
theorem zgn {x y:Im}:zdh x y=true↔x=y:=by
 constructor
 ·intro h;unfold zdh at h;simp only[Bool.and_eq_true] at h;obtain⟨⟨z,q⟩,w⟩:=h;cases x;cases y;simp only at z q w;congr 1<;>first|(apply zfy;assumption)|(apply eq_of_beq;assumption)
 ·intro h;rw[h];simp[zdh]
theorem zoy (E H:Option Addr) (q z I A:Nat) (w:World) (h:(q:Int)≠(z:Int)):Calls prog 174 #[.slice E q I,.slice H z A] w fun e D=>e= .returned (.bool false)/\Below w.heap.size w D:=by
 go_enter func174,ntmps174;go_wp2;go_ret;exact⟨rfl,Below.refl _ _⟩
theorem zoz (z A:Option Addr) (D h:Nat) (w:World):Calls prog 174 #[.slice z 0 D,.slice A 0 h] w fun e q=>e= .returned (.bool true)/\Below w.heap.size w q:=by
 go_enter func174,ntmps174;go_wp2;go_loopg [13] 1 (fun k i wr=>k=1/\i= .int .i64 0/\wr=w)
 case atStart=>exact⟨rfl,rfl,rfl⟩
 case round=>
  obtain⟨rfl,rfl,rfl⟩:=hrel;go_wp2;go_ret;exact⟨rfl,Below.refl _ _⟩
theorem zo0 (U: ∀(x y:Im) (W:World),Sem.run prog (binOp .neq 95 (.agg #[.string x.spec,.string x.first,.string x.loc]) (.agg #[.string y.spec,.string y.first,.string y.loc])) W= .ok (.bool (!zdh x y)) W) (N: ∀(K:BinOp) (a b:Operand) (x y:Im) (W:World),Sem.run prog (eqGuard K 95 a b (.agg #[.string x.spec,.string x.first,.string x.loc]) (.agg #[.string y.spec,.string y.first,.string y.loc])) W= .ok () W) (b1 b2 g1 Z:Nat) (V r2:Rw) (l1 D:List Im) (w:World) (A:OwnR w b1 95 3 V l1.length (l1.flatMap imL)) (z:OwnR w b2 95 3 r2 D.length (D.flatMap imL)) (e1:V.a=some ⟨g1,0,none⟩) (e2:r2.a=some ⟨Z,0,none⟩) (hl:l1.length=D.length) (Y:l1.length<=4294967296):
  Calls prog 174 #[.slice (some ⟨g1,0,none⟩) l1.length V.cap,.slice (some ⟨Z,0,none⟩) l1.length r2.cap] w fun e w'=>SameOut (l1=D) e/\Below w.heap.size w w':=by
 have H1:=zc A;have H2:=zc z;have E1:=zc e1;have E2:=zc e2;have HL:=zc hl;clear A z e1 e2 hl;go_enter func174,ntmps174;go_wp2;go_loopg [13] l1.length (fun k i wr=>∃j:Nat,i= .int .i64 j/\j+k=l1.length/\l1.take j=D.take j/\Below w.heap.size w wr)
 case atStart=>exact⟨0,rfl,by omega,rfl,Below.refl _ _⟩
 case round=>
  obtain⟨j,rfl,hj,ht,Y⟩:=hrel;have I:=zc Y;have HT:=zc ht;clear Y ht;by_cases E:j<l1.length
  ·have L:(j:Int)<(l1.length:Int):=by omega
   obtain⟨x,hx⟩:=zbq E;obtain⟨y,hy⟩:=zbq (show j<D.length by rw[<-HL.o];exact E);obtain⟨g',ga,A⟩:=OwnR.elem (f:=imL) (m:=3) (fun _=>rfl) (H1.o.keep fun k g=>I.o.block k (H1.o.typed g).2.1) hx;obtain rfl:g'=g1:=by have:=ga.symm.trans E1.o;simpa using this
   obtain⟨g',gb,z⟩:=OwnR.elem (f:=imL) (m:=3) (fun _=>rfl) (H2.o.keep fun k g=>I.o.block k (H2.o.typed g).2.1) hy;obtain rfl:g'=Z:=by have:=gb.symm.trans E2.o;simpa using this
   have C0:=zc (A 0 (by omega));have D0:=zc (z 0 (by omega));have C1:=zc (A 1 (by omega));have D1:=zc (z 1 (by omega));have C2:=zc (A 2 (by omega));have D2:=zc (z 2 (by omega));have HX:=zc hx;have HY:=zc hy;clear A z ga gb hx hy;obtain⟨M,H⟩: ∃M,M=j+1:=⟨_,rfl⟩;have ej:(j:Int)+1=(M:Int):=by omega
   have HJ:=zc H;clear H;obtain⟨b,h⟩: ∃b,zdh x y=b:=⟨_,rfl⟩;have aa: ∀W:World,Sem.run prog (binOp .neq 95 (.agg #[.string x.spec,.string x.first,.string x.loc]) (.agg #[.string y.spec,.string y.first,.string y.loc])) W= .ok (.bool !b) W:=fun W=>by rw[U,h]
   have ab: ∀(K:BinOp) (a b:Operand) (W:World),Sem.run prog (eqGuard K 95 a b (.agg #[.string x.spec,.string x.first,.string x.loc]) (.agg #[.string y.spec,.string y.first,.string y.loc])) W= .ok () W:=fun K a b W=>N K a b x y W;go_wp2;have k0:=cell_regrown C0.o;have m0:=cell_regrown D0.o;have k1:=cell_regrown C1.o;have m1:=cell_regrown D1.o;have k2:=cell_regrown C2.o;have m2:=cell_regrown D2.o;simp only[Nat.add_zero] at k0 m0;refine wp_region_quiet_below (by kernel_rfl) (by kernel_rfl) ?_
   repeat (go_big_quiet_step (fail))
   refine wpQuiet_nil ?_;intro w2 O;obtain⟨⟨dq,X⟩,q⟩:=O;have J:Hid (Below w.heap.size w w2):=by show Below _ _ _;rw[q];exact I.o.trans ((below_regrown wr dq X).mono I.o.size)
   clear q k0 m0 C0 D0 k1 m1 C1 D1 k2 m2 C2 D2;cases b with
   |true=>
    go_wp2;go_roundg (gk-1)
    case rel=>exact⟨M,rfl,by have:=HJ.o;omega,by rw[HJ.o];have e:=zgn.1 h;exact zdf HT.o HX.o (by rw[e];exact HY.o),J.o⟩
    case measure=>omega
   |false=>
    go_wp2;go_ret;exact⟨⟨false,rfl,⟨fun k=>(by cases k),fun k=>(by have e:=HX.o;rw[k,HY.o] at e;cases e;rw[zgn.2 rfl] at h;cases h)⟩⟩,J.o⟩
  ·have L: ¬(j:Int)<(l1.length:Int):=by omega
   obtain rfl:j=l1.length:=by omega
   go_wp2;go_ret;exact⟨⟨true,rfl,⟨fun _=>zdg HL.o HT.o,fun _=>rfl⟩⟩,I.o⟩
theorem zo1 (I: ∀(x y:Im) (W:World),Sem.run prog (binOp .neq 95 (.agg #[.string x.spec,.string x.first,.string x.loc]) (.agg #[.string y.spec,.string y.first,.string y.loc])) W= .ok (.bool (!zdh x y)) W) (H: ∀(V:BinOp) (a b:Operand) (x y:Im) (W:World),Sem.run prog (eqGuard V 95 a b (.agg #[.string x.spec,.string x.first,.string x.loc]) (.agg #[.string y.spec,.string y.first,.string y.loc])) W= .ok () W) (K b2:Nat) (D A:Rw) (l1 h:List Im) (w:World) (N:OwnR w K 95 3 D l1.length (l1.flatMap imL)) (M:OwnR w b2 95 3 A h.length (h.flatMap imL)) (Y:l1.length<=4294967296):
  Calls prog 174 #[.slice D.a l1.length D.cap,.slice A.a h.length A.cap] w fun e J=>SameOut (l1=h) e/\Below w.heap.size w J:=by
 by_cases q:l1.length=h.length
 ·rw[<-q];by_cases z:l1.length=0
  ·rw[z];refine (zoz _ _ _ _ w).mono ?_;rintro e J ⟨rfl,E⟩;exact⟨⟨true,rfl,⟨fun _=>(by rw[List.eq_nil_of_length_eq_zero z,List.eq_nil_of_length_eq_zero (q.symm.trans z)]),fun _=>rfl⟩⟩,E⟩
  ·rcases N.nil_or with ⟨_,_,e⟩|⟨X,L⟩
   ·exact absurd e z
   ·rcases M.nil_or with ⟨_,_,e⟩|⟨U,O⟩
    ·exact absurd (q.trans e) z
    ·rw[L,O];exact zo0 I H K b2 X U D A l1 h w N M L O q Y
 ·refine (zoy _ _ _ _ _ _ w (by omega)).mono ?_;rintro e J ⟨rfl,E⟩;exact⟨⟨false,rfl,⟨fun k=>(by cases k),fun k=>absurd (by rw[k]) q⟩⟩,E⟩
def zdi (x y:Ep):Bool:=x.kind==y.kind&&x.name.toList==y.name.toList&&x.loc.toList==y.loc.toList&&x.spec.toList==y.spec.toList
theorem zgo {x y:Ep}:zdi x y=true↔x=y:=by
 constructor
 ·intro h;unfold zdi at h;simp only[Bool.and_eq_true] at h;obtain⟨⟨⟨z,q⟩,w⟩,A⟩:=h;cases x;cases y;simp only at z q w A;congr 1<;>first|(apply zfy;assumption)|(apply eq_of_beq;assumption)
 ·intro h;rw[h];simp[zdi]
theorem zo2 (E H:Option Addr) (q z I A:Nat) (w:World) (h:(q:Int)≠(z:Int)):Calls prog 175 #[.slice E q I,.slice H z A] w fun e D=>e= .returned (.bool false)/\Below w.heap.size w D:=by
 go_enter func175,ntmps175;go_wp2;go_ret;exact⟨rfl,Below.refl _ _⟩
theorem zo3 (z A:Option Addr) (D h:Nat) (w:World):Calls prog 175 #[.slice z 0 D,.slice A 0 h] w fun e q=>e= .returned (.bool true)/\Below w.heap.size w q:=by
 go_enter func175,ntmps175;go_wp2;go_loopg [13] 1 (fun k i wr=>k=1/\i= .int .i64 0/\wr=w)
 case atStart=>exact⟨rfl,rfl,rfl⟩
 case round=>
  obtain⟨rfl,rfl,rfl⟩:=hrel;go_wp2;go_ret;exact⟨rfl,Below.refl _ _⟩
theorem zo4 (U: ∀(x y:Ep) (W:World),Sem.run prog (binOp .neq 97 (.agg #[.int .i64 x.kind,.string x.name,.string x.loc,.string x.spec]) (.agg #[.int .i64 y.kind,.string y.name,.string y.loc,.string y.spec])) W= .ok (.bool (!zdi x y)) W) (N: ∀(K:BinOp) (a b:Operand) (x y:Ep) (W:World),Sem.run prog (eqGuard K 97 a b (.agg #[.int .i64 x.kind,.string x.name,.string x.loc,.string x.spec]) (.agg #[.int .i64 y.kind,.string y.name,.string y.loc,.string y.spec])) W= .ok () W) (b1 b2 g1 Z:Nat) (V r2:Rw) (l1 D:List Ep) (w:World) (z:OwnR w b1 97 4 V l1.length (l1.flatMap epL)) (q:OwnR w b2 97 4 r2 D.length (D.flatMap epL)) (e1:V.a=some ⟨g1,0,none⟩) (e2:r2.a=some ⟨Z,0,none⟩) (hl:l1.length=D.length) (Y:l1.length<=4294967296):
  Calls prog 175 #[.slice (some ⟨g1,0,none⟩) l1.length V.cap,.slice (some ⟨Z,0,none⟩) l1.length r2.cap] w fun e w'=>SameOut (l1=D) e/\Below w.heap.size w w':=by
 have H1:=zc z;have H2:=zc q;have E1:=zc e1;have E2:=zc e2;have HL:=zc hl;clear z q e1 e2 hl;go_enter func175,ntmps175;go_wp2;go_loopg [13] l1.length (fun k i wr=>∃j:Nat,i= .int .i64 j/\j+k=l1.length/\l1.take j=D.take j/\Below w.heap.size w wr)
 case atStart=>exact⟨0,rfl,by omega,rfl,Below.refl _ _⟩
 case round=>
  obtain⟨j,rfl,hj,ht,Y⟩:=hrel;have I:=zc Y;have HT:=zc ht;clear Y ht;by_cases E:j<l1.length
  ·have L:(j:Int)<(l1.length:Int):=by omega
   obtain⟨x,hx⟩:=zbq E;obtain⟨y,hy⟩:=zbq (show j<D.length by rw[<-HL.o];exact E);obtain⟨g',ga,z⟩:=OwnR.elem (f:=epL) (m:=4) (fun _=>rfl) (H1.o.keep fun k g=>I.o.block k (H1.o.typed g).2.1) hx;obtain rfl:g'=g1:=by have:=ga.symm.trans E1.o;simpa using this
   obtain⟨g',gb,q⟩:=OwnR.elem (f:=epL) (m:=4) (fun _=>rfl) (H2.o.keep fun k g=>I.o.block k (H2.o.typed g).2.1) hy;obtain rfl:g'=Z:=by have:=gb.symm.trans E2.o;simpa using this
   have C0:=zc (z 0 (by omega));have D0:=zc (q 0 (by omega));have C1:=zc (z 1 (by omega));have D1:=zc (q 1 (by omega));have C2:=zc (z 2 (by omega));have D2:=zc (q 2 (by omega));have C3:=zc (z 3 (by omega));have D3:=zc (q 3 (by omega));have HX:=zc hx;have HY:=zc hy;clear z q ga gb hx hy;obtain⟨M,H⟩: ∃M,M=j+1:=⟨_,rfl⟩;have ej:(j:Int)+1=(M:Int):=by omega
   have HJ:=zc H;clear H;obtain⟨b,h⟩: ∃b,zdi x y=b:=⟨_,rfl⟩;have aa: ∀W:World,Sem.run prog (binOp .neq 97 (.agg #[.int .i64 x.kind,.string x.name,.string x.loc,.string x.spec]) (.agg #[.int .i64 y.kind,.string y.name,.string y.loc,.string y.spec])) W= .ok (.bool !b) W:=fun W=>by rw[U,h]
   have ab: ∀(K:BinOp) (a b:Operand) (W:World),Sem.run prog (eqGuard K 97 a b (.agg #[.int .i64 x.kind,.string x.name,.string x.loc,.string x.spec]) (.agg #[.int .i64 y.kind,.string y.name,.string y.loc,.string y.spec])) W= .ok () W:=fun K a b W=>N K a b x y W;go_wp2;have k0:=cell_regrown C0.o;have m0:=cell_regrown D0.o;have k1:=cell_regrown C1.o;have m1:=cell_regrown D1.o;have k2:=cell_regrown C2.o;have m2:=cell_regrown D2.o;have k3:=cell_regrown C3.o;have m3:=cell_regrown D3.o;simp only[Nat.add_zero] at k0 m0;refine wp_region_quiet_below (by kernel_rfl) (by kernel_rfl) ?_
   repeat (go_big_quiet_step (fail))
   refine wpQuiet_nil ?_;intro w2 O;obtain⟨⟨dq,X⟩,A⟩:=O;have J:Hid (Below w.heap.size w w2):=by show Below _ _ _;rw[A];exact I.o.trans ((below_regrown wr dq X).mono I.o.size)
   clear A k0 m0 C0 D0 k1 m1 C1 D1 k2 m2 C2 D2 k3 m3 C3 D3;cases b with
   |true=>
    go_wp2;go_roundg (gk-1)
    case rel=>exact⟨M,rfl,by have:=HJ.o;omega,by rw[HJ.o];have e:=zgo.1 h;exact zdf HT.o HX.o (by rw[e];exact HY.o),J.o⟩
    case measure=>omega
   |false=>
    go_wp2;go_ret;exact⟨⟨false,rfl,⟨fun k=>(by cases k),fun k=>(by have e:=HX.o;rw[k,HY.o] at e;cases e;rw[zgo.2 rfl] at h;cases h)⟩⟩,J.o⟩
  ·have L: ¬(j:Int)<(l1.length:Int):=by omega
   obtain rfl:j=l1.length:=by omega
   go_wp2;go_ret;exact⟨⟨true,rfl,⟨fun _=>zdg HL.o HT.o,fun _=>rfl⟩⟩,I.o⟩
theorem zo5 (I: ∀(x y:Ep) (W:World),Sem.run prog (binOp .neq 97 (.agg #[.int .i64 x.kind,.string x.name,.string x.loc,.string x.spec]) (.agg #[.int .i64 y.kind,.string y.name,.string y.loc,.string y.spec])) W= .ok (.bool (!zdi x y)) W) (H: ∀(V:BinOp) (a b:Operand) (x y:Ep) (W:World),Sem.run prog (eqGuard V 97 a b (.agg #[.int .i64 x.kind,.string x.name,.string x.loc,.string x.spec]) (.agg #[.int .i64 y.kind,.string y.name,.string y.loc,.string y.spec])) W= .ok () W) (K b2:Nat) (D A:Rw) (l1 h:List Ep) (w:World) (N:OwnR w K 97 4 D l1.length (l1.flatMap epL)) (M:OwnR w b2 97 4 A h.length (h.flatMap epL)) (Y:l1.length<=4294967296):
  Calls prog 175 #[.slice D.a l1.length D.cap,.slice A.a h.length A.cap] w fun e J=>SameOut (l1=h) e/\Below w.heap.size w J:=by
 by_cases q:l1.length=h.length
 ·rw[<-q];by_cases z:l1.length=0
  ·rw[z];refine (zo3 _ _ _ _ w).mono ?_;rintro e J ⟨rfl,E⟩;exact⟨⟨true,rfl,⟨fun _=>(by rw[List.eq_nil_of_length_eq_zero z,List.eq_nil_of_length_eq_zero (q.symm.trans z)]),fun _=>rfl⟩⟩,E⟩
  ·rcases N.nil_or with ⟨_,_,e⟩|⟨X,L⟩
   ·exact absurd e z
   ·rcases M.nil_or with ⟨_,_,e⟩|⟨U,O⟩
    ·exact absurd (q.trans e) z
    ·rw[L,O];exact zo4 I H K b2 X U D A l1 h w N M L O q Y
 ·refine (zo2 _ _ _ _ _ _ w (by omega)).mono ?_;rintro e J ⟨rfl,E⟩;exact⟨⟨false,rfl,⟨fun k=>(by cases k),fun k=>absurd (by rw[k]) q⟩⟩,E⟩
def zdj (x y:Sm):Bool:=x.kind==y.kind&&x.name.toList==y.name.toList&&x.expr==y.expr
theorem zgp {x y:Sm}:zdj x y=true↔x=y:=by
 constructor
 ·intro h;unfold zdj at h;simp only[Bool.and_eq_true] at h;obtain⟨⟨z,q⟩,w⟩:=h;cases x;cases y;simp only at z q w;congr 1<;>first|(apply zfy;assumption)|(apply eq_of_beq;assumption)
 ·intro h;rw[h];simp[zdj]
theorem zo6 (E H:Option Addr) (q z I A:Nat) (w:World) (h:(q:Int)≠(z:Int)):Calls prog 176 #[.slice E q I,.slice H z A] w fun e D=>e= .returned (.bool false)/\Below w.heap.size w D:=by
 go_enter func176,ntmps176;go_wp2;go_ret;exact⟨rfl,Below.refl _ _⟩
theorem zo7 (z A:Option Addr) (D h:Nat) (w:World):Calls prog 176 #[.slice z 0 D,.slice A 0 h] w fun e q=>e= .returned (.bool true)/\Below w.heap.size w q:=by
 go_enter func176,ntmps176;go_wp2;go_loopg [13] 1 (fun k i wr=>k=1/\i= .int .i64 0/\wr=w)
 case atStart=>exact⟨rfl,rfl,rfl⟩
 case round=>
  obtain⟨rfl,rfl,rfl⟩:=hrel;go_wp2;go_ret;exact⟨rfl,Below.refl _ _⟩
theorem zo8 (U: ∀(x y:Sm) (W:World),Sem.run prog (binOp .neq 102 (.agg #[.int .i64 x.kind,.string x.name,.int .i64 x.expr]) (.agg #[.int .i64 y.kind,.string y.name,.int .i64 y.expr])) W= .ok (.bool (!zdj x y)) W) (N: ∀(K:BinOp) (a b:Operand) (x y:Sm) (W:World),Sem.run prog (eqGuard K 102 a b (.agg #[.int .i64 x.kind,.string x.name,.int .i64 x.expr]) (.agg #[.int .i64 y.kind,.string y.name,.int .i64 y.expr])) W= .ok () W) (b1 b2 g1 Z:Nat) (V r2:Rw) (l1 D:List Sm) (w:World) (A:OwnR w b1 102 3 V l1.length (l1.flatMap smL)) (z:OwnR w b2 102 3 r2 D.length (D.flatMap smL)) (e1:V.a=some ⟨g1,0,none⟩) (e2:r2.a=some ⟨Z,0,none⟩) (hl:l1.length=D.length) (Y:l1.length<=4294967296):
  Calls prog 176 #[.slice (some ⟨g1,0,none⟩) l1.length V.cap,.slice (some ⟨Z,0,none⟩) l1.length r2.cap] w fun e w'=>SameOut (l1=D) e/\Below w.heap.size w w':=by
 have H1:=zc A;have H2:=zc z;have E1:=zc e1;have E2:=zc e2;have HL:=zc hl;clear A z e1 e2 hl;go_enter func176,ntmps176;go_wp2;go_loopg [13] l1.length (fun k i wr=>∃j:Nat,i= .int .i64 j/\j+k=l1.length/\l1.take j=D.take j/\Below w.heap.size w wr)
 case atStart=>exact⟨0,rfl,by omega,rfl,Below.refl _ _⟩
 case round=>
  obtain⟨j,rfl,hj,ht,Y⟩:=hrel;have I:=zc Y;have HT:=zc ht;clear Y ht;by_cases E:j<l1.length
  ·have L:(j:Int)<(l1.length:Int):=by omega
   obtain⟨x,hx⟩:=zbq E;obtain⟨y,hy⟩:=zbq (show j<D.length by rw[<-HL.o];exact E);obtain⟨g',ga,A⟩:=OwnR.elem (f:=smL) (m:=3) (fun _=>rfl) (H1.o.keep fun k g=>I.o.block k (H1.o.typed g).2.1) hx;obtain rfl:g'=g1:=by have:=ga.symm.trans E1.o;simpa using this
   obtain⟨g',gb,z⟩:=OwnR.elem (f:=smL) (m:=3) (fun _=>rfl) (H2.o.keep fun k g=>I.o.block k (H2.o.typed g).2.1) hy;obtain rfl:g'=Z:=by have:=gb.symm.trans E2.o;simpa using this
   have C0:=zc (A 0 (by omega));have D0:=zc (z 0 (by omega));have C1:=zc (A 1 (by omega));have D1:=zc (z 1 (by omega));have C2:=zc (A 2 (by omega));have D2:=zc (z 2 (by omega));have HX:=zc hx;have HY:=zc hy;clear A z ga gb hx hy;obtain⟨M,H⟩: ∃M,M=j+1:=⟨_,rfl⟩;have ej:(j:Int)+1=(M:Int):=by omega
   have HJ:=zc H;clear H;obtain⟨b,h⟩: ∃b,zdj x y=b:=⟨_,rfl⟩;have aa: ∀W:World,Sem.run prog (binOp .neq 102 (.agg #[.int .i64 x.kind,.string x.name,.int .i64 x.expr]) (.agg #[.int .i64 y.kind,.string y.name,.int .i64 y.expr])) W= .ok (.bool !b) W:=fun W=>by rw[U,h]
   have ab: ∀(K:BinOp) (a b:Operand) (W:World),Sem.run prog (eqGuard K 102 a b (.agg #[.int .i64 x.kind,.string x.name,.int .i64 x.expr]) (.agg #[.int .i64 y.kind,.string y.name,.int .i64 y.expr])) W= .ok () W:=fun K a b W=>N K a b x y W;go_wp2;have k0:=cell_regrown C0.o;have m0:=cell_regrown D0.o;have k1:=cell_regrown C1.o;have m1:=cell_regrown D1.o;have k2:=cell_regrown C2.o;have m2:=cell_regrown D2.o;simp only[Nat.add_zero] at k0 m0;refine wp_region_quiet_below (by kernel_rfl) (by kernel_rfl) ?_
   repeat (go_big_quiet_step (fail))
   refine wpQuiet_nil ?_;intro w2 O;obtain⟨⟨dq,X⟩,q⟩:=O;have J:Hid (Below w.heap.size w w2):=by show Below _ _ _;rw[q];exact I.o.trans ((below_regrown wr dq X).mono I.o.size)
   clear q k0 m0 C0 D0 k1 m1 C1 D1 k2 m2 C2 D2;cases b with
   |true=>
    go_wp2;go_roundg (gk-1)
    case rel=>exact⟨M,rfl,by have:=HJ.o;omega,by rw[HJ.o];have e:=zgp.1 h;exact zdf HT.o HX.o (by rw[e];exact HY.o),J.o⟩
    case measure=>omega
   |false=>
    go_wp2;go_ret;exact⟨⟨false,rfl,⟨fun k=>(by cases k),fun k=>(by have e:=HX.o;rw[k,HY.o] at e;cases e;rw[zgp.2 rfl] at h;cases h)⟩⟩,J.o⟩
  ·have L: ¬(j:Int)<(l1.length:Int):=by omega
   obtain rfl:j=l1.length:=by omega
   go_wp2;go_ret;exact⟨⟨true,rfl,⟨fun _=>zdg HL.o HT.o,fun _=>rfl⟩⟩,I.o⟩
theorem zo9 (I: ∀(x y:Sm) (W:World),Sem.run prog (binOp .neq 102 (.agg #[.int .i64 x.kind,.string x.name,.int .i64 x.expr]) (.agg #[.int .i64 y.kind,.string y.name,.int .i64 y.expr])) W= .ok (.bool (!zdj x y)) W) (H: ∀(V:BinOp) (a b:Operand) (x y:Sm) (W:World),Sem.run prog (eqGuard V 102 a b (.agg #[.int .i64 x.kind,.string x.name,.int .i64 x.expr]) (.agg #[.int .i64 y.kind,.string y.name,.int .i64 y.expr])) W= .ok () W) (K b2:Nat) (D A:Rw) (l1 h:List Sm) (w:World) (N:OwnR w K 102 3 D l1.length (l1.flatMap smL)) (M:OwnR w b2 102 3 A h.length (h.flatMap smL)) (Y:l1.length<=4294967296):
  Calls prog 176 #[.slice D.a l1.length D.cap,.slice A.a h.length A.cap] w fun e J=>SameOut (l1=h) e/\Below w.heap.size w J:=by
 by_cases q:l1.length=h.length
 ·rw[<-q];by_cases z:l1.length=0
  ·rw[z];refine (zo7 _ _ _ _ w).mono ?_;rintro e J ⟨rfl,E⟩;exact⟨⟨true,rfl,⟨fun _=>(by rw[List.eq_nil_of_length_eq_zero z,List.eq_nil_of_length_eq_zero (q.symm.trans z)]),fun _=>rfl⟩⟩,E⟩
  ·rcases N.nil_or with ⟨_,_,e⟩|⟨X,L⟩
   ·exact absurd e z
   ·rcases M.nil_or with ⟨_,_,e⟩|⟨U,O⟩
    ·exact absurd (q.trans e) z
    ·rw[L,O];exact zo8 I H K b2 X U D A l1 h w N M L O q Y
 ·refine (zo6 _ _ _ _ _ _ w (by omega)).mono ?_;rintro e J ⟨rfl,E⟩;exact⟨⟨false,rfl,⟨fun k=>(by cases k),fun k=>absurd (by rw[k]) q⟩⟩,E⟩
def zdk (x y:Ex):Bool:=x.kind==y.kind&&x.num==y.num&&x.name.toList==y.name.toList&&x.field.toList==y.field.toList&&x.l==y.l&&x.r==y.r
theorem zgq {x y:Ex}:zdk x y=true↔x=y:=by
 constructor
 ·intro h;unfold zdk at h;simp only[Bool.and_eq_true] at h;obtain⟨⟨⟨⟨⟨D,z⟩,q⟩,E⟩,w⟩,A⟩:=h;cases x;cases y;simp only at D z q E w A;congr 1<;>first|(apply zfy;assumption)|(apply eq_of_beq;assumption)
 ·intro h;rw[h];simp[zdk]
theorem zoA (E H:Option Addr) (q z I A:Nat) (w:World) (h:(q:Int)≠(z:Int)):Calls prog 177 #[.slice E q I,.slice H z A] w fun e D=>e= .returned (.bool false)/\Below w.heap.size w D:=by
 go_enter func177,ntmps177;go_wp2;go_ret;exact⟨rfl,Below.refl _ _⟩
theorem zoB (z A:Option Addr) (D h:Nat) (w:World):Calls prog 177 #[.slice z 0 D,.slice A 0 h] w fun e q=>e= .returned (.bool true)/\Below w.heap.size w q:=by
 go_enter func177,ntmps177;go_wp2;go_loopg [13] 1 (fun k i wr=>k=1/\i= .int .i64 0/\wr=w)
 case atStart=>exact⟨rfl,rfl,rfl⟩
 case round=>
  obtain⟨rfl,rfl,rfl⟩:=hrel;go_wp2;go_ret;exact⟨rfl,Below.refl _ _⟩
theorem zoC (U: ∀(x y:Ex) (W:World),Sem.run prog (binOp .neq 100 (.agg #[.int .i64 x.kind,.int .i64 x.num,.string x.name,.string x.field,.int .i64 x.l,.int .i64 x.r]) (.agg #[.int .i64 y.kind,.int .i64 y.num,.string y.name,.string y.field,.int .i64 y.l,.int .i64 y.r])) W= .ok (.bool (!zdk x y)) W) (N: ∀(K:BinOp) (a b:Operand) (x y:Ex) (W:World),Sem.run prog (eqGuard K 100 a b (.agg #[.int .i64 x.kind,.int .i64 x.num,.string x.name,.string x.field,.int .i64 x.l,.int .i64 x.r]) (.agg #[.int .i64 y.kind,.int .i64 y.num,.string y.name,.string y.field,.int .i64 y.l,.int .i64 y.r])) W= .ok () W) (b1 b2 g1 Z:Nat) (V r2:Rw) (l1 D:List Ex) (w:World) (q:OwnR w b1 100 6 V l1.length (l1.flatMap exL)) (h:OwnR w b2 100 6 r2 D.length (D.flatMap exL)) (e1:V.a=some ⟨g1,0,none⟩) (e2:r2.a=some ⟨Z,0,none⟩) (hl:l1.length=D.length) (Y:l1.length<=4294967296):
  Calls prog 177 #[.slice (some ⟨g1,0,none⟩) l1.length V.cap,.slice (some ⟨Z,0,none⟩) l1.length r2.cap] w fun e w'=>SameOut (l1=D) e/\Below w.heap.size w w':=by
 have H1:=zc q;have H2:=zc h;have E1:=zc e1;have E2:=zc e2;have HL:=zc hl;clear q h e1 e2 hl;go_enter func177,ntmps177;go_wp2;go_loopg [13] l1.length (fun k i wr=>∃j:Nat,i= .int .i64 j/\j+k=l1.length/\l1.take j=D.take j/\Below w.heap.size w wr)
 case atStart=>exact⟨0,rfl,by omega,rfl,Below.refl _ _⟩
 case round=>
  obtain⟨j,rfl,hj,ht,Y⟩:=hrel;have I:=zc Y;have HT:=zc ht;clear Y ht;by_cases E:j<l1.length
  ·have L:(j:Int)<(l1.length:Int):=by omega
   obtain⟨x,hx⟩:=zbq E;obtain⟨y,hy⟩:=zbq (show j<D.length by rw[<-HL.o];exact E);obtain⟨g',ga,q⟩:=OwnR.elem (f:=exL) (m:=6) (fun _=>rfl) (H1.o.keep fun k g=>I.o.block k (H1.o.typed g).2.1) hx;obtain rfl:g'=g1:=by have:=ga.symm.trans E1.o;simpa using this
   obtain⟨g',gb,h⟩:=OwnR.elem (f:=exL) (m:=6) (fun _=>rfl) (H2.o.keep fun k g=>I.o.block k (H2.o.typed g).2.1) hy;obtain rfl:g'=Z:=by have:=gb.symm.trans E2.o;simpa using this
   have C0:=zc (q 0 (by omega));have D0:=zc (h 0 (by omega));have C1:=zc (q 1 (by omega));have D1:=zc (h 1 (by omega));have C2:=zc (q 2 (by omega));have D2:=zc (h 2 (by omega));have C3:=zc (q 3 (by omega));have D3:=zc (h 3 (by omega));have C4:=zc (q 4 (by omega));have D4:=zc (h 4 (by omega));have C5:=zc (q 5 (by omega));have D5:=zc (h 5 (by omega));have HX:=zc hx;have HY:=zc hy;clear q h ga gb hx hy;obtain⟨M,H⟩: ∃M,M=j+1:=⟨_,rfl⟩;have ej:(j:Int)+1=(M:Int):=by omega
   have HJ:=zc H;clear H;obtain⟨b,z⟩: ∃b,zdk x y=b:=⟨_,rfl⟩;have aa: ∀W:World,Sem.run prog (binOp .neq 100 (.agg #[.int .i64 x.kind,.int .i64 x.num,.string x.name,.string x.field,.int .i64 x.l,.int .i64 x.r]) (.agg #[.int .i64 y.kind,.int .i64 y.num,.string y.name,.string y.field,.int .i64 y.l,.int .i64 y.r])) W= .ok (.bool !b) W:=fun W=>by rw[U,z]
   have ab: ∀(K:BinOp) (a b:Operand) (W:World),Sem.run prog (eqGuard K 100 a b (.agg #[.int .i64 x.kind,.int .i64 x.num,.string x.name,.string x.field,.int .i64 x.l,.int .i64 x.r]) (.agg #[.int .i64 y.kind,.int .i64 y.num,.string y.name,.string y.field,.int .i64 y.l,.int .i64 y.r])) W= .ok () W:=fun K a b W=>N K a b x y W;go_wp2;have k0:=cell_regrown C0.o;have m0:=cell_regrown D0.o;have k1:=cell_regrown C1.o;have m1:=cell_regrown D1.o;have k2:=cell_regrown C2.o;have m2:=cell_regrown D2.o;have k3:=cell_regrown C3.o;have m3:=cell_regrown D3.o;have k4:=cell_regrown C4.o;have m4:=cell_regrown D4.o;have k5:=cell_regrown C5.o;have m5:=cell_regrown D5.o;simp only[Nat.add_zero] at k0 m0;refine wp_region_quiet_below (by kernel_rfl) (by kernel_rfl) ?_
   repeat (go_big_quiet_step (fail))
   refine wpQuiet_nil ?_;intro w2 O;obtain⟨⟨dq,X⟩,A⟩:=O;have J:Hid (Below w.heap.size w w2):=by show Below _ _ _;rw[A];exact I.o.trans ((below_regrown wr dq X).mono I.o.size)
   clear A k0 m0 C0 D0 k1 m1 C1 D1 k2 m2 C2 D2 k3 m3 C3 D3 k4 m4 C4 D4 k5 m5 C5 D5;cases b with
   |true=>
    go_wp2;go_roundg (gk-1)
    case rel=>exact⟨M,rfl,by have:=HJ.o;omega,by rw[HJ.o];have e:=zgq.1 z;exact zdf HT.o HX.o (by rw[e];exact HY.o),J.o⟩
    case measure=>omega
   |false=>
    go_wp2;go_ret;exact⟨⟨false,rfl,⟨fun k=>(by cases k),fun k=>(by have e:=HX.o;rw[k,HY.o] at e;cases e;rw[zgq.2 rfl] at z;cases z)⟩⟩,J.o⟩
  ·have L: ¬(j:Int)<(l1.length:Int):=by omega
   obtain rfl:j=l1.length:=by omega
   go_wp2;go_ret;exact⟨⟨true,rfl,⟨fun _=>zdg HL.o HT.o,fun _=>rfl⟩⟩,I.o⟩
theorem zoD (I: ∀(x y:Ex) (W:World),Sem.run prog (binOp .neq 100 (.agg #[.int .i64 x.kind,.int .i64 x.num,.string x.name,.string x.field,.int .i64 x.l,.int .i64 x.r]) (.agg #[.int .i64 y.kind,.int .i64 y.num,.string y.name,.string y.field,.int .i64 y.l,.int .i64 y.r])) W= .ok (.bool (!zdk x y)) W) (H: ∀(V:BinOp) (a b:Operand) (x y:Ex) (W:World),Sem.run prog (eqGuard V 100 a b (.agg #[.int .i64 x.kind,.int .i64 x.num,.string x.name,.string x.field,.int .i64 x.l,.int .i64 x.r]) (.agg #[.int .i64 y.kind,.int .i64 y.num,.string y.name,.string y.field,.int .i64 y.l,.int .i64 y.r])) W= .ok () W) (K b2:Nat) (D A:Rw) (l1 h:List Ex) (w:World) (N:OwnR w K 100 6 D l1.length (l1.flatMap exL)) (M:OwnR w b2 100 6 A h.length (h.flatMap exL)) (Y:l1.length<=4294967296):
  Calls prog 177 #[.slice D.a l1.length D.cap,.slice A.a h.length A.cap] w fun e J=>SameOut (l1=h) e/\Below w.heap.size w J:=by
 by_cases q:l1.length=h.length
 ·rw[<-q];by_cases z:l1.length=0
  ·rw[z];refine (zoB _ _ _ _ w).mono ?_;rintro e J ⟨rfl,E⟩;exact⟨⟨true,rfl,⟨fun _=>(by rw[List.eq_nil_of_length_eq_zero z,List.eq_nil_of_length_eq_zero (q.symm.trans z)]),fun _=>rfl⟩⟩,E⟩
  ·rcases N.nil_or with ⟨_,_,e⟩|⟨X,L⟩
   ·exact absurd e z
   ·rcases M.nil_or with ⟨_,_,e⟩|⟨U,O⟩
    ·exact absurd (q.trans e) z
    ·rw[L,O];exact zoC I H K b2 X U D A l1 h w N M L O q Y
 ·refine (zoA _ _ _ _ _ _ w (by omega)).mono ?_;rintro e J ⟨rfl,E⟩;exact⟨⟨false,rfl,⟨fun k=>(by cases k),fun k=>absurd (by rw[k]) q⟩⟩,E⟩
end Go.Proofs.YtgcbmogmniahjaaGreat
