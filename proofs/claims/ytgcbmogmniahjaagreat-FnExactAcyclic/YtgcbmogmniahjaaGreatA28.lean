/- Facts and walks that the theorem stands on. -/
import Derived.Test.YtgcbmogmniahjaaGreatA27
import Derived.OwnWalk
import Derived.Deep.CutBlock
import Derived.Lib.Builder
import Derived.Lib.AppendStr
import Derived.Laws.Externs
namespace Go.Proofs.YtgcbmogmniahjaaGreat
open Go.Proofs.Tryz
set_option maxRecDepth 100000
set_option maxHeartbeats 2000000
open Go.RowKit Go.PlainAid Go.Sort
theorem zl3 {w:World} {b c i:Nat} {u:Value} (h:b≠c):(w.setCell ⟨c,i,none⟩ u).heap[b]? =w.heap[b]?:=Below.heap_setCell w ⟨c,i,none⟩ u b h
theorem Tryz.sizeBld:(prog.info? 175).map (·.size)=some 2:=by kernel_rfl
theorem Tryz.liesBld:liesAt prog prog.depth 175 (2/prog.cellsOf 175) 0 175 1=true:=by kernel_rfl
theorem zsP (b:Nat) (w:World) (h:w.cell? ⟨b,0,none⟩=some (.pointer (some ⟨b,0,none⟩))):
  Calls prog 164 #[.pointer (some ⟨b,0,none⟩)] w fun e w'=>e= .returned (.tuple #[])/\w'=w:=by
 obtain⟨j,q,_⟩:=Option.map_eq_some_iff.1 Tryz.sizeBld;go_enter func164,ntmps164;go_wp2;rw[Lib.run_neq_ptr_same w _ underlying173 q];go_wp2;go_end0;exact⟨rfl,rfl⟩
theorem zsQ (b:Nat) (w:World) (H:w.cell? ⟨b,0,none⟩=some (.pointer none)) (h:w.shape? b=some (175,2)) (A:w.frozen? ⟨b,0,none⟩=false):
  Calls prog 164 #[.pointer (some ⟨b,0,none⟩)] w fun e w'=>e= .returned (.tuple #[])/\w'=w.setCell ⟨b,0,none⟩ (.pointer (some ⟨b,0,none⟩)):=by
 obtain⟨j,z,q⟩:=Option.map_eq_some_iff.1 Tryz.sizeBld;go_enter func164,ntmps164;go_wp2;rw[Lib.run_to_unsafe w ⟨b,0,none⟩ underlying173 underlying218 z (by rw[q];decide) h (Nat.zero_lt_succ 1)];simp only[Result.andThen];rw[Oper.upon_value];go_wp2;rw[run_callFunc_extern func182 (by kernel_rfl) (by kernel_rfl) (by kernel_rfl) (e:=Extern.AbiNoEscape.same) (by kernel_rfl)];rw[Lib.run_noEscape];simp only[Result.andThen];rw[Oper.upon_value];go_wp2;rw[Lib.run_from_unsafe w ⟨b,0,none⟩ underlying218 underlying173 z h Tryz.liesBld];simp only[Result.andThen];rw[Oper.upon_value];go_wp2;go_end0;exact⟨rfl,rfl⟩
theorem zsR (B b:Nat) (q:List Value) (w:World) (h:Lib.IsBuilder 175 5 B b q w):
  Calls prog 164 #[.pointer (some ⟨b,0,none⟩)] w fun e w'=>e= .returned (.tuple #[])/\Lib.BuilderAt 175 5 B b (.pointer (some ⟨b,0,none⟩)) q w'/\Below B w w'/\∀k,k≠b->w'.heap[k]? =w.heap[k]?:=by
 rcases h with h|h
 ·refine (zsQ b w h.cell0 h.shape h.frozen0).mono ?_;rintro e w' ⟨rfl,rfl⟩;exact⟨rfl,h.used _,(Below.refl B w).setCell (p:=⟨b,0,none⟩) h.1 _,fun k z=>zl3 z⟩
 ·refine (zsP b w h.cell0).mono ?_;rintro e w' ⟨rfl,rfl⟩;exact⟨rfl,h,Below.refl B _,fun k _=>rfl⟩
def zsS (B b:Nat) (bs:List Value) (w w':World):Prop:=Lib.BuilderAt 175 5 B b (.pointer (some ⟨b,0,none⟩)) bs w'/\Below B w w'/\∀(k:Nat) (cur:Array Value) (t:TypeId) (fz:Nat×Nat),w.heap[k]? =some (.cells cur t fz)->k≠b->t≠5->w'.heap[k]? =w.heap[k]?
theorem Tryz.infoByte1:(prog.info? 5).map (fun i=>(i.zero,i.size,i.bytes))=some (some (.int .u8 0),1,1):=by kernel_rfl
theorem zsT {w:World} {B k:Nat} {e:TypeId} {v:Value} {n:Nat} {xs:List Value} (h:w.ownsRow B e 1 v n xs) (q:some k=v.ownBlock): ∃c,w.heap[k]? =some (.cells c e (0,0)):=by
 rcases h.2 with ⟨A,_⟩|⟨g,H,z,A,_,I,_⟩
 ·rw[A] at q;cases q
 ·rw[A] at q;simp only[Value.ownBlock,Option.some.injEq] at q;rw[q];exact⟨z,I⟩
theorem zsU (B b:Nat) (L:List Value) (s:BA) (w:World) (h:Lib.IsBuilder 175 5 B b L w) (ae:L.length+s.size<=140737488355328) (af:B<=w.heap.size):
  Calls prog 131 #[.pointer (some ⟨b,0,none⟩),.string s] w fun e w'=>e= .returned (.tuple #[.int .i64 s.size,.nilIface])/\zsS B b (L++Lib.strCells s) w w':=by
 obtain⟨i0,hi,aa,ab,ac⟩:=info_parts Tryz.infoByte1;go_enter func131,ntmps131;go_wp2_with fail;refine (zsR B b L _ h).mono ?_;rintro e V ⟨rfl,h1,K,Z⟩;obtain⟨hB,v,H,z,Y⟩:=h1;have c0:V.cell? ⟨b,0,none⟩=some (.pointer (some ⟨b,0,none⟩)):=by rw[Lib.cell_of_heap H];rfl
 have c1:V.cell? ⟨b,1,none⟩=some v:=by rw[Lib.cell_of_heap H];rfl
 go_wp2_with (at_builtin;refine Lib.wpList_append_own_string _ rfl _ _ 147 9 rfl B 5 i0 underlying147 underlying9 hi aa ab ac _ _ _ rfl z s rfl ?c3 ?c4 ?c5 ?_)
 case c3=>unfold maxLen;omega
 case c4=>omega
 case c5=>have:=K.size;omega
 intro v' U A q _;have X:b<V.heap.size:=(aLt H);have I:U.heap[b]? =some (.cells #[.pointer (some ⟨b,0,none⟩),v] 175 (0,0)):=(q.block b X (fun e=>Y e.symm)).trans H;have d0:U.cell? ⟨b,0,none⟩=some (.pointer (some ⟨b,0,none⟩)):=by rw[Lib.cell_of_heap I];rfl
 have d1:U.cell? ⟨b,1,none⟩=some v:=by rw[Lib.cell_of_heap I];rfl
 have f1:U.frozen? ⟨b,1,none⟩=false:=Lib.frozen_of_heap I 1;obtain⟨ao,n',J,rfl⟩: ∃ao n' J,v'= .slice ao n' J:=by
  rcases A.2 with ⟨N,_⟩|⟨g,J,ad,N,_⟩
  ·exact⟨_,_,_,N⟩
  ·exact⟨_,_,_,N⟩
 go_wp2;go_ret2;refine⟨rfl,Lib.BuilderAt.put (T:=175) (e:=5) hB I (bs':=L++Lib.strCells s) (by simpa [Lib.strCells_length] using A) (by decide),(K.grown q (by have:=K.size;omega) (fun k O=>(z.lt k O).1)).setCell (p:=⟨b,1,none⟩) hB _,?_⟩;intro k ad t fz O M ht;have e1:=Z k M;rw[zl3 M,q.block k (aLt (e1.trans O)) ?_,e1];intro N;obtain⟨c,hc⟩:=zsT z N;rw[e1,O] at hc;simp only[Option.some.injEq,Obj.cells.injEq] at hc;exact ht hc.2.1
end Go.Proofs.YtgcbmogmniahjaaGreat
namespace Go.Proofs.YtgcbmogmniahjaaGreat
open Go.Proofs.Tryz
set_option maxHeartbeats 2000000
set_option maxRecDepth 100000
open Go.RowKit Go.PlainAid Go.Sort
def KeepB (b:Nat) (w w':World):Prop:=∀(k:Nat) (cur:Array Value) (t:TypeId) (fz:Nat×Nat),w.heap[k]? =some (.cells cur t fz)->k≠b->t≠5->w'.heap[k]? =w.heap[k]?
theorem KeepB.refl (b:Nat) (w:World):KeepB b w w:=fun _ _ _ _ _ _ _=>rfl
theorem KeepB.trans {b:Nat} {w A J:World} (h:KeepB b w A) (L:KeepB b A J):KeepB b w J:=fun k q t z H K I=>by
 have e:=h k q t z H K I;rw[L k q t z (e.trans H) K I,e]
def zl4 (B b:Nat) (bs:List Value) (w w':World):Prop:=Lib.IsBuilder 175 5 B b bs w'/\Below B w w'/\KeepB b w w'
theorem zl5 {h:List BA} {j:Nat} (q:j<h.length):(h.take (j+1)).flatMap Lib.strCells=(h.take j).flatMap Lib.strCells++Lib.strCells h[j]:=by
 rw[List.take_succ_eq_append_getElem q,List.flatMap_append];simp
theorem zsV (h:List BA) {j:Nat} (q:j<h.length):((h.take j).flatMap Lib.strCells).length+h[j].size<=(h.flatMap Lib.strCells).length:=by
 have e:=congrArg List.length (congrArg (List.flatMap Lib.strCells) (List.take_append_drop (j+1) h));rw[List.flatMap_append,zl5 q] at e;simp only[List.length_append,Lib.strCells_length] at e;omega
theorem zsW (B b I:Nat) (M:List Value) (q:List BA) (w:World) (h:Lib.IsBuilder 175 5 B b M w) (hq:w.heap[I]? =some (.cells (q.map Value.string).toArray 9 (0,0))) (aa:M.length+(q.flatMap Lib.strCells).length<=140737488355328) (hn:q.length<=4294967296) (hB:B<=w.heap.size) (N:I≠b):
  Calls prog 171 #[.slice (some ⟨I,0,none⟩) q.length q.length,.pointer (some ⟨b,0,none⟩)] w fun e w'=>e= .returned (.tuple #[])/\zl4 B b (M++q.flatMap Lib.strCells) w w':=by
 have HI:=zc h;have Z:=zc hq;clear h hq;go_enter func171,ntmps171;go_wp2;go_loopg [7] q.length (fun k i wr=>∃j:Nat,i= .int .i64 j/\j+k=q.length/\zl4 B b (M++(q.take j).flatMap Lib.strCells) w wr)
 case atStart=>exact⟨0,rfl,by omega,by simp only[List.take_zero,List.flatMap_nil,List.append_nil];exact HI.o,Below.refl _ _,KeepB.refl _ _⟩
 case round=>
  obtain⟨j,rfl,hj,hp⟩:=hrel;have A:=zc hp;clear hp;by_cases z:j<q.length
  ·have K:(j:Int)<(q.length:Int):=by omega
   have U:=zc ((A.o.2.2 I _ _ _ Z.o N (by decide)).trans Z.o);have q0:wr.cell? ⟨I,j,none⟩=some (.string q[j]):=by
    rw[Lib.cell_of_heap U.o];simp[List.getElem?_eq_getElem z]
   obtain⟨s,V⟩: ∃s,q[j]=s:=⟨_,rfl⟩;rw[V] at q0;have HS:=zc V;clear V;obtain⟨L,H⟩: ∃L,L=j+1:=⟨_,rfl⟩;have ej:(j:Int)+1=(L:Int):=by omega
   have X:=zc H;clear H;go_wp2_with fail;have J:=zsV q z;rw[HS.o] at J;refine (zsU B b _ s wr A.o.1 (by rw[List.length_append];omega) (by have:=A.o.2.1.size;omega)).mono ?_;rintro e w2 ⟨rfl,Y⟩;have O:=zc Y;clear Y J;go_wp2;go_roundg (gk-1)
   case rel=>
    refine⟨L,rfl,by have:=X.o;omega,?_,A.o.2.1.trans O.o.2.1,A.o.2.2.trans O.o.2.2⟩;rw[X.o,zl5 z,HS.o,<-List.append_assoc];exact .inr O.o.1
   case measure=>omega
  ·have K: ¬(j:Int)<(q.length:Int):=by omega
   obtain rfl:j=q.length:=by omega
   go_wp2;go_end0;exact⟨rfl,by have:=A.o;rw[List.take_length] at this;exact this⟩
theorem zsX (a b:BA):Lib.strCells (a++b)=Lib.strCells a++Lib.strCells b:=by simp[Lib.strCells]
def zt (t:BA) (ps:List BA):BA:=ps.foldl (· ++ ·) t
theorem zl6 (h:List BA): ∀t,Lib.strCells (zt t h)=Lib.strCells t++h.flatMap Lib.strCells:=by
 induction h with
 |nil=>intro t;simp[zt]
 |cons p h q=>
  intro t;have:=q (t++p);simp only[zt,List.foldl_cons] at this ⊢;rw[this,zsX,List.flatMap_cons,List.append_assoc]
structure PC where
 B:Nat
 b:Nat
 gp:Nat
 base:Nat
 S:Sv
 m:Md
def PP (c:PC) (t:BA) (w:World):Prop:=
 (Lib.IsBuilder 175 5 c.B c.b (Lib.strCells t) w/\c.B<=w.heap.size)/\OwnMd w c.base c.S c.m/\
 (w.heap[c.gp]? =some (.cells #[.slice c.S.rq.a c.m.rq.length c.S.rq.cap,.slice c.S.im.a c.m.im.length c.S.im.cap,.slice c.S.ep.a c.m.ep.length c.S.ep.cap,.slice c.S.st.a c.m.st.length c.S.st.cap,.slice c.S.ex.a c.m.ex.length c.S.ex.cap,.func (.func 171) #[] #[.pointer (some ⟨c.b,0,none⟩)]] 215 (0,0))/\c.gp≠c.b)
theorem zcl {B b:Nat} {z:List Value} {w:World} (h:Lib.IsBuilder 175 5 B b z w): ∃q,w.heap[b]? =some (.cells q 175 (0,0)):=by
 rcases h with ⟨_,v,h,_⟩|⟨_,v,h,_⟩<;>exact⟨_,h⟩
theorem OwnMd.keepT {w w':World} {base b:Nat} {S:Sv} {m:Md} {H:Array Value} (h:OwnMd w base S m) (O:w.heap[b]? =some (.cells H 175 (0,0))) (K:KeepB b w w'):OwnMd w' base S m:=by
 have z: ∀(e:TypeId) (q n:Nat) (r:Rw) (I:List Value),OwnR w base e q r n I->e≠5->e≠175->OwnR w' base e q r n I:=fun e q n r I h L J=>h.keep fun k M=>by
  obtain⟨_,_,c,A⟩:=h.typed M;refine K k c e _ A (fun N=>?_) L;rw[N,O] at A;simp only[Option.some.injEq,Obj.cells.injEq] at A;exact J A.2.1.symm
 exact⟨z _ _ _ _ _ h.rq (by decide) (by decide),z _ _ _ _ _ h.im (by decide) (by decide),z _ _ _ _ _ h.ep (by decide) (by decide),z _ _ _ _ _ h.st (by decide) (by decide),z _ _ _ _ _ h.ex (by decide) (by decide)⟩
theorem zl7 {B b:Nat} {H:List Value} {w w':World} (h:Lib.IsBuilder 175 5 B b H w) (q:Below w.heap.size w w'):Lib.IsBuilder 175 5 B b H w':=by
 have z: ∀p,Lib.BuilderAt 175 5 B b p H w->Lib.BuilderAt 175 5 B b p H w':=by
  rintro p ⟨hB,v,J,A,I⟩;refine⟨hB,v,(q.block _ (aLt J)).trans J,?_,I⟩;refine A.kept (row:=none) ⟨q.os,q.tape,q.output,q.size,fun k L _=>q.block k L⟩ ?_;cases K:v.ownBlock with
  |none=>exact .inl rfl
  |some k=>exact .inr (by simp)
 exact h.elim (fun h=>.inl (z _ h)) fun h=>.inr (z _ h)
theorem PP.later {c:PC} {t:BA} {w w':World} (h:PP c t w) (q:Below w.heap.size w w'):PP c t w':=
 ⟨⟨zl7 h.1.1 q,Nat.le_trans h.1.2 q.size⟩,h.2.1.later q,(q.block _ (aLt h.2.2.1)).trans h.2.2.1,h.2.2.2⟩
theorem KeepB.of_below {b:Nat} {w w':World} (h:Below w.heap.size w w'):KeepB b w w':=fun k _ _ _ q _ _=>h.block k (aLt q)
def PO (c:PC) (t:BA) (w:World) (e:Ending) (w':World):Prop:=e= .returned (.tuple #[])/\PP c t w'/\Below c.B w w'/\KeepB c.b w w'
theorem zl8 (c:PC) (t:BA) (z:List BA) (I:Nat) (w:World) (h:PP c t w) (H:w.heap[I]? =some (.cells (z.map Value.string).toArray 9 (0,0))) (A:(zt t z).size<=140737488355328) (O:z.length<=4294967296):
  Calls prog 171 #[.slice (some ⟨I,0,none⟩) z.length z.length,.pointer (some ⟨c.b,0,none⟩)] w (PO c (zt t z) w):=by
 obtain⟨N,q⟩:=zcl h.1.1;have J:I≠c.b:=fun e=>by
  rw[e,q] at H;simp only[Option.some.injEq,Obj.cells.injEq] at H;exact absurd H.2.1 (by decide)
 refine (zsW c.B c.b I (Lib.strCells t) z w h.1.1 H (by rw[<-List.length_append,<-zl6,Lib.strCells_length];exact A) O h.1.2 J).mono ?_;rintro e U ⟨rfl,M,L,K⟩;rw[<-zl6] at M;exact⟨rfl,⟨⟨M,Nat.le_trans h.1.2 L.size⟩,h.2.1.keepT q K,(K _ _ _ _ h.2.2.1 h.2.2.2 (by decide)).trans h.2.2.1,h.2.2.2⟩,L,K⟩
theorem zbN (c:PC) (t:BA) (q:List BA) (w:World) (h:PP c t w) (z:(zt t q).size<=140737488355328) (L:q.length<=4294967296):
  Calls prog 171 #[.slice (some ⟨w.heap.size,0,none⟩) q.length q.length,.pointer (some ⟨c.b,0,none⟩)] (w.alloc (.cells (q.map Value.string).toArray 9)) (PO c (zt t q) w):=by
 have A:Below w.heap.size w (w.alloc (.cells (q.map Value.string).toArray 9)):=(Below.refl _ _).alloc (Nat.le_refl _) _;refine (zl8 c t q w.heap.size _ (h.later A) (heap_alloc_new w _) z L).mono ?_;rintro e M ⟨H,J,I,K⟩;exact⟨H,J,(A.mono h.1.2).trans I,(KeepB.of_below A).trans K⟩
theorem zgR (s:BA) (w:World) (q:s.size<=1099511627776):Calls prog 201 #[.string s] w fun e w'=>e= .returned (.string (za1 s))/\w'=w:=by
 have h:Hid (za1 s=({data:=#[34]}:BA)++s++({data:=#[34]}:BA)):=rfl;go_enter func201,ntmps201;go_wp2;go_ret;exact⟨by rw[h.o];rfl,rfl⟩
def zcd (a b:BA):BA:=({data:=#[123,32]}:BA)++asT a b++({data:=#[32,125]}:BA)
theorem zit (c:PC) (t a b:BA) (w:World) (h:PP c t w) (q:(t++zcd a b).size<=140737488355328):
  Calls prog 224 #[.pointer (some ⟨c.gp,0,none⟩),.string a,.string b] w (PO c (t++zcd a b) w):=by
 have HP:=zc h;have HL:=zc q;clear h q;obtain⟨p0,p1,X,O,V,U,Y⟩:=zw HP.o.2.2.1;go_enter func224,ntmps224;have z1:(({data:=#[123,32]}:BA)).size=2:=rfl;have z2:(({data:=#[32,125]}:BA)).size=2:=rfl;have z3:(({data:=#[32,97,115,32]}:BA)).size=4:=rfl;have q:=HL.o;simp only[zcd,ByteArray.size_append,z1,z2] at q;have HZ:=zc q;clear q;cases ae:(b.toList==a.toList) with
 |true=>
  have J:(a.toList==b.toList)=true:=by rw[BEq.comm];exact ae
  have Z:Hid (asT a b=a):=by show _=_;rw[asT,J];rfl
  go_wp2_with fail;refine (zbN c t [{data:=#[123,32]},a] w HP.o (by have:=HZ.o;rw[Z.o] at this;simp only[zt,List.foldl_cons,List.foldl_nil,ByteArray.size_append,z1];omega) (by simp)).mono ?_;rintro e w1 ⟨rfl,z,M,H⟩;have K:=zc z;have ac:=zc M;have aa:=zc H;clear z M H p0 p1 X O V U Y;obtain⟨p0,p1,X,O,V,U,Y⟩:=zw K.o.2.2.1;go_wp2_with fail;refine (zbN c _ [{data:=#[32,125]}] w1 K.o (by have:=HZ.o;rw[Z.o] at this;simp only[zt,List.foldl_cons,List.foldl_nil,ByteArray.size_append,z1,z2];omega) (by simp)).mono ?_;rintro e w2 ⟨rfl,I,L,A⟩;have N:=zc I;have ad:=zc (ac.o.trans L);have ab:=zc (aa.o.trans A);clear I L A p0 p1 X O V U Y;go_wp2;go_end0;refine⟨rfl,?_,ad.o,ab.o⟩;have:=N.o;simp only[zt,List.foldl_cons,List.foldl_nil] at this;rw[zcd,Z.o,<-ByteArray.append_assoc,<-ByteArray.append_assoc];exact this
 |false=>
  have J:(a.toList==b.toList)=false:=by rw[BEq.comm];exact ae
  have Z:Hid (asT a b=a++({data:=#[32,97,115,32]}:BA)++b):=by show _=_;rw[asT,J];rfl
  go_wp2_with fail;refine (zbN c t [{data:=#[123,32]},a] w HP.o (by have:=HZ.o;rw[Z.o] at this;simp only[zt,List.foldl_cons,List.foldl_nil,ByteArray.size_append,z1,z3] at this ⊢;omega) (by simp)).mono ?_;rintro e w1 ⟨rfl,z,M,H⟩;have K:=zc z;have ac:=zc M;have aa:=zc H;clear z M H p0 p1 X O V U Y;obtain⟨p0,p1,X,O,V,U,Y⟩:=zw K.o.2.2.1;go_wp2_with fail;refine (zbN c _ [{data:=#[32,97,115,32]},b] w1 K.o (by have:=HZ.o;rw[Z.o] at this;simp only[zt,List.foldl_cons,List.foldl_nil,ByteArray.size_append,z1,z3] at this ⊢;omega) (by simp)).mono ?_;rintro e w2 ⟨rfl,I,L,A⟩;have N:=zc I;have ad:=zc (ac.o.trans L);have ab:=zc (aa.o.trans A);clear I L A p0 p1 X O V U Y;obtain⟨p0,p1,X,O,V,U,Y⟩:=zw N.o.2.2.1;go_wp2_with fail;refine (zbN c _ [{data:=#[32,125]}] w2 N.o (by have:=HZ.o;rw[Z.o] at this;simp only[zt,List.foldl_cons,List.foldl_nil,ByteArray.size_append,z1,z2,z3] at this ⊢;omega) (by simp)).mono ?_;rintro e w3 ⟨rfl,af,ah,ag⟩;have aj:=zc af;have ai:=zc (ad.o.trans ah);have ak:=zc (ab.o.trans ag);clear af ah ag p0 p1 X O V U Y;go_wp2;go_end0;refine⟨rfl,?_,ai.o,ak.o⟩;have:=aj.o;simp only[zt,List.foldl_cons,List.foldl_nil] at this;rw[zcd,Z.o];simp only[<-ByteArray.append_assoc] at this ⊢;exact this
end Go.Proofs.YtgcbmogmniahjaaGreat
