/- Facts and walks. -/
import Derived.Test.YtgcbmogmniahjaaGreatK27
import Derived.OwnWalk
import Derived.Deep.CutBlock
import Derived.Lib.Builder
import Derived.Lib.AppendStr
import Derived.Laws.Externs
namespace Go.Proofs.YtgcbmogmniahjaaGreat
open Go.Proofs.Tryz
set_option maxRecDepth 100000
set_option maxHeartbeats 2000000
open Go.RowKit Go.PlainAid Go.Sort
variable (g b:Nat) (w:World) {W:World} {c:Nat} {C:Value}
theorem zlI {S i:Nat} (h:c≠S):(W.setCell ⟨S,i,none⟩ C).heap[c]? =W.heap[c]?:=Below.heap_setCell W ⟨S,i,none⟩ C c h
theorem Tryz.sizeBld:(prog.info? 175).map (·.size)=some 2:=by kernel_rfl
theorem Tryz.liesBld:liesAt prog prog.depth 175 (2/prog.cellsOf 175) 0 175 1=true:=by kernel_rfl
theorem ztl (h:w.cell? ⟨g,0,none⟩=some (.pointer (some ⟨g,0,none⟩))):
  Calls prog 164 #[.pointer (some ⟨g,0,none⟩)] w fun e q=>e= .returned (.tuple #[])/\q=w:=by
 obtain⟨j,z,_⟩:=Option.map_eq_some_iff.1 Tryz.sizeBld;go_enter func164,ntmps164;go_wp2;rw[Lib.run_neq_ptr_same w _ underlying173 z];go_wp2;go_end0;exact⟨rfl,rfl⟩
theorem ztm (E:w.cell? ⟨g,0,none⟩=some (.pointer none)) (h:w.shape? g=some (175,2)) (D:w.frozen? ⟨g,0,none⟩=false):
  Calls prog 164 #[.pointer (some ⟨g,0,none⟩)] w fun e A=>e= .returned (.tuple #[])/\A=w.setCell ⟨g,0,none⟩ (.pointer (some ⟨g,0,none⟩)):=by
 obtain⟨j,z,q⟩:=Option.map_eq_some_iff.1 Tryz.sizeBld;go_enter func164,ntmps164;go_wp2;rw[Lib.run_to_unsafe w ⟨g,0,none⟩ underlying173 underlying218 z (by rw[q];decide) h (Nat.zero_lt_succ 1)];simp only[Result.andThen];rw[Oper.upon_value];go_wp2;rw[run_callFunc_extern func182 (by kernel_rfl) (by kernel_rfl) (by kernel_rfl) (e:=Extern.AbiNoEscape.same) (by kernel_rfl)];rw[Lib.run_noEscape];simp only[Result.andThen];rw[Oper.upon_value];go_wp2;rw[Lib.run_from_unsafe w ⟨g,0,none⟩ underlying218 underlying173 z h Tryz.liesBld];simp only[Result.andThen];rw[Oper.upon_value];go_wp2;go_end0;exact⟨rfl,rfl⟩
theorem ztn (z:List Value) (w:World) (h:Lib.IsBuilder 175 5 g b z w):
  Calls prog 164 #[.pointer (some ⟨b,0,none⟩)] w fun e q=>e= .returned (.tuple #[])/\Lib.BuilderAt 175 5 g b (.pointer (some ⟨b,0,none⟩)) z q/\Below g w q/\∀k,k≠b->q.heap[k]? =w.heap[k]?:=by
 rcases h with h|h
 ·refine (ztm b w h.cell0 h.shape h.frozen0).mono ?_;rintro e q ⟨rfl,rfl⟩;exact⟨rfl,h.used _,(Below.refl g w).setCell (p:=⟨b,0,none⟩) h.1 _,fun k A=>zlI A⟩
 ·refine (ztl b w h.cell0).mono ?_;rintro e q ⟨rfl,rfl⟩;exact⟨rfl,h,Below.refl g _,fun k _=>rfl⟩
def zto (B b:Nat) (bs:List Value) (w w':World):Prop:=Lib.BuilderAt 175 5 B b (.pointer (some ⟨b,0,none⟩)) bs w'/\Below B w w'/\∀(k:Nat) (cur:Array Value) (t:TypeId) (fz:Nat×Nat),w.heap[k]? =some (.cells cur t fz)->k≠b->t≠5->w'.heap[k]? =w.heap[k]?
theorem Tryz.infoByte1:(prog.info? 5).map (fun i=>(i.zero,i.size,i.bytes))=some (some (.int .u8 0),1,1):=by kernel_rfl
theorem ztp {k:Nat} {e:TypeId} {n:Nat} {xs:List Value} (h:W.ownsRow c e 1 C n xs) (q:some k=C.ownBlock): ∃S,W.heap[k]? =some (.cells S e (0,0)):=by
 rcases h.2 with ⟨A,_⟩|⟨g,D,z,A,_,E,_⟩
 ·rw[A] at q;cases q
 ·rw[A] at q;simp only[Value.ownBlock,Option.some.injEq] at q;rw[q];exact⟨z,E⟩
theorem ztq (J:List Value) (s:BA) (w:World) (h:Lib.IsBuilder 175 5 g b J w) (ac:J.length+s.size<=140737488355328) (ad:g<=w.heap.size):
  Calls prog 131 #[.pointer (some ⟨b,0,none⟩),.string s] w fun e w'=>e= .returned (.tuple #[.int .i64 s.size,.nilIface])/\zto g b (J++Lib.strCells s) w w':=by
 obtain⟨i0,hi,Y,Z,aa⟩:=info_parts Tryz.infoByte1;go_enter func131,ntmps131;go_wp2_with fail;refine (ztn g b J _ h).mono ?_;rintro e O ⟨rfl,h1,I,X⟩;obtain⟨hB,v,D,z,V⟩:=h1;have c0:O.cell? ⟨b,0,none⟩=some (.pointer (some ⟨b,0,none⟩)):=by rw[Lib.cell_of_heap D];rfl
 have c1:O.cell? ⟨b,1,none⟩=some v:=by rw[Lib.cell_of_heap D];rfl
 go_wp2_with (at_builtin;refine Lib.wpList_append_own_string _ rfl _ _ 147 9 rfl g 5 i0 underlying147 underlying9 hi Y Z aa _ _ _ rfl z s rfl ?c3 ?c4 ?c5 ?_)
 case c3=>unfold maxLen;omega
 case c4=>omega
 case c5=>have:=I.size;omega
 intro v' N A q _;have U:b<O.heap.size:=(aLt D);have E:N.heap[b]? =some (.cells #[.pointer (some ⟨b,0,none⟩),v] 175 (0,0)):=(q.block b U (fun e=>V e.symm)).trans D;have d0:N.cell? ⟨b,0,none⟩=some (.pointer (some ⟨b,0,none⟩)):=by rw[Lib.cell_of_heap E];rfl
 have d1:N.cell? ⟨b,1,none⟩=some v:=by rw[Lib.cell_of_heap E];rfl
 have f1:N.frozen? ⟨b,1,none⟩=false:=Lib.frozen_of_heap E 1;obtain⟨ao,n',H,rfl⟩: ∃ao n' H,v'= .slice ao n' H:=by
  rcases A.2 with ⟨L,_⟩|⟨S,H,ab,L,_⟩
  ·exact⟨_,_,_,L⟩
  ·exact⟨_,_,_,L⟩
 go_wp2;go_ret2;refine⟨rfl,Lib.BuilderAt.put (T:=175) (e:=5) hB E (bs':=J++Lib.strCells s) (by simpa [Lib.strCells_length] using A) (by decide),(I.grown q (by have:=I.size;omega) (fun k M=>(z.lt k M).1)).setCell (p:=⟨b,1,none⟩) hB _,?_⟩;intro k ab t fz M K ht;have e1:=X k K;rw[zlI K,q.block k (aLt (e1.trans M)) ?_,e1];intro L;obtain⟨c,hc⟩:=ztp z L;rw[e1,M] at hc;simp only[Option.some.injEq,Obj.cells.injEq] at hc;exact ht hc.2.1
end Go.Proofs.YtgcbmogmniahjaaGreat
namespace Go.Proofs.YtgcbmogmniahjaaGreat
open List (length_append foldl_cons foldl_nil)
open Go.Proofs.Tryz
set_option maxHeartbeats 2000000
set_option maxRecDepth 100000
open Go.RowKit Go.PlainAid Go.Sort
def KeepB (b:Nat) (w w':World):Prop:=∀(k:Nat) (cur:Array Value) (t:TypeId) (fz:Nat×Nat),w.heap[k]? =some (.cells cur t fz)->k≠b->t≠5->w'.heap[k]? =w.heap[k]?
theorem KeepB.refl (b:Nat) (w:World):KeepB b w w:=fun _ _ _ _ _ _ _=>rfl
theorem KeepB.trans {b:Nat} {w A H:World} (h:KeepB b w A) (J:KeepB b A H):KeepB b w H:=fun k q t z D I E=>by
 have e:=h k q t z D I E;rw[J k q t z (e.trans D) I E,e]
def zlJ (B b:Nat) (bs:List Value) (w w':World):Prop:=Lib.IsBuilder 175 5 B b bs w'/\Below B w w'/\KeepB b w w'
theorem zlK {h:List BA} {j:Nat} (q:j<h.length):(h.take (j+1)).flatMap Lib.strCells=(h.take j).flatMap Lib.strCells++Lib.strCells h[j]:=by
 rw[List.take_succ_eq_append_getElem q,List.flatMap_append];simp
theorem ztr (h:List BA) {j:Nat} (q:j<h.length):((h.take j).flatMap Lib.strCells).length+h[j].size<=(h.flatMap Lib.strCells).length:=by
 have e:=congrArg List.length (congrArg (List.flatMap Lib.strCells) (List.take_append_drop (j+1) h));rw[List.flatMap_append,zlK q] at e;simp only[length_append,Lib.strCells_length] at e;omega
theorem zts (B b E:Nat) (K:List Value) (q:List BA) (w:World) (h:Lib.IsBuilder 175 5 B b K w) (Y:w.heap[E]? =some (.cells (q.map Value.string).toArray 9 (0,0))) (Z:K.length+(q.flatMap Lib.strCells).length<=140737488355328) (hn:q.length<=4294967296) (hB:B<=w.heap.size) (L:E≠b):
  Calls prog 171 #[.slice (some ⟨E,0,none⟩) q.length q.length,.pointer (some ⟨b,0,none⟩)] w fun e w'=>e= .returned (.tuple #[])/\zlJ B b (K++q.flatMap Lib.strCells) w w':=by
 have HI:=zc h;have X:=zc Y;clear h Y;go_enter func171,ntmps171;go_wp2;go_loopg [7] q.length (fun k i wr=>∃j:Nat,i= .int .i64 j/\j+k=q.length/\zlJ B b (K++(q.take j).flatMap Lib.strCells) w wr)
 case atStart=>exact⟨0,rfl,by omega,by simp only[List.take_zero,List.flatMap_nil,List.append_nil];exact HI.o,Below.refl _ _,KeepB.refl _ _⟩
 case round=>
  obtain⟨j,rfl,hj,hp⟩:=hrel;have A:=zc hp;clear hp;by_cases z:j<q.length
  ·have I:(j:Int)<(q.length:Int):=by omega
   have N:=zc ((A.o.2.2 E _ _ _ X.o L (by decide)).trans X.o);have q0:wr.cell? ⟨E,j,none⟩=some (.string q[j]):=by
    rw[Lib.cell_of_heap N.o];simp[List.getElem?_eq_getElem z]
   obtain⟨s,O⟩: ∃s,q[j]=s:=⟨_,rfl⟩;rw[O] at q0;have HS:=zc O;clear O;obtain⟨J,D⟩: ∃J,J=j+1:=⟨_,rfl⟩;have ej:(j:Int)+1=(J:Int):=by omega
   have U:=zc D;clear D;go_wp2_with fail;have H:=ztr q z;rw[HS.o] at H;refine (ztq B b _ s wr A.o.1 (by rw[length_append];omega) (by have:=A.o.2.1.size;omega)).mono ?_;rintro e w2 ⟨rfl,V⟩;have M:=zc V;clear V H;go_wp2;go_roundg (gk-1)
   case rel=>
    refine⟨J,rfl,by have:=U.o;omega,?_,A.o.2.1.trans M.o.2.1,A.o.2.2.trans M.o.2.2⟩;rw[U.o,zlK z,HS.o,<-List.append_assoc];exact .inr M.o.1
   case measure=>omega
  ·have I: ¬(j:Int)<(q.length:Int):=by omega
   obtain rfl:j=q.length:=by omega
   go_wp2;go_end0;exact⟨rfl,by have:=A.o;rw[List.take_length] at this;exact this⟩
theorem ztt (a b:BA):Lib.strCells (a++b)=Lib.strCells a++Lib.strCells b:=by simp[Lib.strCells]
def zv (t:BA) (ps:List BA):BA:=ps.foldl (· ++ ·) t
theorem zlL (h:List BA): ∀t,Lib.strCells (zv t h)=Lib.strCells t++h.flatMap Lib.strCells:=by
 induction h with
 |nil=>intro t;simp[zv]
 |cons p h q=>
  intro t;have:=q (t++p);simp only[zv,foldl_cons] at this ⊢;rw[this,ztt,List.flatMap_cons,List.append_assoc]
structure PC where
 B:Nat
 b:Nat
 gp:Nat
 base:Nat
 S:Sv
 m:Md
def PP (c:PC) (t:BA) (w:World):Prop:=
 (Lib.IsBuilder 175 5 c.B c.b (Lib.strCells t) w/\c.B<=w.heap.size)/\OwnMd w c.base c.S c.m/\
 (w.heap[c.gp]? =some (.cells #[.slice c.S.rq.a c.m.rq.length c.S.rq.cap,.slice c.S.im.a c.m.im.length c.S.im.cap,.slice c.S.ep.a c.m.ep.length c.S.ep.cap,.slice c.S.st.a c.m.st.length c.S.st.cap,.slice c.S.ex.a c.m.ex.length c.S.ex.cap,.func (.func 171) #[] #[.pointer (some ⟨c.b,0,none⟩)]] 215 (0,0))/\c.gp≠c.b)
variable (w:PC) (s:BA) {g:Nat} {W:List Value} {V:World}
theorem zcp {b:Nat} (h:Lib.IsBuilder 175 5 g b W V): ∃q,V.heap[b]? =some (.cells q 175 (0,0)):=by
 rcases h with ⟨_,v,h,_⟩|⟨_,v,h,_⟩<;>exact⟨_,h⟩
theorem OwnMd.keepT {E:World} {b:Nat} {S:Sv} {m:Md} {D:Array Value} (h:OwnMd V g S m) (N:V.heap[b]? =some (.cells D 175 (0,0))) (J:KeepB b V E):OwnMd E g S m:=by
 have z: ∀(e:TypeId) (q n:Nat) (r:Rw) (H:List Value),OwnR V g e q r n H->e≠5->e≠175->OwnR E g e q r n H:=fun e q n r H h K I=>h.keep fun k L=>by
  obtain⟨_,_,c,A⟩:=h.typed L;refine J k c e _ A (fun M=>?_) K;rw[M,N] at A;simp only[Option.some.injEq,Obj.cells.injEq] at A;exact I A.2.1.symm
 exact⟨z _ _ _ _ _ h.rq (by decide) (by decide),z _ _ _ _ _ h.im (by decide) (by decide),z _ _ _ _ _ h.ep (by decide) (by decide),z _ _ _ _ _ h.st (by decide) (by decide),z _ _ _ _ _ h.ex (by decide) (by decide)⟩
theorem zlM {b:Nat} {E:World} (h:Lib.IsBuilder 175 5 g b W V) (q:Bw V E):Lib.IsBuilder 175 5 g b W E:=by
 have z: ∀p,Lib.BuilderAt 175 5 g b p W V->Lib.BuilderAt 175 5 g b p W E:=by
  rintro p ⟨hB,v,I,A,H⟩;refine⟨hB,v,(q.block _ (aLt I)).trans I,?_,H⟩;refine A.kept (row:=none) ⟨q.os,q.tape,q.output,q.size,fun k K _=>q.block k K⟩ ?_;cases J:v.ownBlock with
  |none=>exact .inl rfl
  |some k=>exact .inr (by simp)
 exact h.elim (fun h=>.inl (z _ h)) fun h=>.inr (z _ h)
theorem PP.later {c:PC} {t:BA} {z:World} (h:PP c t V) (q:Bw V z):PP c t z:=
 ⟨⟨zlM h.1.1 q,Nat.le_trans h.1.2 q.size⟩,h.2.1.later q,(q.block _ (aLt h.2.2.1)).trans h.2.2.1,h.2.2.2⟩
theorem KeepB.of_below {b:Nat} {q:World} (h:Bw V q):KeepB b V q:=fun k _ _ _ z _ _=>h.block k (aLt z)
def PO (c:PC) (t:BA) (w:World) (e:Ending) (w':World):Prop:=e= .returned (.tuple #[])/\PP c t w'/\Below c.B w w'/\KeepB c.b w w'
theorem zlN (z:List BA) (E:Nat) (C:World) (h:PP w s C) (D:C.heap[E]? =some (.cells (z.map Value.string).toArray 9 (0,0))) (A:(zv s z).size<=140737488355328) (M:z.length<=4294967296):
  Calls prog 171 #[.slice (some ⟨E,0,none⟩) z.length z.length,.pointer (some ⟨w.b,0,none⟩)] C (PO w (zv s z) C):=by
 obtain⟨L,q⟩:=zcp h.1.1;have H:E≠w.b:=fun e=>by
  rw[e,q] at D;simp only[Option.some.injEq,Obj.cells.injEq] at D;exact absurd D.2.1 (by decide)
 refine (zts w.B w.b E (Lib.strCells s) z C h.1.1 D (by rw[<-length_append,<-zlL,Lib.strCells_length];exact A) M h.1.2 H).mono ?_;rintro e N ⟨rfl,K,J,I⟩;rw[<-zlL] at K;exact⟨rfl,⟨⟨K,Nat.le_trans h.1.2 J.size⟩,h.2.1.keepT q I,(I _ _ _ _ h.2.2.1 h.2.2.2 (by decide)).trans h.2.2.1,h.2.2.2⟩,J,I⟩
theorem zbR (q:List BA) (C:World) (h:PP w s C) (z:(zv s q).size<=140737488355328) (J:q.length<=4294967296):
  Calls prog 171 #[.slice (some ⟨C.heap.size,0,none⟩) q.length q.length,.pointer (some ⟨w.b,0,none⟩)] (C.alloc (.cells (q.map Value.string).toArray 9)) (PO w (zv s q) C):=by
 have A:Bw C (C.alloc (.cells (q.map Value.string).toArray 9)):=bA0;refine (zlN w s q C.heap.size _ (h.later A) (heap_alloc_new C _) z J).mono ?_;rintro e K ⟨D,H,E,I⟩;exact⟨D,H,(A.mono h.1.2).trans E,(KeepB.of_below A).trans I⟩
theorem zhb (w:World) (z:s.size<=1099511627776):Calls prog 201 #[.string s] w fun e q=>e= .returned (.string (za3 s))/\q=w:=by
 have h:Hid (za3 s=({data:=#[34]}:BA)++s++({data:=#[34]}:BA)):=rfl;go_enter func201,ntmps201;go_wp2;go_ret;exact⟨by rw[h.o];rfl,rfl⟩
def zci (a b:BA):BA:=({data:=#[123,32]}:BA)++asT a b++({data:=#[32,125]}:BA)
theorem zi2 (a b:BA) (C:World) (h:PP w s C) (q:(s++zci a b).size<=140737488355328):
  Calls prog 224 #[.pointer (some ⟨w.gp,0,none⟩),.string a,.string b] C (PO w (s++zci a b) C):=by
 have HP:=zc h;have HL:=zc q;clear h q;obtain⟨Z,Y,U,M,O,N,V⟩:=zy HP.o.2.2.1;go_enter func224,ntmps224;have z1:(({data:=#[123,32]}:BA)).size=2:=rfl;have z2:(({data:=#[32,125]}:BA)).size=2:=rfl;have z3:(({data:=#[32,97,115,32]}:BA)).size=4:=rfl;have q:=HL.o;simp only[zci,ByteArray.size_append,z1,z2] at q;have HZ:=zc q;clear q;cases ae:(b.toList==a.toList) with
 |true=>
  have H:(a.toList==b.toList)=true:=by rw[BEq.comm];exact ae
  have X:Hid (asT a b=a):=by show _=_;rw[asT,H];rfl
  go_wp2_with fail;refine (zbR w s [{data:=#[123,32]},a] C HP.o (by have:=HZ.o;rw[X.o] at this;simp only[zv,foldl_cons,foldl_nil,ByteArray.size_append,z1];omega) (by simp)).mono ?_;rintro e w1 ⟨rfl,z,K,D⟩;have I:=zc z;have ac:=zc K;have aa:=zc D;clear z K D Z Y U M O N V;obtain⟨Z,Y,U,M,O,N,V⟩:=zy I.o.2.2.1;go_wp2_with fail;refine (zbR w _ [{data:=#[32,125]}] w1 I.o (by have:=HZ.o;rw[X.o] at this;simp only[zv,foldl_cons,foldl_nil,ByteArray.size_append,z1,z2];omega) (by simp)).mono ?_;rintro e w2 ⟨rfl,E,J,A⟩;have L:=zc E;have ad:=zc (ac.o.trans J);have ab:=zc (aa.o.trans A);clear E J A Z Y U M O N V;go_wp2;go_end0;refine⟨rfl,?_,ad.o,ab.o⟩;have:=L.o;simp only[zv,foldl_cons,foldl_nil] at this;rw[zci,X.o,<-ByteArray.append_assoc,<-ByteArray.append_assoc];exact this
 |false=>
  have H:(a.toList==b.toList)=false:=by rw[BEq.comm];exact ae
  have X:Hid (asT a b=a++({data:=#[32,97,115,32]}:BA)++b):=by show _=_;rw[asT,H];rfl
  go_wp2_with fail;refine (zbR w s [{data:=#[123,32]},a] C HP.o (by have:=HZ.o;rw[X.o] at this;simp only[zv,foldl_cons,foldl_nil,ByteArray.size_append,z1,z3] at this ⊢;omega) (by simp)).mono ?_;rintro e w1 ⟨rfl,z,K,D⟩;have I:=zc z;have ac:=zc K;have aa:=zc D;clear z K D Z Y U M O N V;obtain⟨Z,Y,U,M,O,N,V⟩:=zy I.o.2.2.1;go_wp2_with fail;refine (zbR w _ [{data:=#[32,97,115,32]},b] w1 I.o (by have:=HZ.o;rw[X.o] at this;simp only[zv,foldl_cons,foldl_nil,ByteArray.size_append,z1,z3] at this ⊢;omega) (by simp)).mono ?_;rintro e w2 ⟨rfl,E,J,A⟩;have L:=zc E;have ad:=zc (ac.o.trans J);have ab:=zc (aa.o.trans A);clear E J A Z Y U M O N V;obtain⟨Z,Y,U,M,O,N,V⟩:=zy L.o.2.2.1;go_wp2_with fail;refine (zbR w _ [{data:=#[32,125]}] w2 L.o (by have:=HZ.o;rw[X.o] at this;simp only[zv,foldl_cons,foldl_nil,ByteArray.size_append,z1,z2,z3] at this ⊢;omega) (by simp)).mono ?_;rintro e w3 ⟨rfl,af,ah,ag⟩;have aj:=zc af;have ai:=zc (ad.o.trans ah);have ak:=zc (ab.o.trans ag);clear af ah ag Z Y U M O N V;go_wp2;go_end0;refine⟨rfl,?_,ai.o,ak.o⟩;have:=aj.o;simp only[zv,foldl_cons,foldl_nil] at this;rw[zci,X.o];simp only[<-ByteArray.append_assoc] at this ⊢;exact this
end Go.Proofs.YtgcbmogmniahjaaGreat
