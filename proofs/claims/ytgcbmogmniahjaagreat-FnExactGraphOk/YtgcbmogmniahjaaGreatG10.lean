/- Facts and walks that the theorem stands on. -/
import Derived.Deep.QuietTactic
import Derived.BigQuiet
import Derived.Test.YtgcbmogmniahjaaGreatG5
import Derived.Test.YtgcbmogmniahjaaGreatG7
namespace Go.Proofs.YtgcbmogmniahjaaGreat
open Go.Proofs.Tryz
set_option maxRecDepth 100000
set_option maxHeartbeats 3200000
open Go.RowKit Go.PlainAid
theorem zb7 (C:Cx) (U A base H:Nat) (S:Sv) (q:PS) (w:World) (h:IM C U A base H S q w):
  Calls prog 218 #[.pointer (some ⟨H,0,none⟩)] w fun e N=>e= .returned (tkV (ze C q.pos))/\Below w.heap.size w N:=by
 obtain⟨c0,V,X,Z,_,_,_,_,_,_,Y⟩:=zag h.cells;have M:=h.lt;have I:=(zat h.mem.tok).1;have L:=h.mem.few;by_cases O:q.pos<C.ts.length
 ·obtain⟨J,K,D,E⟩:=h.mem.tok.cells O (d:=⟨0,sNone,0,C.fin⟩);change _=some (Value.int .i64 (ze C q.pos).kind) at J;change _=some (Value.string (ze C q.pos).text) at K;change _=some (Value.int .i64 (ze C q.pos).num) at D;change _=some (Value.int .i64 (ze C q.pos).pos) at E;unfold tkV;generalize ze C q.pos=t at J K D E;have z:(q.pos:Int)<(C.ts.length:Int):=by omega
  clear h;go_enter func218,ntmps218;go_wp2_with fail;go_quiet (fail);go_wp2;go_region
  all_goals
   go_wp2;refine bodyPost_ret (results_cell_row rfl _ _ w.heap.size 158 _ (0,0) _ rfl (zhp (show ((w.alloc _).drewN _).heap[w.heap.size]? =_ from heap_alloc_new w _)) underlying158 rfl (by kernel_rfl)) rfl ?_;exact⟨rfl,zjh (zji ((Below.refl _ _).alloc (Nat.le_refl _) _) _) (Nat.le_refl _) _ _ _ _⟩
 ·rw[zdR (by omega)];unfold tkV;have z: ¬(q.pos:Int)<(C.ts.length:Int):=by omega
  clear h;go_enter func218,ntmps218;go_wp2_with fail;go_quiet (fail);go_wp2;refine bodyPost_ret (results_cell_row rfl _ _ w.heap.size 158 _ (0,0) _ rfl (zhp (show ((w.alloc _).drewN _).heap[w.heap.size]? =_ from heap_alloc_new w _)) underlying158 rfl (by kernel_rfl)) rfl ?_;exact⟨rfl,zjh (zji ((Below.refl _ _).alloc (Nat.le_refl _) _) _) (Nat.le_refl _) _ _ _ _⟩
theorem zdb (a c d:Int) (b:BA) (w:World):(Instr.field 158 (.agg #[.int .i64 a,.string b,.int .i64 c,.int .i64 d]) 0).run prog w= .ok (.int .i64 a) w:=by kernel_rfl
theorem zcM (a c d:Int) (b:BA) (w:World):(Instr.field 158 (.agg #[.int .i64 a,.string b,.int .i64 c,.int .i64 d]) 1).run prog w= .ok (.string b) w:=by kernel_rfl
theorem ze9 (a c d:Int) (b:BA) (w:World):(Instr.field 158 (.agg #[.int .i64 a,.string b,.int .i64 c,.int .i64 d]) 2).run prog w= .ok (.int .i64 c) w:=by kernel_rfl
theorem zn9 (a c d:Int) (b:BA) (w:World):(Instr.field 158 (.agg #[.int .i64 a,.string b,.int .i64 c,.int .i64 d]) 3).run prog w= .ok (.int .i64 d) w:=by kernel_rfl
theorem zeA (C:Cx) (D z base A:Nat) (S:Sv) (q:PS) (w:World) (h:IM C D z base A S q w):
  Calls prog 236 #[.pointer (some ⟨A,0,none⟩)] w fun e H=>e=Pan (zs C q.pos)/\Below w.heap.size w H:=by
 have E:=zc h;clear h;have K:=zn9;go_enter func236,ntmps236;go_wp2_with fail;refine (zb7 C D z base A S q _ E.o).mono ?_;rintro e J ⟨rfl,I⟩;unfold tkV;go_wp2;exact⟨rfl,rfl,I⟩
theorem zcm (C:Cx) (I z base E:Nat) (S:Sv) (q:PS) (k:Int) (x:BA) (w:World) (h:IM C I z base E S q w):
  Calls prog 246 #[.pointer (some ⟨E,0,none⟩),.int .i64 k,.string x] w fun e N=>e= .returned (.bool (isT C q.pos k x))/\Below w.heap.size w N:=by
 have K:=zc h;clear h;have L:Hid (tkV (ze C q.pos)= .agg #[.int .i64 (ze C q.pos).kind,.string (ze C q.pos).text,.int .i64 (ze C q.pos).num,.int .i64 (ze C q.pos).pos]):=rfl;cases D:((ze C q.pos).kind==k) with
 |true=>
  cases J:((ze C q.pos).text.toList==x.toList) with
  |true=>
   have H:Hid (isT C q.pos k x=true):=by show isT C q.pos k x=true;rw[isT,D,J];rfl
   clear L;go_enter func246,ntmps246;go_wp2_with fail;refine (zb7 C I z base E S q _ K.o).mono ?_;rintro e M ⟨rfl,A⟩;unfold tkV;generalize ze C q.pos=t at D J ⊢;go_wp2;go_ret;exact⟨zi H.o.symm,A.alloc A.size _⟩
  |false=>
   have H:Hid (isT C q.pos k x=false):=by show isT C q.pos k x=false;rw[isT,D,J];rfl
   clear L;go_enter func246,ntmps246;go_wp2_with fail;refine (zb7 C I z base E S q _ K.o).mono ?_;rintro e M ⟨rfl,A⟩;unfold tkV;generalize ze C q.pos=t at D J ⊢;go_wp2;go_ret;exact⟨zi H.o.symm,A.alloc A.size _⟩
 |false=>
  have H:Hid (isT C q.pos k x=false):=zjs D;clear L;go_enter func246,ntmps246;go_wp2_with fail;refine (zb7 C I z base E S q _ K.o).mono ?_;rintro e M ⟨rfl,A⟩;unfold tkV;generalize ze C q.pos=t at D ⊢;go_wp2;go_ret;exact⟨zi H.o.symm,A.alloc A.size _⟩
theorem zN (C:Cx) (E z base A:Nat) (S:Sv) (q:PS) (k:Int) (x:BA) (w:World) (h:IM C E z base A S q w) (O:k≠0):
  Calls prog 229 #[.pointer (some ⟨A,0,none⟩),.int .i64 k,.string x] w fun e K=>e= .returned (.bool (isT C q.pos k x))/\IM C E z base A S (if isT C q.pos k x then adv q else q) K/\IS A S w S K:=by
 have H:=zc h;have M:=h.mem.few;clear h;cases I:isT C q.pos k x with
 |true=>
  have N:q.pos<C.ts.length:=za7 I O;go_enter func229,ntmps229;go_wp2_with fail;refine (zcm C E z base A S q k x _ H.o).mono ?_;rintro e J ⟨rfl,D⟩;rw[I];have L:Hid (IM C E z base A S q J):=H.o.later D;obtain⟨V,Z,U,Y,_,_,_,_,_,_,X⟩:=zag L.o.cells;go_wp2;go_ret;exact⟨rfl,L.o.adv N,(IS.below D).set _ _⟩
 |false=>
  go_enter func229,ntmps229;go_wp2_with fail;refine (zcm C E z base A S q k x _ H.o).mono ?_;rintro e J ⟨rfl,D⟩;rw[I];go_wp2;go_ret;exact⟨rfl,H.o.later D,IS.below D⟩
theorem znA (s:BA) (h:Bool) (w:World):
  Calls prog 237 #[.string s,.bool h] w fun e N=>e= .returned (.bool (zu s h))/\N=w:=by
 cases z:(s.toList==[105,109,112,111,114,116]) with
 |true=>
  have q:Hid (zu s h=true):=by show zu s h=true;simp[zu,z]
  go_enter func237,ntmps237;go_wp2;go_ret;exact⟨zi q.o.symm,rfl⟩
 |false=>
  cases A:(s.toList==[101,120,112,111,114,116]) with
  |true=>
   have q:Hid (zu s h=true):=by show zu s h=true;simp[zu,z,A]
   go_enter func237,ntmps237;go_wp2;go_ret;exact⟨zi q.o.symm,rfl⟩
  |false=>
   cases D:(s.toList==[100,101,102,97,117,108,116]) with
   |true=>
    have q:Hid (zu s h=true):=by show zu s h=true;simp[zu,z,A,D]
    go_enter func237,ntmps237;go_wp2;go_ret;exact⟨zi q.o.symm,rfl⟩
   |false=>
    cases E:(s.toList==[108,101,116]) with
    |true=>
     have q:Hid (zu s h=true):=by show zu s h=true;simp[zu,z,A,D,E]
     go_enter func237,ntmps237;go_wp2;go_ret;exact⟨zi q.o.symm,rfl⟩
    |false=>
     cases H:(s.toList==[102,117,110,99,116,105,111,110]) with
     |true=>
      have q:Hid (zu s h=true):=by show zu s h=true;simp[zu,z,A,D,E,H]
      go_enter func237,ntmps237;go_wp2;go_ret;exact⟨zi q.o.symm,rfl⟩
     |false=>
      cases I:(s.toList==[114,101,116,117,114,110]) with
      |true=>
       have q:Hid (zu s h=true):=by show zu s h=true;simp[zu,z,A,D,E,H,I]
       go_enter func237,ntmps237;go_wp2;go_ret;exact⟨zi q.o.symm,rfl⟩
      |false=>
       cases J:(s.toList==[112,114,105,110,116]) with
       |true=>
        have q:Hid (zu s h=true):=by show zu s h=true;simp[zu,z,A,D,E,H,I,J]
        go_enter func237,ntmps237;go_wp2;go_ret;exact⟨zi q.o.symm,rfl⟩
       |false=>
        cases K:(s.toList==[116,104,114,111,119]) with
        |true=>
         have q:Hid (zu s h=true):=by show zu s h=true;simp[zu,z,A,D,E,H,I,J,K]
         go_enter func237,ntmps237;go_wp2;go_ret;exact⟨zi q.o.symm,rfl⟩
        |false=>
         cases L:(s.toList==[102,97,105,108]) with
         |true=>
          have q:Hid (zu s h=h):=by show zu s h=h;simp[zu,z,A,D,E,H,I,J,K,L]
          go_enter func237,ntmps237;go_wp2;go_ret;exact⟨zi q.o.symm,rfl⟩
         |false=>
          cases M:(s.toList==[117,110,100,101,102]) with
          |true=>
           have q:Hid (zu s h=h):=by show zu s h=h;simp[zu,z,A,D,E,H,I,J,K,L,M]
           go_enter func237,ntmps237;go_wp2;go_ret;exact⟨zi q.o.symm,rfl⟩
          |false=>
           have q:Hid (zu s h=false):=by show zu s h=false;simp[zu,z,A,D,E,H,I,J,K,L,M]
           go_enter func237,ntmps237;go_wp2;go_ret;exact⟨zi q.o.symm,rfl⟩
theorem zdX (C:Cx) (I A base z:Nat) (S:Sv) (q:PS) (k:Int) (w:World) (h:IM C I A base z S q w) (K:((ze C q.pos).kind==k)=true) (Y:k≠0):
  Calls prog 238 #[.pointer (some ⟨z,0,none⟩),.int .i64 k] w fun e N=>e= .returned (tkV (ze C q.pos))/\IM C I A base z S (adv q) N/\IS z S w S N:=by
 have X:=h.mem.few;have hp:q.pos<C.ts.length:=zfR K Y;have J:((ze C q.pos).kind !=k)=false:=by rw[bne,K];rfl
 go_enter func238,ntmps238;go_wp2_with fail;refine (zb7 C I A base z S q _ (h.alloc _)).mono ?_;rintro e D ⟨rfl,H⟩;have U:Below w.heap.size w D:=((Below.refl _ _).alloc (Nat.le_refl _) _).trans (H.mono (by rw[zg];omega));have O:Hid (D.heap[w.heap.size]? =_):=(H.block _ (by rw[zg];omega)).trans (heap_alloc_new w _);have aa:w.heap.size<D.heap.size:=by have:=H.size;rw[zg] at this;omega
 have M:Hid (IM C I A base z S q D):=h.later U;have Z:z<w.heap.size:=h.lt;have V:z<D.heap.size:=M.o.lt;obtain⟨c0,c1,c2,c3,_,_,_,_,_,_,cf⟩:=zag M.o.cells;obtain⟨d0,d1,d2,d3,df⟩:=zbH O.o;clear H;unfold tkV;generalize E:ze C q.pos=t at K J ⊢;have L:=zc E;clear E;go_wp2;refine bodyPost_ret (results_cell_row rfl _ _ w.heap.size 158 _ (0,0) _ rfl (zc9 (zhp ((zv (c:=z) (by omega)).trans O.o))) underlying158 rfl (by kernel_rfl)) rfl ?_;refine⟨by rw[L.o];rfl,?_,?_⟩
 ·exact (IM.scratch (b:=w.heap.size) (M.o.adv hp) (by omega) (by have:=(zat h.mem.tok).1;omega) (fun g=>by have:=(h.mem.own.has g).2;omega) ..).alloc _
 ·exact (IS.scratch (b:=w.heap.size) ((IS.below U).set _ _) (Nat.le_refl _) ..).alloc _
theorem zjt (C:Cx) (E z base A:Nat) (S:Sv) (q:PS) (k:Int) (w:World) (h:IM C E z base A S q w) (L:((ze C q.pos).kind==k)=false):
  Calls prog 238 #[.pointer (some ⟨A,0,none⟩),.int .i64 k] w fun e N=>e=Pan (zs C q.pos)/\Below w.heap.size w N:=by
 have M:((ze C q.pos).kind !=k)=true:=by rw[bne,L];rfl
 go_enter func238,ntmps238;go_wp2_with fail;refine (zb7 C E z base A S q _ (h.alloc _)).mono ?_;rintro e J ⟨rfl,K⟩;have D:Below w.heap.size w J:=((Below.refl _ _).alloc (Nat.le_refl _) _).trans (K.mono (by rw[zg];omega));have O:Hid (IM C E z base A S q J):=h.later D;clear K;unfold tkV;go_wp2_with fail;refine (zeA C E z base A S q _ (O.o.alloc _)).mono ?_;rintro e U ⟨rfl,H⟩;have I:Below w.heap.size w U:=(D.alloc D.size _).trans (H.mono (by rw[zg];have:=D.size;omega));unfold Pan;go_wp2;exact⟨rfl,rfl,I⟩
theorem zeB (C:Cx) (E z base D:Nat) (S:Sv) (q:PS) (x:BA) (w:World) (h:IM C E z base D S q w):
  Calls prog 227 #[.pointer (some ⟨D,0,none⟩),.string x] w (zT C E z base D (zd C 1 x q) id (fun _=>.tuple #[]) S w):=by
 cases J:isT C q.pos 1 x with
 |true=>
  have L:Hid (zd C 1 x q= .ok (adv q)):=if_pos J;go_enter func227,ntmps227;go_wp2_with fail;refine (zN C E z base D S q 1 x _ h (by decide)).mono ?_;rintro e M ⟨rfl,A,I⟩;rw[J] at A ⊢;have H:=zc A;clear A;go_wp2;go_end0;rw[L.o];exact⟨rfl,S,H.o,I⟩
 |false=>
  have L:Hid (zd C 1 x q= .error (zs C q.pos)):=by show zd C 1 x q=_;rw[zd,J];rfl
  go_enter func227,ntmps227;go_wp2_with fail;refine (zN C E z base D S q 1 x _ h (by decide)).mono ?_;rintro e M ⟨rfl,A,I⟩;rw[J] at A ⊢;have H:=zc A;have O:=I.under h.mem.base h.mem.own h.ge;clear A I;go_wp2_with fail;refine (zeA C E z base D S q _ H.o).mono ?_;rintro e U ⟨rfl,K⟩;have N:=O.trans (K.mono H.o.mem.base);unfold Pan;go_wp2;refine⟨rfl,?_⟩;rw[L.o];exact⟨rfl,N⟩
end Go.Proofs.YtgcbmogmniahjaaGreat
