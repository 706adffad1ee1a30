/- Facts and walks. -/
import Derived.Deep.QuietTactic
import Derived.BigQuiet
import Derived.Test.YtgcbmogmniahjaaGreatK5
import Derived.Test.YtgcbmogmniahjaaGreatK7
namespace Go.Proofs.YtgcbmogmniahjaaGreat
open Go.Proofs.Tryz
set_option maxRecDepth 100000
set_option maxHeartbeats 3200000
open Go.RowKit Go.PlainAid
variable (z u:Int) (C:Cx) (g b c d:Nat) (S:Sv) (q:PS) (w:Int) (s:BA) (W:World)
theorem zbC (H:Nat) (S:Sv) (q:PS) (w:World) (h:IM C g b c H S q w):
  Calls prog 218 #[.pointer (some ⟨H,0,none⟩)] w fun e N=>e= .returned (tkV (ze C q.pos))/\Bw w N:=by
 obtain⟨c0,V,X,Z,_,_,_,_,_,_,Y⟩:=zai h.cells;have M:=h.lt;have I:=(zaw h.mem.tok).1;have L:=h.mem.few;by_cases O:q.pos<C.ts.length
 ·obtain⟨J,K,D,E⟩:=h.mem.tok.cells O (d:=⟨0,sNone,0,C.fin⟩);change _=some (Value.int .i64 (ze C q.pos).kind) at J;change _=some (Value.string (ze C q.pos).text) at K;change _=some (Value.int .i64 (ze C q.pos).num) at D;change _=some (Value.int .i64 (ze C q.pos).pos) at E;unfold tkV;generalize ze C q.pos=t at J K D E;have z:(q.pos:Int)<(C.ts.length:Int):=by omega
  clear h;go_enter func218,ntmps218;go_wp2_with fail;go_quiet (fail);go_wp2;go_region
  all_goals
   go_wp2;refine bodyPost_ret (results_cell_row rfl _ _ w.heap.size 158 _ (0,0) _ rfl (zhD (show ((w.alloc _).drewN _).heap[w.heap.size]? =_ from heap_alloc_new w _)) underlying158 rfl (by kernel_rfl)) rfl ?_;exact⟨rfl,zjF (zjG (bA0) _) (Nat.le_refl _) _ _ _ _⟩
 ·rw[zek (by omega)];unfold tkV;have z: ¬(q.pos:Int)<(C.ts.length:Int):=by omega
  clear h;go_enter func218,ntmps218;go_wp2_with fail;go_quiet (fail);go_wp2;refine bodyPost_ret (results_cell_row rfl _ _ w.heap.size 158 _ (0,0) _ rfl (zhD (show ((w.alloc _).drewN _).heap[w.heap.size]? =_ from heap_alloc_new w _)) underlying158 rfl (by kernel_rfl)) rfl ?_;exact⟨rfl,zjF (zjG (bA0) _) (Nat.le_refl _) _ _ _ _⟩
theorem zdo (n:World):(Instr.field 158 (.agg #[.int .i64 z,.string s,.int .i64 u,.int .i64 w]) 0).run prog n= .ok (.int .i64 z) n:=by kernel_rfl
theorem zcW (n:World):(Instr.field 158 (.agg #[.int .i64 z,.string s,.int .i64 u,.int .i64 w]) 1).run prog n= .ok (.string s) n:=by kernel_rfl
theorem zeR (n:World):(Instr.field 158 (.agg #[.int .i64 z,.string s,.int .i64 u,.int .i64 w]) 2).run prog n= .ok (.int .i64 u) n:=by kernel_rfl
theorem zow (n:World):(Instr.field 158 (.agg #[.int .i64 z,.string s,.int .i64 u,.int .i64 w]) 3).run prog n= .ok (.int .i64 w) n:=by kernel_rfl
theorem zeS (h:IM C g b c d S q W):
  Calls prog 236 #[.pointer (some ⟨d,0,none⟩)] W fun e H=>e=Pan (zt C q.pos)/\Bw W H:=by
 have E:=zc h;clear h;have K:=zow;go_enter func236,ntmps236;go_wp2_with fail;refine (zbC C g b c d S q _ E.o).mono ?_;rintro e J ⟨rfl,I⟩;unfold tkV;go_wp2;exact⟨rfl,rfl,I⟩
theorem zcu (n:World) (h:IM C g b c d S q n):
  Calls prog 246 #[.pointer (some ⟨d,0,none⟩),.int .i64 w,.string s] n fun e N=>e= .returned (.bool (isT C q.pos w s))/\Bw n N:=by
 have K:=zc h;clear h;have L:Hid (tkV (ze C q.pos)= .agg #[.int .i64 (ze C q.pos).kind,.string (ze C q.pos).text,.int .i64 (ze C q.pos).num,.int .i64 (ze C q.pos).pos]):=rfl;cases D:((ze C q.pos).kind==w) with
 |true=>
  cases J:((ze C q.pos).text.toList==s.toList) with
  |true=>
   have H:Hid (isT C q.pos w s=true):=by show isT C q.pos w s=true;rw[isT,D,J];rfl
   clear L;go_enter func246,ntmps246;go_wp2_with fail;refine (zbC C g b c d S q _ K.o).mono ?_;rintro e M ⟨rfl,A⟩;unfold tkV;generalize ze C q.pos=t at D J ⊢;go_wp2;go_ret;exact⟨zi H.o.symm,A.alloc A.size _⟩
  |false=>
   have H:Hid (isT C q.pos w s=false):=by show isT C q.pos w s=false;rw[isT,D,J];rfl
   clear L;go_enter func246,ntmps246;go_wp2_with fail;refine (zbC C g b c d S q _ K.o).mono ?_;rintro e M ⟨rfl,A⟩;unfold tkV;generalize ze C q.pos=t at D J ⊢;go_wp2;go_ret;exact⟨zi H.o.symm,A.alloc A.size _⟩
 |false=>
  have H:Hid (isT C q.pos w s=false):=zjQ D;clear L;go_enter func246,ntmps246;go_wp2_with fail;refine (zbC C g b c d S q _ K.o).mono ?_;rintro e M ⟨rfl,A⟩;unfold tkV;generalize ze C q.pos=t at D ⊢;go_wp2;go_ret;exact⟨zi H.o.symm,A.alloc A.size _⟩
theorem zP (n:World) (h:IM C g b c d S q n) (O:w≠0):
  Calls prog 229 #[.pointer (some ⟨d,0,none⟩),.int .i64 w,.string s] n fun e K=>e= .returned (.bool (isT C q.pos w s))/\IM C g b c d S (if isT C q.pos w s then adv q else q) K/\IS d S n S K:=by
 have H:=zc h;have M:=h.mem.few;clear h;cases I:isT C q.pos w s with
 |true=>
  have N:q.pos<C.ts.length:=zaB I O;go_enter func229,ntmps229;go_wp2_with fail;refine (zcu C g b c d S q w s _ H.o).mono ?_;rintro e J ⟨rfl,D⟩;rw[I];have L:Hid (IM C g b c d S q J):=H.o.later D;obtain⟨V,Z,U,Y,_,_,_,_,_,_,X⟩:=zai L.o.cells;go_wp2;go_ret;exact⟨rfl,L.o.adv N,(IS.below D).set _ _⟩
 |false=>
  go_enter func229,ntmps229;go_wp2_with fail;refine (zcu C g b c d S q w s _ H.o).mono ?_;rintro e J ⟨rfl,D⟩;rw[I];go_wp2;go_ret;exact⟨rfl,H.o.later D,IS.below D⟩
theorem zox (h:Bool) (w:World):
  Calls prog 237 #[.string s,.bool h] w fun e N=>e= .returned (.bool (zw s h))/\N=w:=by
 cases z:(s.toList==[105,109,112,111,114,116]) with
 |true=>
  have q:Hid (zw s h=true):=by show zw s h=true;simp[zw,z]
  go_enter func237,ntmps237;go_wp2;go_ret;exact⟨zi q.o.symm,rfl⟩
 |false=>
  cases A:(s.toList==[101,120,112,111,114,116]) with
  |true=>
   have q:Hid (zw s h=true):=by show zw s h=true;simp[zw,z,A]
   go_enter func237,ntmps237;go_wp2;go_ret;exact⟨zi q.o.symm,rfl⟩
  |false=>
   cases D:(s.toList==[100,101,102,97,117,108,116]) with
   |true=>
    have q:Hid (zw s h=true):=by show zw s h=true;simp[zw,z,A,D]
    go_enter func237,ntmps237;go_wp2;go_ret;exact⟨zi q.o.symm,rfl⟩
   |false=>
    cases E:(s.toList==[108,101,116]) with
    |true=>
     have q:Hid (zw s h=true):=by show zw s h=true;simp[zw,z,A,D,E]
     go_enter func237,ntmps237;go_wp2;go_ret;exact⟨zi q.o.symm,rfl⟩
    |false=>
     cases H:(s.toList==[102,117,110,99,116,105,111,110]) with
     |true=>
      have q:Hid (zw s h=true):=by show zw s h=true;simp[zw,z,A,D,E,H]
      go_enter func237,ntmps237;go_wp2;go_ret;exact⟨zi q.o.symm,rfl⟩
     |false=>
      cases I:(s.toList==[114,101,116,117,114,110]) with
      |true=>
       have q:Hid (zw s h=true):=by show zw s h=true;simp[zw,z,A,D,E,H,I]
       go_enter func237,ntmps237;go_wp2;go_ret;exact⟨zi q.o.symm,rfl⟩
      |false=>
       cases J:(s.toList==[112,114,105,110,116]) with
       |true=>
        have q:Hid (zw s h=true):=by show zw s h=true;simp[zw,z,A,D,E,H,I,J]
        go_enter func237,ntmps237;go_wp2;go_ret;exact⟨zi q.o.symm,rfl⟩
       |false=>
        cases K:(s.toList==[116,104,114,111,119]) with
        |true=>
         have q:Hid (zw s h=true):=by show zw s h=true;simp[zw,z,A,D,E,H,I,J,K]
         go_enter func237,ntmps237;go_wp2;go_ret;exact⟨zi q.o.symm,rfl⟩
        |false=>
         cases L:(s.toList==[102,97,105,108]) with
         |true=>
          have q:Hid (zw s h=h):=by show zw s h=h;simp[zw,z,A,D,E,H,I,J,K,L]
          go_enter func237,ntmps237;go_wp2;go_ret;exact⟨zi q.o.symm,rfl⟩
         |false=>
          cases M:(s.toList==[117,110,100,101,102]) with
          |true=>
           have q:Hid (zw s h=h):=by show zw s h=h;simp[zw,z,A,D,E,H,I,J,K,L,M]
           go_enter func237,ntmps237;go_wp2;go_ret;exact⟨zi q.o.symm,rfl⟩
          |false=>
           have q:Hid (zw s h=false):=by show zw s h=false;simp[zw,z,A,D,E,H,I,J,K,L,M]
           go_enter func237,ntmps237;go_wp2;go_ret;exact⟨zi q.o.symm,rfl⟩
theorem zep (A base z:Nat) (S:Sv) (q:PS) (k:Int) (w:World) (h:IM C g A base z S q w) (K:((ze C q.pos).kind==k)=true) (Y:k≠0):
  Calls prog 238 #[.pointer (some ⟨z,0,none⟩),.int .i64 k] w fun e N=>e= .returned (tkV (ze C q.pos))/\IM C g A base z S (adv q) N/\IS z S w S N:=by
 have X:=h.mem.few;have hp:q.pos<C.ts.length:=zgj K Y;have J:((ze C q.pos).kind !=k)=false:=by rw[bne,K];rfl
 go_enter func238,ntmps238;go_wp2_with fail;refine (zbC C g A base z S q _ (h.alloc _)).mono ?_;rintro e D ⟨rfl,H⟩;have U:Bw w D:=(bA0).trans (H.mono (by rw[zg];omega));have O:Hid (D.heap[w.heap.size]? =_):=(H.block _ (by rw[zg];omega)).trans (heap_alloc_new w _);have aa:w.heap.size<D.heap.size:=by have:=H.size;rw[zg] at this;omega
 have M:Hid (IM C g A base z S q D):=h.later U;have Z:z<w.heap.size:=h.lt;have V:z<D.heap.size:=M.o.lt;obtain⟨c0,c1,c2,c3,_,_,_,_,_,_,cf⟩:=zai M.o.cells;obtain⟨d0,d1,d2,d3,df⟩:=zbN O.o;clear H;unfold tkV;generalize E:ze C q.pos=t at K J ⊢;have L:=zc E;clear E;go_wp2;refine bodyPost_ret (results_cell_row rfl _ _ w.heap.size 158 _ (0,0) _ rfl (zcH (zhD ((zx (c:=z) (by omega)).trans O.o))) underlying158 rfl (by kernel_rfl)) rfl ?_;refine⟨by rw[L.o];rfl,?_,?_⟩
 ·exact (IM.scratch (b:=w.heap.size) (M.o.adv hp) (by omega) (by have:=(zaw h.mem.tok).1;omega) (fun n=>by have:=(h.mem.own.has n).2;omega) ..).alloc _
 ·exact (IS.scratch (b:=w.heap.size) ((IS.below U).set _ _) (Nat.le_refl _) ..).alloc _
theorem zjR (n:World) (h:IM C g b c d S q n) (L:((ze C q.pos).kind==w)=false):
  Calls prog 238 #[.pointer (some ⟨d,0,none⟩),.int .i64 w] n fun e N=>e=Pan (zt C q.pos)/\Bw n N:=by
 have M:((ze C q.pos).kind !=w)=true:=by rw[bne,L];rfl
 go_enter func238,ntmps238;go_wp2_with fail;refine (zbC C g b c d S q _ (h.alloc _)).mono ?_;rintro e J ⟨rfl,K⟩;have D:Bw n J:=(bA0).trans (K.mono (by rw[zg];omega));have O:Hid (IM C g b c d S q J):=h.later D;clear K;unfold tkV;go_wp2_with fail;refine (zeS C g b c d S q _ (O.o.alloc _)).mono ?_;rintro e U ⟨rfl,H⟩;have I:Bw n U:=(D.alloc D.size _).trans (H.mono (by rw[zg];have:=D.size;omega));unfold Pan;go_wp2;exact⟨rfl,rfl,I⟩
theorem zeT (h:IM C g b c d S q W):
  Calls prog 227 #[.pointer (some ⟨d,0,none⟩),.string s] W (zV C g b c d (zd C 1 s q) id (fun _=>.tuple #[]) S W):=by
 cases J:isT C q.pos 1 s with
 |true=>
  have L:Hid (zd C 1 s q= .ok (adv q)):=if_pos J;go_enter func227,ntmps227;go_wp2_with fail;refine (zP C g b c d S q 1 s _ h (by decide)).mono ?_;rintro e M ⟨rfl,A,I⟩;rw[J] at A ⊢;have H:=zc A;clear A;go_wp2;go_end0;rw[L.o];exact⟨rfl,S,H.o,I⟩
 |false=>
  have L:Hid (zd C 1 s q= .error (zt C q.pos)):=by show zd C 1 s q=_;rw[zd,J];rfl
  go_enter func227,ntmps227;go_wp2_with fail;refine (zP C g b c d S q 1 s _ h (by decide)).mono ?_;rintro e M ⟨rfl,A,I⟩;rw[J] at A ⊢;have H:=zc A;have O:=I.under h.mem.base h.mem.own h.ge;clear A I;go_wp2_with fail;refine (zeS C g b c d S q _ H.o).mono ?_;rintro e U ⟨rfl,K⟩;have N:=O.trans (K.mono H.o.mem.base);unfold Pan;go_wp2;refine⟨rfl,?_⟩;rw[L.o];exact⟨rfl,N⟩
end Go.Proofs.YtgcbmogmniahjaaGreat
