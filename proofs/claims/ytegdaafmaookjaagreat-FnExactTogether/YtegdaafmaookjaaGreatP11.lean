/- Facts. -/
import Derived.Deep.QuietTactic
import Derived.BigQuiet
import Derived.Test.YtegdaafmaookjaaGreatP6
import Derived.Test.YtegdaafmaookjaaGreatP8
namespace Go.Proofs.YtegdaafmaookjaaGreat
open Go.Proofs.Tryz
set_option maxRecDepth 100000
set_option maxHeartbeats 3200000
open Go.RowKit Go.PlainAid
variable (z u:Int) (C:Cx) (g b c d:Nat) (S:Sv) (q:PS) (w:Int) (s:BA0) (W:World)
theorem zbL (L:Nat) (S:Sv) (q:PS) (w:World) (h:IM C g b c L S q w):
  Calls prog 234 #[.pointer (some ⟨L,0,none⟩)] w fun e w'=>e= .returned (tkV (ze C q.pos))/\Bw w w':=by
 obtain⟨Z,c1,Y,c3,_,_,_,_,_,_,cf⟩:=zan h.cells;have V:=h.lt;have M:=(za1 h.mem.tok).1;have N:=h.mem.few;by_cases U:q.pos<C.ts.length
 ·obtain⟨O,K,I,J⟩:=h.mem.tok.cells U (d:=⟨0,sNone,0,C.fin⟩);change _=some (Value.int .i64 (ze C q.pos).kind) at O;change _=some (Value.string (ze C q.pos).text) at K;change _=some (Value.int .i64 (ze C q.pos).num) at I;change _=some (Value.int .i64 (ze C q.pos).pos) at J;unfold tkV;generalize ze C q.pos=t at O K I J;have A:(q.pos:Int)<(C.ts.length:Int):=by omega
  clear h;go_enter func234,ntmps234;go_wp2_with fail;go_quiet (fail);go_wp2;go_region
  all_goals
   go_wp2;refine bodyPost_ret (results_cell_row rfl _ _ w.heap.size 157 _ (0,0) _ rfl (zi4 (show ((w.alloc _).drewN _).heap[w.heap.size]? =_ from hN0 w _)) underlying157 rfl (by kernel_rfl)) rfl ?_;exact⟨rfl,zkB (zkC (bA0) _) (Nat.le_refl _) _ _ _ _⟩
 ·rw[ze8 (by omega)];unfold tkV;have A: ¬(q.pos:Int)<(C.ts.length:Int):=by omega
  clear h;go_enter func234,ntmps234;go_wp2_with fail;go_quiet (fail);go_wp2;refine bodyPost_ret (results_cell_row rfl _ _ w.heap.size 157 _ (0,0) _ rfl (zi4 (show ((w.alloc _).drewN _).heap[w.heap.size]? =_ from hN0 w _)) underlying157 rfl (by kernel_rfl)) rfl ?_;exact⟨rfl,zkB (zkC (bA0) _) (Nat.le_refl _) _ _ _ _⟩
theorem zd4 (n:World):(Instr.field 157 (.agg #[.int .i64 z,.string s,.int .i64 u,.int .i64 w]) 0).run prog n= .ok (.int .i64 z) n:=by kernel_rfl
theorem zdk (n:World):(Instr.field 157 (.agg #[.int .i64 z,.string s,.int .i64 u,.int .i64 w]) 1).run prog n= .ok (.string s) n:=by kernel_rfl
theorem zfs (n:World):(Instr.field 157 (.agg #[.int .i64 z,.string s,.int .i64 u,.int .i64 w]) 2).run prog n= .ok (.int .i64 u) n:=by kernel_rfl
theorem zqi (n:World):(Instr.field 157 (.agg #[.int .i64 z,.string s,.int .i64 u,.int .i64 w]) 3).run prog n= .ok (.int .i64 w) n:=by kernel_rfl
theorem zft (h:IM C g b c d S q W):
  Calls prog 252 #[.pointer (some ⟨d,0,none⟩)] W fun e w'=>e=Pan (zz C q.pos)/\Bw W w':=by
 have J:=zc h;clear h;have M:=zqi;go_enter func252,ntmps252;go_wp2_with fail;refine (zbL C g b c d S q _ J.o).mono ?_;rintro e L ⟨rfl,K⟩;unfold tkV;go_wp2;exact⟨rfl,rfl,K⟩
theorem zc4 (n:World) (h:IM C g b c d S q n):
  Calls prog 262 #[.pointer (some ⟨d,0,none⟩),.int .i64 w,.string s] n fun e w'=>e= .returned (.bool (isT C q.pos w s))/\Bw n w':=by
 have N:=zc h;clear h;have O:Hid (tkV (ze C q.pos)= .agg #[.int .i64 (ze C q.pos).kind,.string (ze C q.pos).text,.int .i64 (ze C q.pos).num,.int .i64 (ze C q.pos).pos]):=rfl;cases I:((ze C q.pos).kind==w) with
 |true=>
  cases M:((ze C q.pos).text.toList==s.toList) with
  |true=>
   have K:Hid (isT C q.pos w s=true):=by show isT C q.pos w s=true;rw[isT,I,M];rfl
   clear O;go_enter func262,ntmps262;go_wp2_with fail;refine (zbL C g b c d S q _ N.o).mono ?_;rintro e U ⟨rfl,H⟩;unfold tkV;generalize ze C q.pos=t at I M ⊢;go_wp2;go_ret;exact⟨zk K.o.symm,H.alloc H.size _⟩
  |false=>
   have K:Hid (isT C q.pos w s=false):=by show isT C q.pos w s=false;rw[isT,I,M];rfl
   clear O;go_enter func262,ntmps262;go_wp2_with fail;refine (zbL C g b c d S q _ N.o).mono ?_;rintro e U ⟨rfl,H⟩;unfold tkV;generalize ze C q.pos=t at I M ⊢;go_wp2;go_ret;exact⟨zk K.o.symm,H.alloc H.size _⟩
 |false=>
  have K:Hid (isT C q.pos w s=false):=zkM I;clear O;go_enter func262,ntmps262;go_wp2_with fail;refine (zbL C g b c d S q _ N.o).mono ?_;rintro e U ⟨rfl,H⟩;unfold tkV;generalize ze C q.pos=t at I ⊢;go_wp2;go_ret;exact⟨zk K.o.symm,H.alloc H.size _⟩
theorem zV (n:World) (h:IM C g b c d S q n) (V:w≠0):
  Calls prog 245 #[.pointer (some ⟨d,0,none⟩),.int .i64 w,.string s] n fun e w'=>e= .returned (.bool (isT C q.pos w s))/\IM C g b c d S (if isT C q.pos w s then adv q else q) w'/\IS d S n S w':=by
 have K:=zc h;have O:=h.mem.few;clear h;cases L:isT C q.pos w s with
 |true=>
  have U:q.pos<C.ts.length:=zaG L V;go_enter func245,ntmps245;go_wp2_with fail;refine (zc4 C g b c d S q w s _ K.o).mono ?_;rintro e M ⟨rfl,I⟩;rw[L];have N:Hid (IM C g b c d S q M):=K.o.later I;obtain⟨Y,c1,X,c3,_,_,_,_,_,_,Z⟩:=zan N.o.cells;go_wp2;go_ret;exact⟨rfl,N.o.adv U,(IS.below I).set _ _⟩
 |false=>
  go_enter func245,ntmps245;go_wp2_with fail;refine (zc4 C g b c d S q w s _ K.o).mono ?_;rintro e M ⟨rfl,I⟩;rw[L];go_wp2;go_ret;exact⟨rfl,K.o.later I,IS.below I⟩
theorem zqj (h:Bool) (w:World):
  Calls prog 253 #[.string s,.bool h] w fun e w'=>e= .returned (.bool (zB s h))/\w'=w:=by
 cases A:(s.toList==[105,109,112,111,114,116]) with
 |true=>
  have q:Hid (zB s h=true):=by show zB s h=true;simp[zB,A]
  go_enter func253,ntmps253;go_wp2;go_ret;exact⟨zk q.o.symm,rfl⟩
 |false=>
  cases H:(s.toList==[101,120,112,111,114,116]) with
  |true=>
   have q:Hid (zB s h=true):=by show zB s h=true;simp[zB,A,H]
   go_enter func253,ntmps253;go_wp2;go_ret;exact⟨zk q.o.symm,rfl⟩
  |false=>
   cases I:(s.toList==[100,101,102,97,117,108,116]) with
   |true=>
    have q:Hid (zB s h=true):=by show zB s h=true;simp[zB,A,H,I]
    go_enter func253,ntmps253;go_wp2;go_ret;exact⟨zk q.o.symm,rfl⟩
   |false=>
    cases J:(s.toList==[108,101,116]) with
    |true=>
     have q:Hid (zB s h=true):=by show zB s h=true;simp[zB,A,H,I,J]
     go_enter func253,ntmps253;go_wp2;go_ret;exact⟨zk q.o.symm,rfl⟩
    |false=>
     cases K:(s.toList==[102,117,110,99,116,105,111,110]) with
     |true=>
      have q:Hid (zB s h=true):=by show zB s h=true;simp[zB,A,H,I,J,K]
      go_enter func253,ntmps253;go_wp2;go_ret;exact⟨zk q.o.symm,rfl⟩
     |false=>
      cases L:(s.toList==[114,101,116,117,114,110]) with
      |true=>
       have q:Hid (zB s h=true):=by show zB s h=true;simp[zB,A,H,I,J,K,L]
       go_enter func253,ntmps253;go_wp2;go_ret;exact⟨zk q.o.symm,rfl⟩
      |false=>
       cases M:(s.toList==[112,114,105,110,116]) with
       |true=>
        have q:Hid (zB s h=true):=by show zB s h=true;simp[zB,A,H,I,J,K,L,M]
        go_enter func253,ntmps253;go_wp2;go_ret;exact⟨zk q.o.symm,rfl⟩
       |false=>
        cases N:(s.toList==[116,104,114,111,119]) with
        |true=>
         have q:Hid (zB s h=true):=by show zB s h=true;simp[zB,A,H,I,J,K,L,M,N]
         go_enter func253,ntmps253;go_wp2;go_ret;exact⟨zk q.o.symm,rfl⟩
        |false=>
         cases O:(s.toList==[102,97,105,108]) with
         |true=>
          have q:Hid (zB s h=h):=by show zB s h=h;simp[zB,A,H,I,J,K,L,M,N,O]
          go_enter func253,ntmps253;go_wp2;go_ret;exact⟨zk q.o.symm,rfl⟩
         |false=>
          cases U:(s.toList==[117,110,100,101,102]) with
          |true=>
           have q:Hid (zB s h=h):=by show zB s h=h;simp[zB,A,H,I,J,K,L,M,N,O,U]
           go_enter func253,ntmps253;go_wp2;go_ret;exact⟨zk q.o.symm,rfl⟩
          |false=>
           have q:Hid (zB s h=false):=by show zB s h=false;simp[zB,A,H,I,J,K,L,M,N,O,U]
           go_enter func253,ntmps253;go_wp2;go_ret;exact⟨zk q.o.symm,rfl⟩
theorem zeD (H base A:Nat) (S:Sv) (q:PS) (k:Int) (w:World) (h:IM C g H base A S q w) (N:((ze C q.pos).kind==k)=true) (h0:k≠0):
  Calls prog 254 #[.pointer (some ⟨A,0,none⟩),.int .i64 k] w fun e w'=>e= .returned (tkV (ze C q.pos))/\IM C g H base A S (adv q) w'/\IS A S w S w':=by
 have Z:=h.mem.few;have hp:q.pos<C.ts.length:=zgO N h0;have M:((ze C q.pos).kind !=k)=false:=by rw[bne,N];rfl
 go_enter func254,ntmps254;go_wp2_with fail;refine (zbL C g H base A S q _ (h.alloc _)).mono ?_;rintro e I ⟨rfl,K⟩;have X:Bw w I:=(bA0).trans (K.mono (by rw[zh];omega));have V:Hid (I.heap[w.heap.size]? =_):=(K.block _ (by rw[zh];omega)).trans (hN0 w _);have ab:w.heap.size<I.heap.size:=by have:=K.size;rw[zh] at this;omega
 have U:Hid (IM C g H base A S q I):=h.later X;have aa:A<w.heap.size:=h.lt;have Y:A<I.heap.size:=U.o.lt;obtain⟨c0,c1,c2,c3,_,_,_,_,_,_,cf⟩:=zan U.o.cells;obtain⟨d0,d1,d2,d3,df⟩:=zbW V.o;clear K;unfold tkV;generalize J:ze C q.pos=t at N M ⊢;have O:=zc J;clear J;go_wp2;refine bodyPost_ret (results_cell_row rfl _ _ w.heap.size 157 _ (0,0) _ rfl (zcV (zi4 ((zC (c:=A) (by omega)).trans V.o))) underlying157 rfl (by kernel_rfl)) rfl ?_;refine⟨by rw[O.o];rfl,?_,?_⟩
 ·exact (IM.scratch (b:=w.heap.size) (U.o.adv hp) (by omega) (by have:=(za1 h.mem.tok).1;omega) (fun n=>by have:=(h.mem.own.has n).2;omega) ..).alloc _
 ·exact (IS.scratch (b:=w.heap.size) ((IS.below X).set _ _) (Nat.le_refl _) ..).alloc _
theorem zkN (n:World) (h:IM C g b c d S q n) (O:((ze C q.pos).kind==w)=false):
  Calls prog 254 #[.pointer (some ⟨d,0,none⟩),.int .i64 w] n fun e w'=>e=Pan (zz C q.pos)/\Bw n w':=by
 have U:((ze C q.pos).kind !=w)=true:=by rw[bne,O];rfl
 go_enter func254,ntmps254;go_wp2_with fail;refine (zbL C g b c d S q _ (h.alloc _)).mono ?_;rintro e M ⟨rfl,N⟩;have I:Bw n M:=(bA0).trans (N.mono (by rw[zh];omega));have V:Hid (IM C g b c d S q M):=h.later I;clear N;unfold tkV;go_wp2_with fail;refine (zft C g b c d S q _ (V.o.alloc _)).mono ?_;rintro e X ⟨rfl,K⟩;have L:Bw n X:=(I.alloc I.size _).trans (K.mono (by rw[zh];have:=I.size;omega));unfold Pan;go_wp2;exact⟨rfl,rfl,L⟩
theorem zfu (h:IM C g b c d S q W):
  Calls prog 243 #[.pointer (some ⟨d,0,none⟩),.string s] W (zaa C g b c d (zd C 1 s q) id (fun _=>.tuple #[]) S W):=by
 cases M:isT C q.pos 1 s with
 |true=>
  have O:Hid (zd C 1 s q= .ok (adv q)):=if_pos M;go_enter func243,ntmps243;go_wp2_with fail;refine (zV C g b c d S q 1 s _ h (by decide)).mono ?_;rintro e U ⟨rfl,H,L⟩;rw[M] at H ⊢;have K:=zc H;clear H;go_wp2;go_end0;rw[O.o];exact⟨rfl,S,K.o,L⟩
 |false=>
  have O:Hid (zd C 1 s q= .error (zz C q.pos)):=by show zd C 1 s q=_;rw[zd,M];rfl
  go_enter func243,ntmps243;go_wp2_with fail;refine (zV C g b c d S q 1 s _ h (by decide)).mono ?_;rintro e U ⟨rfl,H,L⟩;rw[M] at H ⊢;have K:=zc H;have X:=L.under h.mem.base h.mem.own h.ge;clear H L;go_wp2_with fail;refine (zft C g b c d S q _ K.o).mono ?_;rintro e Y ⟨rfl,N⟩;have V:=X.trans (N.mono K.o.mem.base);unfold Pan;go_wp2;refine⟨rfl,?_⟩;rw[O.o];exact⟨rfl,V⟩
