/- Facts and walks that the theorem stands on. -/
import Derived.Deep.QuietTactic
import Derived.BigQuiet
import Derived.Test.YtgcbmogmniahjaaGreatA5
import Derived.Test.YtgcbmogmniahjaaGreatA7
namespace Go.Proofs.YtgcbmogmniahjaaGreat
open Go.Proofs.Tryz
set_option maxRecDepth 100000
set_option maxHeartbeats 3200000
open Go.RowKit Go.PlainAid
theorem zb8 (C:Cx) (V A base J:Nat) (S:Sv) (q:PS) (w:World) (h:IM C V A base J S q w):
  Calls prog 218 #[.pointer (some ⟨J,0,none⟩)] w fun e w'=>e= .returned (tkV (ze C q.pos))/\Below w.heap.size w w':=by
 obtain⟨Y,c1,X,Z,_,_,_,_,_,_,cf⟩:=zah h.cells;have U:=h.lt;have L:=(zau h.mem.tok).1;have M:=h.mem.few;by_cases O:q.pos<C.ts.length
 ·obtain⟨N,K,H,I⟩:=h.mem.tok.cells O (d:=⟨0,sNone,0,C.fin⟩);change _=some (Value.int .i64 (ze C q.pos).kind) at N;change _=some (Value.string (ze C q.pos).text) at K;change _=some (Value.int .i64 (ze C q.pos).num) at H;change _=some (Value.int .i64 (ze C q.pos).pos) at I;unfold tkV;generalize ze C q.pos=t at N K H I;have z:(q.pos:Int)<(C.ts.length:Int):=by omega
  clear h;go_enter func218,ntmps218;go_wp2_with fail;go_quiet (fail);go_wp2;go_region
  all_goals
   go_wp2;refine bodyPost_ret (results_cell_row rfl _ _ w.heap.size 158 _ (0,0) _ rfl (zh3 (show ((w.alloc _).drewN _).heap[w.heap.size]? =_ from heap_alloc_new w _)) underlying158 rfl (by kernel_rfl)) rfl ?_;exact⟨rfl,zj0 (zj1 ((Below.refl _ _).alloc (Nat.le_refl _) _) _) (Nat.le_refl _) _ _ _ _⟩
 ·rw[zea (by omega)];unfold tkV;have z: ¬(q.pos:Int)<(C.ts.length:Int):=by omega
  clear h;go_enter func218,ntmps218;go_wp2_with fail;go_quiet (fail);go_wp2;refine bodyPost_ret (results_cell_row rfl _ _ w.heap.size 158 _ (0,0) _ rfl (zh3 (show ((w.alloc _).drewN _).heap[w.heap.size]? =_ from heap_alloc_new w _)) underlying158 rfl (by kernel_rfl)) rfl ?_;exact⟨rfl,zj0 (zj1 ((Below.refl _ _).alloc (Nat.le_refl _) _) _) (Nat.le_refl _) _ _ _ _⟩
theorem zdg (a c d:Int) (b:BA) (w:World):(Instr.field 158 (.agg #[.int .i64 a,.string b,.int .i64 c,.int .i64 d]) 0).run prog w= .ok (.int .i64 a) w:=by kernel_rfl
theorem zcR (a c d:Int) (b:BA) (w:World):(Instr.field 158 (.agg #[.int .i64 a,.string b,.int .i64 c,.int .i64 d]) 1).run prog w= .ok (.string b) w:=by kernel_rfl
theorem zeH (a c d:Int) (b:BA) (w:World):(Instr.field 158 (.agg #[.int .i64 a,.string b,.int .i64 c,.int .i64 d]) 2).run prog w= .ok (.int .i64 c) w:=by kernel_rfl
theorem zoa (a c d:Int) (b:BA) (w:World):(Instr.field 158 (.agg #[.int .i64 a,.string b,.int .i64 c,.int .i64 d]) 3).run prog w= .ok (.int .i64 d) w:=by kernel_rfl
theorem zeI (C:Cx) (H z base A:Nat) (S:Sv) (q:PS) (w:World) (h:IM C H z base A S q w):
  Calls prog 236 #[.pointer (some ⟨A,0,none⟩)] w fun e w'=>e=Pan (zs C q.pos)/\Below w.heap.size w w':=by
 have I:=zc h;clear h;have L:=zoa;go_enter func236,ntmps236;go_wp2_with fail;refine (zb8 C H z base A S q _ I.o).mono ?_;rintro e K ⟨rfl,J⟩;unfold tkV;go_wp2;exact⟨rfl,rfl,J⟩
theorem zcr (C:Cx) (K z base I:Nat) (S:Sv) (q:PS) (k:Int) (x:BA) (w:World) (h:IM C K z base I S q w):
  Calls prog 246 #[.pointer (some ⟨I,0,none⟩),.int .i64 k,.string x] w fun e w'=>e= .returned (.bool (isT C q.pos k x))/\Below w.heap.size w w':=by
 have M:=zc h;clear h;have N:Hid (tkV (ze C q.pos)= .agg #[.int .i64 (ze C q.pos).kind,.string (ze C q.pos).text,.int .i64 (ze C q.pos).num,.int .i64 (ze C q.pos).pos]):=rfl;cases H:((ze C q.pos).kind==k) with
 |true=>
  cases L:((ze C q.pos).text.toList==x.toList) with
  |true=>
   have J:Hid (isT C q.pos k x=true):=by show isT C q.pos k x=true;rw[isT,H,L];rfl
   clear N;go_enter func246,ntmps246;go_wp2_with fail;refine (zb8 C K z base I S q _ M.o).mono ?_;rintro e O ⟨rfl,A⟩;unfold tkV;generalize ze C q.pos=t at H L ⊢;go_wp2;go_ret;exact⟨zi J.o.symm,A.alloc A.size _⟩
  |false=>
   have J:Hid (isT C q.pos k x=false):=by show isT C q.pos k x=false;rw[isT,H,L];rfl
   clear N;go_enter func246,ntmps246;go_wp2_with fail;refine (zb8 C K z base I S q _ M.o).mono ?_;rintro e O ⟨rfl,A⟩;unfold tkV;generalize ze C q.pos=t at H L ⊢;go_wp2;go_ret;exact⟨zi J.o.symm,A.alloc A.size _⟩
 |false=>
  have J:Hid (isT C q.pos k x=false):=zjB H;clear N;go_enter func246,ntmps246;go_wp2_with fail;refine (zb8 C K z base I S q _ M.o).mono ?_;rintro e O ⟨rfl,A⟩;unfold tkV;generalize ze C q.pos=t at H ⊢;go_wp2;go_ret;exact⟨zi J.o.symm,A.alloc A.size _⟩
theorem zO (C:Cx) (I z base A:Nat) (S:Sv) (q:PS) (k:Int) (x:BA) (w:World) (h:IM C I z base A S q w) (U:k≠0):
  Calls prog 229 #[.pointer (some ⟨A,0,none⟩),.int .i64 k,.string x] w fun e w'=>e= .returned (.bool (isT C q.pos k x))/\IM C I z base A S (if isT C q.pos k x then adv q else q) w'/\IS A S w S w':=by
 have J:=zc h;have N:=h.mem.few;clear h;cases K:isT C q.pos k x with
 |true=>
  have O:q.pos<C.ts.length:=za9 K U;go_enter func229,ntmps229;go_wp2_with fail;refine (zcr C I z base A S q k x _ J.o).mono ?_;rintro e L ⟨rfl,H⟩;rw[K];have M:Hid (IM C I z base A S q L):=J.o.later H;obtain⟨X,c1,V,Z,_,_,_,_,_,_,Y⟩:=zah M.o.cells;go_wp2;go_ret;exact⟨rfl,M.o.adv O,(IS.below H).set _ _⟩
 |false=>
  go_enter func229,ntmps229;go_wp2_with fail;refine (zcr C I z base A S q k x _ J.o).mono ?_;rintro e L ⟨rfl,H⟩;rw[K];go_wp2;go_ret;exact⟨rfl,J.o.later H,IS.below H⟩
theorem zob (s:BA) (h:Bool) (w:World):
  Calls prog 237 #[.string s,.bool h] w fun e w'=>e= .returned (.bool (zu s h))/\w'=w:=by
 cases z:(s.toList==[105,109,112,111,114,116]) with
 |true=>
  have q:Hid (zu s h=true):=by show zu s h=true;simp[zu,z]
  go_enter func237,ntmps237;go_wp2;go_ret;exact⟨zi q.o.symm,rfl⟩
 |false=>
  cases A:(s.toList==[101,120,112,111,114,116]) with
  |true=>
   have q:Hid (zu s h=true):=by show zu s h=true;simp[zu,z,A]
   go_enter func237,ntmps237;go_wp2;go_ret;exact⟨zi q.o.symm,rfl⟩
  |false=>
   cases H:(s.toList==[100,101,102,97,117,108,116]) with
   |true=>
    have q:Hid (zu s h=true):=by show zu s h=true;simp[zu,z,A,H]
    go_enter func237,ntmps237;go_wp2;go_ret;exact⟨zi q.o.symm,rfl⟩
   |false=>
    cases I:(s.toList==[108,101,116]) with
    |true=>
     have q:Hid (zu s h=true):=by show zu s h=true;simp[zu,z,A,H,I]
     go_enter func237,ntmps237;go_wp2;go_ret;exact⟨zi q.o.symm,rfl⟩
    |false=>
     cases J:(s.toList==[102,117,110,99,116,105,111,110]) with
     |true=>
      have q:Hid (zu s h=true):=by show zu s h=true;simp[zu,z,A,H,I,J]
      go_enter func237,ntmps237;go_wp2;go_ret;exact⟨zi q.o.symm,rfl⟩
     |false=>
      cases K:(s.toList==[114,101,116,117,114,110]) with
      |true=>
       have q:Hid (zu s h=true):=by show zu s h=true;simp[zu,z,A,H,I,J,K]
       go_enter func237,ntmps237;go_wp2;go_ret;exact⟨zi q.o.symm,rfl⟩
      |false=>
       cases L:(s.toList==[112,114,105,110,116]) with
       |true=>
        have q:Hid (zu s h=true):=by show zu s h=true;simp[zu,z,A,H,I,J,K,L]
        go_enter func237,ntmps237;go_wp2;go_ret;exact⟨zi q.o.symm,rfl⟩
       |false=>
        cases M:(s.toList==[116,104,114,111,119]) with
        |true=>
         have q:Hid (zu s h=true):=by show zu s h=true;simp[zu,z,A,H,I,J,K,L,M]
         go_enter func237,ntmps237;go_wp2;go_ret;exact⟨zi q.o.symm,rfl⟩
        |false=>
         cases N:(s.toList==[102,97,105,108]) with
         |true=>
          have q:Hid (zu s h=h):=by show zu s h=h;simp[zu,z,A,H,I,J,K,L,M,N]
          go_enter func237,ntmps237;go_wp2;go_ret;exact⟨zi q.o.symm,rfl⟩
         |false=>
          cases O:(s.toList==[117,110,100,101,102]) with
          |true=>
           have q:Hid (zu s h=h):=by show zu s h=h;simp[zu,z,A,H,I,J,K,L,M,N,O]
           go_enter func237,ntmps237;go_wp2;go_ret;exact⟨zi q.o.symm,rfl⟩
          |false=>
           have q:Hid (zu s h=false):=by show zu s h=false;simp[zu,z,A,H,I,J,K,L,M,N,O]
           go_enter func237,ntmps237;go_wp2;go_ret;exact⟨zi q.o.symm,rfl⟩
theorem zef (C:Cx) (K A base z:Nat) (S:Sv) (q:PS) (k:Int) (w:World) (h:IM C K A base z S q w) (M:((ze C q.pos).kind==k)=true) (Z:k≠0):
  Calls prog 238 #[.pointer (some ⟨z,0,none⟩),.int .i64 k] w fun e w'=>e= .returned (tkV (ze C q.pos))/\IM C K A base z S (adv q) w'/\IS z S w S w':=by
 have Y:=h.mem.few;have hp:q.pos<C.ts.length:=zga M Z;have L:((ze C q.pos).kind !=k)=false:=by rw[bne,M];rfl
 go_enter func238,ntmps238;go_wp2_with fail;refine (zb8 C K A base z S q _ (h.alloc _)).mono ?_;rintro e H ⟨rfl,J⟩;have V:Below w.heap.size w H:=((Below.refl _ _).alloc (Nat.le_refl _) _).trans (J.mono (by rw[zg];omega));have U:Hid (H.heap[w.heap.size]? =_):=(J.block _ (by rw[zg];omega)).trans (heap_alloc_new w _);have ab:w.heap.size<H.heap.size:=by have:=J.size;rw[zg] at this;omega
 have O:Hid (IM C K A base z S q H):=h.later V;have aa:z<w.heap.size:=h.lt;have X:z<H.heap.size:=O.o.lt;obtain⟨c0,c1,c2,c3,_,_,_,_,_,_,cf⟩:=zah O.o.cells;obtain⟨d0,d1,d2,d3,df⟩:=zbJ U.o;clear J;unfold tkV;generalize I:ze C q.pos=t at M L ⊢;have N:=zc I;clear I;go_wp2;refine bodyPost_ret (results_cell_row rfl _ _ w.heap.size 158 _ (0,0) _ rfl (zcE (zh3 ((zv (c:=z) (by omega)).trans U.o))) underlying158 rfl (by kernel_rfl)) rfl ?_;refine⟨by rw[N.o];rfl,?_,?_⟩
 ·exact (IM.scratch (b:=w.heap.size) (O.o.adv hp) (by omega) (by have:=(zau h.mem.tok).1;omega) (fun g=>by have:=(h.mem.own.has g).2;omega) ..).alloc _
 ·exact (IS.scratch (b:=w.heap.size) ((IS.below V).set _ _) (Nat.le_refl _) ..).alloc _
theorem zjC (C:Cx) (I z base A:Nat) (S:Sv) (q:PS) (k:Int) (w:World) (h:IM C I z base A S q w) (N:((ze C q.pos).kind==k)=false):
  Calls prog 238 #[.pointer (some ⟨A,0,none⟩),.int .i64 k] w fun e w'=>e=Pan (zs C q.pos)/\Below w.heap.size w w':=by
 have O:((ze C q.pos).kind !=k)=true:=by rw[bne,N];rfl
 go_enter func238,ntmps238;go_wp2_with fail;refine (zb8 C I z base A S q _ (h.alloc _)).mono ?_;rintro e L ⟨rfl,M⟩;have H:Below w.heap.size w L:=((Below.refl _ _).alloc (Nat.le_refl _) _).trans (M.mono (by rw[zg];omega));have U:Hid (IM C I z base A S q L):=h.later H;clear M;unfold tkV;go_wp2_with fail;refine (zeI C I z base A S q _ (U.o.alloc _)).mono ?_;rintro e V ⟨rfl,J⟩;have K:Below w.heap.size w V:=(H.alloc H.size _).trans (J.mono (by rw[zg];have:=H.size;omega));unfold Pan;go_wp2;exact⟨rfl,rfl,K⟩
theorem zeJ (C:Cx) (I z base H:Nat) (S:Sv) (q:PS) (x:BA) (w:World) (h:IM C I z base H S q w):
  Calls prog 227 #[.pointer (some ⟨H,0,none⟩),.string x] w (zU C I z base H (zd C 1 x q) id (fun _=>.tuple #[]) S w):=by
 cases L:isT C q.pos 1 x with
 |true=>
  have N:Hid (zd C 1 x q= .ok (adv q)):=if_pos L;go_enter func227,ntmps227;go_wp2_with fail;refine (zO C I z base H S q 1 x _ h (by decide)).mono ?_;rintro e O ⟨rfl,A,K⟩;rw[L] at A ⊢;have J:=zc A;clear A;go_wp2;go_end0;rw[N.o];exact⟨rfl,S,J.o,K⟩
 |false=>
  have N:Hid (zd C 1 x q= .error (zs C q.pos)):=by show zd C 1 x q=_;rw[zd,L];rfl
  go_enter func227,ntmps227;go_wp2_with fail;refine (zO C I z base H S q 1 x _ h (by decide)).mono ?_;rintro e O ⟨rfl,A,K⟩;rw[L] at A ⊢;have J:=zc A;have V:=K.under h.mem.base h.mem.own h.ge;clear A K;go_wp2_with fail;refine (zeI C I z base H S q _ J.o).mono ?_;rintro e X ⟨rfl,M⟩;have U:=V.trans (M.mono J.o.mem.base);unfold Pan;go_wp2;refine⟨rfl,?_⟩;rw[N.o];exact⟨rfl,U⟩
end Go.Proofs.YtgcbmogmniahjaaGreat
