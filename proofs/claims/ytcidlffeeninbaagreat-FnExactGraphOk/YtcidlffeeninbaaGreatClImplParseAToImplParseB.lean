/-
  What the smallest methods of impl's parser answer: peek,refuse,comes,passes: the walks.
  What the readers of one token of impl's parser answer: isWord,take,passName,plainName,plainOrDefault,itemWord: the walks.
-/
import Derived.Deep.QuietTactic
import Derived.BigQuiet
import Derived.Test.YtcidlffeeninbaaGreatClImplParseMem
import Derived.Test.YtcidlffeeninbaaGreatClSpecParseA
namespace Go.Proofs.YtcidlffeeninbaaGreat
set_option maxRecDepth 100000
set_option maxHeartbeats 3200000
open Go.RowKit Go.PlainAid
theorem zb3 (C:Cx) (V D z E:Nat) (S:Sv) (q:PS) (w:World) (h:IM C V D z E S q w):
  Calls Tryz.prog 183 #[.pointer (some ⟨E,0,none⟩)] w fun e O=>e= .returned (tkV (ze C q.pos))∧Below w.heap.size w O:=by
 obtain⟨c0,c1,Y,Z,_,_,_,_,_,_,X⟩:=zah h.cells
 have U:=h.lt
 have H:=(zau h.mem.tok).1
 have K:=h.mem.few
 by_cases N:q.pos<C.ts.length
 ·obtain⟨M,I,L,J⟩:=h.mem.tok.cells N (d:=⟨0,sNone,0,C.fin⟩)
  change _=some (Value.int .i64 (ze C q.pos).kind) at M
  change _=some (Value.string (ze C q.pos).text) at I
  change _=some (Value.int .i64 (ze C q.pos).num) at L
  change _=some (Value.int .i64 (ze C q.pos).pos) at J
  unfold tkV
  generalize ze C q.pos=t at M I L J
  have A:(q.pos:Int)<(C.ts.length:Int):=by omega
  clear h
  go_enter Tryz.func183,Tryz.ntmps183
  go_wp2_with fail
  go_quiet (fail)
  go_wp2
  go_region
  all_goals
   go_wp2
   refine bodyPost_ret (results_cell_row rfl _ _ w.heap.size 136 _ (0,0) _ rfl (zhh (show ((w.alloc _).drewN _).heap[w.heap.size]? =_ from heap_alloc_new w _)) Tryz.underlying136 rfl (by kernel_rfl)) rfl ?_
   exact⟨rfl,ziT (ziU ((Below.refl _ _).alloc (Nat.le_refl _) _) _) (Nat.le_refl _) _ _ _ _⟩
 ·rw[zdP (by omega)]
  unfold tkV
  have A: ¬(q.pos:Int)<(C.ts.length:Int):=by omega
  clear h
  go_enter Tryz.func183,Tryz.ntmps183
  go_wp2_with fail
  go_quiet (fail)
  go_wp2
  refine bodyPost_ret (results_cell_row rfl _ _ w.heap.size 136 _ (0,0) _ rfl (zhh (show ((w.alloc _).drewN _).heap[w.heap.size]? =_ from heap_alloc_new w _)) Tryz.underlying136 rfl (by kernel_rfl)) rfl ?_
  exact⟨rfl,ziT (ziU ((Below.refl _ _).alloc (Nat.le_refl _) _) _) (Nat.le_refl _) _ _ _ _⟩
theorem zdb (a c d:Int) (b:ByteArray) (w:World):(Instr.field 136 (.agg #[.int .i64 a,.string b,.int .i64 c,.int .i64 d]) 0).run Tryz.prog w= .ok (.int .i64 a) w:=by kernel_rfl
theorem zcM (a c d:Int) (b:ByteArray) (w:World):(Instr.field 136 (.agg #[.int .i64 a,.string b,.int .i64 c,.int .i64 d]) 1).run Tryz.prog w= .ok (.string b) w:=by kernel_rfl
theorem zeB (a c d:Int) (b:ByteArray) (w:World):(Instr.field 136 (.agg #[.int .i64 a,.string b,.int .i64 c,.int .i64 d]) 2).run Tryz.prog w= .ok (.int .i64 c) w:=by kernel_rfl
theorem zno (a c d:Int) (b:ByteArray) (w:World):(Instr.field 136 (.agg #[.int .i64 a,.string b,.int .i64 c,.int .i64 d]) 3).run Tryz.prog w= .ok (.int .i64 d) w:=by kernel_rfl
theorem zeC (C:Cx) (E A z D:Nat) (S:Sv) (q:PS) (w:World) (h:IM C E A z D S q w):
  Calls Tryz.prog 203 #[.pointer (some ⟨D,0,none⟩)] w fun e H=>e=Pan (zs C q.pos)∧Below w.heap.size w H:=by
 have J:=zc h
 clear h
 have L:=zno
 go_enter Tryz.func203,Tryz.ntmps203
 go_wp2_with fail
 refine (zb3 C E A z D S q _ J.out).mono ?_
 rintro e K ⟨rfl,I⟩
 unfold tkV
 go_wp2
 exact⟨rfl,rfl,I⟩
theorem zck (C:Cx) (K A z I:Nat) (S:Sv) (q:PS) (k:Int) (x:ByteArray) (w:World) (h:IM C K A z I S q w):
  Calls Tryz.prog 213 #[.pointer (some ⟨I,0,none⟩),.int .i64 k,.string x] w fun e O=>e= .returned (.bool (isT C q.pos k x))∧Below w.heap.size w O:=by
 have M:=zc h
 clear h
 have L:Hid (tkV (ze C q.pos)= .agg #[.int .i64 (ze C q.pos).kind,.string (ze C q.pos).text,.int .i64 (ze C q.pos).num,.int .i64 (ze C q.pos).pos]):=rfl
 cases E:((ze C q.pos).kind==k) with
 |true=>
  cases J:((ze C q.pos).text.toList==x.toList) with
  |true=>
   have H:Hid (isT C q.pos k x=true):=by show isT C q.pos k x=true;rw[isT,E,J];rfl
   clear L
   go_enter Tryz.func213,Tryz.ntmps213
   go_wp2_with fail
   refine (zb3 C K A z I S q _ M.out).mono ?_
   rintro e N ⟨rfl,D⟩
   unfold tkV
   generalize ze C q.pos=t at E J ⊢
   go_wp2
   go_ret
   exact⟨zh H.out.symm,D.alloc D.size _⟩
  |false=>
   have H:Hid (isT C q.pos k x=false):=by show isT C q.pos k x=false;rw[isT,E,J];rfl
   clear L
   go_enter Tryz.func213,Tryz.ntmps213
   go_wp2_with fail
   refine (zb3 C K A z I S q _ M.out).mono ?_
   rintro e N ⟨rfl,D⟩
   unfold tkV
   generalize ze C q.pos=t at E J ⊢
   go_wp2
   go_ret
   exact⟨zh H.out.symm,D.alloc D.size _⟩
 |false=>
  have H:Hid (isT C q.pos k x=false):=zje E
  clear L
  go_enter Tryz.func213,Tryz.ntmps213
  go_wp2_with fail
  refine (zb3 C K A z I S q _ M.out).mono ?_
  rintro e N ⟨rfl,D⟩
  unfold tkV
  generalize ze C q.pos=t at E ⊢
  go_wp2
  go_ret
  exact⟨zh H.out.symm,D.alloc D.size _⟩
theorem zN (C:Cx) (H A z D:Nat) (S:Sv) (q:PS) (k:Int) (x:ByteArray) (w:World) (h:IM C H A z D S q w) (U:k≠0):
  Calls Tryz.prog 196 #[.pointer (some ⟨D,0,none⟩),.int .i64 k,.string x] w fun e K=>e= .returned (.bool (isT C q.pos k x))∧IM C H A z D S (if isT C q.pos k x then adv q else q) K∧IS D S w S K:=by
 have I:=zc h
 have L:=h.mem.few
 clear h
 cases J:isT C q.pos k x with
 |true=>
  have O:q.pos<C.ts.length:=za8 J U
  go_enter Tryz.func196,Tryz.ntmps196
  go_wp2_with fail
  refine (zck C H A z D S q k x _ I.out).mono ?_
  rintro e M ⟨rfl,E⟩
  rw[J]
  have N:Hid (IM C H A z D S q M):=I.out.later E
  obtain⟨c0,Z,X,Y,_,_,_,_,_,_,V⟩:=zah N.out.cells
  go_wp2
  go_ret
  exact⟨rfl,N.out.adv O,(IS.below E).set _ _⟩
 |false=>
  go_enter Tryz.func196,Tryz.ntmps196
  go_wp2_with fail
  refine (zck C H A z D S q k x _ I.out).mono ?_
  rintro e M ⟨rfl,E⟩
  rw[J]
  go_wp2
  go_ret
  exact⟨rfl,I.out.later E,IS.below E⟩
theorem znp (s:ByteArray) (h:Bool) (w:World):
  Calls Tryz.prog 204 #[.string s,.bool h] w fun e N=>e= .returned (.bool (zu s h))∧N=w:=by
 cases z:(s.toList==[105,109,112,111,114,116]) with
 |true=>
  have q:Hid (zu s h=true):=by show zu s h=true;simp[zu,z]
  go_enter Tryz.func204,Tryz.ntmps204
  go_wp2
  go_ret
  exact⟨zh q.out.symm,rfl⟩
 |false=>
  cases A:(s.toList==[101,120,112,111,114,116]) with
  |true=>
   have q:Hid (zu s h=true):=by show zu s h=true;simp[zu,z,A]
   go_enter Tryz.func204,Tryz.ntmps204
   go_wp2
   go_ret
   exact⟨zh q.out.symm,rfl⟩
  |false=>
   cases D:(s.toList==[100,101,102,97,117,108,116]) with
   |true=>
    have q:Hid (zu s h=true):=by show zu s h=true;simp[zu,z,A,D]
    go_enter Tryz.func204,Tryz.ntmps204
    go_wp2
    go_ret
    exact⟨zh q.out.symm,rfl⟩
   |false=>
    cases E:(s.toList==[108,101,116]) with
    |true=>
     have q:Hid (zu s h=true):=by show zu s h=true;simp[zu,z,A,D,E]
     go_enter Tryz.func204,Tryz.ntmps204
     go_wp2
     go_ret
     exact⟨zh q.out.symm,rfl⟩
    |false=>
     cases H:(s.toList==[102,117,110,99,116,105,111,110]) with
     |true=>
      have q:Hid (zu s h=true):=by show zu s h=true;simp[zu,z,A,D,E,H]
      go_enter Tryz.func204,Tryz.ntmps204
      go_wp2
      go_ret
      exact⟨zh q.out.symm,rfl⟩
     |false=>
      cases I:(s.toList==[114,101,116,117,114,110]) with
      |true=>
       have q:Hid (zu s h=true):=by show zu s h=true;simp[zu,z,A,D,E,H,I]
       go_enter Tryz.func204,Tryz.ntmps204
       go_wp2
       go_ret
       exact⟨zh q.out.symm,rfl⟩
      |false=>
       cases J:(s.toList==[112,114,105,110,116]) with
       |true=>
        have q:Hid (zu s h=true):=by show zu s h=true;simp[zu,z,A,D,E,H,I,J]
        go_enter Tryz.func204,Tryz.ntmps204
        go_wp2
        go_ret
        exact⟨zh q.out.symm,rfl⟩
       |false=>
        cases K:(s.toList==[116,104,114,111,119]) with
        |true=>
         have q:Hid (zu s h=true):=by show zu s h=true;simp[zu,z,A,D,E,H,I,J,K]
         go_enter Tryz.func204,Tryz.ntmps204
         go_wp2
         go_ret
         exact⟨zh q.out.symm,rfl⟩
        |false=>
         cases L:(s.toList==[102,97,105,108]) with
         |true=>
          have q:Hid (zu s h=h):=by show zu s h=h;simp[zu,z,A,D,E,H,I,J,K,L]
          go_enter Tryz.func204,Tryz.ntmps204
          go_wp2
          go_ret
          exact⟨zh q.out.symm,rfl⟩
         |false=>
          cases M:(s.toList==[117,110,100,101,102]) with
          |true=>
           have q:Hid (zu s h=h):=by show zu s h=h;simp[zu,z,A,D,E,H,I,J,K,L,M]
           go_enter Tryz.func204,Tryz.ntmps204
           go_wp2
           go_ret
           exact⟨zh q.out.symm,rfl⟩
          |false=>
           have q:Hid (zu s h=false):=by show zu s h=false;simp[zu,z,A,D,E,H,I,J,K,L,M]
           go_enter Tryz.func204,Tryz.ntmps204
           go_wp2
           go_ret
           exact⟨zh q.out.symm,rfl⟩
theorem zdW (C:Cx) (K D z A:Nat) (S:Sv) (q:PS) (k:Int) (w:World) (h:IM C K D z A S q w) (N:((ze C q.pos).kind==k)=true) (h0:k≠0):
  Calls Tryz.prog 205 #[.pointer (some ⟨A,0,none⟩),.int .i64 k] w fun e U=>e= .returned (tkV (ze C q.pos))∧IM C K D z A S (adv q) U∧IS A S w S U:=by
 have E:=zc h
 have Y:=h.mem.few
 have hp:q.pos<C.ts.length:=zfO N h0
 have O:((ze C q.pos).kind !=k)=false:=by rw[bne,N];rfl
 clear h
 go_enter Tryz.func205,Tryz.ntmps205
 go_wp2_with fail
 refine (zb3 C K D z A S q _ (E.out.alloc _)).mono ?_
 rintro e H ⟨rfl,J⟩
 have V:Hid (Below w.heap.size w H):=((Below.refl _ _).alloc (Nat.le_refl _) _).trans (J.mono (by rw[zg];omega))
 have X:Hid (H.heap[w.heap.size]? =_):=(J.block _ (by rw[zg];omega)).trans (heap_alloc_new w _)
 have aa:w.heap.size<H.heap.size:=by have:=J.size;rw[zg] at this;omega
 have L:Hid (IM C K D z A S q H):=E.out.later V.out
 have ab:A<w.heap.size:=E.out.lt
 have Z:A<H.heap.size:=L.out.lt
 obtain⟨c0,c1,c2,c3,_,_,_,_,_,_,cf⟩:=zah L.out.cells
 obtain⟨d0,d1,d2,d3,df⟩:=zb1 X.out
 clear J
 unfold tkV
 generalize I:ze C q.pos=t at N O ⊢
 have M:=zc I
 clear I
 go_wp2
 refine bodyPost_ret (results_cell_row rfl _ _ w.heap.size 136 _ (0,0) _ rfl (zcA (zhh ((zv (c:=A) (by omega)).trans X.out))) Tryz.underlying136 rfl (by kernel_rfl)) rfl ?_
 refine⟨by rw[M.out];rfl,?_,?_⟩
 ·exact (IM.scratch (b:=w.heap.size) (L.out.adv hp) (by omega) (by have:=(zau E.out.mem.tok).1;omega) (fun g=>by have:=(E.out.mem.own.has g).2;omega) ..).alloc _
 ·exact (IS.scratch (b:=w.heap.size) ((IS.below V.out).set _ _) (Nat.le_refl _) ..).alloc _
theorem zjf (C:Cx) (H A z D:Nat) (S:Sv) (q:PS) (k:Int) (w:World) (h:IM C H A z D S q w) (V:((ze C q.pos).kind==k)=false):
  Calls Tryz.prog 205 #[.pointer (some ⟨D,0,none⟩),.int .i64 k] w fun e N=>e=Pan (zs C q.pos)∧Below w.heap.size w N:=by
 have M:=zc h
 have X:((ze C q.pos).kind !=k)=true:=by rw[bne,V];rfl
 clear h
 go_enter Tryz.func205,Tryz.ntmps205
 go_wp2_with fail
 refine (zb3 C H A z D S q _ (M.out.alloc _)).mono ?_
 rintro e K ⟨rfl,L⟩
 have E:Hid (Below w.heap.size w K):=((Below.refl _ _).alloc (Nat.le_refl _) _).trans (L.mono (by rw[zg];omega))
 have O:Hid (IM C H A z D S q K):=M.out.later E.out
 clear L
 unfold tkV
 go_wp2_with fail
 refine (zeC C H A z D S q _ (O.out.alloc _)).mono ?_
 rintro e U ⟨rfl,I⟩
 have J:Hid (Below w.heap.size w U):=(E.out.alloc E.out.size _).trans (I.mono (by rw[zg];have:=E.out.size;omega))
 unfold Pan
 go_wp2
 exact⟨rfl,rfl,J.out⟩
theorem zeD (C:Cx) (H A z E:Nat) (S:Sv) (q:PS) (x:ByteArray) (w:World) (h:IM C H A z E S q w):
  Calls Tryz.prog 194 #[.pointer (some ⟨E,0,none⟩),.string x] w (zT C H A z E (zd C 1 x q) id (fun _=>.tuple #[]) S w):=by
 have I:=zc h
 clear h
 cases K:isT C q.pos 1 x with
 |true=>
  have M:Hid (zd C 1 x q= .ok (adv q)):=if_pos K
  go_enter Tryz.func194,Tryz.ntmps194
  go_wp2_with fail
  refine (zN C H A z E S q 1 x _ I.out (by decide)).mono ?_
  rintro e O ⟨rfl,D,L⟩
  rw[K] at D ⊢
  have J:=zc D
  clear D
  go_wp2
  go_end0
  rw[M.out]
  exact⟨rfl,S,J.out,L⟩
 |false=>
  have M:Hid (zd C 1 x q= .error (zs C q.pos)):=by show zd C 1 x q=_;rw[zd,K];rfl
  go_enter Tryz.func194,Tryz.ntmps194
  go_wp2_with fail
  refine (zN C H A z E S q 1 x _ I.out (by decide)).mono ?_
  rintro e O ⟨rfl,D,L⟩
  rw[K] at D ⊢
  have J:=zc D
  have V:Hid (Below z w O):=L.under I.out.mem.base I.out.mem.own I.out.ge
  clear D L
  go_wp2_with fail
  refine (zeC C H A z E S q _ J.out).mono ?_
  rintro e U ⟨rfl,N⟩
  have X:Hid (Below z w U):=V.out.trans (N.mono J.out.mem.base)
  unfold Pan
  go_wp2
  refine⟨rfl,?_⟩
  rw[M.out]
  exact⟨rfl,X.out⟩
end Go.Proofs.YtcidlffeeninbaaGreat
