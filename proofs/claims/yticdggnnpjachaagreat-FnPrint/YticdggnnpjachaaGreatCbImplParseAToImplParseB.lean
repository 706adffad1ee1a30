/-
  What the smallest methods of impl's parser answer: peek,refuse,comes,passes: the walks.
  What the readers of one token of impl's parser answer: isWord,take,passName,plainName,plainOrDefault,itemWord: the walks.
-/
import Derived.Test.YticdggnnpjachaaGreatCbImplParseMem
import Derived.Test.YticdggnnpjachaaGreatCbSpecParseA
namespace Go.Proofs.YticdggnnpjachaaGreat
set_option maxRecDepth 100000
set_option maxHeartbeats 3200000
open Go.RowKit Go.PlainAid
theorem zbr (C:Cx) (N n j H:Nat) (S:Sv) (q:PS) (w:World) (h:IM C N n j H S q w):
  Calls Tryz.prog 151 #[.pointer (some ⟨H,0,none⟩)] w fun e K=>e= .returned (tkV (ze C q.pos))∧Below w.heap.size w K:=by
 obtain⟨Q,U,O,X,_,_,_,_,_,_,V⟩:=zac h.cells
 have M:=h.lt
 have I:=(zan h.mem.tok).1
 have z:=h.mem.few
 by_cases L:q.pos<C.ts.length
 ·obtain⟨E,J,A,D⟩:=h.mem.tok.cells L (d:=⟨0,sNone,0,C.fin⟩)
  change _=some (Value.int .i64 (ze C q.pos).kind) at E
  change _=some (Value.string (ze C q.pos).text) at J
  change _=some (Value.int .i64 (ze C q.pos).num) at A
  change _=some (Value.int .i64 (ze C q.pos).pos) at D
  unfold tkV
  generalize ze C q.pos=t at E J A D
  have o:(q.pos:Int)<(C.ts.length:Int):=by omega
  clear h
  go_enter Tryz.func151,Tryz.ntmps151
  go_wp2_with fail
  go_quiet (fail)
  go_wp2
  go_region
  all_goals
   go_wp2
   refine bodyPost_ret (results_cell_row rfl _ _ w.heap.size 111 _ (0,0) _ rfl (zgv (show ((w.alloc _).drewN _).heap[w.heap.size]? =_ from heap_alloc_new w _)) Tryz.underlying111 rfl (by kernel_rfl)) rfl ?_
   exact⟨rfl,zhP (zhQ ((Below.refl _ _).alloc (Nat.le_refl _) _) _) (Nat.le_refl _) _ _ _ _⟩
 ·rw[zdl (by omega)]
  unfold tkV
  have o: ¬(q.pos:Int)<(C.ts.length:Int):=by omega
  clear h
  go_enter Tryz.func151,Tryz.ntmps151
  go_wp2_with fail
  go_quiet (fail)
  go_wp2
  refine bodyPost_ret (results_cell_row rfl _ _ w.heap.size 111 _ (0,0) _ rfl (zgv (show ((w.alloc _).drewN _).heap[w.heap.size]? =_ from heap_alloc_new w _)) Tryz.underlying111 rfl (by kernel_rfl)) rfl ?_
  exact⟨rfl,zhP (zhQ ((Below.refl _ _).alloc (Nat.le_refl _) _) _) (Nat.le_refl _) _ _ _ _⟩
theorem zcH (a c d:Int) (b:ByteArray) (w:World):(Instr.field 111 (.agg #[.int .i64 a,.string b,.int .i64 c,.int .i64 d]) 0).run Tryz.prog w= .ok (.int .i64 a) w:=by kernel_rfl
theorem zc0 (a c d:Int) (b:ByteArray) (w:World):(Instr.field 111 (.agg #[.int .i64 a,.string b,.int .i64 c,.int .i64 d]) 1).run Tryz.prog w= .ok (.string b) w:=by kernel_rfl
theorem zdY (a c d:Int) (b:ByteArray) (w:World):(Instr.field 111 (.agg #[.int .i64 a,.string b,.int .i64 c,.int .i64 d]) 2).run Tryz.prog w= .ok (.int .i64 c) w:=by kernel_rfl
theorem zlD (a c d:Int) (b:ByteArray) (w:World):(Instr.field 111 (.agg #[.int .i64 a,.string b,.int .i64 c,.int .i64 d]) 3).run Tryz.prog w= .ok (.int .i64 d) w:=by kernel_rfl
theorem zdZ (C:Cx) (z n j o:Nat) (S:Sv) (q:PS) (w:World) (h:IM C z n j o S q w):
  Calls Tryz.prog 180 #[.pointer (some ⟨o,0,none⟩)] w fun e D=>e=Pan (zr C q.pos)∧Below w.heap.size w D:=by
 have E:=zc h
 clear h
 have I:=zlD
 go_enter Tryz.func180,Tryz.ntmps180
 go_wp2_with fail
 refine (zbr C z n j o S q _ E.out).mono ?_
 rintro e H ⟨rfl,A⟩
 unfold tkV
 go_wp2
 exact⟨rfl,rfl,A⟩
theorem zbO (C:Cx) (E n j A:Nat) (S:Sv) (q:PS) (k:Int) (x:ByteArray) (w:World) (h:IM C E n j A S q w):
  Calls Tryz.prog 195 #[.pointer (some ⟨A,0,none⟩),.int .i64 k,.string x] w fun e L=>e= .returned (.bool (isT C q.pos k x))∧Below w.heap.size w L:=by
 have J:=zc h
 clear h
 have I:Hid (tkV (ze C q.pos)= .agg #[.int .i64 (ze C q.pos).kind,.string (ze C q.pos).text,.int .i64 (ze C q.pos).num,.int .i64 (ze C q.pos).pos]):=rfl
 cases z:((ze C q.pos).kind==k) with
 |true=>
  cases H:((ze C q.pos).text.toList==x.toList) with
  |true=>
   have D:Hid (isT C q.pos k x=true):=by show isT C q.pos k x=true;rw[isT,z,H];rfl
   clear I
   go_enter Tryz.func195,Tryz.ntmps195
   go_wp2_with fail
   refine (zbr C E n j A S q _ J.out).mono ?_
   rintro e K ⟨rfl,o⟩
   unfold tkV
   generalize ze C q.pos=t at z H ⊢
   go_wp2
   go_ret
   exact⟨zm D.out.symm,o.alloc o.size _⟩
  |false=>
   have D:Hid (isT C q.pos k x=false):=by show isT C q.pos k x=false;rw[isT,z,H];rfl
   clear I
   go_enter Tryz.func195,Tryz.ntmps195
   go_wp2_with fail
   refine (zbr C E n j A S q _ J.out).mono ?_
   rintro e K ⟨rfl,o⟩
   unfold tkV
   generalize ze C q.pos=t at z H ⊢
   go_wp2
   go_ret
   exact⟨zm D.out.symm,o.alloc o.size _⟩
 |false=>
  have D:Hid (isT C q.pos k x=false):=zhY z
  clear I
  go_enter Tryz.func195,Tryz.ntmps195
  go_wp2_with fail
  refine (zbr C E n j A S q _ J.out).mono ?_
  rintro e K ⟨rfl,o⟩
  unfold tkV
  generalize ze C q.pos=t at z ⊢
  go_wp2
  go_ret
  exact⟨zm D.out.symm,o.alloc o.size _⟩
theorem zK (C:Cx) (A n j o:Nat) (S:Sv) (q:PS) (k:Int) (x:ByteArray) (w:World) (h:IM C A n j o S q w) (L:k≠0):
  Calls Tryz.prog 173 #[.pointer (some ⟨o,0,none⟩),.int .i64 k,.string x] w fun e J=>e= .returned (.bool (isT C q.pos k x))∧IM C A n j o S (if isT C q.pos k x then adv q else q) J∧IS o S w S J:=by
 have D:=zc h
 have I:=h.mem.few
 clear h
 cases E:isT C q.pos k x with
 |true=>
  have M:q.pos<C.ts.length:=za1 E L
  go_enter Tryz.func173,Tryz.ntmps173
  go_wp2_with fail
  refine (zbO C A n j o S q k x _ D.out).mono ?_
  rintro e H ⟨rfl,z⟩
  rw[E]
  have K:Hid (IM C A n j o S q H):=D.out.later z
  obtain⟨O,Q,N,V,_,_,_,_,_,_,U⟩:=zac K.out.cells
  go_wp2
  go_ret
  exact⟨rfl,K.out.adv M,(IS.below z).set _ _⟩
 |false=>
  go_enter Tryz.func173,Tryz.ntmps173
  go_wp2_with fail
  refine (zbO C A n j o S q k x _ D.out).mono ?_
  rintro e H ⟨rfl,z⟩
  rw[E]
  go_wp2
  go_ret
  exact⟨rfl,D.out.later z,IS.below z⟩
theorem zlE (s:ByteArray) (j:Bool) (w:World):
  Calls Tryz.prog 181 #[.string s,.bool j] w fun e L=>e= .returned (.bool (zu s j))∧L=w:=by
 cases o:(s.toList==[105,109,112,111,114,116]) with
 |true=>
  have n:Hid (zu s j=true):=by show zu s j=true;simp[zu,o]
  go_enter Tryz.func181,Tryz.ntmps181
  go_wp2
  go_ret
  exact⟨zm n.out.symm,rfl⟩
 |false=>
  cases q:(s.toList==[101,120,112,111,114,116]) with
  |true=>
   have n:Hid (zu s j=true):=by show zu s j=true;simp[zu,o,q]
   go_enter Tryz.func181,Tryz.ntmps181
   go_wp2
   go_ret
   exact⟨zm n.out.symm,rfl⟩
  |false=>
   cases z:(s.toList==[100,101,102,97,117,108,116]) with
   |true=>
    have n:Hid (zu s j=true):=by show zu s j=true;simp[zu,o,q,z]
    go_enter Tryz.func181,Tryz.ntmps181
    go_wp2
    go_ret
    exact⟨zm n.out.symm,rfl⟩
   |false=>
    cases A:(s.toList==[108,101,116]) with
    |true=>
     have n:Hid (zu s j=true):=by show zu s j=true;simp[zu,o,q,z,A]
     go_enter Tryz.func181,Tryz.ntmps181
     go_wp2
     go_ret
     exact⟨zm n.out.symm,rfl⟩
    |false=>
     cases D:(s.toList==[102,117,110,99,116,105,111,110]) with
     |true=>
      have n:Hid (zu s j=true):=by show zu s j=true;simp[zu,o,q,z,A,D]
      go_enter Tryz.func181,Tryz.ntmps181
      go_wp2
      go_ret
      exact⟨zm n.out.symm,rfl⟩
     |false=>
      cases E:(s.toList==[114,101,116,117,114,110]) with
      |true=>
       have n:Hid (zu s j=true):=by show zu s j=true;simp[zu,o,q,z,A,D,E]
       go_enter Tryz.func181,Tryz.ntmps181
       go_wp2
       go_ret
       exact⟨zm n.out.symm,rfl⟩
      |false=>
       cases H:(s.toList==[112,114,105,110,116]) with
       |true=>
        have n:Hid (zu s j=true):=by show zu s j=true;simp[zu,o,q,z,A,D,E,H]
        go_enter Tryz.func181,Tryz.ntmps181
        go_wp2
        go_ret
        exact⟨zm n.out.symm,rfl⟩
       |false=>
        cases I:(s.toList==[116,104,114,111,119]) with
        |true=>
         have n:Hid (zu s j=true):=by show zu s j=true;simp[zu,o,q,z,A,D,E,H,I]
         go_enter Tryz.func181,Tryz.ntmps181
         go_wp2
         go_ret
         exact⟨zm n.out.symm,rfl⟩
        |false=>
         cases J:(s.toList==[102,97,105,108]) with
         |true=>
          have n:Hid (zu s j=j):=by show zu s j=j;simp[zu,o,q,z,A,D,E,H,I,J]
          go_enter Tryz.func181,Tryz.ntmps181
          go_wp2
          go_ret
          exact⟨zm n.out.symm,rfl⟩
         |false=>
          cases K:(s.toList==[117,110,100,101,102]) with
          |true=>
           have n:Hid (zu s j=j):=by show zu s j=j;simp[zu,o,q,z,A,D,E,H,I,J,K]
           go_enter Tryz.func181,Tryz.ntmps181
           go_wp2
           go_ret
           exact⟨zm n.out.symm,rfl⟩
          |false=>
           have n:Hid (zu s j=false):=by show zu s j=false;simp[zu,o,q,z,A,D,E,H,I,J,K]
           go_enter Tryz.func181,Tryz.ntmps181
           go_wp2
           go_ret
           exact⟨zm n.out.symm,rfl⟩
theorem zd2 (C:Cx) (H n j o:Nat) (S:Sv) (q:PS) (k:Int) (w:World) (h:IM C H n j o S q w) (K:((ze C q.pos).kind==k)=true) (V:k≠0):
  Calls Tryz.prog 182 #[.pointer (some ⟨o,0,none⟩),.int .i64 k] w fun e O=>e= .returned (tkV (ze C q.pos))∧IM C H n j o S (adv q) O∧IS o S w S O:=by
 have D:=zc h
 have N:=h.mem.few
 have Z:q.pos<C.ts.length:=zfn K V
 have I:((ze C q.pos).kind !=k)=false:=by rw[bne,K];rfl
 clear h
 go_enter Tryz.func182,Tryz.ntmps182
 go_wp2_with fail
 refine (zbr C H n j o S q _ (D.out.alloc _)).mono ?_
 rintro e z ⟨rfl,E⟩
 have M:Hid (Below w.heap.size w z):=((Below.refl _ _).alloc (Nat.le_refl _) _).trans (E.mono (by rw[zk];omega))
 have Q:Hid (z.heap[w.heap.size]? =_):=(E.block _ (by rw[zk];omega)).trans (heap_alloc_new w _)
 have X:w.heap.size<z.heap.size:=by have:=E.size;rw[zk] at this;omega
 have L:Hid (IM C H n j o S q z):=D.out.later M.out
 have Y:o<w.heap.size:=D.out.lt
 have U:o<z.heap.size:=L.out.lt
 obtain⟨c0,c1,c2,c3,_,_,_,_,_,_,cf⟩:=zac L.out.cells
 obtain⟨d0,d1,d2,d3,df⟩:=zdn Q.out
 clear E
 unfold tkV
 generalize A:ze C q.pos=t at K I ⊢
 have J:=zc A
 clear A
 go_wp2
 refine bodyPost_ret (results_cell_row rfl _ _ w.heap.size 111 _ (0,0) _ rfl (zck (zgv ((zi (c:=o) (by omega)).trans Q.out))) Tryz.underlying111 rfl (by kernel_rfl)) rfl ?_
 refine⟨by rw[J.out];rfl,?_,?_⟩
 ·exact (IM.scratch (b:=w.heap.size) (L.out.adv Z) (by omega) (by have:=(zan D.out.mem.tok).1;omega) (fun g=>by have:=(D.out.mem.own.has g).2;omega) ..).alloc _
 ·exact (IS.scratch (b:=w.heap.size) ((IS.below M.out).set _ _) (Nat.le_refl _) ..).alloc _
theorem zhZ (C:Cx) (A n j o:Nat) (S:Sv) (q:PS) (k:Int) (w:World) (h:IM C A n j o S q w) (M:((ze C q.pos).kind==k)=false):
  Calls Tryz.prog 182 #[.pointer (some ⟨o,0,none⟩),.int .i64 k] w fun e N=>e=Pan (zr C q.pos)∧Below w.heap.size w N:=by
 have J:=zc h
 have L:((ze C q.pos).kind !=k)=true:=by rw[bne,M];rfl
 clear h
 go_enter Tryz.func182,Tryz.ntmps182
 go_wp2_with fail
 refine (zbr C A n j o S q _ (J.out.alloc _)).mono ?_
 rintro e H ⟨rfl,I⟩
 have z:Hid (Below w.heap.size w H):=((Below.refl _ _).alloc (Nat.le_refl _) _).trans (I.mono (by rw[zk];omega))
 have O:Hid (IM C A n j o S q H):=J.out.later z.out
 clear I
 unfold tkV
 go_wp2_with fail
 refine (zdZ C A n j o S q _ (O.out.alloc _)).mono ?_
 rintro e K ⟨rfl,D⟩
 have E:Hid (Below w.heap.size w K):=(z.out.alloc z.out.size _).trans (D.mono (by rw[zk];have:=z.out.size;omega))
 unfold Pan
 go_wp2
 exact⟨rfl,rfl,E.out⟩
theorem zea (C:Cx) (D n j z:Nat) (S:Sv) (q:PS) (x:ByteArray) (w:World) (h:IM C D n j z S q w):
  Calls Tryz.prog 171 #[.pointer (some ⟨z,0,none⟩),.string x] w (zQ C D n j z (zd C 1 x q) id (fun _=>.tuple #[]) S w):=by
 have A:=zc h
 clear h
 cases I:isT C q.pos 1 x with
 |true=>
  have K:Hid (zd C 1 x q= .ok (adv q)):=if_pos I
  go_enter Tryz.func171,Tryz.ntmps171
  go_wp2_with fail
  refine (zK C D n j z S q 1 x _ A.out (by decide)).mono ?_
  rintro e L ⟨rfl,o,H⟩
  rw[I] at o ⊢
  have E:=zc o
  clear o
  go_wp2
  go_end0
  rw[K.out]
  exact⟨rfl,S,E.out,H⟩
 |false=>
  have K:Hid (zd C 1 x q= .error (zr C q.pos)):=by show zd C 1 x q=_;rw[zd,I];rfl
  go_enter Tryz.func171,Tryz.ntmps171
  go_wp2_with fail
  refine (zK C D n j z S q 1 x _ A.out (by decide)).mono ?_
  rintro e L ⟨rfl,o,H⟩
  rw[I] at o ⊢
  have E:=zc o
  have N:Hid (Below j w L):=H.under A.out.mem.base A.out.mem.own A.out.ge
  clear o H
  go_wp2_with fail
  refine (zdZ C D n j z S q _ E.out).mono ?_
  rintro e M ⟨rfl,J⟩
  have O:Hid (Below j w M):=N.out.trans (J.mono E.out.mem.base)
  unfold Pan
  go_wp2
  refine⟨rfl,?_⟩
  rw[K.out]
  exact⟨rfl,O.out⟩
end Go.Proofs.YticdggnnpjachaaGreat
