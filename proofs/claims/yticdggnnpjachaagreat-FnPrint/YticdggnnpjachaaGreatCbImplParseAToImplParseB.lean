/-
  What the smallest methods of impl's parser answer: peek,refuse,comes,passes: the walks.
  What the readers of one token of impl's parser answer: isWord,take,passName,plainName,plainOrDefault,itemWord: the walks.
-/
import Derived.Test.YticdggnnpjachaaGreatCbImplParseMem
import Derived.Test.YticdggnnpjachaaGreatCbSpecParseA
namespace Go.Proofs.YticdggnnpjachaaGreat
set_option maxRecDepth 100000
set_option maxHeartbeats 3200000
open Go.RowKit Go.PlainAid
theorem zbr (C:Cx) (K o j D:Nat) (S:Sv) (q:PS) (w:World) (h:IM C K o j D S q w):
  Calls Tryz.prog 151 #[.pointer (some ⟨D,0,none⟩)] w fun e N=>e= .returned (tkV (ze C q.pos))∧Below w.heap.size w N:=by
 obtain⟨V,U,O,X,_,_,_,_,_,_,Q⟩:=zac h.cells
 have L:=h.lt
 have J:=(zan h.mem.tok).1
 have I:=h.mem.few
 by_cases M:q.pos<C.ts.length
 ·obtain⟨E,H,z,A⟩:=h.mem.tok.cells M (d:=⟨0,sNone,0,C.fin⟩)
  change _=some (Value.int .i64 (ze C q.pos).kind) at E
  change _=some (Value.string (ze C q.pos).text) at H
  change _=some (Value.int .i64 (ze C q.pos).num) at z
  change _=some (Value.int .i64 (ze C q.pos).pos) at A
  unfold tkV
  generalize ze C q.pos=t at E H z A
  have n:(q.pos:Int)<(C.ts.length:Int):=by omega
  clear h
  go_enter Tryz.func151,Tryz.ntmps151
  go_wp2_with fail
  go_quiet (fail)
  go_wp2
  go_region
  all_goals
   go_wp2
   refine bodyPost_ret (results_cell_row rfl _ _ w.heap.size 111 _ (0,0) _ rfl (zgv (show ((w.alloc _).drewN _).heap[w.heap.size]? =_ from heap_alloc_new w _)) Tryz.underlying111 rfl (by kernel_rfl)) rfl ?_
   exact⟨rfl,zhP (zhQ ((Below.refl _ _).alloc (Nat.le_refl _) _) _) (Nat.le_refl _) _ _ _ _⟩
 ·rw[zdl (by omega)]
  unfold tkV
  have n: ¬(q.pos:Int)<(C.ts.length:Int):=by omega
  clear h
  go_enter Tryz.func151,Tryz.ntmps151
  go_wp2_with fail
  go_quiet (fail)
  go_wp2
  refine bodyPost_ret (results_cell_row rfl _ _ w.heap.size 111 _ (0,0) _ rfl (zgv (show ((w.alloc _).drewN _).heap[w.heap.size]? =_ from heap_alloc_new w _)) Tryz.underlying111 rfl (by kernel_rfl)) rfl ?_
  exact⟨rfl,zhP (zhQ ((Below.refl _ _).alloc (Nat.le_refl _) _) _) (Nat.le_refl _) _ _ _ _⟩
theorem zcH (a c d:Int) (b:ByteArray) (w:World):(Instr.field 111 (.agg #[.int .i64 a,.string b,.int .i64 c,.int .i64 d]) 0).run Tryz.prog w= .ok (.int .i64 a) w:=by kernel_rfl
theorem zc0 (a c d:Int) (b:ByteArray) (w:World):(Instr.field 111 (.agg #[.int .i64 a,.string b,.int .i64 c,.int .i64 d]) 1).run Tryz.prog w= .ok (.string b) w:=by kernel_rfl
theorem zdY (a c d:Int) (b:ByteArray) (w:World):(Instr.field 111 (.agg #[.int .i64 a,.string b,.int .i64 c,.int .i64 d]) 2).run Tryz.prog w= .ok (.int .i64 c) w:=by kernel_rfl
theorem zlD (a c d:Int) (b:ByteArray) (w:World):(Instr.field 111 (.agg #[.int .i64 a,.string b,.int .i64 c,.int .i64 d]) 3).run Tryz.prog w= .ok (.int .i64 d) w:=by kernel_rfl
theorem zdZ (C:Cx) (z n j o:Nat) (S:Sv) (q:PS) (w:World) (h:IM C z n j o S q w):
  Calls Tryz.prog 180 #[.pointer (some ⟨o,0,none⟩)] w fun e D=>e=Pan (zr C q.pos)∧Below w.heap.size w D:=by
 have A:=zc h
 clear h
 have H:=zlD
 go_enter Tryz.func180,Tryz.ntmps180
 go_wp2_with fail
 refine (zbr C z n j o S q _ A.out).mono ?_
 rintro e I ⟨rfl,E⟩
 unfold tkV
 go_wp2
 exact⟨rfl,rfl,E⟩
theorem zbO (C:Cx) (E n j D:Nat) (S:Sv) (q:PS) (k:Int) (x:ByteArray) (w:World) (h:IM C E n j D S q w):
  Calls Tryz.prog 195 #[.pointer (some ⟨D,0,none⟩),.int .i64 k,.string x] w fun e L=>e= .returned (.bool (isT C q.pos k x))∧Below w.heap.size w L:=by
 have I:=zc h
 clear h
 have J:Hid (tkV (ze C q.pos)= .agg #[.int .i64 (ze C q.pos).kind,.string (ze C q.pos).text,.int .i64 (ze C q.pos).num,.int .i64 (ze C q.pos).pos]):=rfl
 cases z:((ze C q.pos).kind==k) with
 |true=>
  cases H:((ze C q.pos).text.toList==x.toList) with
  |true=>
   have A:Hid (isT C q.pos k x=true):=by show isT C q.pos k x=true;rw[isT,z,H];rfl
   clear J
   go_enter Tryz.func195,Tryz.ntmps195
   go_wp2_with fail
   refine (zbr C E n j D S q _ I.out).mono ?_
   rintro e K ⟨rfl,o⟩
   unfold tkV
   generalize ze C q.pos=t at z H ⊢
   go_wp2
   go_ret
   exact⟨zm A.out.symm,o.alloc o.size _⟩
  |false=>
   have A:Hid (isT C q.pos k x=false):=by show isT C q.pos k x=false;rw[isT,z,H];rfl
   clear J
   go_enter Tryz.func195,Tryz.ntmps195
   go_wp2_with fail
   refine (zbr C E n j D S q _ I.out).mono ?_
   rintro e K ⟨rfl,o⟩
   unfold tkV
   generalize ze C q.pos=t at z H ⊢
   go_wp2
   go_ret
   exact⟨zm A.out.symm,o.alloc o.size _⟩
 |false=>
  have A:Hid (isT C q.pos k x=false):=zhY z
  clear J
  go_enter Tryz.func195,Tryz.ntmps195
  go_wp2_with fail
  refine (zbr C E n j D S q _ I.out).mono ?_
  rintro e K ⟨rfl,o⟩
  unfold tkV
  generalize ze C q.pos=t at z ⊢
  go_wp2
  go_ret
  exact⟨zm A.out.symm,o.alloc o.size _⟩
theorem zK (C:Cx) (z n j o:Nat) (S:Sv) (q:PS) (k:Int) (x:ByteArray) (w:World) (h:IM C z n j o S q w) (L:k≠0):
  Calls Tryz.prog 173 #[.pointer (some ⟨o,0,none⟩),.int .i64 k,.string x] w fun e K=>e= .returned (.bool (isT C q.pos k x))∧IM C z n j o S (if isT C q.pos k x then adv q else q) K∧IS o S w S K:=by
 have D:=zc h
 have J:=h.mem.few
 clear h
 cases E:isT C q.pos k x with
 |true=>
  have M:q.pos<C.ts.length:=za1 E L
  go_enter Tryz.func173,Tryz.ntmps173
  go_wp2_with fail
  refine (zbO C z n j o S q k x _ D.out).mono ?_
  rintro e H ⟨rfl,A⟩
  rw[E]
  have I:Hid (IM C z n j o S q H):=D.out.later A
  obtain⟨U,Q,N,V,_,_,_,_,_,_,O⟩:=zac I.out.cells
  go_wp2
  go_ret
  exact⟨rfl,I.out.adv M,(IS.below A).set _ _⟩
 |false=>
  go_enter Tryz.func173,Tryz.ntmps173
  go_wp2_with fail
  refine (zbO C z n j o S q k x _ D.out).mono ?_
  rintro e H ⟨rfl,A⟩
  rw[E]
  go_wp2
  go_ret
  exact⟨rfl,D.out.later A,IS.below A⟩
theorem zlE (s:ByteArray) (j:Bool) (w:World):
  Calls Tryz.prog 181 #[.string s,.bool j] w fun e L=>e= .returned (.bool (zu s j))∧L=w:=by
 cases o:(s.toList==[105,109,112,111,114,116]) with
 |true=>
  have n:Hid (zu s j=true):=by show zu s j=true;simp[zu,o]
  go_enter Tryz.func181,Tryz.ntmps181
  go_wp2
  go_ret
  exact⟨zm n.out.symm,rfl⟩
 |false=>
  cases q:(s.toList==[101,120,112,111,114,116]) with
  |true=>
   have n:Hid (zu s j=true):=by show zu s j=true;simp[zu,o,q]
   go_enter Tryz.func181,Tryz.ntmps181
   go_wp2
   go_ret
   exact⟨zm n.out.symm,rfl⟩
  |false=>
   cases z:(s.toList==[100,101,102,97,117,108,116]) with
   |true=>
    have n:Hid (zu s j=true):=by show zu s j=true;simp[zu,o,q,z]
    go_enter Tryz.func181,Tryz.ntmps181
    go_wp2
    go_ret
    exact⟨zm n.out.symm,rfl⟩
   |false=>
    cases A:(s.toList==[108,101,116]) with
    |true=>
     have n:Hid (zu s j=true):=by show zu s j=true;simp[zu,o,q,z,A]
     go_enter Tryz.func181,Tryz.ntmps181
     go_wp2
     go_ret
     exact⟨zm n.out.symm,rfl⟩
    |false=>
     cases D:(s.toList==[102,117,110,99,116,105,111,110]) with
     |true=>
      have n:Hid (zu s j=true):=by show zu s j=true;simp[zu,o,q,z,A,D]
      go_enter Tryz.func181,Tryz.ntmps181
      go_wp2
      go_ret
      exact⟨zm n.out.symm,rfl⟩
     |false=>
      cases E:(s.toList==[114,101,116,117,114,110]) with
      |true=>
       have n:Hid (zu s j=true):=by show zu s j=true;simp[zu,o,q,z,A,D,E]
       go_enter Tryz.func181,Tryz.ntmps181
       go_wp2
       go_ret
       exact⟨zm n.out.symm,rfl⟩
      |false=>
       cases H:(s.toList==[112,114,105,110,116]) with
       |true=>
        have n:Hid (zu s j=true):=by show zu s j=true;simp[zu,o,q,z,A,D,E,H]
        go_enter Tryz.func181,Tryz.ntmps181
        go_wp2
        go_ret
        exact⟨zm n.out.symm,rfl⟩
       |false=>
        cases I:(s.toList==[116,104,114,111,119]) with
        |true=>
         have n:Hid (zu s j=true):=by show zu s j=true;simp[zu,o,q,z,A,D,E,H,I]
         go_enter Tryz.func181,Tryz.ntmps181
         go_wp2
         go_ret
         exact⟨zm n.out.symm,rfl⟩
        |false=>
         cases J:(s.toList==[102,97,105,108]) with
         |true=>
          have n:Hid (zu s j=j):=by show zu s j=j;simp[zu,o,q,z,A,D,E,H,I,J]
          go_enter Tryz.func181,Tryz.ntmps181
          go_wp2
          go_ret
          exact⟨zm n.out.symm,rfl⟩
         |false=>
          cases K:(s.toList==[117,110,100,101,102]) with
          |true=>
           have n:Hid (zu s j=j):=by show zu s j=j;simp[zu,o,q,z,A,D,E,H,I,J,K]
           go_enter Tryz.func181,Tryz.ntmps181
           go_wp2
           go_ret
           exact⟨zm n.out.symm,rfl⟩
          |false=>
           have n:Hid (zu s j=false):=by show zu s j=false;simp[zu,o,q,z,A,D,E,H,I,J,K]
           go_enter Tryz.func181,Tryz.ntmps181
           go_wp2
           go_ret
           exact⟨zm n.out.symm,rfl⟩
theorem zd2 (C:Cx) (E n j o:Nat) (S:Sv) (q:PS) (k:Int) (w:World) (h:IM C E n j o S q w) (K:((ze C q.pos).kind==k)=true) (X:k≠0):
  Calls Tryz.prog 182 #[.pointer (some ⟨o,0,none⟩),.int .i64 k] w fun e U=>e= .returned (tkV (ze C q.pos))∧IM C E n j o S (adv q) U∧IS o S w S U:=by
 have A:=zc h
 have Q:=h.mem.few
 have Z:q.pos<C.ts.length:=zfn K X
 have I:((ze C q.pos).kind !=k)=false:=by rw[bne,K];rfl
 clear h
 go_enter Tryz.func182,Tryz.ntmps182
 go_wp2_with fail
 refine (zbr C E n j o S q _ (A.out.alloc _)).mono ?_
 rintro e z ⟨rfl,H⟩
 have O:Hid (Below w.heap.size w z):=((Below.refl _ _).alloc (Nat.le_refl _) _).trans (H.mono (by rw[zk];omega))
 have N:Hid (z.heap[w.heap.size]? =_):=(H.block _ (by rw[zk];omega)).trans (heap_alloc_new w _)
 have V:w.heap.size<z.heap.size:=by have:=H.size;rw[zk] at this;omega
 have L:Hid (IM C E n j o S q z):=A.out.later O.out
 have Y:o<w.heap.size:=A.out.lt
 have M:o<z.heap.size:=L.out.lt
 obtain⟨c0,c1,c2,c3,_,_,_,_,_,_,cf⟩:=zac L.out.cells
 obtain⟨d0,d1,d2,d3,df⟩:=zdn N.out
 clear H
 unfold tkV
 generalize D:ze C q.pos=t at K I ⊢
 have J:=zc D
 clear D
 go_wp2
 refine bodyPost_ret (results_cell_row rfl _ _ w.heap.size 111 _ (0,0) _ rfl (zck (zgv ((zi (c:=o) (by omega)).trans N.out))) Tryz.underlying111 rfl (by kernel_rfl)) rfl ?_
 refine⟨by rw[J.out];rfl,?_,?_⟩
 ·exact (IM.scratch (b:=w.heap.size) (L.out.adv Z) (by omega) (by have:=(zan A.out.mem.tok).1;omega) (fun g=>by have:=(A.out.mem.own.has g).2;omega) ..).alloc _
 ·exact (IS.scratch (b:=w.heap.size) ((IS.below O.out).set _ _) (Nat.le_refl _) ..).alloc _
theorem zhZ (C:Cx) (z n j o:Nat) (S:Sv) (q:PS) (k:Int) (w:World) (h:IM C z n j o S q w) (M:((ze C q.pos).kind==k)=false):
  Calls Tryz.prog 182 #[.pointer (some ⟨o,0,none⟩),.int .i64 k] w fun e O=>e=Pan (zr C q.pos)∧Below w.heap.size w O:=by
 have H:=zc h
 have L:((ze C q.pos).kind !=k)=true:=by rw[bne,M];rfl
 clear h
 go_enter Tryz.func182,Tryz.ntmps182
 go_wp2_with fail
 refine (zbr C z n j o S q _ (H.out.alloc _)).mono ?_
 rintro e I ⟨rfl,J⟩
 have A:Hid (Below w.heap.size w I):=((Below.refl _ _).alloc (Nat.le_refl _) _).trans (J.mono (by rw[zk];omega))
 have N:Hid (IM C z n j o S q I):=H.out.later A.out
 clear J
 unfold tkV
 go_wp2_with fail
 refine (zdZ C z n j o S q _ (N.out.alloc _)).mono ?_
 rintro e K ⟨rfl,E⟩
 have D:Hid (Below w.heap.size w K):=(A.out.alloc A.out.size _).trans (E.mono (by rw[zk];have:=A.out.size;omega))
 unfold Pan
 go_wp2
 exact⟨rfl,rfl,D.out⟩
theorem zea (C:Cx) (A n j z:Nat) (S:Sv) (q:PS) (x:ByteArray) (w:World) (h:IM C A n j z S q w):
  Calls Tryz.prog 171 #[.pointer (some ⟨z,0,none⟩),.string x] w (zQ C A n j z (zd C 1 x q) id (fun _=>.tuple #[]) S w):=by
 have D:=zc h
 clear h
 cases E:isT C q.pos 1 x with
 |true=>
  have K:Hid (zd C 1 x q= .ok (adv q)):=if_pos E
  go_enter Tryz.func171,Tryz.ntmps171
  go_wp2_with fail
  refine (zK C A n j z S q 1 x _ D.out (by decide)).mono ?_
  rintro e L ⟨rfl,o,H⟩
  rw[E] at o ⊢
  have I:=zc o
  clear o
  go_wp2
  go_end0
  rw[K.out]
  exact⟨rfl,S,I.out,H⟩
 |false=>
  have K:Hid (zd C 1 x q= .error (zr C q.pos)):=by show zd C 1 x q=_;rw[zd,E];rfl
  go_enter Tryz.func171,Tryz.ntmps171
  go_wp2_with fail
  refine (zK C A n j z S q 1 x _ D.out (by decide)).mono ?_
  rintro e L ⟨rfl,o,H⟩
  rw[E] at o ⊢
  have I:=zc o
  have O:Hid (Below j w L):=H.under D.out.mem.base D.out.mem.own D.out.ge
  clear o H
  go_wp2_with fail
  refine (zdZ C A n j z S q _ I.out).mono ?_
  rintro e N ⟨rfl,J⟩
  have M:Hid (Below j w N):=O.out.trans (J.mono I.out.mem.base)
  unfold Pan
  go_wp2
  refine⟨rfl,?_⟩
  rw[K.out]
  exact⟨rfl,M.out⟩
end Go.Proofs.YticdggnnpjachaaGreat
