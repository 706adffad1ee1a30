/-
  What the smallest methods of impl's parser answer: peek,refuse,comes,passes: the walks.
  What the readers of one token of impl's parser answer: isWord,take,passName,plainName,plainOrDefault,itemWord: the walks.
-/
import Derived.Deep.QuietTactic
import Derived.BigQuiet
import Derived.Test.YticdggnnpjachaaGreatCcSpecParseA
namespace Go.Proofs.YticdggnnpjachaaGreat
set_option maxRecDepth 100000
set_option maxHeartbeats 3200000
open Go.RowKit Go.PlainAid
theorem zbk (C:Cx) (N n j H:Nat) (S:Sv) (q:PS) (w:World) (h:IM C N n j H S q w):
  Calls Tryz.prog 151 #[.pointer (some ⟨H,0,none⟩)] w fun e L=>e= .returned (tkV (ze C q.pos))∧Below w.heap.size w L:=by
 obtain⟨U,Y,O,X,_,_,_,_,_,_,V⟩:=zaa h.cells
 have M:=h.lt
 have I:=(zak h.mem.tok).1
 have J:=h.mem.few
 by_cases K:q.pos<C.ts.length
 ·obtain⟨z,E,D,A⟩:=h.mem.tok.cells K (d:=⟨0,sNone,0,C.fin⟩)
  change _=some (Value.int .i64 (ze C q.pos).kind) at z
  change _=some (Value.string (ze C q.pos).text) at E
  change _=some (Value.int .i64 (ze C q.pos).num) at D
  change _=some (Value.int .i64 (ze C q.pos).pos) at A
  unfold tkV
  generalize ze C q.pos=t at z E D A
  have o:(q.pos:Int)<(C.ts.length:Int):=by omega
  clear h
  go_enter Tryz.func151,Tryz.ntmps151
  go_wp2_with fail
  go_quiet (fail)
  go_wp2
  go_region
  all_goals
   go_wp2
   refine bodyPost_ret (results_cell_row rfl _ _ w.heap.size 111 _ (0,0) _ rfl (zfK (show ((w.alloc _).drewN _).heap[w.heap.size]? =_ from heap_alloc_new w _)) Tryz.underlying111 rfl (by kernel_rfl)) rfl ?_
   exact⟨rfl,zgX (zgY ((Below.refl _ _).alloc (Nat.le_refl _) _) _) (Nat.le_refl _) _ _ _ _⟩
 ·rw[zdb (by omega)]
  unfold tkV
  have o: ¬(q.pos:Int)<(C.ts.length:Int):=by omega
  clear h
  go_enter Tryz.func151,Tryz.ntmps151
  go_wp2_with fail
  go_quiet (fail)
  go_wp2
  refine bodyPost_ret (results_cell_row rfl _ _ w.heap.size 111 _ (0,0) _ rfl (zfK (show ((w.alloc _).drewN _).heap[w.heap.size]? =_ from heap_alloc_new w _)) Tryz.underlying111 rfl (by kernel_rfl)) rfl ?_
  exact⟨rfl,zgX (zgY ((Below.refl _ _).alloc (Nat.le_refl _) _) _) (Nat.le_refl _) _ _ _ _⟩
theorem zc1 (a c d:Int) (b:ByteArray) (w:World):(Instr.field 111 (.agg #[.int .i64 a,.string b,.int .i64 c,.int .i64 d]) 0).run Tryz.prog w= .ok (.int .i64 a) w:=by kernel_rfl
theorem zco (a c d:Int) (b:ByteArray) (w:World):(Instr.field 111 (.agg #[.int .i64 a,.string b,.int .i64 c,.int .i64 d]) 1).run Tryz.prog w= .ok (.string b) w:=by kernel_rfl
theorem zdF (a c d:Int) (b:ByteArray) (w:World):(Instr.field 111 (.agg #[.int .i64 a,.string b,.int .i64 c,.int .i64 d]) 2).run Tryz.prog w= .ok (.int .i64 c) w:=by kernel_rfl
theorem zkq (a c d:Int) (b:ByteArray) (w:World):(Instr.field 111 (.agg #[.int .i64 a,.string b,.int .i64 c,.int .i64 d]) 3).run Tryz.prog w= .ok (.int .i64 d) w:=by kernel_rfl
theorem zdG (C:Cx) (z n j o:Nat) (S:Sv) (q:PS) (w:World) (h:IM C z n j o S q w):
  Calls Tryz.prog 180 #[.pointer (some ⟨o,0,none⟩)] w fun e A=>e=Pan (zq C q.pos)∧Below w.heap.size w A:=by
 have E:=zc h
 clear h
 have I:=zkq
 go_enter Tryz.func180,Tryz.ntmps180
 go_wp2_with fail
 refine (zbk C z n j o S q _ E.out).mono ?_
 rintro e H ⟨rfl,D⟩
 unfold tkV
 go_wp2
 exact⟨rfl,rfl,D⟩
theorem zbI (C:Cx) (H n j D:Nat) (S:Sv) (q:PS) (k:Int) (x:ByteArray) (w:World) (h:IM C H n j D S q w):
  Calls Tryz.prog 195 #[.pointer (some ⟨D,0,none⟩),.int .i64 k,.string x] w fun e L=>e= .returned (.bool (isT C q.pos k x))∧Below w.heap.size w L:=by
 have I:=zc h
 clear h
 have J:Hid (tkV (ze C q.pos)= .agg #[.int .i64 (ze C q.pos).kind,.string (ze C q.pos).text,.int .i64 (ze C q.pos).num,.int .i64 (ze C q.pos).pos]):=rfl
 cases z:((ze C q.pos).kind==k) with
 |true=>
  cases E:((ze C q.pos).text.toList==x.toList) with
  |true=>
   have A:Hid (isT C q.pos k x=true):=by show isT C q.pos k x=true;rw[isT,z,E];rfl
   clear J
   go_enter Tryz.func195,Tryz.ntmps195
   go_wp2_with fail
   refine (zbk C H n j D S q _ I.out).mono ?_
   rintro e K ⟨rfl,o⟩
   unfold tkV
   generalize ze C q.pos=t at z E ⊢
   go_wp2
   go_ret
   exact⟨zl A.out.symm,o.alloc o.size _⟩
  |false=>
   have A:Hid (isT C q.pos k x=false):=by show isT C q.pos k x=false;rw[isT,z,E];rfl
   clear J
   go_enter Tryz.func195,Tryz.ntmps195
   go_wp2_with fail
   refine (zbk C H n j D S q _ I.out).mono ?_
   rintro e K ⟨rfl,o⟩
   unfold tkV
   generalize ze C q.pos=t at z E ⊢
   go_wp2
   go_ret
   exact⟨zl A.out.symm,o.alloc o.size _⟩
 |false=>
  have A:Hid (isT C q.pos k x=false):=zhi z
  clear J
  go_enter Tryz.func195,Tryz.ntmps195
  go_wp2_with fail
  refine (zbk C H n j D S q _ I.out).mono ?_
  rintro e K ⟨rfl,o⟩
  unfold tkV
  generalize ze C q.pos=t at z ⊢
  go_wp2
  go_ret
  exact⟨zl A.out.symm,o.alloc o.size _⟩
theorem zH (C:Cx) (z n j o:Nat) (S:Sv) (q:PS) (k:Int) (x:ByteArray) (w:World) (h:IM C z n j o S q w) (L:k≠0):
  Calls Tryz.prog 173 #[.pointer (some ⟨o,0,none⟩),.int .i64 k,.string x] w fun e I=>e= .returned (.bool (isT C q.pos k x))∧IM C z n j o S (if isT C q.pos k x then adv q else q) I∧IS o S w S I:=by
 have D:=zc h
 have K:=h.mem.few
 clear h
 cases E:isT C q.pos k x with
 |true=>
  have M:q.pos<C.ts.length:=zaz E L
  go_enter Tryz.func173,Tryz.ntmps173
  go_wp2_with fail
  refine (zbI C z n j o S q k x _ D.out).mono ?_
  rintro e H ⟨rfl,A⟩
  rw[E]
  have J:Hid (IM C z n j o S q H):=D.out.later A
  obtain⟨O,X,N,V,_,_,_,_,_,_,U⟩:=zaa J.out.cells
  go_wp2
  go_ret
  exact⟨rfl,J.out.adv M,(IS.below A).set _ _⟩
 |false=>
  go_enter Tryz.func173,Tryz.ntmps173
  go_wp2_with fail
  refine (zbI C z n j o S q k x _ D.out).mono ?_
  rintro e H ⟨rfl,A⟩
  rw[E]
  go_wp2
  go_ret
  exact⟨rfl,D.out.later A,IS.below A⟩
theorem zkr (s:ByteArray) (h:Bool) (w:World):
  Calls Tryz.prog 181 #[.string s,.bool h] w fun e K=>e= .returned (.bool (zs s h))∧K=w:=by
 cases n:(s.toList==[105,109,112,111,114,116]) with
 |true=>
  have j:Hid (zs s h=true):=by show zs s h=true;simp[zs,n]
  go_enter Tryz.func181,Tryz.ntmps181
  go_wp2
  go_ret
  exact⟨zl j.out.symm,rfl⟩
 |false=>
  cases o:(s.toList==[101,120,112,111,114,116]) with
  |true=>
   have j:Hid (zs s h=true):=by show zs s h=true;simp[zs,n,o]
   go_enter Tryz.func181,Tryz.ntmps181
   go_wp2
   go_ret
   exact⟨zl j.out.symm,rfl⟩
  |false=>
   cases q:(s.toList==[100,101,102,97,117,108,116]) with
   |true=>
    have j:Hid (zs s h=true):=by show zs s h=true;simp[zs,n,o,q]
    go_enter Tryz.func181,Tryz.ntmps181
    go_wp2
    go_ret
    exact⟨zl j.out.symm,rfl⟩
   |false=>
    cases z:(s.toList==[108,101,116]) with
    |true=>
     have j:Hid (zs s h=true):=by show zs s h=true;simp[zs,n,o,q,z]
     go_enter Tryz.func181,Tryz.ntmps181
     go_wp2
     go_ret
     exact⟨zl j.out.symm,rfl⟩
    |false=>
     cases A:(s.toList==[102,117,110,99,116,105,111,110]) with
     |true=>
      have j:Hid (zs s h=true):=by show zs s h=true;simp[zs,n,o,q,z,A]
      go_enter Tryz.func181,Tryz.ntmps181
      go_wp2
      go_ret
      exact⟨zl j.out.symm,rfl⟩
     |false=>
      cases D:(s.toList==[114,101,116,117,114,110]) with
      |true=>
       have j:Hid (zs s h=true):=by show zs s h=true;simp[zs,n,o,q,z,A,D]
       go_enter Tryz.func181,Tryz.ntmps181
       go_wp2
       go_ret
       exact⟨zl j.out.symm,rfl⟩
      |false=>
       cases E:(s.toList==[112,114,105,110,116]) with
       |true=>
        have j:Hid (zs s h=true):=by show zs s h=true;simp[zs,n,o,q,z,A,D,E]
        go_enter Tryz.func181,Tryz.ntmps181
        go_wp2
        go_ret
        exact⟨zl j.out.symm,rfl⟩
       |false=>
        cases H:(s.toList==[116,104,114,111,119]) with
        |true=>
         have j:Hid (zs s h=true):=by show zs s h=true;simp[zs,n,o,q,z,A,D,E,H]
         go_enter Tryz.func181,Tryz.ntmps181
         go_wp2
         go_ret
         exact⟨zl j.out.symm,rfl⟩
        |false=>
         cases I:(s.toList==[102,97,105,108]) with
         |true=>
          have j:Hid (zs s h=h):=by show zs s h=h;simp[zs,n,o,q,z,A,D,E,H,I]
          go_enter Tryz.func181,Tryz.ntmps181
          go_wp2
          go_ret
          exact⟨zl j.out.symm,rfl⟩
         |false=>
          cases J:(s.toList==[117,110,100,101,102]) with
          |true=>
           have j:Hid (zs s h=h):=by show zs s h=h;simp[zs,n,o,q,z,A,D,E,H,I,J]
           go_enter Tryz.func181,Tryz.ntmps181
           go_wp2
           go_ret
           exact⟨zl j.out.symm,rfl⟩
          |false=>
           have j:Hid (zs s h=false):=by show zs s h=false;simp[zs,n,o,q,z,A,D,E,H,I,J]
           go_enter Tryz.func181,Tryz.ntmps181
           go_wp2
           go_ret
           exact⟨zl j.out.symm,rfl⟩
theorem zdi (C:Cx) (E o j n:Nat) (S:Sv) (q:PS) (k:Int) (w:World) (h:IM C E o j n S q w) (J:((ze C q.pos).kind==k)=true) (Z:k≠0):
  Calls Tryz.prog 182 #[.pointer (some ⟨n,0,none⟩),.int .i64 k] w fun e N=>e= .returned (tkV (ze C q.pos))∧IM C E o j n S (adv q) N∧IS n S w S N:=by
 have A:=zc h
 have V:=h.mem.few
 have Y:q.pos<C.ts.length:=zeI J Z
 have L:((ze C q.pos).kind !=k)=false:=by rw[bne,J];rfl
 clear h
 go_enter Tryz.func182,Tryz.ntmps182
 go_wp2_with fail
 refine (zbk C E o j n S q _ (A.out.alloc _)).mono ?_
 rintro e z ⟨rfl,H⟩
 have M:Hid (Below w.heap.size w z):=((Below.refl _ _).alloc (Nat.le_refl _) _).trans (H.mono (by rw[zj];omega))
 have U:Hid (z.heap[w.heap.size]? =_):=(H.block _ (by rw[zj];omega)).trans (heap_alloc_new w _)
 have X:w.heap.size<z.heap.size:=by have:=H.size;rw[zj] at this;omega
 have K:Hid (IM C E o j n S q z):=A.out.later M.out
 have aa:n<w.heap.size:=A.out.lt
 have O:n<z.heap.size:=K.out.lt
 obtain⟨c0,c1,c2,c3,_,_,_,_,_,_,cf⟩:=zaa K.out.cells
 obtain⟨d0,d1,d2,d3,df⟩:=zcV U.out
 clear H
 unfold tkV
 generalize D:ze C q.pos=t at J L ⊢
 have I:=zc D
 clear D
 go_wp2
 refine bodyPost_ret (results_cell_row rfl _ _ w.heap.size 111 _ (0,0) _ rfl (zce (zfK ((zp (c:=n) (by omega)).trans U.out))) Tryz.underlying111 rfl (by kernel_rfl)) rfl ?_
 refine⟨by rw[I.out];rfl,?_,?_⟩
 ·exact (IM.scratch (b:=w.heap.size) (K.out.adv Y) (by omega) (by have:=(zak A.out.mem.tok).1;omega) (fun g=>by have:=(A.out.mem.own.has g).2;omega) ..).alloc _
 ·exact (IS.scratch (b:=w.heap.size) ((IS.below M.out).set _ _) (Nat.le_refl _) ..).alloc _
theorem zhj (C:Cx) (A n j o:Nat) (S:Sv) (q:PS) (k:Int) (w:World) (h:IM C A n j o S q w) (N:((ze C q.pos).kind==k)=false):
  Calls Tryz.prog 182 #[.pointer (some ⟨o,0,none⟩),.int .i64 k] w fun e L=>e=Pan (zq C q.pos)∧Below w.heap.size w L:=by
 have J:=zc h
 have M:((ze C q.pos).kind !=k)=true:=by rw[bne,N];rfl
 clear h
 go_enter Tryz.func182,Tryz.ntmps182
 go_wp2_with fail
 refine (zbk C A n j o S q _ (J.out.alloc _)).mono ?_
 rintro e H ⟨rfl,I⟩
 have z:Hid (Below w.heap.size w H):=((Below.refl _ _).alloc (Nat.le_refl _) _).trans (I.mono (by rw[zj];omega))
 have O:Hid (IM C A n j o S q H):=J.out.later z.out
 clear I
 unfold tkV
 go_wp2_with fail
 refine (zdG C A n j o S q _ (O.out.alloc _)).mono ?_
 rintro e K ⟨rfl,D⟩
 have E:Hid (Below w.heap.size w K):=(z.out.alloc z.out.size _).trans (D.mono (by rw[zj];have:=z.out.size;omega))
 unfold Pan
 go_wp2
 exact⟨rfl,rfl,E.out⟩
theorem zdH (C:Cx) (D n j z:Nat) (S:Sv) (q:PS) (x:ByteArray) (w:World) (h:IM C D n j z S q w):
  Calls Tryz.prog 171 #[.pointer (some ⟨z,0,none⟩),.string x] w (zN C D n j z (zd C 1 x q) id (fun _=>.tuple #[]) S w):=by
 have A:=zc h
 clear h
 cases I:isT C q.pos 1 x with
 |true=>
  have K:Hid (zd C 1 x q= .ok (adv q)):=if_pos I
  go_enter Tryz.func171,Tryz.ntmps171
  go_wp2_with fail
  refine (zH C D n j z S q 1 x _ A.out (by decide)).mono ?_
  rintro e L ⟨rfl,o,E⟩
  rw[I] at o ⊢
  have H:=zc o
  clear o
  go_wp2
  go_end0
  rw[K.out]
  exact⟨rfl,S,H.out,E⟩
 |false=>
  have K:Hid (zd C 1 x q= .error (zq C q.pos)):=by show zd C 1 x q=_;rw[zd,I];rfl
  go_enter Tryz.func171,Tryz.ntmps171
  go_wp2_with fail
  refine (zH C D n j z S q 1 x _ A.out (by decide)).mono ?_
  rintro e L ⟨rfl,o,E⟩
  rw[I] at o ⊢
  have H:=zc o
  have O:Hid (Below j w L):=E.under A.out.mem.base A.out.mem.own A.out.ge
  clear o E
  go_wp2_with fail
  refine (zdG C D n j z S q _ H.out).mono ?_
  rintro e M ⟨rfl,J⟩
  have N:Hid (Below j w M):=O.out.trans (J.mono H.out.mem.base)
  unfold Pan
  go_wp2
  refine⟨rfl,?_⟩
  rw[K.out]
  exact⟨rfl,N.out⟩
end Go.Proofs.YticdggnnpjachaaGreat
