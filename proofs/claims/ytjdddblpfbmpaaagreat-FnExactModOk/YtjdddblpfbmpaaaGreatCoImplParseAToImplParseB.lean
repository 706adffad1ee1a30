/-
  What the smallest methods of impl's parser answer: peek,refuse,comes,passes: the walks.
  What the readers of one token of impl's parser answer: isWord,take,passName,plainName,plainOrDefault,itemWord: the walks.
-/
import Derived.Deep.QuietTactic
import Derived.BigQuiet
import Derived.Test.YtjdddblpfbmpaaaGreatCoImplParseMem
import Derived.Test.YtjdddblpfbmpaaaGreatCoSpecParseA
namespace Go.Proofs.YtjdddblpfbmpaaaGreat
set_option maxRecDepth 100000
set_option maxHeartbeats 3200000
open Go.RowKit Go.PlainAid
theorem zbg (C:Cx) (O z j E:Nat) (S:Sv) (q:PS) (w:World) (h:IM C O z j E S q w):
  Calls Tryz.prog 193 #[.pointer (some ⟨E,0,none⟩)] w fun e M=>e= .returned (tkV (ze C q.pos))∧Below w.heap.size w M:=by
 obtain⟨Z,U,V,Y,_,_,_,_,_,_,X⟩:=zY h.cells
 have L:=h.lt
 have H:=(zaj h.mem.tok).1
 have K:=h.mem.few
 by_cases N:q.pos<C.ts.length
 ·obtain⟨I,J,A,D⟩:=h.mem.tok.cells N (d:=⟨0,sNone,0,C.fin⟩)
  change _=some (Value.int .i64 (ze C q.pos).kind) at I
  change _=some (Value.string (ze C q.pos).text) at J
  change _=some (Value.int .i64 (ze C q.pos).num) at A
  change _=some (Value.int .i64 (ze C q.pos).pos) at D
  unfold tkV
  generalize ze C q.pos=t at I J A D
  have n:(q.pos:Int)<(C.ts.length:Int):=by omega
  clear h
  go_enter Tryz.func193,Tryz.ntmps193
  go_wp2_with fail
  go_quiet (fail)
  go_wp2
  go_region
  all_goals
   go_wp2
   refine bodyPost_ret (results_cell_row rfl _ _ w.heap.size 143 _ (0,0) _ rfl (zfH (show ((w.alloc _).drewN _).heap[w.heap.size]? =_ from heap_alloc_new w _)) Tryz.underlying143 rfl (by kernel_rfl)) rfl ?_
   exact⟨rfl,zgU (zgV ((Below.refl _ _).alloc (Nat.le_refl _) _) _) (Nat.le_refl _) _ _ _ _⟩
 ·rw[zcZ (by omega)]
  unfold tkV
  have n: ¬(q.pos:Int)<(C.ts.length:Int):=by omega
  clear h
  go_enter Tryz.func193,Tryz.ntmps193
  go_wp2_with fail
  go_quiet (fail)
  go_wp2
  refine bodyPost_ret (results_cell_row rfl _ _ w.heap.size 143 _ (0,0) _ rfl (zfH (show ((w.alloc _).drewN _).heap[w.heap.size]? =_ from heap_alloc_new w _)) Tryz.underlying143 rfl (by kernel_rfl)) rfl ?_
  exact⟨rfl,zgU (zgV ((Below.refl _ _).alloc (Nat.le_refl _) _) _) (Nat.le_refl _) _ _ _ _⟩
theorem zcy (a c d:Int) (b:ByteArray) (w:World):(Instr.field 143 (.agg #[.int .i64 a,.string b,.int .i64 c,.int .i64 d]) 0).run Tryz.prog w= .ok (.int .i64 a) w:=by kernel_rfl
theorem zcl (a c d:Int) (b:ByteArray) (w:World):(Instr.field 143 (.agg #[.int .i64 a,.string b,.int .i64 c,.int .i64 d]) 1).run Tryz.prog w= .ok (.string b) w:=by kernel_rfl
theorem zdC (a c d:Int) (b:ByteArray) (w:World):(Instr.field 143 (.agg #[.int .i64 a,.string b,.int .i64 c,.int .i64 d]) 2).run Tryz.prog w= .ok (.int .i64 c) w:=by kernel_rfl
theorem zkv (a c d:Int) (b:ByteArray) (w:World):(Instr.field 143 (.agg #[.int .i64 a,.string b,.int .i64 c,.int .i64 d]) 3).run Tryz.prog w= .ok (.int .i64 d) w:=by kernel_rfl
theorem zdD (C:Cx) (A n j z:Nat) (S:Sv) (q:PS) (w:World) (h:IM C A n j z S q w):
  Calls Tryz.prog 214 #[.pointer (some ⟨z,0,none⟩)] w fun e E=>e=Pan (zp C q.pos)∧Below w.heap.size w E:=by
 have D:=zc h
 clear h
 have J:=zkv
 go_enter Tryz.func214,Tryz.ntmps214
 go_wp2_with fail
 refine (zbg C A n j z S q _ D.out).mono ?_
 rintro e I ⟨rfl,H⟩
 unfold tkV
 go_wp2
 exact⟨rfl,rfl,H⟩
theorem zbE (C:Cx) (H n j D:Nat) (S:Sv) (q:PS) (k:Int) (x:ByteArray) (w:World) (h:IM C H n j D S q w):
  Calls Tryz.prog 225 #[.pointer (some ⟨D,0,none⟩),.int .i64 k,.string x] w fun e M=>e= .returned (.bool (isT C q.pos k x))∧Below w.heap.size w M:=by
 have J:=zc h
 clear h
 have K:Hid (tkV (ze C q.pos)= .agg #[.int .i64 (ze C q.pos).kind,.string (ze C q.pos).text,.int .i64 (ze C q.pos).num,.int .i64 (ze C q.pos).pos]):=rfl
 cases A:((ze C q.pos).kind==k) with
 |true=>
  cases I:((ze C q.pos).text.toList==x.toList) with
  |true=>
   have E:Hid (isT C q.pos k x=true):=by show isT C q.pos k x=true;rw[isT,A,I];rfl
   clear K
   go_enter Tryz.func225,Tryz.ntmps225
   go_wp2_with fail
   refine (zbg C H n j D S q _ J.out).mono ?_
   rintro e L ⟨rfl,z⟩
   unfold tkV
   generalize ze C q.pos=t at A I ⊢
   go_wp2
   go_ret
   exact⟨zl E.out.symm,z.alloc z.size _⟩
  |false=>
   have E:Hid (isT C q.pos k x=false):=by show isT C q.pos k x=false;rw[isT,A,I];rfl
   clear K
   go_enter Tryz.func225,Tryz.ntmps225
   go_wp2_with fail
   refine (zbg C H n j D S q _ J.out).mono ?_
   rintro e L ⟨rfl,z⟩
   unfold tkV
   generalize ze C q.pos=t at A I ⊢
   go_wp2
   go_ret
   exact⟨zl E.out.symm,z.alloc z.size _⟩
 |false=>
  have E:Hid (isT C q.pos k x=false):=zhf A
  clear K
  go_enter Tryz.func225,Tryz.ntmps225
  go_wp2_with fail
  refine (zbg C H n j D S q _ J.out).mono ?_
  rintro e L ⟨rfl,z⟩
  unfold tkV
  generalize ze C q.pos=t at A ⊢
  go_wp2
  go_ret
  exact⟨zl E.out.symm,z.alloc z.size _⟩
theorem zH (C:Cx) (D n j z:Nat) (S:Sv) (q:PS) (k:Int) (x:ByteArray) (w:World) (h:IM C D n j z S q w) (M:k≠0):
  Calls Tryz.prog 207 #[.pointer (some ⟨z,0,none⟩),.int .i64 k,.string x] w fun e J=>e= .returned (.bool (isT C q.pos k x))∧IM C D n j z S (if isT C q.pos k x then adv q else q) J∧IS z S w S J:=by
 have E:=zc h
 have L:=h.mem.few
 clear h
 cases H:isT C q.pos k x with
 |true=>
  have N:q.pos<C.ts.length:=zax H M
  go_enter Tryz.func207,Tryz.ntmps207
  go_wp2_with fail
  refine (zbE C D n j z S q k x _ E.out).mono ?_
  rintro e I ⟨rfl,A⟩
  rw[H]
  have K:Hid (IM C D n j z S q I):=E.out.later A
  obtain⟨Y,O,U,X,_,_,_,_,_,_,V⟩:=zY K.out.cells
  go_wp2
  go_ret
  exact⟨rfl,K.out.adv N,(IS.below A).set _ _⟩
 |false=>
  go_enter Tryz.func207,Tryz.ntmps207
  go_wp2_with fail
  refine (zbE C D n j z S q k x _ E.out).mono ?_
  rintro e I ⟨rfl,A⟩
  rw[H]
  go_wp2
  go_ret
  exact⟨rfl,E.out.later A,IS.below A⟩
theorem zkw (s:ByteArray) (h:Bool) (w:World):
  Calls Tryz.prog 215 #[.string s,.bool h] w fun e L=>e= .returned (.bool (zs s h))∧L=w:=by
 cases n:(s.toList==[105,109,112,111,114,116]) with
 |true=>
  have j:Hid (zs s h=true):=by show zs s h=true;simp[zs,n]
  go_enter Tryz.func215,Tryz.ntmps215
  go_wp2
  go_ret
  exact⟨zl j.out.symm,rfl⟩
 |false=>
  cases q:(s.toList==[101,120,112,111,114,116]) with
  |true=>
   have j:Hid (zs s h=true):=by show zs s h=true;simp[zs,n,q]
   go_enter Tryz.func215,Tryz.ntmps215
   go_wp2
   go_ret
   exact⟨zl j.out.symm,rfl⟩
  |false=>
   cases z:(s.toList==[100,101,102,97,117,108,116]) with
   |true=>
    have j:Hid (zs s h=true):=by show zs s h=true;simp[zs,n,q,z]
    go_enter Tryz.func215,Tryz.ntmps215
    go_wp2
    go_ret
    exact⟨zl j.out.symm,rfl⟩
   |false=>
    cases A:(s.toList==[108,101,116]) with
    |true=>
     have j:Hid (zs s h=true):=by show zs s h=true;simp[zs,n,q,z,A]
     go_enter Tryz.func215,Tryz.ntmps215
     go_wp2
     go_ret
     exact⟨zl j.out.symm,rfl⟩
    |false=>
     cases D:(s.toList==[102,117,110,99,116,105,111,110]) with
     |true=>
      have j:Hid (zs s h=true):=by show zs s h=true;simp[zs,n,q,z,A,D]
      go_enter Tryz.func215,Tryz.ntmps215
      go_wp2
      go_ret
      exact⟨zl j.out.symm,rfl⟩
     |false=>
      cases E:(s.toList==[114,101,116,117,114,110]) with
      |true=>
       have j:Hid (zs s h=true):=by show zs s h=true;simp[zs,n,q,z,A,D,E]
       go_enter Tryz.func215,Tryz.ntmps215
       go_wp2
       go_ret
       exact⟨zl j.out.symm,rfl⟩
      |false=>
       cases H:(s.toList==[112,114,105,110,116]) with
       |true=>
        have j:Hid (zs s h=true):=by show zs s h=true;simp[zs,n,q,z,A,D,E,H]
        go_enter Tryz.func215,Tryz.ntmps215
        go_wp2
        go_ret
        exact⟨zl j.out.symm,rfl⟩
       |false=>
        cases I:(s.toList==[116,104,114,111,119]) with
        |true=>
         have j:Hid (zs s h=true):=by show zs s h=true;simp[zs,n,q,z,A,D,E,H,I]
         go_enter Tryz.func215,Tryz.ntmps215
         go_wp2
         go_ret
         exact⟨zl j.out.symm,rfl⟩
        |false=>
         cases J:(s.toList==[102,97,105,108]) with
         |true=>
          have j:Hid (zs s h=h):=by show zs s h=h;simp[zs,n,q,z,A,D,E,H,I,J]
          go_enter Tryz.func215,Tryz.ntmps215
          go_wp2
          go_ret
          exact⟨zl j.out.symm,rfl⟩
         |false=>
          cases K:(s.toList==[117,110,100,101,102]) with
          |true=>
           have j:Hid (zs s h=h):=by show zs s h=h;simp[zs,n,q,z,A,D,E,H,I,J,K]
           go_enter Tryz.func215,Tryz.ntmps215
           go_wp2
           go_ret
           exact⟨zl j.out.symm,rfl⟩
          |false=>
           have j:Hid (zs s h=false):=by show zs s h=false;simp[zs,n,q,z,A,D,E,H,I,J,K]
           go_enter Tryz.func215,Tryz.ntmps215
           go_wp2
           go_ret
           exact⟨zl j.out.symm,rfl⟩
theorem zdf (C:Cx) (H z j n:Nat) (S:Sv) (q:PS) (k:Int) (w:World) (h:IM C H z j n S q w) (J:((ze C q.pos).kind==k)=true) (X:k≠0):
  Calls Tryz.prog 216 #[.pointer (some ⟨n,0,none⟩),.int .i64 k] w fun e M=>e= .returned (tkV (ze C q.pos))∧IM C H z j n S (adv q) M∧IS n S w S M:=by
 have V:=h.mem.few
 have Z:q.pos<C.ts.length:=zeF J X
 have I:((ze C q.pos).kind !=k)=false:=by rw[bne,J];rfl
 go_enter Tryz.func216,Tryz.ntmps216
 go_wp2_with fail
 refine (zbg C H z j n S q _ (h.alloc _)).mono ?_
 rintro e A ⟨rfl,E⟩
 have O:Below w.heap.size w A:=((Below.refl _ _).alloc (Nat.le_refl _) _).trans (E.mono (by rw[zk];omega))
 have N:Hid (A.heap[w.heap.size]? =_):=(E.block _ (by rw[zk];omega)).trans (heap_alloc_new w _)
 have aa:w.heap.size<A.heap.size:=by have:=E.size;rw[zk] at this;omega
 have L:Hid (IM C H z j n S q A):=h.later O
 have Y:n<w.heap.size:=h.lt
 have U:n<A.heap.size:=L.out.lt
 obtain⟨c0,c1,c2,c3,_,_,_,_,_,_,cf⟩:=zY L.out.cells
 obtain⟨d0,d1,d2,d3,df⟩:=zcT N.out
 clear E
 unfold tkV
 generalize D:ze C q.pos=t at J I ⊢
 have K:=zc D
 clear D
 go_wp2
 refine bodyPost_ret (results_cell_row rfl _ _ w.heap.size 143 _ (0,0) _ rfl (zca (zfH ((zt (c:=n) (by omega)).trans N.out))) Tryz.underlying143 rfl (by kernel_rfl)) rfl ?_
 refine⟨by rw[K.out];rfl,?_,?_⟩
 ·exact (IM.scratch (b:=w.heap.size) (L.out.adv Z) (by omega) (by have:=(zaj h.mem.tok).1;omega) (fun g=>by have:=(h.mem.own.has g).2;omega) ..).alloc _
 ·exact (IS.scratch (b:=w.heap.size) ((IS.below O).set _ _) (Nat.le_refl _) ..).alloc _
theorem zhg (C:Cx) (D n j z:Nat) (S:Sv) (q:PS) (k:Int) (w:World) (h:IM C D n j z S q w) (K:((ze C q.pos).kind==k)=false):
  Calls Tryz.prog 216 #[.pointer (some ⟨z,0,none⟩),.int .i64 k] w fun e M=>e=Pan (zp C q.pos)∧Below w.heap.size w M:=by
 have L:((ze C q.pos).kind !=k)=true:=by rw[bne,K];rfl
 go_enter Tryz.func216,Tryz.ntmps216
 go_wp2_with fail
 refine (zbg C D n j z S q _ (h.alloc _)).mono ?_
 rintro e I ⟨rfl,J⟩
 have A:Below w.heap.size w I:=((Below.refl _ _).alloc (Nat.le_refl _) _).trans (J.mono (by rw[zk];omega))
 have N:Hid (IM C D n j z S q I):=h.later A
 clear J
 unfold tkV
 go_wp2_with fail
 refine (zdD C D n j z S q _ (N.out.alloc _)).mono ?_
 rintro e O ⟨rfl,E⟩
 have H:Below w.heap.size w O:=(A.alloc A.size _).trans (E.mono (by rw[zk];have:=A.size;omega))
 unfold Pan
 go_wp2
 exact⟨rfl,rfl,H⟩
theorem zdE (C:Cx) (D n j A:Nat) (S:Sv) (q:PS) (x:ByteArray) (w:World) (h:IM C D n j A S q w):
  Calls Tryz.prog 205 #[.pointer (some ⟨A,0,none⟩),.string x] w (zM C D n j A (zd C 1 x q) id (fun _=>.tuple #[]) S w):=by
 cases I:isT C q.pos 1 x with
 |true=>
  have K:Hid (zd C 1 x q= .ok (adv q)):=if_pos I
  go_enter Tryz.func205,Tryz.ntmps205
  go_wp2_with fail
  refine (zH C D n j A S q 1 x _ h (by decide)).mono ?_
  rintro e L ⟨rfl,z,H⟩
  rw[I] at z ⊢
  have E:=zc z
  clear z
  go_wp2
  go_end0
  rw[K.out]
  exact⟨rfl,S,E.out,H⟩
 |false=>
  have K:Hid (zd C 1 x q= .error (zp C q.pos)):=by show zd C 1 x q=_;rw[zd,I];rfl
  go_enter Tryz.func205,Tryz.ntmps205
  go_wp2_with fail
  refine (zH C D n j A S q 1 x _ h (by decide)).mono ?_
  rintro e L ⟨rfl,z,H⟩
  rw[I] at z ⊢
  have E:=zc z
  have N:=H.under h.mem.base h.mem.own h.ge
  clear z H
  go_wp2_with fail
  refine (zdD C D n j A S q _ E.out).mono ?_
  rintro e O ⟨rfl,J⟩
  have M:=N.trans (J.mono E.out.mem.base)
  unfold Pan
  go_wp2
  refine⟨rfl,?_⟩
  rw[K.out]
  exact⟨rfl,M⟩
end Go.Proofs.YtjdddblpfbmpaaaGreat
