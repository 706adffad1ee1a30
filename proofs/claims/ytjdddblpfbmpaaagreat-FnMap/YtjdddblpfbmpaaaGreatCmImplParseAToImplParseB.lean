/-
  What the smallest methods of impl's parser answer: peek,refuse,comes,passes: the walks.
  What the readers of one token of impl's parser answer: isWord,take,passName,plainName,plainOrDefault,itemWord: the walks.
-/
import Derived.Deep.QuietTactic
import Derived.BigQuiet
import Derived.Test.YtjdddblpfbmpaaaGreatCmImplParseMem
import Derived.Test.YtjdddblpfbmpaaaGreatCmSpecParseA
namespace Go.Proofs.YtjdddblpfbmpaaaGreat
set_option maxRecDepth 100000
set_option maxHeartbeats 3200000
open Go.RowKit Go.PlainAid
theorem zb6 (C:Cx) (X A j J:Nat) (S:Sv) (q:PS) (w:World) (h:IM C X A j J S q w):
  Calls Tryz.prog 193 #[.pointer (some ⟨J,0,none⟩)] w fun e w'=>e= .returned (tkV (ze C q.pos))∧Below w.heap.size w w':=by
 obtain⟨c0,Y,Z,c3,_,_,_,_,_,_,cf⟩:=zag h.cells
 have U:=h.lt
 have L:=(zav h.mem.tok).1
 have O:=h.mem.few
 by_cases V:q.pos<C.ts.length
 ·obtain⟨M,N,H,I⟩:=h.mem.tok.cells V (d:=⟨0,sNone,0,C.fin⟩)
  change _=some (Value.int .i64 (ze C q.pos).kind) at M
  change _=some (Value.string (ze C q.pos).text) at N
  change _=some (Value.int .i64 (ze C q.pos).num) at H
  change _=some (Value.int .i64 (ze C q.pos).pos) at I
  unfold tkV
  generalize ze C q.pos=t at M N H I
  have z:(q.pos:Int)<(C.ts.length:Int):=by omega
  clear h
  go_enter Tryz.func193,Tryz.ntmps193
  go_wp2_with fail
  go_quiet (fail)
  go_wp2
  go_region
  all_goals
   go_wp2
   refine bodyPost_ret (results_cell_row rfl _ _ w.heap.size 143 _ (0,0) _ rfl (zhv (show ((w.alloc _).drewN _).heap[w.heap.size]? =_ from heap_alloc_new w _)) Tryz.underlying143 rfl (by kernel_rfl)) rfl ?_
   exact⟨rfl,zja (zjb ((Below.refl _ _).alloc (Nat.le_refl _) _) _) (Nat.le_refl _) _ _ _ _⟩
 ·rw[zdF (by omega)]
  unfold tkV
  have z: ¬(q.pos:Int)<(C.ts.length:Int):=by omega
  clear h
  go_enter Tryz.func193,Tryz.ntmps193
  go_wp2_with fail
  go_quiet (fail)
  go_wp2
  refine bodyPost_ret (results_cell_row rfl _ _ w.heap.size 143 _ (0,0) _ rfl (zhv (show ((w.alloc _).drewN _).heap[w.heap.size]? =_ from heap_alloc_new w _)) Tryz.underlying143 rfl (by kernel_rfl)) rfl ?_
  exact⟨rfl,zja (zjb ((Below.refl _ _).alloc (Nat.le_refl _) _) _) (Nat.le_refl _) _ _ _ _⟩
theorem zdh (a c d:Int) (b:ByteArray) (w:World):(Instr.field 143 (.agg #[.int .i64 a,.string b,.int .i64 c,.int .i64 d]) 0).run Tryz.prog w= .ok (.int .i64 a) w:=by kernel_rfl
theorem zcP (a c d:Int) (b:ByteArray) (w:World):(Instr.field 143 (.agg #[.int .i64 a,.string b,.int .i64 c,.int .i64 d]) 1).run Tryz.prog w= .ok (.string b) w:=by kernel_rfl
theorem ze5 (a c d:Int) (b:ByteArray) (w:World):(Instr.field 143 (.agg #[.int .i64 a,.string b,.int .i64 c,.int .i64 d]) 2).run Tryz.prog w= .ok (.int .i64 c) w:=by kernel_rfl
theorem znf (a c d:Int) (b:ByteArray) (w:World):(Instr.field 143 (.agg #[.int .i64 a,.string b,.int .i64 c,.int .i64 d]) 3).run Tryz.prog w= .ok (.int .i64 d) w:=by kernel_rfl
theorem ze6 (C:Cx) (H z j A:Nat) (S:Sv) (q:PS) (w:World) (h:IM C H z j A S q w):
  Calls Tryz.prog 214 #[.pointer (some ⟨A,0,none⟩)] w fun e w'=>e=Pan (zu C q.pos)∧Below w.heap.size w w':=by
 have I:=zc h
 clear h
 have M:=znf
 go_enter Tryz.func214,Tryz.ntmps214
 go_wp2_with fail
 refine (zb6 C H z j A S q _ I.out).mono ?_
 rintro e L ⟨rfl,J⟩
 unfold tkV
 go_wp2
 exact⟨rfl,rfl,J⟩
theorem zcm (C:Cx) (L z j I:Nat) (S:Sv) (q:PS) (k:Int) (x:ByteArray) (w:World) (h:IM C L z j I S q w):
  Calls Tryz.prog 225 #[.pointer (some ⟨I,0,none⟩),.int .i64 k,.string x] w fun e w'=>e= .returned (.bool (isT C q.pos k x))∧Below w.heap.size w w':=by
 have N:=zc h
 clear h
 have O:Hid (tkV (ze C q.pos)= .agg #[.int .i64 (ze C q.pos).kind,.string (ze C q.pos).text,.int .i64 (ze C q.pos).num,.int .i64 (ze C q.pos).pos]):=rfl
 cases H:((ze C q.pos).kind==k) with
 |true=>
  cases M:((ze C q.pos).text.toList==x.toList) with
  |true=>
   have J:Hid (isT C q.pos k x=true):=by show isT C q.pos k x=true;rw[isT,H,M];rfl
   clear O
   go_enter Tryz.func225,Tryz.ntmps225
   go_wp2_with fail
   refine (zb6 C L z j I S q _ N.out).mono ?_
   rintro e U ⟨rfl,A⟩
   unfold tkV
   generalize ze C q.pos=t at H M ⊢
   go_wp2
   go_ret
   exact⟨zh J.out.symm,A.alloc A.size _⟩
  |false=>
   have J:Hid (isT C q.pos k x=false):=by show isT C q.pos k x=false;rw[isT,H,M];rfl
   clear O
   go_enter Tryz.func225,Tryz.ntmps225
   go_wp2_with fail
   refine (zb6 C L z j I S q _ N.out).mono ?_
   rintro e U ⟨rfl,A⟩
   unfold tkV
   generalize ze C q.pos=t at H M ⊢
   go_wp2
   go_ret
   exact⟨zh J.out.symm,A.alloc A.size _⟩
 |false=>
  have J:Hid (isT C q.pos k x=false):=zjl H
  clear O
  go_enter Tryz.func225,Tryz.ntmps225
  go_wp2_with fail
  refine (zb6 C L z j I S q _ N.out).mono ?_
  rintro e U ⟨rfl,A⟩
  unfold tkV
  generalize ze C q.pos=t at H ⊢
  go_wp2
  go_ret
  exact⟨zh J.out.symm,A.alloc A.size _⟩
theorem zO (C:Cx) (I z j A:Nat) (S:Sv) (q:PS) (k:Int) (x:ByteArray) (w:World) (h:IM C I z j A S q w) (V:k≠0):
  Calls Tryz.prog 207 #[.pointer (some ⟨A,0,none⟩),.int .i64 k,.string x] w fun e w'=>e= .returned (.bool (isT C q.pos k x))∧IM C I z j A S (if isT C q.pos k x then adv q else q) w'∧IS A S w S w':=by
 have J:=zc h
 have O:=h.mem.few
 clear h
 cases L:isT C q.pos k x with
 |true=>
  have U:q.pos<C.ts.length:=za9 L V
  go_enter Tryz.func207,Tryz.ntmps207
  go_wp2_with fail
  refine (zcm C I z j A S q k x _ J.out).mono ?_
  rintro e M ⟨rfl,H⟩
  rw[L]
  have N:Hid (IM C I z j A S q M):=J.out.later H
  obtain⟨Y,c1,X,c3,_,_,_,_,_,_,Z⟩:=zag N.out.cells
  go_wp2
  go_ret
  exact⟨rfl,N.out.adv U,(IS.below H).set _ _⟩
 |false=>
  go_enter Tryz.func207,Tryz.ntmps207
  go_wp2_with fail
  refine (zcm C I z j A S q k x _ J.out).mono ?_
  rintro e M ⟨rfl,H⟩
  rw[L]
  go_wp2
  go_ret
  exact⟨rfl,J.out.later H,IS.below H⟩
theorem zng (s:ByteArray) (j:Bool) (w:World):
  Calls Tryz.prog 215 #[.string s,.bool j] w fun e w'=>e= .returned (.bool (zw s j))∧w'=w:=by
 cases z:(s.toList==[105,109,112,111,114,116]) with
 |true=>
  have q:Hid (zw s j=true):=by show zw s j=true;simp[zw,z]
  go_enter Tryz.func215,Tryz.ntmps215
  go_wp2
  go_ret
  exact⟨zh q.out.symm,rfl⟩
 |false=>
  cases A:(s.toList==[101,120,112,111,114,116]) with
  |true=>
   have q:Hid (zw s j=true):=by show zw s j=true;simp[zw,z,A]
   go_enter Tryz.func215,Tryz.ntmps215
   go_wp2
   go_ret
   exact⟨zh q.out.symm,rfl⟩
  |false=>
   cases H:(s.toList==[100,101,102,97,117,108,116]) with
   |true=>
    have q:Hid (zw s j=true):=by show zw s j=true;simp[zw,z,A,H]
    go_enter Tryz.func215,Tryz.ntmps215
    go_wp2
    go_ret
    exact⟨zh q.out.symm,rfl⟩
   |false=>
    cases I:(s.toList==[108,101,116]) with
    |true=>
     have q:Hid (zw s j=true):=by show zw s j=true;simp[zw,z,A,H,I]
     go_enter Tryz.func215,Tryz.ntmps215
     go_wp2
     go_ret
     exact⟨zh q.out.symm,rfl⟩
    |false=>
     cases J:(s.toList==[102,117,110,99,116,105,111,110]) with
     |true=>
      have q:Hid (zw s j=true):=by show zw s j=true;simp[zw,z,A,H,I,J]
      go_enter Tryz.func215,Tryz.ntmps215
      go_wp2
      go_ret
      exact⟨zh q.out.symm,rfl⟩
     |false=>
      cases L:(s.toList==[114,101,116,117,114,110]) with
      |true=>
       have q:Hid (zw s j=true):=by show zw s j=true;simp[zw,z,A,H,I,J,L]
       go_enter Tryz.func215,Tryz.ntmps215
       go_wp2
       go_ret
       exact⟨zh q.out.symm,rfl⟩
      |false=>
       cases M:(s.toList==[112,114,105,110,116]) with
       |true=>
        have q:Hid (zw s j=true):=by show zw s j=true;simp[zw,z,A,H,I,J,L,M]
        go_enter Tryz.func215,Tryz.ntmps215
        go_wp2
        go_ret
        exact⟨zh q.out.symm,rfl⟩
       |false=>
        cases N:(s.toList==[116,104,114,111,119]) with
        |true=>
         have q:Hid (zw s j=true):=by show zw s j=true;simp[zw,z,A,H,I,J,L,M,N]
         go_enter Tryz.func215,Tryz.ntmps215
         go_wp2
         go_ret
         exact⟨zh q.out.symm,rfl⟩
        |false=>
         cases O:(s.toList==[102,97,105,108]) with
         |true=>
          have q:Hid (zw s j=j):=by show zw s j=j;simp[zw,z,A,H,I,J,L,M,N,O]
          go_enter Tryz.func215,Tryz.ntmps215
          go_wp2
          go_ret
          exact⟨zh q.out.symm,rfl⟩
         |false=>
          cases U:(s.toList==[117,110,100,101,102]) with
          |true=>
           have q:Hid (zw s j=j):=by show zw s j=j;simp[zw,z,A,H,I,J,L,M,N,O,U]
           go_enter Tryz.func215,Tryz.ntmps215
           go_wp2
           go_ret
           exact⟨zh q.out.symm,rfl⟩
          |false=>
           have q:Hid (zw s j=false):=by show zw s j=false;simp[zw,z,A,H,I,J,L,M,N,O,U]
           go_enter Tryz.func215,Tryz.ntmps215
           go_wp2
           go_ret
           exact⟨zh q.out.symm,rfl⟩
theorem zdX (C:Cx) (L A j z:Nat) (S:Sv) (q:PS) (k:Int) (w:World) (h:IM C L A j z S q w) (N:((ze C q.pos).kind==k)=true) (h0:k≠0):
  Calls Tryz.prog 216 #[.pointer (some ⟨z,0,none⟩),.int .i64 k] w fun e w'=>e= .returned (tkV (ze C q.pos))∧IM C L A j z S (adv q) w'∧IS z S w S w':=by
 have Z:=h.mem.few
 have hp:q.pos<C.ts.length:=zfW N h0
 have M:((ze C q.pos).kind !=k)=false:=by rw[bne,N];rfl
 go_enter Tryz.func216,Tryz.ntmps216
 go_wp2_with fail
 refine (zb6 C L A j z S q _ (h.alloc _)).mono ?_
 rintro e H ⟨rfl,J⟩
 have X:Below w.heap.size w H:=((Below.refl _ _).alloc (Nat.le_refl _) _).trans (J.mono (by rw[zl];omega))
 have V:Hid (H.heap[w.heap.size]? =_):=(J.block _ (by rw[zl];omega)).trans (heap_alloc_new w _)
 have ab:w.heap.size<H.heap.size:=by have:=J.size;rw[zl] at this;omega
 have U:Hid (IM C L A j z S q H):=h.later X
 have aa:z<w.heap.size:=h.lt
 have Y:z<H.heap.size:=U.out.lt
 obtain⟨c0,c1,c2,c3,_,_,_,_,_,_,cf⟩:=zag U.out.cells
 obtain⟨d0,d1,d2,d3,df⟩:=zdH V.out
 clear J
 unfold tkV
 generalize I:ze C q.pos=t at N M ⊢
 have O:=zc I
 clear I
 go_wp2
 refine bodyPost_ret (results_cell_row rfl _ _ w.heap.size 143 _ (0,0) _ rfl (zcA (zhv ((zn (c:=z) (by omega)).trans V.out))) Tryz.underlying143 rfl (by kernel_rfl)) rfl ?_
 refine⟨by rw[O.out];rfl,?_,?_⟩
 ·exact (IM.scratch (b:=w.heap.size) (U.out.adv hp) (by omega) (by have:=(zav h.mem.tok).1;omega) (fun g=>by have:=(h.mem.own.has g).2;omega) ..).alloc _
 ·exact (IS.scratch (b:=w.heap.size) ((IS.below X).set _ _) (Nat.le_refl _) ..).alloc _
theorem zjm (C:Cx) (I z j A:Nat) (S:Sv) (q:PS) (k:Int) (w:World) (h:IM C I z j A S q w) (O:((ze C q.pos).kind==k)=false):
  Calls Tryz.prog 216 #[.pointer (some ⟨A,0,none⟩),.int .i64 k] w fun e w'=>e=Pan (zu C q.pos)∧Below w.heap.size w w':=by
 have U:((ze C q.pos).kind !=k)=true:=by rw[bne,O];rfl
 go_enter Tryz.func216,Tryz.ntmps216
 go_wp2_with fail
 refine (zb6 C I z j A S q _ (h.alloc _)).mono ?_
 rintro e M ⟨rfl,N⟩
 have H:Below w.heap.size w M:=((Below.refl _ _).alloc (Nat.le_refl _) _).trans (N.mono (by rw[zl];omega))
 have V:Hid (IM C I z j A S q M):=h.later H
 clear N
 unfold tkV
 go_wp2_with fail
 refine (ze6 C I z j A S q _ (V.out.alloc _)).mono ?_
 rintro e X ⟨rfl,J⟩
 have L:Below w.heap.size w X:=(H.alloc H.size _).trans (J.mono (by rw[zl];have:=H.size;omega))
 unfold Pan
 go_wp2
 exact⟨rfl,rfl,L⟩
theorem ze7 (C:Cx) (I z j H:Nat) (S:Sv) (q:PS) (x:ByteArray) (w:World) (h:IM C I z j H S q w):
  Calls Tryz.prog 205 #[.pointer (some ⟨H,0,none⟩),.string x] w (zW C I z j H (zd C 1 x q) id (fun _=>.tuple #[]) S w):=by
 cases M:isT C q.pos 1 x with
 |true=>
  have O:Hid (zd C 1 x q= .ok (adv q)):=if_pos M
  go_enter Tryz.func205,Tryz.ntmps205
  go_wp2_with fail
  refine (zO C I z j H S q 1 x _ h (by decide)).mono ?_
  rintro e U ⟨rfl,A,L⟩
  rw[M] at A ⊢
  have J:=zc A
  clear A
  go_wp2
  go_end0
  rw[O.out]
  exact⟨rfl,S,J.out,L⟩
 |false=>
  have O:Hid (zd C 1 x q= .error (zu C q.pos)):=by show zd C 1 x q=_;rw[zd,M];rfl
  go_enter Tryz.func205,Tryz.ntmps205
  go_wp2_with fail
  refine (zO C I z j H S q 1 x _ h (by decide)).mono ?_
  rintro e U ⟨rfl,A,L⟩
  rw[M] at A ⊢
  have J:=zc A
  have X:=L.under h.mem.base h.mem.own h.ge
  clear A L
  go_wp2_with fail
  refine (ze6 C I z j H S q _ J.out).mono ?_
  rintro e Y ⟨rfl,N⟩
  have V:=X.trans (N.mono J.out.mem.base)
  unfold Pan
  go_wp2
  refine⟨rfl,?_⟩
  rw[O.out]
  exact⟨rfl,V⟩
end Go.Proofs.YtjdddblpfbmpaaaGreat
