/-
  What the smallest methods of impl's parser answer: peek,refuse,comes,passes: the walks.
  What the readers of one token of impl's parser answer: isWord,take,passName,plainName,plainOrDefault,itemWord: the walks.
-/
import Derived.Test.YthfeoomfiafldaaGreatCdImplParseMem
import Derived.Test.YthfeoomfiafldaaGreatCdSpecParseA
namespace Go.Proofs.YthfeoomfiafldaaGreat
set_option maxRecDepth 100000
set_option maxHeartbeats 3200000
open Go.RowKit Go.PlainAid
theorem zbD (C:Cx) (M o j E:Nat) (S:Sv) (q:PS) (w:World) (h:IM C M o j E S q w):
  Calls Tryz.prog 92 #[.pointer (some ⟨E,0,none⟩)] w fun e Q=>e= .returned (tkV (zf C q.pos))∧Below w.heap.size w Q:=by
 obtain⟨Y,Z,V,U,_,_,_,_,_,_,X⟩:=zag h.cells
 have O:=h.lt
 have L:=(zan h.mem.tok).1
 have I:=h.mem.few
 by_cases N:q.pos<C.ts.length
 ·obtain⟨H,J,K,D⟩:=h.mem.tok.cells N (d:=⟨0,sNone,0,C.fin⟩)
  change _=some (Value.int .i64 (zf C q.pos).kind) at H
  change _=some (Value.string (zf C q.pos).text) at J
  change _=some (Value.int .i64 (zf C q.pos).num) at K
  change _=some (Value.int .i64 (zf C q.pos).pos) at D
  unfold tkV
  generalize zf C q.pos=t at H J K D
  have z:(q.pos:Int)<(C.ts.length:Int):=by omega
  clear h
  go_enter Tryz.func92,Tryz.ntmps92
  go_wp2_with fail
  go_quiet (fail)
  go_wp2
  go_region
  all_goals
   go_wp2
   refine bodyPost_ret (results_cell_row rfl _ _ w.heap.size 40 _ (0,0) _ rfl (zhK (show ((w.alloc _).drewN _).heap[w.heap.size]? =_ from heap_alloc_new w _)) Tryz.underlying40 rfl (by kernel_rfl)) rfl ?_
   exact⟨rfl,zjD (zjE ((Below.refl _ _).alloc (Nat.le_refl _) _) _) (Nat.le_refl _) _ _ _ _⟩
 ·rw[zcT (by omega)]
  unfold tkV
  have z: ¬(q.pos:Int)<(C.ts.length:Int):=by omega
  clear h
  go_enter Tryz.func92,Tryz.ntmps92
  go_wp2_with fail
  go_quiet (fail)
  go_wp2
  refine bodyPost_ret (results_cell_row rfl _ _ w.heap.size 40 _ (0,0) _ rfl (zhK (show ((w.alloc _).drewN _).heap[w.heap.size]? =_ from heap_alloc_new w _)) Tryz.underlying40 rfl (by kernel_rfl)) rfl ?_
  exact⟨rfl,zjD (zjE ((Below.refl _ _).alloc (Nat.le_refl _) _) _) (Nat.le_refl _) _ _ _ _⟩
theorem zcV (a c d:Int) (b:ByteArray) (w:World):(Instr.field 40 (.agg #[.int .i64 a,.string b,.int .i64 c,.int .i64 d]) 0).run Tryz.prog w= .ok (.int .i64 a) w:=by kernel_rfl
theorem zcF (a c d:Int) (b:ByteArray) (w:World):(Instr.field 40 (.agg #[.int .i64 a,.string b,.int .i64 c,.int .i64 d]) 1).run Tryz.prog w= .ok (.string b) w:=by kernel_rfl
theorem zeS (a c d:Int) (b:ByteArray) (w:World):(Instr.field 40 (.agg #[.int .i64 a,.string b,.int .i64 c,.int .i64 d]) 2).run Tryz.prog w= .ok (.int .i64 c) w:=by kernel_rfl
theorem zol (a c d:Int) (b:ByteArray) (w:World):(Instr.field 40 (.agg #[.int .i64 a,.string b,.int .i64 c,.int .i64 d]) 3).run Tryz.prog w= .ok (.int .i64 d) w:=by kernel_rfl
theorem zeT (C:Cx) (D o j z:Nat) (S:Sv) (q:PS) (w:World) (h:IM C D o j z S q w):
  Calls Tryz.prog 121 #[.pointer (some ⟨z,0,none⟩)] w fun e E=>e=Pan (zu C q.pos)∧Below w.heap.size w E:=by
 have I:=zc h
 clear h
 have J:=zol
 go_enter Tryz.func121,Tryz.ntmps121
 go_wp2_with fail
 refine (zbD C D o j z S q _ I.out).mono ?_
 rintro e K ⟨rfl,H⟩
 unfold tkV
 go_wp2
 exact⟨rfl,rfl,H⟩
theorem zco (C:Cx) (J o j H:Nat) (S:Sv) (q:PS) (k:Int) (x:ByteArray) (w:World) (h:IM C J o j H S q w):
  Calls Tryz.prog 136 #[.pointer (some ⟨H,0,none⟩),.int .i64 k,.string x] w fun e N=>e= .returned (.bool (isT C q.pos k x))∧Below w.heap.size w N:=by
 have K:=zc h
 clear h
 have L:Hid (tkV (zf C q.pos)= .agg #[.int .i64 (zf C q.pos).kind,.string (zf C q.pos).text,.int .i64 (zf C q.pos).num,.int .i64 (zf C q.pos).pos]):=rfl
 cases D:((zf C q.pos).kind==k) with
 |true=>
  cases I:((zf C q.pos).text.toList==x.toList) with
  |true=>
   have E:Hid (isT C q.pos k x=true):=by show isT C q.pos k x=true;rw[isT,D,I];rfl
   clear L
   go_enter Tryz.func136,Tryz.ntmps136
   go_wp2_with fail
   refine (zbD C J o j H S q _ K.out).mono ?_
   rintro e M ⟨rfl,z⟩
   unfold tkV
   generalize zf C q.pos=t at D I ⊢
   go_wp2
   go_ret
   exact⟨zq E.out.symm,z.alloc z.size _⟩
  |false=>
   have E:Hid (isT C q.pos k x=false):=by show isT C q.pos k x=false;rw[isT,D,I];rfl
   clear L
   go_enter Tryz.func136,Tryz.ntmps136
   go_wp2_with fail
   refine (zbD C J o j H S q _ K.out).mono ?_
   rintro e M ⟨rfl,z⟩
   unfold tkV
   generalize zf C q.pos=t at D I ⊢
   go_wp2
   go_ret
   exact⟨zq E.out.symm,z.alloc z.size _⟩
 |false=>
  have E:Hid (isT C q.pos k x=false):=zjO D
  clear L
  go_enter Tryz.func136,Tryz.ntmps136
  go_wp2_with fail
  refine (zbD C J o j H S q _ K.out).mono ?_
  rintro e M ⟨rfl,z⟩
  unfold tkV
  generalize zf C q.pos=t at D ⊢
  go_wp2
  go_ret
  exact⟨zq E.out.symm,z.alloc z.size _⟩
theorem zP (C:Cx) (D o j z:Nat) (S:Sv) (q:PS) (k:Int) (x:ByteArray) (w:World) (h:IM C D o j z S q w) (O:k≠0):
  Calls Tryz.prog 114 #[.pointer (some ⟨z,0,none⟩),.int .i64 k,.string x] w fun e L=>e= .returned (.bool (isT C q.pos k x))∧IM C D o j z S (if isT C q.pos k x then adv q else q) L∧IS z S w S L:=by
 have H:=zc h
 have K:=h.mem.few
 clear h
 cases I:isT C q.pos k x with
 |true=>
  have N:q.pos<C.ts.length:=za1 I O
  go_enter Tryz.func114,Tryz.ntmps114
  go_wp2_with fail
  refine (zco C D o j z S q k x _ H.out).mono ?_
  rintro e M ⟨rfl,E⟩
  rw[I]
  have J:Hid (IM C D o j z S q M):=H.out.later E
  obtain⟨X,Y,U,Q,_,_,_,_,_,_,V⟩:=zag J.out.cells
  go_wp2
  go_ret
  exact⟨rfl,J.out.adv N,(IS.below E).set _ _⟩
 |false=>
  go_enter Tryz.func114,Tryz.ntmps114
  go_wp2_with fail
  refine (zco C D o j z S q k x _ H.out).mono ?_
  rintro e M ⟨rfl,E⟩
  rw[I]
  go_wp2
  go_ret
  exact⟨rfl,H.out.later E,IS.below E⟩
theorem zom (s:ByteArray) (scr:Bool) (w:World):
  Calls Tryz.prog 122 #[.string s,.bool scr] w fun e N=>e= .returned (.bool (zr s scr))∧N=w:=by
 cases o:(s.toList==[105,109,112,111,114,116]) with
 |true=>
  have j:Hid (zr s scr=true):=by show zr s scr=true;simp[zr,o]
  go_enter Tryz.func122,Tryz.ntmps122
  go_wp2
  go_ret
  exact⟨zq j.out.symm,rfl⟩
 |false=>
  cases z:(s.toList==[101,120,112,111,114,116]) with
  |true=>
   have j:Hid (zr s scr=true):=by show zr s scr=true;simp[zr,o,z]
   go_enter Tryz.func122,Tryz.ntmps122
   go_wp2
   go_ret
   exact⟨zq j.out.symm,rfl⟩
  |false=>
   cases D:(s.toList==[100,101,102,97,117,108,116]) with
   |true=>
    have j:Hid (zr s scr=true):=by show zr s scr=true;simp[zr,o,z,D]
    go_enter Tryz.func122,Tryz.ntmps122
    go_wp2
    go_ret
    exact⟨zq j.out.symm,rfl⟩
   |false=>
    cases E:(s.toList==[108,101,116]) with
    |true=>
     have j:Hid (zr s scr=true):=by show zr s scr=true;simp[zr,o,z,D,E]
     go_enter Tryz.func122,Tryz.ntmps122
     go_wp2
     go_ret
     exact⟨zq j.out.symm,rfl⟩
    |false=>
     cases H:(s.toList==[102,117,110,99,116,105,111,110]) with
     |true=>
      have j:Hid (zr s scr=true):=by show zr s scr=true;simp[zr,o,z,D,E,H]
      go_enter Tryz.func122,Tryz.ntmps122
      go_wp2
      go_ret
      exact⟨zq j.out.symm,rfl⟩
     |false=>
      cases I:(s.toList==[114,101,116,117,114,110]) with
      |true=>
       have j:Hid (zr s scr=true):=by show zr s scr=true;simp[zr,o,z,D,E,H,I]
       go_enter Tryz.func122,Tryz.ntmps122
       go_wp2
       go_ret
       exact⟨zq j.out.symm,rfl⟩
      |false=>
       cases J:(s.toList==[112,114,105,110,116]) with
       |true=>
        have j:Hid (zr s scr=true):=by show zr s scr=true;simp[zr,o,z,D,E,H,I,J]
        go_enter Tryz.func122,Tryz.ntmps122
        go_wp2
        go_ret
        exact⟨zq j.out.symm,rfl⟩
       |false=>
        cases K:(s.toList==[116,104,114,111,119]) with
        |true=>
         have j:Hid (zr s scr=true):=by show zr s scr=true;simp[zr,o,z,D,E,H,I,J,K]
         go_enter Tryz.func122,Tryz.ntmps122
         go_wp2
         go_ret
         exact⟨zq j.out.symm,rfl⟩
        |false=>
         cases L:(s.toList==[102,97,105,108]) with
         |true=>
          have j:Hid (zr s scr=scr):=by show zr s scr=scr;simp[zr,o,z,D,E,H,I,J,K,L]
          go_enter Tryz.func122,Tryz.ntmps122
          go_wp2
          go_ret
          exact⟨zq j.out.symm,rfl⟩
         |false=>
          cases M:(s.toList==[117,110,100,101,102]) with
          |true=>
           have j:Hid (zr s scr=scr):=by show zr s scr=scr;simp[zr,o,z,D,E,H,I,J,K,L,M]
           go_enter Tryz.func122,Tryz.ntmps122
           go_wp2
           go_ret
           exact⟨zq j.out.symm,rfl⟩
          |false=>
           have j:Hid (zr s scr=false):=by show zr s scr=false;simp[zr,o,z,D,E,H,I,J,K,L,M]
           go_enter Tryz.func122,Tryz.ntmps122
           go_wp2
           go_ret
           exact⟨zq j.out.symm,rfl⟩
theorem zel (C:Cx) (I z j o:Nat) (S:Sv) (q:PS) (k:Int) (w:World) (h:IM C I z j o S q w) (M:((zf C q.pos).kind==k)=true) (h0:k≠0):
  Calls Tryz.prog 123 #[.pointer (some ⟨o,0,none⟩),.int .i64 k] w fun e U=>e= .returned (tkV (zf C q.pos))∧IM C I z j o S (adv q) U∧IS o S w S U:=by
 have E:=zc h
 have O:=h.mem.few
 have Y:q.pos<C.ts.length:=zeJ M h0
 have L:((zf C q.pos).kind !=k)=false:=by rw[bne,M];rfl
 clear h
 go_enter Tryz.func123,Tryz.ntmps123
 go_wp2_with fail
 refine (zbD C I z j o S q _ (E.out.alloc _)).mono ?_
 rintro e H ⟨rfl,J⟩
 have V:Hid (Below w.heap.size w H):=((Below.refl _ _).alloc (Nat.le_refl _) _).trans (J.mono (by rw[zW];omega))
 have X:Hid (H.heap[w.heap.size]? =_):=(J.block _ (by rw[zW];omega)).trans (heap_alloc_new w _)
 have aa:w.heap.size<H.heap.size:=by have:=J.size;rw[zW] at this;omega
 have K:Hid (IM C I z j o S q H):=E.out.later V.out
 have Z:o<w.heap.size:=E.out.lt
 have Q:o<H.heap.size:=K.out.lt
 obtain⟨c0,c1,c2,c3,_,_,_,_,_,_,cf⟩:=zag K.out.cells
 obtain⟨d0,d1,d2,d3,df⟩:=zek X.out
 clear J
 unfold tkV
 generalize D:zf C q.pos=t at M L ⊢
 have N:=zc D
 clear D
 go_wp2
 refine bodyPost_ret (results_cell_row rfl _ _ w.heap.size 40 _ (0,0) _ rfl (zjF (zhK ((zx (c:=o) (by omega)).trans X.out))) Tryz.underlying40 rfl (by kernel_rfl)) rfl ?_
 refine⟨by rw[N.out];rfl,?_,?_⟩
 ·exact (IM.scratch (b:=w.heap.size) (K.out.adv Y) (by omega) (by have:=(zan E.out.mem.tok).1;omega) (fun g=>by have:=(E.out.mem.own.has g).2;omega) ..).alloc _
 ·exact (IS.scratch (b:=w.heap.size) ((IS.below V.out).set _ _) (Nat.le_refl _) ..).alloc _
theorem zjP (C:Cx) (E o j z:Nat) (S:Sv) (q:PS) (k:Int) (w:World) (h:IM C E o j z S q w) (M:((zf C q.pos).kind==k)=false):
  Calls Tryz.prog 123 #[.pointer (some ⟨z,0,none⟩),.int .i64 k] w fun e O=>e=Pan (zu C q.pos)∧Below w.heap.size w O:=by
 have K:=zc h
 have U:((zf C q.pos).kind !=k)=true:=by rw[bne,M];rfl
 clear h
 go_enter Tryz.func123,Tryz.ntmps123
 go_wp2_with fail
 refine (zbD C E o j z S q _ (K.out.alloc _)).mono ?_
 rintro e L ⟨rfl,J⟩
 have D:Hid (Below w.heap.size w L):=((Below.refl _ _).alloc (Nat.le_refl _) _).trans (J.mono (by rw[zW];omega))
 have Q:Hid (IM C E o j z S q L):=K.out.later D.out
 clear J
 unfold tkV
 go_wp2_with fail
 refine (zeT C E o j z S q _ (Q.out.alloc _)).mono ?_
 rintro e N ⟨rfl,I⟩
 have H:Hid (Below w.heap.size w N):=(D.out.alloc D.out.size _).trans (I.mono (by rw[zW];have:=D.out.size;omega))
 unfold Pan
 go_wp2
 exact⟨rfl,rfl,H.out⟩
theorem zeU (C:Cx) (H o j D:Nat) (S:Sv) (q:PS) (x:ByteArray) (w:World) (h:IM C H o j D S q w):
  Calls Tryz.prog 112 #[.pointer (some ⟨D,0,none⟩),.string x] w (zT C H o j D (zd C 1 x q) id (fun _=>.tuple #[]) S w):=by
 have E:=zc h
 clear h
 cases K:isT C q.pos 1 x with
 |true=>
  have M:Hid (zd C 1 x q= .ok (adv q)):=if_pos K
  go_enter Tryz.func112,Tryz.ntmps112
  go_wp2_with fail
  refine (zP C H o j D S q 1 x _ E.out (by decide)).mono ?_
  rintro e N ⟨rfl,z,I⟩
  rw[K] at z ⊢
  have J:=zc z
  clear z
  go_wp2
  go_end0
  rw[M.out]
  exact⟨rfl,S,J.out,I⟩
 |false=>
  have M:Hid (zd C 1 x q= .error (zu C q.pos)):=by show zd C 1 x q=_;rw[zd,K];rfl
  go_enter Tryz.func112,Tryz.ntmps112
  go_wp2_with fail
  refine (zP C H o j D S q 1 x _ E.out (by decide)).mono ?_
  rintro e N ⟨rfl,z,I⟩
  rw[K] at z ⊢
  have J:=zc z
  have O:Hid (Below j w N):=I.under E.out.mem.base E.out.mem.own E.out.ge
  clear z I
  go_wp2_with fail
  refine (zeT C H o j D S q _ J.out).mono ?_
  rintro e U ⟨rfl,L⟩
  have Q:Hid (Below j w U):=O.out.trans (L.mono J.out.mem.base)
  unfold Pan
  go_wp2
  refine⟨rfl,?_⟩
  rw[M.out]
  exact⟨rfl,Q.out⟩
end Go.Proofs.YthfeoomfiafldaaGreat
