/-
  What impl.withoutLast,impl.partEnd and impl.keptParts answer,and impl.Clean: the walks.
  What impl.Clean,impl.folderFor and impl.Resolve answer: the walks.
-/
import Derived.Lib.MinMax
import Derived.Laws.CopyOwn
import Derived.WalkMore
import Derived.Test.YtgcbmogmniahjaaGreatCAcPartMath
import Derived.Test.YtgcbmogmniahjaaGreatCAcImplPath
import Derived.Test.YtgcbmogmniahjaaGreatCAcSpecClean
import Derived.Test.YtgcbmogmniahjaaGreatCAcScopeBack
namespace Go.Proofs.YtgcbmogmniahjaaGreat
set_option maxRecDepth 1000000
set_option maxHeartbeats 3200000
open Go.RowKit Go.PlainAid
theorem zwu (g j:Nat):Addr.add ⟨g,0,none⟩ j=⟨g,j,none⟩:=by
 unfold Addr.add
 split<;>simp_all
theorem zwv {w:World} {base g m q:Nat} {e:TypeId} {z:List Value} {H:List ByteArray} (L:base≤g) (M:w.heap[g]? =some (.cells z.toArray e (0,0))) (A:z.length=q) (J:m≤q)
  (I:q≤1000000) (h:z.take m=H.map Value.string) (K:m=H.length):zbl w base e g m q H:=
 ⟨⟨by rw[List.length_map];omega,.inr ⟨g,q,z.toArray,rfl,L,M,J,by unfold maxLen;omega,by simp[A],by simpa using h⟩⟩,K⟩
theorem zmW (B g n ae:Nat) (xs:List ByteArray) (w:World) (H:zbl w B 9 g n ae xs) (hB:B≤w.heap.size) (hn:n≤1000):
  Calls Tryz.prog 134 #[.slice (some ⟨g,0,none⟩) n ae] w fun e w'=>∃g' A,e= .returned (.slice (some ⟨g',0,none⟩) (n-1:Nat) A)∧zbl w' B 9 g' (n-1) A xs.dropLast∧Below w.heap.size w w':=by
 obtain⟨i0,hi,aj,af,al⟩:=info_parts Tryz.infoStr
 have X:=zg9 H
 obtain⟨m,hm⟩: ∃m,m=n-1:=⟨_,rfl⟩
 have au:max ((n:Int)-1) 0=(m:Int):=by rw[Int.max_def];split<;>omega
 have HM:Hid (m=n-1):=hm
 have an:m≤n:=by omega
 obtain⟨J,U⟩: ∃J:List Value,J=xs.dropLast.map Value.string:=⟨_,rfl⟩
 have O:Hid (J=xs.dropLast.map Value.string):=U
 have ai:J.length=m:=by rw[U,List.length_map,List.length_dropLast];omega
 have M:Hid (J.length=m):=ai
 have K: ∀j v,J[j]? =some v→w.cell? ⟨g,j,none⟩=some v:=by
  intro j v hj
  have ar:j<J.length:=by
   rcases Nat.lt_or_ge j J.length with k|k
   ·exact k
   ·rw[List.getElem?_eq_none k] at hj;cases hj
  rw[zhX H j (by omega)]
  rw[U,List.getElem?_map] at hj
  have e:xs.dropLast[j]? =xs[j]?:=by rw[List.getElem?_dropLast,if_pos (by omega)]
  rw[e,List.getElem?_eq_getElem (show j<xs.length by omega)] at hj
  simp only[Option.map_some,Option.some.injEq] at hj
  rw[←hj]
  simp[List.getD,List.getElem?_eq_getElem (show j<xs.length by omega)]
 have aa:Hid (∀j v,J[j]? =some v→w.cell? ⟨g,j,none⟩=some v):=K
 have ad:g<w.heap.size:=by
  rcases H.1.2 with ⟨N,_⟩|⟨g',A,q,N,_,hg,_⟩
  ·simp at N
  ·simp only[Value.slice.injEq,Option.some.injEq,Addr.mk.injEq,and_true,true_and] at N
   obtain⟨rfl,rfl⟩:=N
   exact (Array.getElem?_eq_some_iff.1 hg).1
 have Z:(Tryz.prog.info? 9).map (·.size)=some 1:=by rw[hi];simp[af]
 have ao:Hid ((Tryz.prog.info? 9).map (·.size)=some 1):=Z
 have aq:Hid (n=xs.length):=X
 clear K U hm Z ai X
 go_enter Tryz.func134,Tryz.ntmps134
 go_wp2_with (first|(at_make;refine wpList_make_full w rfl _ _ 22 rfl w.heap.size 9 i0 _ 1 Tryz.underlying22 hi aj af .i64 .i64 _ _ m (by rfl) (by rfl) rfl rfl (by rw[al];omega) (by unfold maxLen;omega) (Nat.le_refl _) ?_))
 intro w1 L V
 obtain⟨q,Y,I⟩: ∃q:List Value,w1.heap[w.heap.size]? =some (.cells q.toArray 9 (0,0))∧q.length=m:=by
  rcases L.2 with ⟨N,_⟩|⟨g',A,q,N,_,hg,_,_,am,_⟩
  ·simp at N
  ·simp only[Value.slice.injEq,Option.some.injEq,Addr.mk.injEq,and_true,true_and] at N
   obtain⟨rfl,rfl⟩:=N
   exact⟨q.toList,by simpa using hg,by simpa using am⟩
 have ah:Below w.heap.size w w1:=(Below.refl _ _).grown V (Nat.le_refl _) (fun k h=>by cases h)
 have ab:Hid (w1.heap[w.heap.size]? =some (.cells q.toArray 9 (0,0))):=Y
 have z:Hid (q.length=m):=I
 have ac:Hid (∀j v,J[j]? =some v→w1.cell? (Addr.add ⟨g,0,none⟩ j)=some v):=fun j v hj=>by
  rw[zwu,ah.cell ad]
  exact aa.out j v hj
 clear L V Y I
 go_wp2_with (first|(refine wpList_copy_splice rfl _ _ 22 22 rfl 9 Tryz.underlying22 ao.out _ _ _ _ _ _ (by rfl) (by rfl) w.heap.size 0 q 9 ab.out J (by rw[M.out];exact (Nat.min_eq_right an).symm) (fun _=>⟨rfl,_,rfl,ac.out⟩) (by rw[M.out,z.out];omega) (fun v hv=>by rw[O.out] at hv;obtain⟨x,_,rfl⟩:=List.mem_map.1 hv;rfl) w.heap.size w ah (Nat.le_refl _) ?_))
 intro w2 ak ap
 have ag:zbl w2 B 9 w.heap.size m m xs.dropLast:=by
  refine zwv hB ak.out ?_ (Nat.le_refl _) (by omega) ?_ ?_
  ·rw[length_splice _ _ _ (by rw[M.out,z.out];omega),z.out]
  ·rw[splice,O.out]
   have:=M.out
   rw[O.out] at this
   simp[←this]
  ·have:=M.out
   rw[O.out,List.length_map] at this
   exact this.symm
 go_wp2
 go_ret
 exact⟨w.heap.size,m,by rw[←HM.out];rfl,by rw[←HM.out];exact ag,ap⟩
theorem zdX (s:ByteArray) (a:Nat) (w:World) (K:a≤s.size) (N:s.size≤40):
  Calls Tryz.prog 133 #[.string s,.int .i64 a] w fun e w'=>e= .returned (.int .i64 (zcK s a))∧w'=w:=by
 have q:=zmP s a K
 have L:zcK s a≤40:=by have:=q.2.1;omega
 have H:=Lib.indexByte_ge (s.extract a s.size).data.toList 47
 clear q
 obtain⟨o,z⟩: ∃o,Lib.indexByte (s.extract a s.size).data.toList 47=o:=⟨_,rfl⟩
 have I:Hid (Lib.indexByte (s.extract a s.size).data.toList 47=o):=z
 have h:Lib.indexByte (s.extract a s.size).data.toList (47:Int).toNat.toUInt8=o:=z
 rw[z] at H
 clear z
 by_cases J:0≤o
 ·have A:Hid ((a:Int)+o=(zcK s a:Int)):=zwq J I.out
  have M:(a:Int)+o≤40:=by have:=A.out;omega
  go_enter Tryz.func133,Tryz.ntmps133
  go_wp2_with fail
  refine (Tryz.strings_IndexByte _ _ _).mono ?_
  rintro e w' ⟨rfl,rfl⟩
  rw[h]
  go_wp2
  go_ret
  exact⟨zbC A.out,rfl⟩
 ·have A:Hid (zcK s a=s.size):=zwr (by rw[I.out];exact J)
  go_enter Tryz.func133,Tryz.ntmps133
  go_wp2_with fail
  refine (Tryz.strings_IndexByte _ _ _).mono ?_
  rintro e w' ⟨rfl,rfl⟩
  rw[h]
  go_wp2
  go_ret
  exact⟨zbC (by rw[A.out]),rfl⟩
theorem zww (s:ByteArray) (w:World) (hp:zaU s=true):
  Calls Tryz.prog 95 #[.string s] w fun e w'=>∃g n A,e= .returned (.slice (some ⟨g,0,none⟩) n A)∧zbl w' w.heap.size 9 g n A (parts s)∧Below w.heap.size w w':=by
 obtain⟨i0,hi,ah,ao,ap⟩:=info_parts Tryz.infoStr
 have aJ:1≤s.size:=(zdO.1 hp).1
 have M:s.size≤40:=(zdO.1 hp).2.1
 have E0:Hid (bt s 0=47):=(zdO.1 hp).2.2.1
 have H1:Hid (zX s 1=(1,[])):=zwo E0.out
 go_enter Tryz.func95,Tryz.ntmps95
 go_wp2
 refine zmV 0 (fun a' w'=>∃(h n g A:Nat) (J:List ByteArray) (u5 u6 u7 u8 u9 af ae aH aD aA az aq al ar aE ag ak ay aw aG ai aC ad an aj am aF aB av:Value),a'={tmps:=#[.string s,undef,.slice none 0 0,.slice (some ⟨g,0,none⟩) n A,.int .i64 h,u5,u6,u7,u8,u9,af,ae,aH,aD,aA,az,aq,al,ar,aE,ag,ak,ay,aw,aG,ai,aC,ad,an,aj,am,aF,aB,av],defers:=[]}∧h≤s.size∧zX s h=(h,J)∧zbl w' w.heap.size 9 g n A J∧Below w.heap.size w w') (fun a' _=>(41-intOf (a'.tmps.getD 4 undef)).toNat) rfl ?_ ?_
 ·rintro a' wr ⟨h,n,g,A,J,u5,u6,u7,u8,u9,af,ae,aH,aD,aA,az,aq,al,ar,aE,ag,ak,ay,aw,aG,ai,aC,ad,an,aj,am,aF,aB,av,rfl,L,aa,q,H⟩
  have O:=H.size
  have ac:=zhP s h
  rw[aa] at ac
  simp only at ac
  have aK:n≤42:=by have:=zg9 q;omega
  have aL:=zhW q
  clear ac
  obtain⟨e,he⟩: ∃e,zcK s h=e:=⟨_,rfl⟩
  have Y:zhm s h e:=by rw[←he];exact zmP s h L
  have aN:h≤e:=Y.1
  have aM:e≤s.size:=Y.2.1
  have HT:Hid (zX s (e+1)=(e+1,upd (s.extract h e) J)):=zmO aa Y
  have Z:Hid (zcK s h=e):=he
  clear Y he aa
  by_cases p0:(s.extract h e).toList.isEmpty=true
  ·have V:Hid (zX s (e+1)=(e+1,J)):=by have:=HT.out;rw[zg8 p0] at this;exact this
   by_cases U:e<s.size
   ·skip
    go_wp2_with fail
    refine (zdX _ _ _ L M).mono ?_
    rintro ev X ⟨rfl,rfl⟩
    rw[Z.out]
    go_wp2
    go_step3
    refine⟨rfl,⟨e+1,n,g,A,J,_,_,_,_,_,_,_,_,_,_,_,_,_,_,_,_,_,_,_,_,_,_,_,_,_,_,_,_,_,by go_num,by omega,V.out,q,H⟩,by simp[intOf];omega⟩
   ·have HF:Hid (parts s=J):=by show (zX s (s.size+1)).2=_;rw[show s.size=e from by omega,V.out]
    go_wp2_with fail
    refine (zdX _ _ _ L M).mono ?_
    rintro ev X ⟨rfl,rfl⟩
    rw[Z.out]
    go_wp2
    simp only[Exit.jump]
    go_ret
    exact⟨g,n,A,rfl,by rw[HF.out];exact q,H⟩
  ·have au:(s.extract h e).toList.isEmpty=false:=by simpa using p0
   clear p0
   by_cases p1:((s.extract h e).toList==[46])=true
   ·have V:Hid (zX s (e+1)=(e+1,J)):=by have:=HT.out;rw[zhQ p1] at this;exact this
    by_cases U:e<s.size
    ·skip
     go_wp2_with fail
     refine (zdX _ _ _ L M).mono ?_
     rintro ev X ⟨rfl,rfl⟩
     rw[Z.out]
     go_wp2
     go_step3
     refine⟨rfl,⟨e+1,n,g,A,J,_,_,_,_,_,_,_,_,_,_,_,_,_,_,_,_,_,_,_,_,_,_,_,_,_,_,_,_,_,by go_num,by omega,V.out,q,H⟩,by simp[intOf];omega⟩
    ·have HF:Hid (parts s=J):=by show (zX s (s.size+1)).2=_;rw[show s.size=e from by omega,V.out]
     go_wp2_with fail
     refine (zdX _ _ _ L M).mono ?_
     rintro ev X ⟨rfl,rfl⟩
     rw[Z.out]
     go_wp2
     simp only[Exit.jump]
     go_ret
     exact⟨g,n,A,rfl,by rw[HF.out];exact q,H⟩
   ·have ax:((s.extract h e).toList==[46])=false:=by simpa using p1
    clear p1
    by_cases p2:((s.extract h e).toList==[46,46])=true
    ·have V:Hid (zX s (e+1)=(e+1,J.dropLast)):=by have:=HT.out;rw[zhS au ax p2] at this;exact this
     by_cases U:e<s.size
     ·skip
      go_wp2_with fail
      refine (zdX _ _ _ L M).mono ?_
      rintro ev X ⟨rfl,rfl⟩
      rw[Z.out]
      go_wp2_with fail
      refine (zmW w.heap.size g n A J _ q O (by omega)).mono ?_
      rintro ev w2 ⟨g2,I,rfl,z,N⟩
      go_wp2
      go_step3
      refine⟨rfl,⟨e+1,(n-1),g2,I,J.dropLast,_,_,_,_,_,_,_,_,_,_,_,_,_,_,_,_,_,_,_,_,_,_,_,_,_,_,_,_,_,by go_num,by omega,V.out,z,(H.trans (N.mono O))⟩,by simp[intOf];omega⟩
     ·have HF:Hid (parts s=J.dropLast):=by show (zX s (s.size+1)).2=_;rw[show s.size=e from by omega,V.out]
      go_wp2_with fail
      refine (zdX _ _ _ L M).mono ?_
      rintro ev X ⟨rfl,rfl⟩
      rw[Z.out]
      go_wp2_with fail
      refine (zmW w.heap.size g n A J _ q O (by omega)).mono ?_
      rintro ev w2 ⟨g2,I,rfl,z,N⟩
      go_wp2
      simp only[Exit.jump]
      go_ret
      exact⟨g2,(n-1),I,rfl,by rw[HF.out];exact z,(H.trans (N.mono O))⟩
    ·have aI:((s.extract h e).toList==[46,46])=false:=by simpa using p2
     clear p2
     have V:Hid (zX s (e+1)=(e+1,J++[s.extract h e])):=by have:=HT.out;rw[zhR au ax aI] at this;exact this
     by_cases U:e<s.size
     ·skip
      go_wp2_with fail
      refine (zdX _ _ _ L M).mono ?_
      rintro ev X ⟨rfl,rfl⟩
      rw[Z.out]
      go_wp2_with (first|(at_builtin;refine zgA X rfl _ _ 22 rfl w.heap.size 9 i0 _ Tryz.underlying22 hi ah ao ap rfl g n A J (by rfl) q (s.extract h e) (by rfl) (by omega) O ?_))
      intro g2 I w2 z N
      go_wp2
      go_step3
      refine⟨rfl,⟨e+1,(n+1),g2,I,(J++[s.extract h e]),_,_,_,_,_,_,_,_,_,_,_,_,_,_,_,_,_,_,_,_,_,_,_,_,_,_,_,_,_,by go_num,by omega,V.out,z,(H.trans N)⟩,by simp[intOf];omega⟩
     ·have HF:Hid (parts s=(J++[s.extract h e])):=by show (zX s (s.size+1)).2=_;rw[show s.size=e from by omega,V.out]
      go_wp2_with fail
      refine (zdX _ _ _ L M).mono ?_
      rintro ev X ⟨rfl,rfl⟩
      rw[Z.out]
      go_wp2_with (first|(at_builtin;refine zgA X rfl _ _ 22 rfl w.heap.size 9 i0 _ Tryz.underlying22 hi ah ao ap rfl g n A J (by rfl) q (s.extract h e) (by rfl) (by omega) O ?_))
      intro g2 I w2 z N
      go_wp2
      simp only[Exit.jump]
      go_ret
      exact⟨g2,(n+1),I,rfl,by rw[HF.out];exact z,(H.trans N)⟩
 ·intro ab
  go_wp2
  go_step3
  rename_i K hK
  refine hK _ _ (ab _ _ ⟨1,0,w.heap.size,0,[],_,_,_,_,_,_,_,_,_,_,_,_,_,_,_,_,_,_,_,_,_,_,_,_,_,_,_,_,_,rfl,aJ,H1.out,⟨World.ownsRow_lit w #[] 0 (Nat.le_refl _) (by unfold maxLen;omega) rfl,rfl⟩,(Below.refl _ _).alloc (Nat.le_refl _) _⟩)
theorem zwx (s:ByteArray) (w:World) (hs:s.size≤9223372036854775807):
  Calls Tryz.prog 63 #[.string s] w fun e w'=>e= .returned (.string (zaK s))∧Below w.heap.size w w':=by
 by_cases z:zaU s=true
 ·have HP:Hid (zaU s=true):=z
  have ac:s.size≤40:=(zdO.1 z).2.1
  obtain⟨J,I⟩: ∃J,Lib.join ((parts s).map (·.data.toList)) [47]=J:=⟨_,rfl⟩
  have V:Hid (({data:=#[47]}:ByteArray)++⟨J.toArray⟩=zaK s):=by have:=zmQ z;rw[I] at this;exact this
  have q:J.length≤2000:=by rw[←I];exact zwt s z
  have Y:Hid (Lib.join ((parts s).map (·.data.toList)) [47]=J):=I
  have aa:(parts s).length≤41:=by have:=zmR s;omega
  have ab:({data:=J.toArray}:ByteArray).size≤2000:=q
  clear I
  go_enter Tryz.func63,Tryz.ntmps63
  go_wp2_with fail
  refine (ziV _ _ hs).mono ?_
  rintro e w' ⟨rfl,rfl⟩
  go_wp2_with fail
  refine (zww _ _ HP.out).mono ?_
  rintro e K ⟨g,n,M,rfl,h,A⟩
  have N:Hid (n=(parts s).length):=zg9 h
  go_wp2_with fail
  refine (Calls.mono (R:=fun e X=>e= .returned (.string {data:=J.toArray})∧Below K.heap.size K X) ?_ ?_)
  ·have hj:=Tryz.strings_Join g 0 M (parts s) {data:=#[47]} K
    (fun j x U=>by
     have q:j<(parts s).length:=by
      rcases Nat.lt_or_ge j (parts s).length with k|k
      ·exact k
      ·rw[List.getElem?_eq_none k] at U;cases U
     rw[Nat.zero_add,zhX h j (by rw[N.out];exact q)]
     simp[List.getD,U])
    (by
     rcases h.1.2 with ⟨H,_⟩|⟨g',Z,ad,H,_,hg,_⟩
     ·simp at H
     ·simp only[Value.slice.injEq,Option.some.injEq,Addr.mk.injEq,and_true,true_and] at H
      obtain⟨rfl,rfl⟩:=H
      exact (Array.getElem?_eq_some_iff.1 hg).1)
    (by omega) (by rw[←N.out];exact (zhW h).1)
    (by show (Lib.join ((parts s).map (·.data.toList)) [47]).length≤_;rw[Y.out];omega)
   rw[←N.out] at hj
   refine hj.mono ?_
   rintro e X ⟨rfl,hb⟩
   exact⟨za7 (by show ByteArray.mk (Lib.join ((parts s).map (·.data.toList)) [47]).toArray=_;rw[Y.out]),hb⟩
  ·rintro e X ⟨rfl,O⟩
   go_wp2
   go_ret
   exact⟨za7 V.out,A.trans (O.mono A.size)⟩
 ·have L:zaU s=false:=by simpa using z
  have V:Hid (zaK s={data:=#[]}):=zhT L
  clear z
  go_enter Tryz.func63,Tryz.ntmps63
  go_wp2_with fail
  refine (ziV _ _ hs).mono ?_
  rintro e w' ⟨rfl,rfl⟩
  go_wp2
  go_ret
  exact⟨za7 V.out.symm,Below.refl _ _⟩
end Go.Proofs.YtgcbmogmniahjaaGreat
