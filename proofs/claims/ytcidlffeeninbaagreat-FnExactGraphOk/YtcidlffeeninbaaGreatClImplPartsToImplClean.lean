/-
  What impl.withoutLast,impl.partEnd and impl.keptParts answer,and impl.Clean: the walks.
  What impl.Clean,impl.folderFor and impl.Resolve answer: the walks.
-/
import Derived.Lib.MinMax
import Derived.Laws.CopyOwn
import Derived.Test.YtcidlffeeninbaaGreatClPartMath
import Derived.Test.YtcidlffeeninbaaGreatClImplPath
namespace Go.Proofs.YtcidlffeeninbaaGreat
set_option maxRecDepth 1000000
set_option maxHeartbeats 3200000
open Go.RowKit Go.PlainAid
theorem zvo {P:Program} {a:Act} {w:World} {Q:Exit→Act→World→Prop} {c rest:Code} (l:Nat) (J:Act→World→Prop) (μ:Act→World→Nat) (E:findLabel c l=some (Code.skip.seq rest))
  (q: ∀a w,J a w→rest.wp P (Exit.jump l (fun D A=>J D A∧μ D A<μ a w) Q) a w) (first:(∀a w,J a w→rest.wp P (Exit.jump l J Q) a w)→c.wp P (Exit.jump l J Q) a w):(Code.scope c).wp P Q a w:=by
 refine wp_scope_jumps l J μ E (first fun a w h=>wp_mono (q a w h) ?_) (fun a w h=>wp_seq (wp_skip (q a w h)))
 intro e D A z
 cases e with
 |goto I=>exact⟨z.1,z.2.1⟩
 |normal=>exact z
 |exit H=>exact z
 |ret=>exact z
 |panic K=>exact z
 |outgrown=>exact z
theorem zvp (g j:Nat):Addr.add ⟨g,0,none⟩ j=⟨g,j,none⟩:=by
 unfold Addr.add
 split<;>simp_all
theorem zvq {w:World} {A g m q:Nat} {e:TypeId} {z:List Value} {E:List ByteArray} (K:A≤g) (J:w.heap[g]? =some (.cells z.toArray e (0,0))) (D:z.length=q) (L:m≤q)
  (H:q≤1000000) (h:z.take m=E.map Value.string) (I:m=E.length):zcm w A e g m q E:=
 ⟨⟨by rw[List.length_map];omega,.inr ⟨g,q,z.toArray,rfl,K,J,L,by unfold maxLen;omega,by simp[D],by simpa using h⟩⟩,I⟩
theorem zmq (B g n ag:Nat) (xs:List ByteArray) (w:World) (D:zcm w B 9 g n ag xs) (hB:B≤w.heap.size) (hn:n≤1000):
  Calls Tryz.prog 107 #[.slice (some ⟨g,0,none⟩) n ag] w fun e w'=>∃g' A,e= .returned (.slice (some ⟨g',0,none⟩) (n-1:Nat) A)∧zcm w' B 9 g' (n-1) A xs.dropLast∧Below w.heap.size w w':=by
 obtain⟨i0,hi,ak,ad,aj⟩:=info_parts Tryz.infoStr
 have Y:=zgv D
 obtain⟨m,hm⟩: ∃m,m=n-1:=⟨_,rfl⟩
 have ar:max ((n:Int)-1) 0=(m:Int):=by rw[Int.max_def];split<;>omega
 have HM:Hid (m=n-1):=hm
 have an:m≤n:=by omega
 obtain⟨I,M⟩: ∃I:List Value,I=xs.dropLast.map Value.string:=⟨_,rfl⟩
 have N:Hid (I=xs.dropLast.map Value.string):=M
 have af:I.length=m:=by rw[M,List.length_map,List.length_dropLast];omega
 have H:Hid (I.length=m):=af
 have K: ∀j v,I[j]? =some v→w.cell? ⟨g,j,none⟩=some v:=by
  intro j v O
  have aq:j<I.length:=by
   rcases Nat.lt_or_ge j I.length with k|k
   ·exact k
   ·rw[List.getElem?_eq_none k] at O;cases O
  rw[zhA D j (by omega)]
  rw[M,List.getElem?_map] at O
  have e:xs.dropLast[j]? =xs[j]?:=by rw[List.getElem?_dropLast,if_pos (by omega)]
  rw[e,List.getElem?_eq_getElem (show j<xs.length by omega)] at O
  simp only[Option.map_some,Option.some.injEq] at O
  rw[←O]
  simp[List.getD,List.getElem?_eq_getElem (show j<xs.length by omega)]
 have Z:Hid (∀j v,I[j]? =some v→w.cell? ⟨g,j,none⟩=some v):=K
 have ac:g<w.heap.size:=by
  rcases D.1.2 with ⟨L,_⟩|⟨g',A,q,L,_,hg,_⟩
  ·simp at L
  ·simp only[Value.slice.injEq,Option.some.injEq,Addr.mk.injEq,and_true,true_and] at L
   obtain⟨rfl,rfl⟩:=L
   exact (Array.getElem?_eq_some_iff.1 hg).1
 have U:(Tryz.prog.info? 9).map (·.size)=some 1:=by rw[hi];simp[ad]
 have am:Hid ((Tryz.prog.info? 9).map (·.size)=some 1):=U
 have ap:Hid (n=xs.length):=Y
 clear K M hm U af Y
 go_enter Tryz.func107,Tryz.ntmps107
 go_wp2_with (first|(at_make;refine wpList_make_full w rfl _ _ 22 rfl w.heap.size 9 i0 _ 1 Tryz.underlying22 hi ak ad .i64 .i64 _ _ m (by rfl) (by rfl) rfl rfl (by rw[aj];omega) (by unfold maxLen;omega) (Nat.le_refl _) ?_))
 intro w1 E X
 obtain⟨q,V,J⟩: ∃q:List Value,w1.heap[w.heap.size]? =some (.cells q.toArray 9 (0,0))∧q.length=m:=by
  rcases E.2 with ⟨L,_⟩|⟨g',A,q,L,_,hg,_,_,ai,_⟩
  ·simp at L
  ·simp only[Value.slice.injEq,Option.some.injEq,Addr.mk.injEq,and_true,true_and] at L
   obtain⟨rfl,rfl⟩:=L
   exact⟨q.toList,by simpa using hg,by simpa using ai⟩
 have ah:Below w.heap.size w w1:=(Below.refl _ _).grown X (Nat.le_refl _) (fun k h=>by cases h)
 have ab:Hid (w1.heap[w.heap.size]? =some (.cells q.toArray 9 (0,0))):=V
 have z:Hid (q.length=m):=J
 have aa:Hid (∀j v,I[j]? =some v→w1.cell? (Addr.add ⟨g,0,none⟩ j)=some v):=fun j v O=>by
  rw[zvp,ah.cell ac]
  exact Z.out j v O
 clear E X V J
 go_wp2_with (first|(refine wpList_copy_splice rfl _ _ 22 22 rfl 9 Tryz.underlying22 am.out _ _ _ _ _ _ (by rfl) (by rfl) w.heap.size 0 q 9 ab.out I (by rw[H.out];exact (Nat.min_eq_right an).symm) (fun _=>⟨rfl,_,rfl,aa.out⟩) (by rw[H.out,z.out];omega) (fun v hv=>by rw[N.out] at hv;obtain⟨x,_,rfl⟩:=List.mem_map.1 hv;rfl) w.heap.size w ah (Nat.le_refl _) ?_))
 intro w2 al ao
 have ae:zcm w2 B 9 w.heap.size m m xs.dropLast:=by
  refine zvq hB al.out ?_ (Nat.le_refl _) (by omega) ?_ ?_
  ·rw[length_splice _ _ _ (by rw[H.out,z.out];omega),z.out]
  ·rw[splice,N.out]
   have:=H.out
   rw[N.out] at this
   simp[←this]
  ·have:=H.out
   rw[N.out,List.length_map] at this
   exact this.symm
 go_wp2
 go_ret
 exact⟨w.heap.size,m,by rw[←HM.out];rfl,by rw[←HM.out];exact ae,ao⟩
theorem zdM (s:ByteArray) (a:Nat) (w:World) (K:a≤s.size) (M:s.size≤40):
  Calls Tryz.prog 106 #[.string s,.int .i64 a] w fun e E=>e= .returned (.int .i64 (zcG s a))∧E=w:=by
 have q:=zmk s a K
 have J:zcG s a≤40:=by have:=q.2.1;omega
 have D:=Lib.indexByte_ge (s.extract a s.size).data.toList 47
 clear q
 obtain⟨o,z⟩: ∃o,Lib.indexByte (s.extract a s.size).data.toList 47=o:=⟨_,rfl⟩
 have I:Hid (Lib.indexByte (s.extract a s.size).data.toList 47=o):=z
 have h:Lib.indexByte (s.extract a s.size).data.toList (47:Int).toNat.toUInt8=o:=z
 rw[z] at D
 clear z
 by_cases H:0≤o
 ·have A:Hid ((a:Int)+o=(zcG s a:Int)):=zvk H I.out
  have L:(a:Int)+o≤40:=by have:=A.out;omega
  go_enter Tryz.func106,Tryz.ntmps106
  go_wp2_with fail
  refine (Tryz.strings_IndexByte _ _ _).mono ?_
  rintro e E ⟨rfl,rfl⟩
  rw[h]
  go_wp2
  go_ret
  exact⟨zb7 A.out,rfl⟩
 ·have A:Hid (zcG s a=s.size):=zvl (by rw[I.out];exact H)
  go_enter Tryz.func106,Tryz.ntmps106
  go_wp2_with fail
  refine (Tryz.strings_IndexByte _ _ _).mono ?_
  rintro e E ⟨rfl,rfl⟩
  rw[h]
  go_wp2
  go_ret
  exact⟨zb7 (by rw[A.out]),rfl⟩
theorem zvr (s:ByteArray) (w:World) (hp:zaS s=true):
  Calls Tryz.prog 66 #[.string s] w fun e w'=>∃g n D,e= .returned (.slice (some ⟨g,0,none⟩) n D)∧zcm w' w.heap.size 9 g n D (parts s)∧Below w.heap.size w w':=by
 obtain⟨i0,hi,aq,ao,an⟩:=info_parts Tryz.infoStr
 have aI:1≤s.size:=(zdD.1 hp).1
 have J:s.size≤40:=(zdD.1 hp).2.1
 have E0:Hid (bt s 0=47):=(zdD.1 hp).2.2.1
 have H1:Hid (zW s 1=(1,[])):=zvi E0.out
 go_enter Tryz.func66,Tryz.ntmps66
 go_wp2
 refine zvo 0 (fun a' w'=>∃(h n g D:Nat) (H:List ByteArray) (u5 u6 u7 u8 u9 ad ae ap ar af ag aE aj aA ah ay ak aC av au am ai aD az al ax aB ac aw:Value),a'={tmps:=#[.string s,undef,.slice none 0 0,.slice (some ⟨g,0,none⟩) n D,.int .i64 h,u5,u6,u7,u8,u9,ad,ae,ap,ar,af,ag,aE,aj,aA,ah,ay,ak,aC,av,au,am,ai,aD,az,al,ax,aB,ac,aw],defers:=[]}∧h≤s.size∧zW s h=(h,H)∧zcm w' w.heap.size 9 g n D H∧Below w.heap.size w w') (fun a' _=>(41-intOf (a'.tmps.getD 4 undef)).toNat) rfl ?_ ?_
 ·rintro a' wr ⟨h,n,g,D,H,u5,u6,u7,u8,u9,ad,ae,ap,ar,af,ag,aE,aj,aA,ah,ay,ak,aC,av,au,am,ai,aD,az,al,ax,aB,ac,aw,rfl,I,ab,q,A⟩
  have M:=A.size
  have aa:=zh2 s h
  rw[ab] at aa
  simp only at aa
  have aJ:n≤42:=by have:=zgv q;omega
  have aK:=zh9 q
  clear aa
  obtain⟨e,he⟩: ∃e,zcG s h=e:=⟨_,rfl⟩
  have U:zgQ s h e:=by rw[←he];exact zmk s h I
  have aM:h≤e:=U.1
  have aL:e≤s.size:=U.2.1
  have HT:Hid (zW s (e+1)=(e+1,upd (s.extract h e) H)):=zmj ab U
  have X:Hid (zcG s h=e):=he
  clear U he ab
  by_cases p0:(s.extract h e).toList.isEmpty=true
  ·have O:Hid (zW s (e+1)=(e+1,H)):=by have:=HT.out;rw[zgu p0] at this;exact this
   by_cases N:e<s.size
   ·skip
    go_wp2_with fail
    refine (zdM _ _ _ I J).mono ?_
    rintro ev V ⟨rfl,rfl⟩
    rw[X.out]
    go_wp2
    go_step3
    refine⟨rfl,⟨e+1,n,g,D,H,_,_,_,_,_,_,_,_,_,_,_,_,_,_,_,_,_,_,_,_,_,_,_,_,_,_,_,_,_,by go_num,by omega,O.out,q,A⟩,by simp[intOf];omega⟩
   ·have HF:Hid (parts s=H):=by show (zW s (s.size+1)).2=_;rw[show s.size=e from by omega,O.out]
    go_wp2_with fail
    refine (zdM _ _ _ I J).mono ?_
    rintro ev V ⟨rfl,rfl⟩
    rw[X.out]
    go_wp2
    simp only[Exit.jump]
    go_ret
    exact⟨g,n,D,rfl,by rw[HF.out];exact q,A⟩
  ·have aF:(s.extract h e).toList.isEmpty=false:=by simpa using p0
   clear p0
   by_cases p1:((s.extract h e).toList==[46])=true
   ·have O:Hid (zW s (e+1)=(e+1,H)):=by have:=HT.out;rw[zh3 p1] at this;exact this
    by_cases N:e<s.size
    ·skip
     go_wp2_with fail
     refine (zdM _ _ _ I J).mono ?_
     rintro ev V ⟨rfl,rfl⟩
     rw[X.out]
     go_wp2
     go_step3
     refine⟨rfl,⟨e+1,n,g,D,H,_,_,_,_,_,_,_,_,_,_,_,_,_,_,_,_,_,_,_,_,_,_,_,_,_,_,_,_,_,by go_num,by omega,O.out,q,A⟩,by simp[intOf];omega⟩
    ·have HF:Hid (parts s=H):=by show (zW s (s.size+1)).2=_;rw[show s.size=e from by omega,O.out]
     go_wp2_with fail
     refine (zdM _ _ _ I J).mono ?_
     rintro ev V ⟨rfl,rfl⟩
     rw[X.out]
     go_wp2
     simp only[Exit.jump]
     go_ret
     exact⟨g,n,D,rfl,by rw[HF.out];exact q,A⟩
   ·have aG:((s.extract h e).toList==[46])=false:=by simpa using p1
    clear p1
    by_cases p2:((s.extract h e).toList==[46,46])=true
    ·have O:Hid (zW s (e+1)=(e+1,H.dropLast)):=by have:=HT.out;rw[zh5 aF aG p2] at this;exact this
     by_cases N:e<s.size
     ·skip
      go_wp2_with fail
      refine (zdM _ _ _ I J).mono ?_
      rintro ev V ⟨rfl,rfl⟩
      rw[X.out]
      go_wp2_with fail
      refine (zmq w.heap.size g n D H _ q M (by omega)).mono ?_
      rintro ev w2 ⟨Z,E,rfl,z,L⟩
      go_wp2
      go_step3
      refine⟨rfl,⟨e+1,(n-1),Z,E,H.dropLast,_,_,_,_,_,_,_,_,_,_,_,_,_,_,_,_,_,_,_,_,_,_,_,_,_,_,_,_,_,by go_num,by omega,O.out,z,(A.trans (L.mono M))⟩,by simp[intOf];omega⟩
     ·have HF:Hid (parts s=H.dropLast):=by show (zW s (s.size+1)).2=_;rw[show s.size=e from by omega,O.out]
      go_wp2_with fail
      refine (zdM _ _ _ I J).mono ?_
      rintro ev V ⟨rfl,rfl⟩
      rw[X.out]
      go_wp2_with fail
      refine (zmq w.heap.size g n D H _ q M (by omega)).mono ?_
      rintro ev w2 ⟨Z,E,rfl,z,L⟩
      go_wp2
      simp only[Exit.jump]
      go_ret
      exact⟨Z,(n-1),E,rfl,by rw[HF.out];exact z,(A.trans (L.mono M))⟩
    ·have aH:((s.extract h e).toList==[46,46])=false:=by simpa using p2
     clear p2
     have O:Hid (zW s (e+1)=(e+1,H++[s.extract h e])):=by have:=HT.out;rw[zh4 aF aG aH] at this;exact this
     by_cases N:e<s.size
     ·skip
      go_wp2_with fail
      refine (zdM _ _ _ I J).mono ?_
      rintro ev V ⟨rfl,rfl⟩
      rw[X.out]
      go_wp2_with (first|(at_builtin;refine zgw V rfl _ _ 22 rfl w.heap.size 9 i0 _ Tryz.underlying22 hi aq ao an rfl g n D H (by rfl) q (s.extract h e) (by rfl) (by omega) M ?_))
      intro Z E w2 z L
      go_wp2
      go_step3
      refine⟨rfl,⟨e+1,(n+1),Z,E,(H++[s.extract h e]),_,_,_,_,_,_,_,_,_,_,_,_,_,_,_,_,_,_,_,_,_,_,_,_,_,_,_,_,_,by go_num,by omega,O.out,z,(A.trans L)⟩,by simp[intOf];omega⟩
     ·have HF:Hid (parts s=(H++[s.extract h e])):=by show (zW s (s.size+1)).2=_;rw[show s.size=e from by omega,O.out]
      go_wp2_with fail
      refine (zdM _ _ _ I J).mono ?_
      rintro ev V ⟨rfl,rfl⟩
      rw[X.out]
      go_wp2_with (first|(at_builtin;refine zgw V rfl _ _ 22 rfl w.heap.size 9 i0 _ Tryz.underlying22 hi aq ao an rfl g n D H (by rfl) q (s.extract h e) (by rfl) (by omega) M ?_))
      intro Z E w2 z L
      go_wp2
      simp only[Exit.jump]
      go_ret
      exact⟨Z,(n+1),E,rfl,by rw[HF.out];exact z,(A.trans L)⟩
 ·intro Y
  go_wp2
  go_step3
  rename_i K hK
  refine hK _ _ (Y _ _ ⟨1,0,w.heap.size,0,[],_,_,_,_,_,_,_,_,_,_,_,_,_,_,_,_,_,_,_,_,_,_,_,_,_,_,_,_,_,rfl,aI,H1.out,⟨World.ownsRow_lit w #[] 0 (Nat.le_refl _) (by unfold maxLen;omega) rfl,rfl⟩,(Below.refl _ _).alloc (Nat.le_refl _) _⟩)
theorem zvs (s:ByteArray) (w:World) (Z:s.size≤9223372036854775807):
  Calls Tryz.prog 40 #[.string s] w fun e H=>e= .returned (.string (zaH s))∧Below w.heap.size w H:=by
 by_cases z:zaS s=true
 ·have HP:Hid (zaS s=true):=z
  have ad:s.size≤40:=(zdD.1 z).2.1
  obtain⟨J,E⟩: ∃J,Lib.join ((parts s).map (·.data.toList)) [47]=J:=⟨_,rfl⟩
  have M:Hid (({data:=#[47]}:ByteArray)++⟨J.toArray⟩=zaH s):=by have:=zml z;rw[E] at this;exact this
  have q:J.length≤2000:=by rw[←E];exact zvn s z
  have Y:Hid (Lib.join ((parts s).map (·.data.toList)) [47]=J):=E
  have ab:(parts s).length≤41:=by have:=zmm s;omega
  have ae:({data:=J.toArray}:ByteArray).size≤2000:=q
  clear E
  go_enter Tryz.func40,Tryz.ntmps40
  go_wp2_with fail
  refine (ziz _ _ Z).mono ?_
  rintro e H ⟨rfl,rfl⟩
  go_wp2_with fail
  refine (zvr _ _ HP.out).mono ?_
  rintro e L ⟨g,n,N,rfl,h,A⟩
  have O:Hid (n=(parts s).length):=zgv h
  go_wp2_with fail
  refine (Calls.mono (R:=fun e U=>e= .returned (.string {data:=J.toArray})∧Below L.heap.size L U) ?_ ?_)
  ·have X:=Tryz.strings_Join g 0 N (parts s) {data:=#[47]} L
    (fun j x I=>by
     have q:j<(parts s).length:=by
      rcases Nat.lt_or_ge j (parts s).length with k|k
      ·exact k
      ·rw[List.getElem?_eq_none k] at I;cases I
     rw[Nat.zero_add,zhA h j (by rw[O.out];exact q)]
     simp[List.getD,I])
    (by
     rcases h.1.2 with ⟨D,_⟩|⟨g',aa,ac,D,_,hg,_⟩
     ·simp at D
     ·simp only[Value.slice.injEq,Option.some.injEq,Addr.mk.injEq,and_true,true_and] at D
      obtain⟨rfl,rfl⟩:=D
      exact (Array.getElem?_eq_some_iff.1 hg).1)
    (by omega) (by rw[←O.out];exact (zh9 h).1)
    (by show (Lib.join ((parts s).map (·.data.toList)) [47]).length≤_;rw[Y.out];omega)
   rw[←O.out] at X
   refine X.mono ?_
   rintro e U ⟨rfl,hb⟩
   exact⟨za6 (by show ByteArray.mk (Lib.join ((parts s).map (·.data.toList)) [47]).toArray=_;rw[Y.out]),hb⟩
  ·rintro e U ⟨rfl,V⟩
   go_wp2
   go_ret
   exact⟨za6 M.out,A.trans (V.mono A.size)⟩
 ·have K:zaS s=false:=by simpa using z
  have M:Hid (zaH s={data:=#[]}):=zh6 K
  clear z
  go_enter Tryz.func40,Tryz.ntmps40
  go_wp2_with fail
  refine (ziz _ _ Z).mono ?_
  rintro e H ⟨rfl,rfl⟩
  go_wp2
  go_ret
  exact⟨za6 M.out.symm,Below.refl _ _⟩
end Go.Proofs.YtcidlffeeninbaaGreat
