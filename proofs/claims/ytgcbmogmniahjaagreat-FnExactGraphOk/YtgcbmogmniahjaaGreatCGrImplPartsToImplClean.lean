/-
  What impl.withoutLast,impl.partEnd and impl.keptParts answer,and impl.Clean: the walks.
  What impl.Clean,impl.folderFor and impl.Resolve answer: the walks.
-/
import Derived.Lib.MinMax
import Derived.Laws.CopyOwn
import Derived.WalkMore
import Derived.Test.YtgcbmogmniahjaaGreatCGrPartMath
import Derived.Test.YtgcbmogmniahjaaGreatCGrImplPath
import Derived.Test.YtgcbmogmniahjaaGreatCGrSpecClean
import Derived.Test.YtgcbmogmniahjaaGreatCGrScopeBack
namespace Go.Proofs.YtgcbmogmniahjaaGreat
set_option maxRecDepth 1000000
set_option maxHeartbeats 3200000
open Go.RowKit Go.PlainAid
theorem zvV (g j:Nat):Addr.add ⟨g,0,none⟩ j=⟨g,j,none⟩:=by
 unfold Addr.add
 split<;>simp_all
theorem zvW {w:World} {base g m q:Nat} {e:TypeId} {z:List Value} {D:List ByteArray} (J:base≤g) (K:w.heap[g]? =some (.cells z.toArray e (0,0))) (A:z.length=q) (H:m≤q)
  (E:q≤1000000) (h:z.take m=D.map Value.string) (I:m=D.length):zbj w base e g m q D:=
 ⟨⟨by rw[List.length_map];omega,.inr ⟨g,q,z.toArray,rfl,J,K,H,by unfold maxLen;omega,by simp[A],by simpa using h⟩⟩,I⟩
theorem zmB (B g n ad:Nat) (xs:List ByteArray) (w:World) (D:zbj w B 9 g n ad xs) (hB:B≤w.heap.size) (hn:n≤1000):
  Calls Tryz.prog 134 #[.slice (some ⟨g,0,none⟩) n ad] w fun e w'=>∃g' A,e= .returned (.slice (some ⟨g',0,none⟩) (n-1:Nat) A)∧zbj w' B 9 g' (n-1) A xs.dropLast∧Below w.heap.size w w':=by
 obtain⟨i0,hi,ai,ae,ak⟩:=info_parts Tryz.infoStr
 have U:=zgz D
 obtain⟨m,hm⟩: ∃m,m=n-1:=⟨_,rfl⟩
 have ar:max ((n:Int)-1) 0=(m:Int):=by rw[Int.max_def];split<;>omega
 have HM:Hid (m=n-1):=hm
 have am:m≤n:=by omega
 obtain⟨H,N⟩: ∃H:List Value,H=xs.dropLast.map Value.string:=⟨_,rfl⟩
 have M:Hid (H=xs.dropLast.map Value.string):=N
 have ah:H.length=m:=by rw[N,List.length_map,List.length_dropLast];omega
 have K:Hid (H.length=m):=ah
 have I: ∀j v,H[j]? =some v→w.cell? ⟨g,j,none⟩=some v:=by
  intro j v Y
  have aq:j<H.length:=by
   rcases Nat.lt_or_ge j H.length with k|k
   ·exact k
   ·rw[List.getElem?_eq_none k] at Y;cases Y
  rw[zhH D j (by omega)]
  rw[N,List.getElem?_map] at Y
  have e:xs.dropLast[j]? =xs[j]?:=by rw[List.getElem?_dropLast,if_pos (by omega)]
  rw[e,List.getElem?_eq_getElem (show j<xs.length by omega)] at Y
  simp only[Option.map_some,Option.some.injEq] at Y
  rw[←Y]
  simp[List.getD,List.getElem?_eq_getElem (show j<xs.length by omega)]
 have Z:Hid (∀j v,H[j]? =some v→w.cell? ⟨g,j,none⟩=some v):=I
 have ac:g<w.heap.size:=by
  rcases D.1.2 with ⟨L,_⟩|⟨g',A,q,L,_,hg,_⟩
  ·simp at L
  ·simp only[Value.slice.injEq,Option.some.injEq,Addr.mk.injEq,and_true,true_and] at L
   obtain⟨rfl,rfl⟩:=L
   exact (Array.getElem?_eq_some_iff.1 hg).1
 have X:(Tryz.prog.info? 9).map (·.size)=some 1:=by rw[hi];simp[ae]
 have an:Hid ((Tryz.prog.info? 9).map (·.size)=some 1):=X
 have ap:Hid (n=xs.length):=U
 clear I N hm X ah U
 go_enter Tryz.func134,Tryz.ntmps134
 go_wp2_with (first|(at_make;refine wpList_make_full w rfl _ _ 22 rfl w.heap.size 9 i0 _ 1 Tryz.underlying22 hi ai ae .i64 .i64 _ _ m (by rfl) (by rfl) rfl rfl (by rw[ak];omega) (by unfold maxLen;omega) (Nat.le_refl _) ?_))
 intro w1 J O
 obtain⟨q,V,E⟩: ∃q:List Value,w1.heap[w.heap.size]? =some (.cells q.toArray 9 (0,0))∧q.length=m:=by
  rcases J.2 with ⟨L,_⟩|⟨g',A,q,L,_,hg,_,_,al,_⟩
  ·simp at L
  ·simp only[Value.slice.injEq,Option.some.injEq,Addr.mk.injEq,and_true,true_and] at L
   obtain⟨rfl,rfl⟩:=L
   exact⟨q.toList,by simpa using hg,by simpa using al⟩
 have ag:Below w.heap.size w w1:=(Below.refl _ _).grown O (Nat.le_refl _) (fun k h=>by cases h)
 have aa:Hid (w1.heap[w.heap.size]? =some (.cells q.toArray 9 (0,0))):=V
 have z:Hid (q.length=m):=E
 have ab:Hid (∀j v,H[j]? =some v→w1.cell? (Addr.add ⟨g,0,none⟩ j)=some v):=fun j v Y=>by
  rw[zvV,ag.cell ac]
  exact Z.out j v Y
 clear J O V E
 go_wp2_with (first|(refine wpList_copy_splice rfl _ _ 22 22 rfl 9 Tryz.underlying22 an.out _ _ _ _ _ _ (by rfl) (by rfl) w.heap.size 0 q 9 aa.out H (by rw[K.out];exact (Nat.min_eq_right am).symm) (fun _=>⟨rfl,_,rfl,ab.out⟩) (by rw[K.out,z.out];omega) (fun v hv=>by rw[M.out] at hv;obtain⟨x,_,rfl⟩:=List.mem_map.1 hv;rfl) w.heap.size w ag (Nat.le_refl _) ?_))
 intro w2 aj ao
 have af:zbj w2 B 9 w.heap.size m m xs.dropLast:=by
  refine zvW hB aj.out ?_ (Nat.le_refl _) (by omega) ?_ ?_
  ·rw[length_splice _ _ _ (by rw[K.out,z.out];omega),z.out]
  ·rw[splice,M.out]
   have:=K.out
   rw[M.out] at this
   simp[←this]
  ·have:=K.out
   rw[M.out,List.length_map] at this
   exact this.symm
 go_wp2
 go_ret
 exact⟨w.heap.size,m,by rw[←HM.out];rfl,by rw[←HM.out];exact af,ao⟩
theorem zdO (s:ByteArray) (a:Nat) (w:World) (J:a≤s.size) (M:s.size≤40):
  Calls Tryz.prog 133 #[.string s,.int .i64 a] w fun e E=>e= .returned (.int .i64 (zcF s a))∧E=w:=by
 have q:=zm5 s a J
 have K:zcF s a≤40:=by have:=q.2.1;omega
 have D:=Lib.indexByte_ge (s.extract a s.size).data.toList 47
 clear q
 obtain⟨o,z⟩: ∃o,Lib.indexByte (s.extract a s.size).data.toList 47=o:=⟨_,rfl⟩
 have H:Hid (Lib.indexByte (s.extract a s.size).data.toList 47=o):=z
 have h:Lib.indexByte (s.extract a s.size).data.toList (47:Int).toNat.toUInt8=o:=z
 rw[z] at D
 clear z
 by_cases I:0≤o
 ·have A:Hid ((a:Int)+o=(zcF s a:Int)):=zvQ I H.out
  have L:(a:Int)+o≤40:=by have:=A.out;omega
  go_enter Tryz.func133,Tryz.ntmps133
  go_wp2_with fail
  refine (Tryz.strings_IndexByte _ _ _).mono ?_
  rintro e E ⟨rfl,rfl⟩
  rw[h]
  go_wp2
  go_ret
  exact⟨zbA A.out,rfl⟩
 ·have A:Hid (zcF s a=s.size):=zvR (by rw[H.out];exact I)
  go_enter Tryz.func133,Tryz.ntmps133
  go_wp2_with fail
  refine (Tryz.strings_IndexByte _ _ _).mono ?_
  rintro e E ⟨rfl,rfl⟩
  rw[h]
  go_wp2
  go_ret
  exact⟨zbA (by rw[A.out]),rfl⟩
theorem zvX (s:ByteArray) (w:World) (hp:zaS s=true):
  Calls Tryz.prog 95 #[.string s] w fun e w'=>∃g n A,e= .returned (.slice (some ⟨g,0,none⟩) n A)∧zbj w' w.heap.size 9 g n A (parts s)∧Below w.heap.size w w':=by
 obtain⟨i0,hi,ag,an,ao⟩:=info_parts Tryz.infoStr
 have aI:1≤s.size:=(zdF.1 hp).1
 have J:s.size≤40:=(zdF.1 hp).2.1
 have E0:Hid (bt s 0=47):=(zdF.1 hp).2.2.1
 have H1:Hid (zW s 1=(1,[])):=zvO E0.out
 go_enter Tryz.func95,Tryz.ntmps95
 go_wp2
 refine zvU 0 (fun a' w'=>∃(h n g A:Nat) (H:List ByteArray) (u5 u6 u7 u8 u9 ae ad aG aC az ay ap ak aq aD af aj ax av aF ah aB ac am ai al aE aA au:Value),a'={tmps:=#[.string s,undef,.slice none 0 0,.slice (some ⟨g,0,none⟩) n A,.int .i64 h,u5,u6,u7,u8,u9,ae,ad,aG,aC,az,ay,ap,ak,aq,aD,af,aj,ax,av,aF,ah,aB,ac,am,ai,al,aE,aA,au],defers:=[]}∧h≤s.size∧zW s h=(h,H)∧zbj w' w.heap.size 9 g n A H∧Below w.heap.size w w') (fun a' _=>(41-intOf (a'.tmps.getD 4 undef)).toNat) rfl ?_ ?_
 ·rintro a' wr ⟨h,n,g,A,H,u5,u6,u7,u8,u9,ae,ad,aG,aC,az,ay,ap,ak,aq,aD,af,aj,ax,av,aF,ah,aB,ac,am,ai,al,aE,aA,au,rfl,I,Z,q,D⟩
  have M:=D.size
  have ab:=zh9 s h
  rw[Z] at ab
  simp only at ab
  have aJ:n≤42:=by have:=zgz q;omega
  have aK:=zhG q
  clear ab
  obtain⟨e,he⟩: ∃e,zcF s h=e:=⟨_,rfl⟩
  have V:zgY s h e:=by rw[←he];exact zm5 s h I
  have aM:h≤e:=V.1
  have aL:e≤s.size:=V.2.1
  have HT:Hid (zW s (e+1)=(e+1,upd (s.extract h e) H)):=zm4 Z V
  have X:Hid (zcF s h=e):=he
  clear V he Z
  by_cases p0:(s.extract h e).toList.isEmpty=true
  ·have O:Hid (zW s (e+1)=(e+1,H)):=by have:=HT.out;rw[zgy p0] at this;exact this
   by_cases N:e<s.size
   ·skip
    go_wp2_with fail
    refine (zdO _ _ _ I J).mono ?_
    rintro ev U ⟨rfl,rfl⟩
    rw[X.out]
    go_wp2
    go_step3
    refine⟨rfl,⟨e+1,n,g,A,H,_,_,_,_,_,_,_,_,_,_,_,_,_,_,_,_,_,_,_,_,_,_,_,_,_,_,_,_,_,by go_num,by omega,O.out,q,D⟩,by simp[intOf];omega⟩
   ·have Y:Hid (parts s=H):=by show (zW s (s.size+1)).2=_;rw[show s.size=e from by omega,O.out]
    go_wp2_with fail
    refine (zdO _ _ _ I J).mono ?_
    rintro ev U ⟨rfl,rfl⟩
    rw[X.out]
    go_wp2
    simp only[Exit.jump]
    go_ret
    exact⟨g,n,A,rfl,by rw[Y.out];exact q,D⟩
  ·have ar:(s.extract h e).toList.isEmpty=false:=by simpa using p0
   clear p0
   by_cases p1:((s.extract h e).toList==[46])=true
   ·have O:Hid (zW s (e+1)=(e+1,H)):=by have:=HT.out;rw[zhA p1] at this;exact this
    by_cases N:e<s.size
    ·skip
     go_wp2_with fail
     refine (zdO _ _ _ I J).mono ?_
     rintro ev U ⟨rfl,rfl⟩
     rw[X.out]
     go_wp2
     go_step3
     refine⟨rfl,⟨e+1,n,g,A,H,_,_,_,_,_,_,_,_,_,_,_,_,_,_,_,_,_,_,_,_,_,_,_,_,_,_,_,_,_,by go_num,by omega,O.out,q,D⟩,by simp[intOf];omega⟩
    ·have Y:Hid (parts s=H):=by show (zW s (s.size+1)).2=_;rw[show s.size=e from by omega,O.out]
     go_wp2_with fail
     refine (zdO _ _ _ I J).mono ?_
     rintro ev U ⟨rfl,rfl⟩
     rw[X.out]
     go_wp2
     simp only[Exit.jump]
     go_ret
     exact⟨g,n,A,rfl,by rw[Y.out];exact q,D⟩
   ·have aw:((s.extract h e).toList==[46])=false:=by simpa using p1
    clear p1
    by_cases p2:((s.extract h e).toList==[46,46])=true
    ·have O:Hid (zW s (e+1)=(e+1,H.dropLast)):=by have:=HT.out;rw[zhC ar aw p2] at this;exact this
     by_cases N:e<s.size
     ·skip
      go_wp2_with fail
      refine (zdO _ _ _ I J).mono ?_
      rintro ev U ⟨rfl,rfl⟩
      rw[X.out]
      go_wp2_with fail
      refine (zmB w.heap.size g n A H _ q M (by omega)).mono ?_
      rintro ev w2 ⟨g2,E,rfl,z,L⟩
      go_wp2
      go_step3
      refine⟨rfl,⟨e+1,(n-1),g2,E,H.dropLast,_,_,_,_,_,_,_,_,_,_,_,_,_,_,_,_,_,_,_,_,_,_,_,_,_,_,_,_,_,by go_num,by omega,O.out,z,(D.trans (L.mono M))⟩,by simp[intOf];omega⟩
     ·have Y:Hid (parts s=H.dropLast):=by show (zW s (s.size+1)).2=_;rw[show s.size=e from by omega,O.out]
      go_wp2_with fail
      refine (zdO _ _ _ I J).mono ?_
      rintro ev U ⟨rfl,rfl⟩
      rw[X.out]
      go_wp2_with fail
      refine (zmB w.heap.size g n A H _ q M (by omega)).mono ?_
      rintro ev w2 ⟨g2,E,rfl,z,L⟩
      go_wp2
      simp only[Exit.jump]
      go_ret
      exact⟨g2,(n-1),E,rfl,by rw[Y.out];exact z,(D.trans (L.mono M))⟩
    ·have aH:((s.extract h e).toList==[46,46])=false:=by simpa using p2
     clear p2
     have O:Hid (zW s (e+1)=(e+1,H++[s.extract h e])):=by have:=HT.out;rw[zhB ar aw aH] at this;exact this
     by_cases N:e<s.size
     ·skip
      go_wp2_with fail
      refine (zdO _ _ _ I J).mono ?_
      rintro ev U ⟨rfl,rfl⟩
      rw[X.out]
      go_wp2_with (first|(at_builtin;refine zg0 U rfl _ _ 22 rfl w.heap.size 9 i0 _ Tryz.underlying22 hi ag an ao rfl g n A H (by rfl) q (s.extract h e) (by rfl) (by omega) M ?_))
      intro g2 E w2 z L
      go_wp2
      go_step3
      refine⟨rfl,⟨e+1,(n+1),g2,E,(H++[s.extract h e]),_,_,_,_,_,_,_,_,_,_,_,_,_,_,_,_,_,_,_,_,_,_,_,_,_,_,_,_,_,by go_num,by omega,O.out,z,(D.trans L)⟩,by simp[intOf];omega⟩
     ·have Y:Hid (parts s=(H++[s.extract h e])):=by show (zW s (s.size+1)).2=_;rw[show s.size=e from by omega,O.out]
      go_wp2_with fail
      refine (zdO _ _ _ I J).mono ?_
      rintro ev U ⟨rfl,rfl⟩
      rw[X.out]
      go_wp2_with (first|(at_builtin;refine zg0 U rfl _ _ 22 rfl w.heap.size 9 i0 _ Tryz.underlying22 hi ag an ao rfl g n A H (by rfl) q (s.extract h e) (by rfl) (by omega) M ?_))
      intro g2 E w2 z L
      go_wp2
      simp only[Exit.jump]
      go_ret
      exact⟨g2,(n+1),E,rfl,by rw[Y.out];exact z,(D.trans L)⟩
 ·intro aa
  go_wp2
  go_step3
  rename_i K hK
  refine hK _ _ (aa _ _ ⟨1,0,w.heap.size,0,[],_,_,_,_,_,_,_,_,_,_,_,_,_,_,_,_,_,_,_,_,_,_,_,_,_,_,_,_,_,rfl,aI,H1.out,⟨World.ownsRow_lit w #[] 0 (Nat.le_refl _) (by unfold maxLen;omega) rfl,rfl⟩,(Below.refl _ _).alloc (Nat.le_refl _) _⟩)
theorem zvY (s:ByteArray) (w:World) (Z:s.size≤9223372036854775807):
  Calls Tryz.prog 63 #[.string s] w fun e I=>e= .returned (.string (zaH s))∧Below w.heap.size w I:=by
 by_cases z:zaS s=true
 ·have HP:Hid (zaS s=true):=z
  have ac:s.size≤40:=(zdF.1 z).2.1
  obtain⟨J,E⟩: ∃J,Lib.join ((parts s).map (·.data.toList)) [47]=J:=⟨_,rfl⟩
  have U:Hid (({data:=#[47]}:ByteArray)++⟨J.toArray⟩=zaH s):=by have:=zm6 z;rw[E] at this;exact this
  have q:J.length≤2000:=by rw[←E];exact zvT s z
  have X:Hid (Lib.join ((parts s).map (·.data.toList)) [47]=J):=E
  have aa:(parts s).length≤41:=by have:=zm7 s;omega
  have ab:({data:=J.toArray}:ByteArray).size≤2000:=q
  clear E
  go_enter Tryz.func63,Tryz.ntmps63
  go_wp2_with fail
  refine (ziD _ _ Z).mono ?_
  rintro e I ⟨rfl,rfl⟩
  go_wp2_with fail
  refine (zvX _ _ HP.out).mono ?_
  rintro e H ⟨g,n,L,rfl,h,A⟩
  have M:Hid (n=(parts s).length):=zgz h
  go_wp2_with fail
  refine (Calls.mono (R:=fun e V=>e= .returned (.string {data:=J.toArray})∧Below H.heap.size H V) ?_ ?_)
  ·have hj:=Tryz.strings_Join g 0 L (parts s) {data:=#[47]} H
    (fun j x O=>by
     have q:j<(parts s).length:=by
      rcases Nat.lt_or_ge j (parts s).length with k|k
      ·exact k
      ·rw[List.getElem?_eq_none k] at O;cases O
     rw[Nat.zero_add,zhH h j (by rw[M.out];exact q)]
     simp[List.getD,O])
    (by
     rcases h.1.2 with ⟨D,_⟩|⟨g',Y,ad,D,_,hg,_⟩
     ·simp at D
     ·simp only[Value.slice.injEq,Option.some.injEq,Addr.mk.injEq,and_true,true_and] at D
      obtain⟨rfl,rfl⟩:=D
      exact (Array.getElem?_eq_some_iff.1 hg).1)
    (by omega) (by rw[←M.out];exact (zhG h).1)
    (by show (Lib.join ((parts s).map (·.data.toList)) [47]).length≤_;rw[X.out];omega)
   rw[←M.out] at hj
   refine hj.mono ?_
   rintro e V ⟨rfl,hb⟩
   exact⟨za5 (by show ByteArray.mk (Lib.join ((parts s).map (·.data.toList)) [47]).toArray=_;rw[X.out]),hb⟩
  ·rintro e V ⟨rfl,N⟩
   go_wp2
   go_ret
   exact⟨za5 U.out,A.trans (N.mono A.size)⟩
 ·have K:zaS s=false:=by simpa using z
  have U:Hid (zaH s={data:=#[]}):=zhD K
  clear z
  go_enter Tryz.func63,Tryz.ntmps63
  go_wp2_with fail
  refine (ziD _ _ Z).mono ?_
  rintro e I ⟨rfl,rfl⟩
  go_wp2
  go_ret
  exact⟨za5 U.out.symm,Below.refl _ _⟩
end Go.Proofs.YtgcbmogmniahjaaGreat
