/- Facts and walks that the theorem stands on. -/
import Derived.Lib.MinMax
import Derived.Laws.CopyOwn
import Derived.WalkMore
import Derived.Test.YtgcbmogmniahjaaGreatA57
import Derived.Test.YtgcbmogmniahjaaGreatA51
import Derived.Test.YtgcbmogmniahjaaGreatA38
namespace Go.Proofs.YtgcbmogmniahjaaGreat
open Go.Proofs.Tryz
set_option maxRecDepth 1000000
set_option maxHeartbeats 3200000
open Go.RowKit Go.PlainAid
theorem zwu (g j:Nat):Addr.add ⟨g,0,none⟩ j=⟨g,j,none⟩:=by
 unfold Addr.add
 split<;>simp_all
theorem zwv {w:World} {base g m q:Nat} {e:TypeId} {z:List Value} {H:List BA} (L:base<=g) (M:w.heap[g]? =some (.cells z.toArray e (0,0))) (A:z.length=q) (J:m<=q)
  (I:q<=1000000) (h:z.take m=H.map Value.string) (K:m=H.length):zbl w base e g m q H:=
 ⟨⟨by rw[List.length_map];omega,.inr ⟨g,q,z.toArray,rfl,L,M,J,by unfold maxLen;omega,by simp[A],by simpa using h⟩⟩,K⟩
theorem zmW (B g n ae:Nat) (xs:List BA) (w:World) (H:zbl w B 9 g n ae xs) (hB:B<=w.heap.size) (hn:n<=1000):
  Calls prog 134 #[.slice (some ⟨g,0,none⟩) n ae] w fun e w'=>∃g' A,e= .returned (.slice (some ⟨g',0,none⟩) (n-1:Nat) A)/\zbl w' B 9 g' (n-1) A xs.dropLast/\Below w.heap.size w w':=by
 obtain⟨i0,hi,aj,af,al⟩:=info_parts Tryz.infoStr;have X:=zg9 H;obtain⟨m,hm⟩: ∃m,m=n-1:=⟨_,rfl⟩;have au:max ((n:Int)-1) 0=(m:Int):=by rw[Int.max_def];split<;>omega
 have HM:Hid (m=n-1):=hm;have an:m<=n:=by omega
 obtain⟨J,U⟩: ∃J:List Value,J=xs.dropLast.map Value.string:=⟨_,rfl⟩;have O:Hid (J=xs.dropLast.map Value.string):=U;have ai:J.length=m:=by rw[U,List.length_map,List.length_dropLast];omega
 have M:Hid (J.length=m):=ai;have K: ∀j v,J[j]? =some v->w.cell? ⟨g,j,none⟩=some v:=by
  intro j v hj;have ar:j<J.length:=by
   rcases Nat.lt_or_ge j J.length with k|k
   ·exact k
   ·rw[List.getElem?_eq_none k] at hj;cases hj
  rw[zhX H j (by omega)];rw[U,List.getElem?_map] at hj;have e:xs.dropLast[j]? =xs[j]?:=by rw[List.getElem?_dropLast,if_pos (by omega)]
  rw[e,List.getElem?_eq_getElem (show j<xs.length by omega)] at hj;simp only[Option.map_some,Option.some.injEq] at hj;rw[<-hj];simp[List.getD,List.getElem?_eq_getElem (show j<xs.length by omega)]
 have aa:Hid (∀j v,J[j]? =some v->w.cell? ⟨g,j,none⟩=some v):=K;have ad:g<w.heap.size:=by
  rcases H.1.2 with ⟨N,_⟩|⟨g',A,q,N,_,hg,_⟩
  ·simp at N
  ·simp only[Value.slice.injEq,Option.some.injEq,Addr.mk.injEq,and_true,true_and] at N;obtain⟨rfl,rfl⟩:=N;exact (aLt hg)
 have Z:(prog.info? 9).map (·.size)=some 1:=by rw[hi];simp[af]
 have ao:Hid ((prog.info? 9).map (·.size)=some 1):=Z;have aq:Hid (n=xs.length):=X;clear K U hm Z ai X;go_enter func134,ntmps134;go_wp2_with (first|(at_make;refine wpList_make_full w rfl _ _ 22 rfl w.heap.size 9 i0 _ 1 underlying22 hi aj af .i64 .i64 _ _ m (by rfl) (by rfl) rfl rfl (by rw[al];omega) (by unfold maxLen;omega) (Nat.le_refl _) ?_));intro w1 L V;obtain⟨q,Y,I⟩: ∃q:List Value,w1.heap[w.heap.size]? =some (.cells q.toArray 9 (0,0))/\q.length=m:=by
  rcases L.2 with ⟨N,_⟩|⟨g',A,q,N,_,hg,_,_,am,_⟩
  ·simp at N
  ·simp only[Value.slice.injEq,Option.some.injEq,Addr.mk.injEq,and_true,true_and] at N;obtain⟨rfl,rfl⟩:=N;exact⟨q.toList,by simpa using hg,by simpa using am⟩
 have ah:Below w.heap.size w w1:=(Below.refl _ _).grown V (Nat.le_refl _) (fun k h=>by cases h);have ab:Hid (w1.heap[w.heap.size]? =some (.cells q.toArray 9 (0,0))):=Y;have z:Hid (q.length=m):=I;have ac:Hid (∀j v,J[j]? =some v->w1.cell? (Addr.add ⟨g,0,none⟩ j)=some v):=fun j v hj=>by
  rw[zwu,ah.cell ad];exact aa.o j v hj
 clear L V Y I;go_wp2_with (first|(refine wpList_copy_splice rfl _ _ 22 22 rfl 9 underlying22 ao.o _ _ _ _ _ _ (by rfl) (by rfl) w.heap.size 0 q 9 ab.o J (by rw[M.o];exact (Nat.min_eq_right an).symm) (fun _=>⟨rfl,_,rfl,ac.o⟩) (by rw[M.o,z.o];omega) (fun v hv=>by rw[O.o] at hv;obtain⟨x,_,rfl⟩:=List.mem_map.1 hv;rfl) w.heap.size w ah (Nat.le_refl _) ?_));intro w2 ak ap;have ag:zbl w2 B 9 w.heap.size m m xs.dropLast:=by
  refine zwv hB ak.o ?_ (Nat.le_refl _) (by omega) ?_ ?_
  ·rw[length_splice _ _ _ (by rw[M.o,z.o];omega),z.o]
  ·rw[splice,O.o];have:=M.o;rw[O.o] at this;simp[<-this]
  ·have:=M.o;rw[O.o,List.length_map] at this;exact this.symm
 go_wp2;go_ret;exact⟨w.heap.size,m,by rw[<-HM.o];rfl,by rw[<-HM.o];exact ag,ap⟩
theorem zdX (s:BA) (a:Nat) (w:World) (K:a<=s.size) (N:s.size<=40):
  Calls prog 133 #[.string s,.int .i64 a] w fun e w'=>e= .returned (.int .i64 (zcK s a))/\w'=w:=by
 have q:=zmP s a K;have L:zcK s a<=40:=by have:=q.2.1;omega
 have H:=Lib.indexByte_ge (s.extract a s.size).data.toList 47;clear q;obtain⟨o,z⟩: ∃o,Lib.indexByte (s.extract a s.size).data.toList 47=o:=⟨_,rfl⟩;have I:Hid (Lib.indexByte (s.extract a s.size).data.toList 47=o):=z;have h:Lib.indexByte (s.extract a s.size).data.toList (47:Int).toNat.toUInt8=o:=z;rw[z] at H;clear z;by_cases J:0<=o
 ·have A:Hid ((a:Int)+o=(zcK s a:Int)):=zwq J I.o;have M:(a:Int)+o<=40:=by have:=A.o;omega
  go_enter func133,ntmps133;go_wp2_with fail;refine (Tryz.strings_IndexByte _ _ _).mono ?_;rintro e w' ⟨rfl,rfl⟩;rw[h];go_wp2;go_ret;exact⟨zbC A.o,rfl⟩
 ·have A:Hid (zcK s a=s.size):=zwr (by rw[I.o];exact J);go_enter func133,ntmps133;go_wp2_with fail;refine (Tryz.strings_IndexByte _ _ _).mono ?_;rintro e w' ⟨rfl,rfl⟩;rw[h];go_wp2;go_ret;exact⟨zbC (by rw[A.o]),rfl⟩
theorem zww (s:BA) (w:World) (hp:zaU s=true):
  Calls prog 95 #[.string s] w fun e w'=>∃g n A,e= .returned (.slice (some ⟨g,0,none⟩) n A)/\zbl w' w.heap.size 9 g n A (parts s)/\Below w.heap.size w w':=by
 obtain⟨i0,hi,ah,ao,ap⟩:=info_parts Tryz.infoStr;have aJ:1<=s.size:=(zdO.1 hp).1;have M:s.size<=40:=(zdO.1 hp).2.1;have E0:Hid (bt s 0=47):=(zdO.1 hp).2.2.1;have H1:Hid (zX s 1=(1,[])):=zwo E0.o;go_enter func95,ntmps95;go_wp2;refine zmV 0 (fun a' w'=>∃(h n g A:Nat) (J:List BA) (u5 u6 u7 u8 u9 af ae aH aD aA az aq al ar aE ag ak ay aw aG ai aC ad an aj am aF aB av:Value),a'={tmps:=#[.string s,undef,.slice none 0 0,.slice (some ⟨g,0,none⟩) n A,.int .i64 h,u5,u6,u7,u8,u9,af,ae,aH,aD,aA,az,aq,al,ar,aE,ag,ak,ay,aw,aG,ai,aC,ad,an,aj,am,aF,aB,av],defers:=[]}/\h<=s.size/\zX s h=(h,J)/\zbl w' w.heap.size 9 g n A J/\Below w.heap.size w w') (fun a' _=>(41-intOf (a'.tmps.getD 4 undef)).toNat) rfl ?_ ?_
 ·rintro a' wr ⟨h,n,g,A,J,u5,u6,u7,u8,u9,af,ae,aH,aD,aA,az,aq,al,ar,aE,ag,ak,ay,aw,aG,ai,aC,ad,an,aj,am,aF,aB,av,rfl,L,aa,q,H⟩;have O:=H.size;have ac:=zhP s h;rw[aa] at ac;simp only at ac;have aK:n<=42:=by have:=zg9 q;omega
  have aL:=zhW q;clear ac;obtain⟨e,he⟩: ∃e,zcK s h=e:=⟨_,rfl⟩;have Y:zhm s h e:=by rw[<-he];exact zmP s h L
  have aN:h<=e:=Y.1;have aM:e<=s.size:=Y.2.1;have HT:Hid (zX s (e+1)=(e+1,upd (s.extract h e) J)):=zmO aa Y;have Z:Hid (zcK s h=e):=he;clear Y he aa;by_cases p0:(s.extract h e).toList.isEmpty=true
  ·have V:Hid (zX s (e+1)=(e+1,J)):=by have:=HT.o;rw[zg8 p0] at this;exact this
   by_cases U:e<s.size
   ·skip
    go_wp2_with fail;refine (zdX _ _ _ L M).mono ?_;rintro ev X ⟨rfl,rfl⟩;rw[Z.o];go_wp2;go_step3;refine⟨rfl,⟨e+1,n,g,A,J,_,_,_,_,_,_,_,_,_,_,_,_,_,_,_,_,_,_,_,_,_,_,_,_,_,_,_,_,_,by go_num,by omega,V.o,q,H⟩,by simp[intOf];omega⟩
   ·have HF:Hid (parts s=J):=by show (zX s (s.size+1)).2=_;rw[show s.size=e from by omega,V.o]
    go_wp2_with fail;refine (zdX _ _ _ L M).mono ?_;rintro ev X ⟨rfl,rfl⟩;rw[Z.o];go_wp2;simp only[Exit.jump];go_ret;exact⟨g,n,A,rfl,by rw[HF.o];exact q,H⟩
  ·have au:(s.extract h e).toList.isEmpty=false:=by simpa using p0
   clear p0;by_cases p1:((s.extract h e).toList==[46])=true
   ·have V:Hid (zX s (e+1)=(e+1,J)):=by have:=HT.o;rw[zhQ p1] at this;exact this
    by_cases U:e<s.size
    ·skip
     go_wp2_with fail;refine (zdX _ _ _ L M).mono ?_;rintro ev X ⟨rfl,rfl⟩;rw[Z.o];go_wp2;go_step3;refine⟨rfl,⟨e+1,n,g,A,J,_,_,_,_,_,_,_,_,_,_,_,_,_,_,_,_,_,_,_,_,_,_,_,_,_,_,_,_,_,by go_num,by omega,V.o,q,H⟩,by simp[intOf];omega⟩
    ·have HF:Hid (parts s=J):=by show (zX s (s.size+1)).2=_;rw[show s.size=e from by omega,V.o]
     go_wp2_with fail;refine (zdX _ _ _ L M).mono ?_;rintro ev X ⟨rfl,rfl⟩;rw[Z.o];go_wp2;simp only[Exit.jump];go_ret;exact⟨g,n,A,rfl,by rw[HF.o];exact q,H⟩
   ·have ax:((s.extract h e).toList==[46])=false:=by simpa using p1
    clear p1;by_cases p2:((s.extract h e).toList==[46,46])=true
    ·have V:Hid (zX s (e+1)=(e+1,J.dropLast)):=by have:=HT.o;rw[zhS au ax p2] at this;exact this
     by_cases U:e<s.size
     ·skip
      go_wp2_with fail;refine (zdX _ _ _ L M).mono ?_;rintro ev X ⟨rfl,rfl⟩;rw[Z.o];go_wp2_with fail;refine (zmW w.heap.size g n A J _ q O (by omega)).mono ?_;rintro ev w2 ⟨g2,I,rfl,z,N⟩;go_wp2;go_step3;refine⟨rfl,⟨e+1,(n-1),g2,I,J.dropLast,_,_,_,_,_,_,_,_,_,_,_,_,_,_,_,_,_,_,_,_,_,_,_,_,_,_,_,_,_,by go_num,by omega,V.o,z,(H.trans (N.mono O))⟩,by simp[intOf];omega⟩
     ·have HF:Hid (parts s=J.dropLast):=by show (zX s (s.size+1)).2=_;rw[show s.size=e from by omega,V.o]
      go_wp2_with fail;refine (zdX _ _ _ L M).mono ?_;rintro ev X ⟨rfl,rfl⟩;rw[Z.o];go_wp2_with fail;refine (zmW w.heap.size g n A J _ q O (by omega)).mono ?_;rintro ev w2 ⟨g2,I,rfl,z,N⟩;go_wp2;simp only[Exit.jump];go_ret;exact⟨g2,(n-1),I,rfl,by rw[HF.o];exact z,(H.trans (N.mono O))⟩
    ·have aI:((s.extract h e).toList==[46,46])=false:=by simpa using p2
     clear p2;have V:Hid (zX s (e+1)=(e+1,J++[s.extract h e])):=by have:=HT.o;rw[zhR au ax aI] at this;exact this
     by_cases U:e<s.size
     ·skip
      go_wp2_with fail;refine (zdX _ _ _ L M).mono ?_;rintro ev X ⟨rfl,rfl⟩;rw[Z.o];go_wp2_with (first|(at_builtin;refine zgA X rfl _ _ 22 rfl w.heap.size 9 i0 _ underlying22 hi ah ao ap rfl g n A J (by rfl) q (s.extract h e) (by rfl) (by omega) O ?_));intro g2 I w2 z N;go_wp2;go_step3;refine⟨rfl,⟨e+1,(n+1),g2,I,(J++[s.extract h e]),_,_,_,_,_,_,_,_,_,_,_,_,_,_,_,_,_,_,_,_,_,_,_,_,_,_,_,_,_,by go_num,by omega,V.o,z,(H.trans N)⟩,by simp[intOf];omega⟩
     ·have HF:Hid (parts s=(J++[s.extract h e])):=by show (zX s (s.size+1)).2=_;rw[show s.size=e from by omega,V.o]
      go_wp2_with fail;refine (zdX _ _ _ L M).mono ?_;rintro ev X ⟨rfl,rfl⟩;rw[Z.o];go_wp2_with (first|(at_builtin;refine zgA X rfl _ _ 22 rfl w.heap.size 9 i0 _ underlying22 hi ah ao ap rfl g n A J (by rfl) q (s.extract h e) (by rfl) (by omega) O ?_));intro g2 I w2 z N;go_wp2;simp only[Exit.jump];go_ret;exact⟨g2,(n+1),I,rfl,by rw[HF.o];exact z,(H.trans N)⟩
 ·intro ab;go_wp2;go_step3
  rename_i K hK
  refine hK _ _ (ab _ _ ⟨1,0,w.heap.size,0,[],_,_,_,_,_,_,_,_,_,_,_,_,_,_,_,_,_,_,_,_,_,_,_,_,_,_,_,_,_,rfl,aJ,H1.o,⟨World.ownsRow_lit w #[] 0 (Nat.le_refl _) (by unfold maxLen;omega) rfl,rfl⟩,(Below.refl _ _).alloc (Nat.le_refl _) _⟩)
theorem zwx (s:BA) (w:World) (hs:s.size<=9223372036854775807):
  Calls prog 63 #[.string s] w fun e w'=>e= .returned (.string (zaK s))/\Below w.heap.size w w':=by
 by_cases z:zaU s=true
 ·have HP:Hid (zaU s=true):=z;have ac:s.size<=40:=(zdO.1 z).2.1;obtain⟨J,I⟩: ∃J,Lib.join ((parts s).map (·.data.toList)) [47]=J:=⟨_,rfl⟩;have V:Hid (({data:=#[47]}:BA)++⟨J.toArray⟩=zaK s):=by have:=zmQ z;rw[I] at this;exact this
  have q:J.length<=2000:=by rw[<-I];exact zwt s z
  have Y:Hid (Lib.join ((parts s).map (·.data.toList)) [47]=J):=I;have aa:(parts s).length<=41:=by have:=zmR s;omega
  have ab:({data:=J.toArray}:BA).size<=2000:=q;clear I;go_enter func63,ntmps63;go_wp2_with fail;refine (ziV _ _ hs).mono ?_;rintro e w' ⟨rfl,rfl⟩;go_wp2_with fail;refine (zww _ _ HP.o).mono ?_;rintro e K ⟨g,n,M,rfl,h,A⟩;have N:Hid (n=(parts s).length):=zg9 h;go_wp2_with fail;refine (Calls.mono (R:=fun e X=>e= .returned (.string {data:=J.toArray})/\Below K.heap.size K X) ?_ ?_)
  ·have hj:=Tryz.strings_Join g 0 M (parts s) {data:=#[47]} K
    (fun j x U=>by
     have q:j<(parts s).length:=by
      rcases Nat.lt_or_ge j (parts s).length with k|k
      ·exact k
      ·rw[List.getElem?_eq_none k] at U;cases U
     rw[Nat.zero_add,zhX h j (by rw[N.o];exact q)]
     simp[List.getD,U])
    (by
     rcases h.1.2 with ⟨H,_⟩|⟨g',Z,ad,H,_,hg,_⟩
     ·simp at H
     ·simp only[Value.slice.injEq,Option.some.injEq,Addr.mk.injEq,and_true,true_and] at H;obtain⟨rfl,rfl⟩:=H
      exact (aLt hg))
    (by omega) (by rw[<-N.o];exact (zhW h).1)
    (by show (Lib.join ((parts s).map (·.data.toList)) [47]).length<=_;rw[Y.o];omega)
   rw[<-N.o] at hj;refine hj.mono ?_;rintro e X ⟨rfl,hb⟩;exact⟨za7 (by show ByteArray.mk (Lib.join ((parts s).map (·.data.toList)) [47]).toArray=_;rw[Y.o]),hb⟩
  ·rintro e X ⟨rfl,O⟩;go_wp2;go_ret;exact⟨za7 V.o,A.trans (O.mono A.size)⟩
 ·have L:zaU s=false:=by simpa using z
  have V:Hid (zaK s={data:=#[]}):=zhT L;clear z;go_enter func63,ntmps63;go_wp2_with fail;refine (ziV _ _ hs).mono ?_;rintro e w' ⟨rfl,rfl⟩;go_wp2;go_ret;exact⟨za7 V.o.symm,Below.refl _ _⟩
end Go.Proofs.YtgcbmogmniahjaaGreat
namespace Go.Proofs.YtgcbmogmniahjaaGreat
open Go.Proofs.Tryz
set_option maxRecDepth 100000
set_option maxHeartbeats 12800000
open Go.RowKit Go.PlainAid Go.Sort
theorem OwnR.take {w:World} {base n i:Nat} {e:TypeId} {r:Rw} {xs:List Value} (h:OwnR w base e 1 r n xs) (O:i<=n):OwnR w base e 1 r i (xs.take i):=by
 have M:=h.1;refine⟨by rw[List.length_take];omega,?_⟩;rcases h.2 with ⟨q,U⟩|⟨g,A,z,q,K,I,N,J,L,H⟩
 ·left;simp only[Value.slice.injEq] at q;obtain rfl:i=0:=by omega
  exact⟨by rw[q.1,q.2.2],rfl⟩
 ·right;simp only[Value.slice.injEq] at q;refine⟨g,A,z,by rw[q.1,q.2.2],K,I,by omega,J,L,?_⟩;rw[<-H,List.take_take,Nat.min_eq_left (by omega),Nat.mul_one]
theorem RowS.own {w:World} {base:Nat} {r:Rw} {l:List BA} (h:OwnR w base 9 1 r l.length (l.flatMap fun x=>[Value.string x])):OwnR w base 9 1 r l.length (l.map .string):=by rw[zk5];exact h
theorem OwnR.first {w:World} {base i:Nat} {r:Rw} {l:List BA} (h:OwnR w base 9 1 r l.length (l.flatMap fun x=>[Value.string x])) (q:i<=l.length):OwnR w base 9 1 r (l.take i).length ((l.take i).map .string):=by
 have:=(RowS.own h).take q;rw[<-List.map_take] at this;rw[List.length_take,Nat.min_eq_left q];exact this
theorem zwy {h:List BA} {i:Nat} {p:BA} {P:Prop} (q:h.getD i sNone=p) (I: ∀j,j<i->zcc h j) (w: ¬zcc h i->¬P):
  (zaU p=false/\¬P)∨(zaU p=true/\((((zaK p).toList==p.toList)=false/\¬P)∨(((zaK p).toList==p.toList)=true/\((zaS (h.take i) p=true/\¬P)∨(zaS (h.take i) p=false/\∀j,j<i+1->zcc h j))))):=by
 cases A:zaU p with
 |false=>exact .inl ⟨rfl,w fun k=>by rw[zcc,q,A] at k;exact absurd k.1 (by decide)⟩
 |true=>
  refine .inr ⟨rfl,?_⟩;cases z:((zaK p).toList==p.toList) with
  |false=>exact .inl ⟨rfl,w fun k=>by rw[zcc,q,z] at k;exact absurd k.2.1 (by decide)⟩
  |true=>
   refine .inr ⟨rfl,?_⟩;cases H:zaS (h.take i) p with
   |true=>exact .inl ⟨rfl,w fun k=>by rw[zcc,q] at k;exact absurd (H.symm.trans k.2.2) (by decide)⟩
   |false=>
    refine .inr ⟨rfl,fun j J=>?_⟩;by_cases e:j=i
    ·rw[e,zcc,q];exact⟨A,z,H⟩
    ·exact I j (by omega)
theorem zmX (base:Nat) (a:Option Addr) (H:Nat) (q:List BA) (w:World) (h:OwnR w base 9 1 ⟨a,H⟩ q.length (q.flatMap fun x=>[Value.string x])) (hl:q.length<=1000000) (hs: ∀p∈q,p.size<=1048576):
  Calls prog 34 #[.slice a q.length H] w fun e w'=>SameOut (∀i,i<q.length->zcc q i) e/\Below w.heap.size w w':=by
 have HO:=zc h;have HS:=zc hs;have O:=OwnR.cap h;simp only at O;clear h hs;go_enter func34,ntmps34;go_wp2;go_loopg [7] q.length (fun k s7 wr=>∃i:Nat,s7= .int .i64 i/\i+k=q.length/\(∀j,j<i->zcc q j)/\Below w.heap.size w wr)
 case atStart=>exact⟨0,rfl,by omega,(fun j hj=>absurd hj (Nat.not_lt_zero j)),Below.refl _ _⟩
 case round=>
  obtain⟨i,rfl,hi,ht,K⟩:=hrel;have TO:=zc ht;have N:=zc K;clear ht K;by_cases M:i<q.length
  ·have X:(i:Int)<(q.length:Int):=by omega
   have ad:(i:Int)<=(H:Int):=by omega
   obtain⟨p,Y⟩: ∃p,q[i]? =some p:=⟨_,List.getElem?_eq_getElem M⟩;have OW:=zc (HO.o.later N.o);obtain⟨b1,o1,e1,k1⟩:=(RowAt.of (f:=fun x=>[Value.string x]) (m:=1) (fun _=>rfl) OW.o).get Y;simp only at e1;subst e1;have c0:=k1 0 _ rfl;simp only[Nat.add_zero,Nat.mul_one] at c0;have ac:=HS.o p (List.mem_of_getElem? Y);have PD:Hid (q.getD i sNone=p):=by show _=_;rw[List.getD,Y];rfl
   have U:p.size<=9223372036854775807:=by omega
   have aa:(q.take i).length=i:=by rw[List.length_take];omega
   clear Y k1;obtain⟨Z,L⟩: ∃Z,Z=i+1:=⟨_,rfl⟩;have ei:(i:Int)+1=(Z:Int):=by omega
   have V:=zc L;clear L;have z:=zwy PD.o TO.o (P:=∀i,i<q.length->zcc q i) (fun k h=>k (h i M));go_wp2_with fail;refine (ziV p _ U).mono ?_;rintro e w1 ⟨rfl,rfl⟩;rcases z with ⟨h1,A⟩|⟨h1,z⟩
   ·have J:=zc A;clear A;rw[h1];go_wp2;go_ret;exact⟨zbx J.o rfl,N.o⟩
   rw[h1];go_wp2_with fail;refine (zwx p _ U).mono ?_;rintro e w2 ⟨rfl,K⟩;have ab:=zc (OW.o.later K);have I:=zc (zaf N.o K);clear K OW N c0;rcases z with ⟨h2,A⟩|⟨h2,z⟩
   ·have J:=zc A;clear A;go_wp2;go_ret;exact⟨zbx J.o rfl,I.o⟩
   have cI:=zgs base ⟨some ⟨b1,o1,none⟩,H⟩ (q.take i) p w2 (ab.o.first (by omega)) (by omega);rw[aa] at cI;have CI:=zc cI;clear cI;go_wp2_with fail;refine CI.o.mono ?_;rintro e w3 ⟨rfl,rfl⟩;rcases z with ⟨h3,A⟩|⟨h3,A⟩
   ·have J:=zc A;clear A;rw[h3];go_wp2;go_ret;exact⟨zbx J.o rfl,I.o⟩
   ·have J:=zc A;clear A;rw[h3];go_wp2;go_roundg (gk-1)
    case rel=>exact⟨Z,rfl,by have:=V.o;omega,by rw[V.o];exact J.o,I.o⟩
    case measure=>omega
  ·have X: ¬(i:Int)<(q.length:Int):=by omega
   obtain rfl:i=q.length:=by omega
   go_wp2;go_ret;exact⟨zic TO.o rfl,N.o⟩
theorem zwz {h:List Md} {i:Nat} {m:Md} (z:h[i]? =some m) (H: ∀(j:Nat) (x:Md),j<i->h[j]? =some x->MOk x/\zar x=0):
  (¬MOk m/\¬zcV h)∨(MOk m/\((¬zar m=0/\¬zcV h)∨(zar m=0/\∀(j:Nat) (x:Md),j<i+1->h[j]? =some x->MOk x/\zar x=0))):=by
 by_cases w:MOk m
 ·refine .inr ⟨w,?_⟩;by_cases q:zar m=0
  ·refine .inr ⟨q,fun j x I A=>?_⟩;by_cases e:j=i
   ·rw[e,z] at A;cases A;exact⟨w,q⟩
   ·exact H j x (by omega) A
  ·exact .inl ⟨q,fun k=>q (k m (List.mem_of_getElem? z)).2⟩
 ·exact .inl ⟨w,fun k=>w (k m (List.mem_of_getElem? z)).1⟩
theorem zmY (J:zfI 65) (H:zfJ 66) (base:Nat) (a:Option Addr) (ad:Nat) (U:List Sv) (q:List Md) (w:World) (hu:U.length=q.length) (h:OwnR w base 54 5 ⟨a,ad⟩ q.length ((U.zip q).flatMap mdL)) (af: ∀x∈U.zip q,OwnMd w base x.1 x.2) (hg: ∀m∈q,GdM m) (hl:q.length<=1000000):
  Calls prog 35 #[.slice a q.length ad] w fun e w'=>SameOut (zcV q) e/\Below w.heap.size w w':=by
 have HO:=zc (RowAt.of (f:=mdL) (m:=5) (fun _=>rfl) (zeQ hu h));have HM:=zc af;have HG:=zc hg;have HU:=zc hu;have CM:=zc J;have CE:=zc H;clear h af hg hu J H;go_enter func35,ntmps35;go_wp2;go_loopg [7] q.length (fun k s7 wr=>∃i:Nat,s7= .int .i64 i/\i+k=q.length/\(∀(j:Nat) (x:Md),j<i->q[j]? =some x->MOk x/\zar x=0)/\Below w.heap.size w wr)
 case atStart=>exact⟨0,rfl,by omega,(fun j x hj=>absurd hj (Nat.not_lt_zero j)),Below.refl _ _⟩
 case round=>
  obtain⟨i,rfl,hi,ht,z⟩:=hrel;have TO:=zc ht;have I:=zc z;clear ht z;by_cases ah:i<q.length
  ·have ag:(i:Int)<(q.length:Int):=by omega
   obtain⟨m,Y⟩: ∃m,q[i]? =some m:=⟨_,List.getElem?_eq_getElem ah⟩;obtain⟨S,hS⟩:=zdS HU.o Y;obtain⟨b1,o1,e1,O⟩:=(HO.o.later I.o).get hS;subst e1;have Z:=O 0 _ rfl;have c1:=O 1 _ rfl;have c2:=O 2 _ rfl;have c3:=O 3 _ rfl;have c4:=O 4 _ rfl;simp only[Nat.add_zero] at Z;have V:=zc ((HM.o _ (List.mem_of_getElem? hS)).later I.o);have GM:=zc (HG.o m (List.mem_of_getElem? Y));have L:=zwz Y TO.o;clear Y hS O;obtain⟨i1,aa⟩: ∃i1,i1=i+1:=⟨_,rfl⟩;have ei:(i:Int)+1=(i1:Int):=by omega
   have ae:=zc aa;clear aa;go_upto_region 4 with fail;obtain⟨gl,N⟩: ∃gl,gl=wr.heap.size:=⟨_,rfl⟩;rw[<-N];refine zx (R:=fun W=>Bk W gl (mdL (S,m)).toArray 54/\OwnMd W base S m/\Below w.heap.size w W) ⟨by rw[N];exact heap_alloc_new wr _,V.o.later (zaB wr _),zaf I.o (zaB wr _)⟩ ?_;clear N I V Z c1 c2 c3 c4;rintro w1 ⟨A,ho,z⟩;have X:=zc A;have V:=zc ho;have I:=zc z;clear A ho z;obtain⟨Z,c1,c2,c3,c4,cf⟩:=zj X.o;go_wp2_with fail;refine (CM.o base S m _ V.o GM.o).mono ?_;rintro e w2 ⟨K,z⟩;have X2:=zc (X.o.later z);have ab:=zc (V.o.later z);have M:=zc (zaf I.o z);clear z X V I Z c1 c2 c3 c4 cf;rcases L with ⟨h1,A⟩|⟨h1,L⟩
   ·have HX:=zc A;clear A;obtain rfl:=K.of (b:=false) (by simp[h1]);go_wp2;go_ret;exact⟨zbx HX.o rfl,M.o⟩
   obtain rfl:=K.of (b:=true) (by simp[h1]);clear K;obtain⟨Z,c1,c2,c3,c4,cf⟩:=zj X2.o;go_wp2_with fail;refine (CE.o base S m _ ab.o GM.o h1).mono ?_;rintro e w3 ⟨rfl,z⟩;have ac:=zc (zaf M.o z);clear z ab M X2 Z c1 c2 c3 c4 cf h1;rcases L with ⟨h2,A⟩|⟨h2,A⟩
   ·have HX:=zc A;clear A;go_wp2;go_ret;exact⟨zbx HX.o rfl,ac.o⟩
   ·have HX:=zc A;clear A;go_wp2;go_roundg (gk-1)
    case rel=>exact⟨i1,rfl,by have:=ae.o;omega,by rw[ae.o];exact HX.o,ac.o⟩
    case measure=>omega
  ·have ag: ¬(i:Int)<(q.length:Int):=by omega
   obtain rfl:i=q.length:=by omega
   have HY:Hid (zcV q):=fun m Y=>by
    obtain⟨j,hj⟩:=List.mem_iff_getElem?.1 Y;exact TO.o j m (List.getElem?_eq_some_iff.1 hj).1 hj
   go_wp2;go_ret;exact⟨zic HY.o rfl,I.o⟩
theorem zw0 (x:Lk) (f:Int) (s:BA):(x.frm=f/\(x.spec.toList==s.toList)=true/\zT x=(f,s.toList))∨(x.frm=f/\(x.spec.toList==s.toList)=false/\zT x≠(f,s.toList))∨(¬x.frm=f/\zT x≠(f,s.toList)):=by
 by_cases h:x.frm=f
 ·cases q:(x.spec.toList==s.toList) with
  |true=>exact .inl ⟨h,rfl,by unfold zT;rw[h,eq_of_beq q]⟩
  |false=>exact .inr (.inl ⟨h,rfl,fun e=>by rw[(Prod.mk.inj e).2] at q;simp at q⟩)
 ·exact .inr (.inr ⟨h,fun e=>h (Prod.mk.inj e).1⟩)
theorem zmZ (base:Nat) (G:GS) (g:Gr) (f:Int) (s:BA) (w:World) (ho:GrOwn w base G g) (hl:g.ls.length<=1048576):
  Calls prog 67 #[grD G g,.int .i64 f,.string s] w fun e w'=>e= .returned (.int .i64 (zbk g.ls (f,s.toList)))/\Below w.heap.size w w':=by
 have HR:=zc (RowAt.of (f:=lkL) (m:=3) (fun _=>rfl) ho.ls);clear ho;obtain⟨pr,mr,sv,⟨la,lc⟩⟩:=G;unfold grD;simp only at HR ⊢;go_enter func67,ntmps67;go_upto_region 1 with fail;obtain⟨gx,H⟩: ∃gx,gx=w.heap.size:=⟨_,rfl⟩;rw[<-H];refine zx (R:=fun W=>Bk W gx #[.slice pr.a g.ps.length pr.cap,.slice mr.a g.ms.length mr.cap,.slice la g.ls.length lc] 32/\Below w.heap.size w W) ⟨by rw[H];exact heap_alloc_new w _,zaB w _⟩ ?_;rintro W0 ⟨h,q⟩;have L:=zc q;obtain⟨V,Y,Z,cf⟩:=zo h;clear H h q;go_wp2;clear V Y Z cf;go_loopg [12] g.ls.length (fun k ab wr=>∃i:Nat,ab= .int .i64 i/\i+k=g.ls.length/\(∀(j:Nat) (x:Lk),j<i->g.ls[j]? =some x->zT x≠(f,s.toList))/\Below w.heap.size w wr)
 case atStart=>exact⟨0,rfl,by omega,(fun j x O=>absurd O (Nat.not_lt_zero j)),L.o⟩
 case round=>
  obtain⟨i,rfl,hi,ht,q⟩:=hrel;have TO:=zc ht;have z:=zc q;clear ht q L;by_cases aa:i<g.ls.length
  ·have U:(i:Int)<(g.ls.length:Int):=by omega
   obtain⟨l,A⟩: ∃l,g.ls[i]? =some l:=⟨_,List.getElem?_eq_getElem aa⟩;obtain⟨b1,o1,e1,X⟩:=(HR.o.later z.o).get A;subst e1;have V:=X 0 _ rfl;have Y:=X 1 _ rfl;have Z:=X 2 _ rfl;simp only[Nat.add_zero] at V;have HL:=zc A;clear A X;obtain⟨N,K⟩: ∃N,N=i+1:=⟨_,rfl⟩;have ei:(i:Int)+1=(N:Int):=by omega
   have M:=zc K;clear K;go_upto_region 4 with fail;obtain⟨gl,I⟩: ∃gl,gl=wr.heap.size:=⟨_,rfl⟩;rw[<-I];refine zx (R:=fun W=>Bk W gl #[.int .i64 l.frm,.string l.spec,.int .i64 l.to] 57/\Below w.heap.size w W) ⟨by rw[I];exact heap_alloc_new wr _,zaf z.o (zaB wr _)⟩ ?_;clear I z V Y Z;rintro w1 ⟨h,q⟩;have z:=zc q;obtain⟨V,Y,Z,cf⟩:=zo h;clear h q;rcases zw0 l f s with ⟨h1,h2,J⟩|⟨h1,h2,J⟩|⟨h1,J⟩
   ·have HV:=zc (zp2 HL.o J TO.o);clear J;go_wp2;go_ret;exact⟨by rw[HV.o];rfl,z.o⟩
   all_goals (
    have HK:Hid (∀(j:Nat) (x:Lk),j<N->g.ls[j]? =some x->zT x≠(f,s.toList)):=fun j x O h=>by
     by_cases e:j=i
     ·rw[e,HL.o] at h;cases h;exact J
     ·exact TO.o j x (by have:=M.o;omega) h
    clear J;go_wp2;go_roundg (gk-1)
    case rel=>exact⟨N,rfl,by have:=M.o;omega,HK.o,z.o⟩
    case measure=>omega)
  ·have U: ¬(i:Int)<(g.ls.length:Int):=by omega
   obtain rfl:i=g.ls.length:=by omega
   have HV:Hid (zbk g.ls (f,s.toList)= -1):=zp1 fun l hl=>by
    obtain⟨j,O⟩:=List.mem_iff_getElem?.1 hl;exact TO.o j l (List.getElem?_eq_some_iff.1 O).1 O
   go_wp2;go_ret;exact⟨by rw[HV.o];rfl,z.o⟩
def RqTo (g:Gr) (i j:Nat):Prop:=∀(f:Nat) (m:Md),g.ms[f]? =some m->∀(k:Nat) (s:BA),m.rq[k]? =some s->f<i∨(f=i/\k<j)->0<=zbk g.ls ((f:Int),s.toList)/\zbk g.ls ((f:Int),s.toList)<(g.ms.length:Int)
theorem RqTo.next {g:Gr} {i j:Nat} {m:Md} {s:BA} (h:RqTo g i j) (z:g.ms[i]? =some m) (H:m.rq[j]? =some s) (A:0<=zbk g.ls ((i:Int),s.toList)/\zbk g.ls ((i:Int),s.toList)<(g.ms.length:Int)):RqTo g i (j+1):=by
 intro f x w k t q I;by_cases e:f=i/\k=j
 ·obtain⟨rfl,rfl⟩:=e;rw[z] at w;cases w;rw[H] at q;cases q;exact A
 ·exact h f x w k t q (by omega)
theorem RqTo.row {g:Gr} {i:Nat} {m:Md} (h:RqTo g i m.rq.length) (z:g.ms[i]? =some m):RqTo g (i+1) 0:=by
 intro f x w k t q A;by_cases e:f=i
 ·rw[e,z] at w;cases w;exact h f m (by rw[e];exact z) k t q (.inr ⟨e,(List.getElem?_eq_some_iff.1 q).1⟩)
 ·exact h f x w k t q (.inl (by omega))
theorem zna {g:Gr} {i j:Nat} {m:Md} {s:BA} (w:g.ms[i]? =some m) (q:m.rq[j]? =some s) (h: ¬(0<=zbk g.ls ((i:Int),s.toList)/\zbk g.ls ((i:Int),s.toList)<(g.ms.length:Int))): ¬zbQ (zC g) g.ls:=fun k=>h (by
 have:=k.2 i m.rq (by rw[zC,List.getElem?_map,w];rfl) s (List.mem_of_getElem? q);rw[zck] at this
 exact this)
theorem zw1 {g:Gr} (A:g.ls.length=zaq (zC g)) (h:RqTo g g.ms.length 0):zbQ (zC g) g.ls:=by
 refine⟨A,fun f I q s H=>?_⟩;rw[zck];rw[zC,List.getElem?_map] at q;cases w:g.ms[f]? with
 |none=>rw[w] at q;cases q
 |some m=>
  rw[w] at q;cases q;obtain⟨k,z⟩:=List.mem_iff_getElem?.1 H;exact h f m w k s z (.inl (List.getElem?_eq_some_iff.1 w).1)
theorem znb (base:Nat) (G:GS) (g:Gr) (w:World) (ho:GrOwn w base G g) (hg:GdG g):
  Calls prog 36 #[grD G g] w fun e w'=>SameOut (zbQ (zC g) g.ls) e/\Below w.heap.size w w':=by
 have HO:=zc ho;have HG:=zc hg;have aA:=hg.ml;have aw:=hg.ll;clear ho hg;have af:Hid (∀k,zaq ((zC g).take k)<=1048576):=fun k=>Nat.le_trans (zib _ _) HG.o.rq;obtain⟨O,⟨ma,mc⟩,sv,N⟩:=G;have HZ:=zc (RowAt.of (f:=mdL) (m:=5) (fun _=>rfl) (zeQ HO.o.len HO.o.ms));unfold grD;simp only at HZ ⊢;go_enter func36,ntmps36;go_upto_region 1 with fail;obtain⟨gx,ab⟩: ∃gx,gx=w.heap.size:=⟨_,rfl⟩;rw[<-ab];refine zx (R:=fun W=>Bk W gx #[.slice O.a g.ps.length O.cap,.slice ma g.ms.length mc,.slice N.a g.ls.length N.cap] 32/\Below w.heap.size w W) ⟨by rw[ab];exact heap_alloc_new w _,zaB w _⟩ ?_;clear ab;rintro W0 ⟨A,h⟩;have X0:=zc A;have aj:=zc h;obtain⟨H,K,J,cf⟩:=zo A;clear A h;go_wp2;clear H K J cf;go_loopg [3,14] g.ms.length (fun k s3 av wr=>∃i:Nat,av= .int .i64 i/\s3= .int .i64 (zaq ((zC g).take i):Nat)/\i+k=g.ms.length/\Bk wr gx #[.slice O.a g.ps.length O.cap,.slice ma g.ms.length mc,.slice N.a g.ls.length N.cap] 32/\Below w.heap.size w wr)
 case atStart=>exact⟨0,rfl,rfl,by omega,X0.o,aj.o⟩
 case round=>
  obtain⟨i,rfl,rfl,hi,A,h⟩:=hrel;have X:=zc A;have q:=zc h;clear A h X0 aj;have ax:=af.o i;by_cases ac:i<g.ms.length
  ·have Z:(i:Int)<(g.ms.length:Int):=by omega
   obtain⟨m,hm⟩: ∃m,g.ms[i]? =some m:=⟨_,List.getElem?_eq_getElem ac⟩;obtain⟨S,hS⟩:=zdS HO.o.len hm;obtain⟨b1,o1,e1,V⟩:=(HZ.o.later q.o).get hS;subst e1;have H:=V 0 _ rfl;have K:=V 1 _ rfl;have J:=V 2 _ rfl;have c3:=V 3 _ rfl;have c4:=V 4 _ rfl;simp only[Nat.add_zero] at H;obtain⟨U,M⟩: ∃U,U=i+1:=⟨_,rfl⟩;have ei:(i:Int)+1=(U:Int):=by omega
   have Y:=zc M;have ay:(zaq ((zC g).take i):Int)+(m.rq.length:Int)=(zaq ((zC g).take U):Nat):=by rw[M,zia (rq:=m.rq) (by rw[zC,List.getElem?_map,hm];rfl)];omega
   have aC:=af.o U;clear M hm hS V;go_upto_region 5 with fail;obtain⟨gl,I⟩: ∃gl,gl=wr.heap.size:=⟨_,rfl⟩;rw[<-I];refine zx (R:=fun W=>Bk W gl (mdL (S,m)).toArray 54/\Bk W gx #[.slice O.a g.ps.length O.cap,.slice (some ⟨b1,o1,none⟩) g.ms.length mc,.slice N.a g.ls.length N.cap] 32/\Below w.heap.size w W) ⟨by rw[I];exact heap_alloc_new wr _,X.o.later (zaB wr _),zaf q.o (zaB wr _)⟩ ?_;clear I q X H K J c3 c4;rintro w1 ⟨hy,A,h⟩;have q:=zc h;have X:=zc A;obtain⟨H,K,J,c3,c4,cf⟩:=zj hy;clear A h hy;go_wp2;go_roundg (gk-1)
   case rel=>exact⟨U,rfl,rfl,by have:=Y.o;omega,X.o,q.o⟩
   case measure=>omega
  ·have Z: ¬(i:Int)<(g.ms.length:Int):=by omega
   obtain rfl:i=g.ms.length:=by omega
   have HT:Hid (zaq ((zC g).take g.ms.length)=zaq (zC g)):=by show _=_;rw[List.take_of_length_le (by rw[zck];exact Nat.le_refl _)]
   obtain⟨H,K,J,cf⟩:=zo X.o;by_cases L:g.ls.length=zaq ((zC g).take g.ms.length)
   case neg=>
    have HN:Hid (¬zbQ (zC g) g.ls):=fun k=>L (k.1.trans HT.o.symm);have ag: ¬(g.ls.length:Int)=((zaq ((zC g).take g.ms.length):Nat):Int):=by omega
    clear L;go_wp2;go_ret;exact⟨zbx HN.o rfl,q.o⟩
   have ag:(g.ls.length:Int)=((zaq ((zC g).take g.ms.length):Nat):Int):=by omega
   have au:=zc (L.trans HT.o);clear L;go_wp2;clear H K J cf ag;have X1:=zc X.o;have aa:=zc q.o;clear X q;go_loopg [32] g.ms.length (fun k ar wr=>∃i:Nat,ar= .int .i64 i/\i+k=g.ms.length/\RqTo g i 0/\Bk wr gx #[.slice O.a g.ps.length O.cap,.slice ma g.ms.length mc,.slice N.a g.ls.length N.cap] 32/\Below w.heap.size w wr)
   case atStart=>exact⟨0,rfl,by omega,(fun f m _ k s _ hf=>by omega),X1.o,aa.o⟩
   case round=>
    obtain⟨i,rfl,hi,ht,A,h⟩:=hrel;have X:=zc A;have q:=zc h;have TO:=zc ht;clear A h ht X1 aa;by_cases ac:i<g.ms.length
    ·have Z:(i:Int)<(g.ms.length:Int):=by omega
     obtain⟨m,hm⟩: ∃m,g.ms[i]? =some m:=⟨_,List.getElem?_eq_getElem ac⟩;obtain⟨S,hS⟩:=zdS HO.o.len hm;obtain⟨b1,o1,e1,V⟩:=(HZ.o.later q.o).get hS;subst e1;have H:=V 0 _ rfl;have K:=V 1 _ rfl;have J:=V 2 _ rfl;have c3:=V 3 _ rfl;have c4:=V 4 _ rfl;simp only[Nat.add_zero] at H;have RS:=zc (RowS.of (HO.o.md _ (List.mem_of_getElem? hS)).rq);have HM:=zc hm;have az:m.rq.length<=1048576:=by
      have:=(HG.o.ms m (List.mem_of_getElem? hm)).1;unfold zbv at this;omega
     obtain⟨U,M⟩: ∃U,U=i+1:=⟨_,rfl⟩;have ei:(i:Int)+1=(U:Int):=by omega
     have Y:=zc M;clear M hm hS V;obtain⟨⟨ra,rc⟩,ao,al,ak,ai,aB⟩:=S;simp only at H K J c3 c4 RS;go_upto_region 12 with fail;obtain⟨gl,I⟩: ∃gl,gl=wr.heap.size:=⟨_,rfl⟩;rw[<-I];refine zx (R:=fun W=>Bk W gl #[.slice ra m.rq.length rc,.slice ao.a m.im.length ao.cap,.slice al.a m.ep.length al.cap,.slice ak.a m.st.length ak.cap,.slice ai.a m.ex.length ai.cap] 54/\Bk W gx #[.slice O.a g.ps.length O.cap,.slice (some ⟨b1,o1,none⟩) g.ms.length mc,.slice N.a g.ls.length N.cap] 32/\Below w.heap.size w W) ⟨by rw[I];exact heap_alloc_new wr _,X.o.later (zaB wr _),zaf q.o (zaB wr _)⟩ ?_;clear I q X H K J c3 c4;rintro w1 ⟨hy,A,h⟩;have aa:=zc h;have X1:=zc A;obtain⟨H,K,J,c3,c4,cf⟩:=zj hy;clear A h hy;go_wp2;clear H K J c3 c4 cf;go_loopg [40] m.rq.length (fun k aq wr=>∃j:Nat,aq= .int .i64 j/\j+k=m.rq.length/\RqTo g i j/\Bk wr gx #[.slice O.a g.ps.length O.cap,.slice (some ⟨b1,o1,none⟩) g.ms.length mc,.slice N.a g.ls.length N.cap] 32/\Below w.heap.size w wr)
     case atStart=>exact⟨0,rfl,by omega,TO.o,X1.o,aa.o⟩
     case round=>
      obtain⟨j,rfl,hj,ht,A,h⟩:=hrel;have X:=zc A;have q:=zc h;have TJ:=zc ht;clear A h ht X1 aa;by_cases ap:j<m.rq.length
      ·have an:(j:Int)<(m.rq.length:Int):=by omega
       obtain⟨s,hs⟩: ∃s,m.rq[j]? =some s:=⟨_,List.getElem?_eq_getElem ap⟩;obtain⟨b2,o2,e2,k2⟩:=(RS.o.later q.o).get hs;subst e2;have z0:=k2 0 _ rfl;simp only[Nat.add_zero,Nat.mul_one] at z0;have HS:=zc hs;obtain⟨H,K,J,cf⟩:=zo X.o;obtain⟨j1,ah⟩: ∃j1,j1=j+1:=⟨_,rfl⟩;have ej:(j:Int)+1=(j1:Int):=by omega
       have am:=zc ah;clear ah hs k2;go_wp2_with fail;refine (zmZ base ⟨O,⟨some ⟨b1,o1,none⟩,mc⟩,sv,N⟩ g i s _ (HO.o.later q.o) aw).mono ?_;rintro e w2 ⟨rfl,h⟩;obtain⟨z,hz⟩: ∃z,z=zbk g.ls ((i:Int),s.toList):=⟨_,rfl⟩;rw[<-hz];have ae:=zc hz;have X2:=zc (X.o.later h);have ad:=zc (zaf q.o h);clear hz h z0 H K J cf X q;obtain⟨H,K,J,cf⟩:=zo X2.o;by_cases h1:z<0
       ·have HN:Hid (¬zbQ (zC g) g.ls):=zna HM.o HS.o fun k=>by rw[<-ae.o] at k;omega
        go_wp2;go_ret;exact⟨zbx HN.o rfl,ad.o⟩
       ·by_cases h2:z<(g.ms.length:Int)
        ·have HK:Hid (RqTo g i j1):=by
          rw[am.o];exact TJ.o.next HM.o HS.o (by rw[<-ae.o];omega)
         go_wp2;go_roundg (gk-1)
         case rel=>exact⟨j1,rfl,by have:=am.o;omega,HK.o,X2.o,ad.o⟩
         case measure=>omega
        ·have HN:Hid (¬zbQ (zC g) g.ls):=zna HM.o HS.o fun k=>by rw[<-ae.o] at k;omega
         go_wp2;go_ret;exact⟨zbx HN.o rfl,ad.o⟩
      ·have an: ¬(j:Int)<(m.rq.length:Int):=by omega
       obtain rfl:j=m.rq.length:=by omega
       have HK:Hid (RqTo g U 0):=by rw[Y.o];exact TJ.o.row HM.o
       go_wp2;go_roundg (g.ms.length-U)
       case rel=>exact⟨U,rfl,by have:=Y.o;omega,HK.o,X.o,q.o⟩
       case measure=>have:=Y.o;omega
    ·have Z: ¬(i:Int)<(g.ms.length:Int):=by omega
     obtain rfl:i=g.ms.length:=by omega
     go_wp2;go_ret;exact⟨zic (zw1 au.o TO.o) rfl,q.o⟩
end Go.Proofs.YtgcbmogmniahjaaGreat
