/- Facts and walks. -/
import Derived.Lib.MinMax
import Derived.Laws.CopyOwn
import Derived.WalkMore
import Derived.Test.YtgcbmogmniahjaaGreatR57
import Derived.Test.YtgcbmogmniahjaaGreatR51
import Derived.Test.YtgcbmogmniahjaaGreatR38
namespace Go.Proofs.YtgcbmogmniahjaaGreat
open Go.Proofs.Tryz
set_option maxRecDepth 1000000
set_option maxHeartbeats 3200000
open Go.RowKit Go.PlainAid
variable (g:Nat) (s:BA) (b:Nat) (w:World)
theorem zwG:Addr.add ⟨g,0,none⟩ b=⟨g,b,none⟩:=by
 unfold Addr.add
 split<;>simp_all
theorem zwH {w:World} {base g m q:Nat} {e:TypeId} {z:List Value} {D:List BA} (J:base<=g) (K:w.heap[g]? =some (.cells z.toArray e (0,0))) (A:z.length=q) (H:m<=q) (E:q<=1000000) (h:z.take m=D.map Value.string) (I:m=D.length):zbo w base e g m q D:=
 ⟨⟨by rw[List.length_map];omega,.inr ⟨g,q,z.toArray,rfl,J,K,H,by unfold maxLen;omega,by simp[A],by simpa using h⟩⟩,I⟩
theorem znk (W n ad:Nat) (xs:List BA) (w:World) (D:zbo w g 9 W n ad xs) (hB:g<=w.heap.size) (hn:n<=1000):
  Calls prog 134 #[.slice (some ⟨W,0,none⟩) n ad] w fun e w'=>∃g' A,e= .returned (.slice (some ⟨g',0,none⟩) (n-1:Nat) A)/\zbo w' g 9 g' (n-1) A xs.dropLast/\Bw w w':=by
 obtain⟨i0,hi,ai,ae,ak⟩:=info_parts Tryz.infoStr;have U:=zgI D;obtain⟨m,hm⟩: ∃m,m=n-1:=⟨_,rfl⟩;have ar:max ((n:Int)-1) 0=(m:Int):=by rw[Int.max_def];split<;>omega
 have HM:Hid (m=n-1):=hm;have am:m<=n:=by omega
 obtain⟨H,N⟩: ∃H:List Value,H=xs.dropLast.map Value.string:=⟨_,rfl⟩;have M:Hid (H=xs.dropLast.map Value.string):=N;have ah:H.length=m:=by rw[N,List.length_map,List.length_dropLast];omega
 have K:Hid (H.length=m):=ah;have I: ∀j v,H[j]? =some v->w.cell? ⟨W,j,none⟩=some v:=by
  intro j v Y;have aq:j<H.length:=by
   rcases Nat.lt_or_ge j H.length with k|k
   ·exact k
   ·rw[List.getElem?_eq_none k] at Y;cases Y
  rw[zih D j (by omega)];rw[N,List.getElem?_map] at Y;have e:xs.dropLast[j]? =xs[j]?:=by rw[List.getElem?_dropLast,if_pos (by omega)]
  rw[e,List.getElem?_eq_getElem (show j<xs.length by omega)] at Y;simp only[Option.map_some,Option.some.injEq] at Y;rw[<-Y];simp[List.getD,List.getElem?_eq_getElem (show j<xs.length by omega)]
 have Z:Hid (∀j v,H[j]? =some v->w.cell? ⟨W,j,none⟩=some v):=I;have ac:W<w.heap.size:=by
  rcases D.1.2 with ⟨L,_⟩|⟨g',A,q,L,_,hg,_⟩
  ·simp at L
  ·simp only[Value.slice.injEq,Option.some.injEq,Addr.mk.injEq,and_true,true_and] at L;obtain⟨rfl,rfl⟩:=L;exact (aLt hg)
 have X:(prog.info? 9).map (·.size)=some 1:=by rw[hi];simp[ae]
 have an:Hid ((prog.info? 9).map (·.size)=some 1):=X;have ap:Hid (n=xs.length):=U;clear I N hm X ah U;go_enter func134,ntmps134;go_wp2_with (first|(at_make;refine wpList_make_full w rfl _ _ 22 rfl w.heap.size 9 i0 _ 1 underlying22 hi ai ae .i64 .i64 _ _ m (by rfl) (by rfl) rfl rfl (by rw[ak];omega) (by unfold maxLen;omega) (Nat.le_refl _) ?_));intro w1 J O;obtain⟨q,V,E⟩: ∃q:List Value,w1.heap[w.heap.size]? =some (.cells q.toArray 9 (0,0))/\q.length=m:=by
  rcases J.2 with ⟨L,_⟩|⟨g',A,q,L,_,hg,_,_,al,_⟩
  ·simp at L
  ·simp only[Value.slice.injEq,Option.some.injEq,Addr.mk.injEq,and_true,true_and] at L;obtain⟨rfl,rfl⟩:=L;exact⟨q.toList,by simpa using hg,by simpa using al⟩
 have ag:Bw w w1:=(Below.refl _ _).grown O (Nat.le_refl _) (fun k h=>by cases h);have aa:Hid (w1.heap[w.heap.size]? =some (.cells q.toArray 9 (0,0))):=V;have z:Hid (q.length=m):=E;have ab:Hid (∀j v,H[j]? =some v->w1.cell? (Addr.add ⟨W,0,none⟩ j)=some v):=fun j v Y=>by
  rw[zwG,ag.cell ac];exact Z.o j v Y
 clear J O V E;go_wp2_with (first|(refine wpList_copy_splice rfl _ _ 22 22 rfl 9 underlying22 an.o _ _ _ _ _ _ (by rfl) (by rfl) w.heap.size 0 q 9 aa.o H (by rw[K.o];exact (Nat.min_eq_right am).symm) (fun _=>⟨rfl,_,rfl,ab.o⟩) (by rw[K.o,z.o];omega) (fun v hv=>by rw[M.o] at hv;obtain⟨x,_,rfl⟩:=List.mem_map.1 hv;rfl) w.heap.size w ag (Nat.le_refl _) ?_));intro w2 aj ao;have af:zbo w2 g 9 w.heap.size m m xs.dropLast:=by
  refine zwH hB aj.o ?_ (Nat.le_refl _) (by omega) ?_ ?_
  ·rw[length_splice _ _ _ (by rw[K.o,z.o];omega),z.o]
  ·rw[splice,M.o];have:=K.o;rw[M.o] at this;simp[<-this]
  ·have:=K.o;rw[M.o,List.length_map] at this;exact this.symm
 go_wp2;go_ret;exact⟨w.heap.size,m,by rw[<-HM.o];rfl,by rw[<-HM.o];exact af,ao⟩
theorem zeh (J:b<=s.size) (M:s.size<=40):
  Calls prog 133 #[.string s,.int .i64 b] w fun e E=>e= .returned (.int .i64 (zcO s b))/\E=w:=by
 have q:=znd s b J;have K:zcO s b<=40:=by have:=q.2.1;omega
 have D:=Lib.indexByte_ge (s.extract b s.size).data.toList 47;clear q;obtain⟨o,z⟩: ∃o,Lib.indexByte (s.extract b s.size).data.toList 47=o:=⟨_,rfl⟩;have H:Hid (Lib.indexByte (s.extract b s.size).data.toList 47=o):=z;have h:Lib.indexByte (s.extract b s.size).data.toList (47:Int).toNat.toUInt8=o:=z;rw[z] at D;clear z;by_cases I:0<=o
 ·have A:Hid ((b:Int)+o=(zcO s b:Int)):=zwC I H.o;have L:(b:Int)+o<=40:=by have:=A.o;omega
  go_enter func133,ntmps133;go_wp2_with fail;refine (Tryz.strings_IndexByte _ _ _).mono ?_;rintro e E ⟨rfl,rfl⟩;rw[h];go_wp2;go_ret;exact⟨zbG A.o,rfl⟩
 ·have A:Hid (zcO s b=s.size):=zwD (by rw[H.o];exact I);go_enter func133,ntmps133;go_wp2_with fail;refine (Tryz.strings_IndexByte _ _ _).mono ?_;rintro e E ⟨rfl,rfl⟩;rw[h];go_wp2;go_ret;exact⟨zbG (by rw[A.o]),rfl⟩
theorem zwI (hp:zaW s=true):
  Calls prog 95 #[.string s] w fun e w'=>∃g n A,e= .returned (.slice (some ⟨g,0,none⟩) n A)/\zbo w' w.heap.size 9 g n A (parts s)/\Bw w w':=by
 obtain⟨i0,hi,ag,an,ao⟩:=info_parts Tryz.infoStr;have aI:1<=s.size:=(zdX.1 hp).1;have J:s.size<=40:=(zdX.1 hp).2.1;have E0:Hid (bt s 0=47):=(zdX.1 hp).2.2.1;have H1:Hid (zY s 1=(1,[])):=zwA E0.o;go_enter func95,ntmps95;go_wp2;refine znj 0 (fun a' w'=>∃(h n g A:Nat) (H:List BA) (u5 u6 u7 u8 u9 ae ad aG aC az ay ap ak aq aD af aj ax av aF ah aB ac am ai al aE aA au:Value),a'={tmps:=#[.string s,undef,.slice none 0 0,.slice (some ⟨g,0,none⟩) n A,.int .i64 h,u5,u6,u7,u8,u9,ae,ad,aG,aC,az,ay,ap,ak,aq,aD,af,aj,ax,av,aF,ah,aB,ac,am,ai,al,aE,aA,au],defers:=[]}/\h<=s.size/\zY s h=(h,H)/\zbo w' w.heap.size 9 g n A H/\Bw w w') (fun a' _=>(41-intOf (a'.tmps.getD 4 undef)).toNat) rfl ?_ ?_
 ·rintro a' wr ⟨h,n,g,A,H,u5,u6,u7,u8,u9,ae,ad,aG,aC,az,ay,ap,ak,aq,aD,af,aj,ax,av,aF,ah,aB,ac,am,ai,al,aE,aA,au,rfl,I,Z,q,D⟩;have M:=D.size;have ab:=zhZ s h;rw[Z] at ab;simp only at ab;have aJ:n<=42:=by have:=zgI q;omega
  have aK:=zig q;clear ab;obtain⟨e,he⟩: ∃e,zcO s h=e:=⟨_,rfl⟩;have V:zhv s h e:=by rw[<-he];exact znd s h I
  have aM:h<=e:=V.1;have aL:e<=s.size:=V.2.1;have HT:Hid (zY s (e+1)=(e+1,upd (s.extract h e) H)):=znc Z V;have X:Hid (zcO s h=e):=he;clear V he Z;by_cases p0:(s.extract h e).toList.isEmpty=true
  ·have O:Hid (zY s (e+1)=(e+1,H)):=by have:=HT.o;rw[zgH p0] at this;exact this
   by_cases N:e<s.size
   ·skip
    go_wp2_with fail;refine (zeh _ _ _ I J).mono ?_;rintro ev U ⟨rfl,rfl⟩;rw[X.o];go_wp2;go_step3;refine⟨rfl,⟨e+1,n,g,A,H,_,_,_,_,_,_,_,_,_,_,_,_,_,_,_,_,_,_,_,_,_,_,_,_,_,_,_,_,_,by go_num,by omega,O.o,q,D⟩,by simp[intOf];omega⟩
   ·have Y:Hid (parts s=H):=by show (zY s (s.size+1)).2=_;rw[show s.size=e from by omega,O.o]
    go_wp2_with fail;refine (zeh _ _ _ I J).mono ?_;rintro ev U ⟨rfl,rfl⟩;rw[X.o];go_wp2;simp only[Exit.jump];go_ret;exact⟨g,n,A,rfl,by rw[Y.o];exact q,D⟩
  ·have ar:(s.extract h e).toList.isEmpty=false:=by simpa using p0
   clear p0;by_cases p1:((s.extract h e).toList==[46])=true
   ·have O:Hid (zY s (e+1)=(e+1,H)):=by have:=HT.o;rw[zia p1] at this;exact this
    by_cases N:e<s.size
    ·skip
     go_wp2_with fail;refine (zeh _ _ _ I J).mono ?_;rintro ev U ⟨rfl,rfl⟩;rw[X.o];go_wp2;go_step3;refine⟨rfl,⟨e+1,n,g,A,H,_,_,_,_,_,_,_,_,_,_,_,_,_,_,_,_,_,_,_,_,_,_,_,_,_,_,_,_,_,by go_num,by omega,O.o,q,D⟩,by simp[intOf];omega⟩
    ·have Y:Hid (parts s=H):=by show (zY s (s.size+1)).2=_;rw[show s.size=e from by omega,O.o]
     go_wp2_with fail;refine (zeh _ _ _ I J).mono ?_;rintro ev U ⟨rfl,rfl⟩;rw[X.o];go_wp2;simp only[Exit.jump];go_ret;exact⟨g,n,A,rfl,by rw[Y.o];exact q,D⟩
   ·have aw:((s.extract h e).toList==[46])=false:=by simpa using p1
    clear p1;by_cases p2:((s.extract h e).toList==[46,46])=true
    ·have O:Hid (zY s (e+1)=(e+1,H.dropLast)):=by have:=HT.o;rw[zic ar aw p2] at this;exact this
     by_cases N:e<s.size
     ·skip
      go_wp2_with fail;refine (zeh _ _ _ I J).mono ?_;rintro ev U ⟨rfl,rfl⟩;rw[X.o];go_wp2_with fail;refine (znk w.heap.size g n A H _ q M (by omega)).mono ?_;rintro ev w2 ⟨g2,E,rfl,z,L⟩;go_wp2;go_step3;refine⟨rfl,⟨e+1,(n-1),g2,E,H.dropLast,_,_,_,_,_,_,_,_,_,_,_,_,_,_,_,_,_,_,_,_,_,_,_,_,_,_,_,_,_,by go_num,by omega,O.o,z,(D.trans (L.mono M))⟩,by simp[intOf];omega⟩
     ·have Y:Hid (parts s=H.dropLast):=by show (zY s (s.size+1)).2=_;rw[show s.size=e from by omega,O.o]
      go_wp2_with fail;refine (zeh _ _ _ I J).mono ?_;rintro ev U ⟨rfl,rfl⟩;rw[X.o];go_wp2_with fail;refine (znk w.heap.size g n A H _ q M (by omega)).mono ?_;rintro ev w2 ⟨g2,E,rfl,z,L⟩;go_wp2;simp only[Exit.jump];go_ret;exact⟨g2,(n-1),E,rfl,by rw[Y.o];exact z,(D.trans (L.mono M))⟩
    ·have aH:((s.extract h e).toList==[46,46])=false:=by simpa using p2
     clear p2;have O:Hid (zY s (e+1)=(e+1,H++[s.extract h e])):=by have:=HT.o;rw[zib ar aw aH] at this;exact this
     by_cases N:e<s.size
     ·skip
      go_wp2_with fail;refine (zeh _ _ _ I J).mono ?_;rintro ev U ⟨rfl,rfl⟩;rw[X.o];go_wp2_with (first|(at_builtin;refine zgJ U rfl _ _ 22 rfl w.heap.size 9 i0 _ underlying22 hi ag an ao rfl g n A H (by rfl) q (s.extract h e) (by rfl) (by omega) M ?_));intro g2 E w2 z L;go_wp2;go_step3;refine⟨rfl,⟨e+1,(n+1),g2,E,(H++[s.extract h e]),_,_,_,_,_,_,_,_,_,_,_,_,_,_,_,_,_,_,_,_,_,_,_,_,_,_,_,_,_,by go_num,by omega,O.o,z,(D.trans L)⟩,by simp[intOf];omega⟩
     ·have Y:Hid (parts s=(H++[s.extract h e])):=by show (zY s (s.size+1)).2=_;rw[show s.size=e from by omega,O.o]
      go_wp2_with fail;refine (zeh _ _ _ I J).mono ?_;rintro ev U ⟨rfl,rfl⟩;rw[X.o];go_wp2_with (first|(at_builtin;refine zgJ U rfl _ _ 22 rfl w.heap.size 9 i0 _ underlying22 hi ag an ao rfl g n A H (by rfl) q (s.extract h e) (by rfl) (by omega) M ?_));intro g2 E w2 z L;go_wp2;simp only[Exit.jump];go_ret;exact⟨g2,(n+1),E,rfl,by rw[Y.o];exact z,(D.trans L)⟩
 ·intro aa;go_wp2;go_step3
  rename_i K hK
  refine hK _ _ (aa _ _ ⟨1,0,w.heap.size,0,[],_,_,_,_,_,_,_,_,_,_,_,_,_,_,_,_,_,_,_,_,_,_,_,_,_,_,_,_,_,rfl,aI,H1.o,⟨World.ownsRow_lit w #[] 0 (Nat.le_refl _) (by unfold maxLen;omega) rfl,rfl⟩,bA0⟩)
theorem zwJ (Z:s.size<=9223372036854775807):
  Calls prog 63 #[.string s] w fun e I=>e= .returned (.string (zaL s))/\Bw w I:=by
 by_cases z:zaW s=true
 ·have HP:Hid (zaW s=true):=z;have ac:s.size<=40:=(zdX.1 z).2.1;obtain⟨J,E⟩: ∃J,Lib.join ((parts s).map (·.data.toList)) [47]=J:=⟨_,rfl⟩;have U:Hid (({data:=#[47]}:BA)++⟨J.toArray⟩=zaL s):=by have:=zne z;rw[E] at this;exact this
  have q:J.length<=2000:=by rw[<-E];exact zwF s z
  have X:Hid (Lib.join ((parts s).map (·.data.toList)) [47]=J):=E;have aa:(parts s).length<=41:=by have:=znf s;omega
  have ab:({data:=J.toArray}:BA).size<=2000:=q;clear E;go_enter func63,ntmps63;go_wp2_with fail;refine (zje _ _ Z).mono ?_;rintro e I ⟨rfl,rfl⟩;go_wp2_with fail;refine (zwI _ _ HP.o).mono ?_;rintro e H ⟨g,n,L,rfl,h,A⟩;have M:Hid (n=(parts s).length):=zgI h;go_wp2_with fail;refine (Calls.mono (R:=fun e V=>e= .returned (.string {data:=J.toArray})/\Below H.heap.size H V) ?_ ?_)
  ·have hj:=Tryz.strings_Join g 0 L (parts s) {data:=#[47]} H
    (fun j x O=>by
     have q:j<(parts s).length:=by
      rcases Nat.lt_or_ge j (parts s).length with k|k
      ·exact k
      ·rw[List.getElem?_eq_none k] at O;cases O
     rw[Nat.zero_add,zih h j (by rw[M.o];exact q)]
     simp[List.getD,O])
    (by
     rcases h.1.2 with ⟨D,_⟩|⟨g',Y,ad,D,_,hg,_⟩
     ·simp at D
     ·simp only[Value.slice.injEq,Option.some.injEq,Addr.mk.injEq,and_true,true_and] at D;obtain⟨rfl,rfl⟩:=D
      exact (aLt hg))
    (by omega) (by rw[<-M.o];exact (zig h).1)
    (by show (Lib.join ((parts s).map (·.data.toList)) [47]).length<=_;rw[X.o];omega)
   rw[<-M.o] at hj;refine hj.mono ?_;rintro e V ⟨rfl,hb⟩;exact⟨za4 (by show ByteArray.mk (Lib.join ((parts s).map (·.data.toList)) [47]).toArray=_;rw[X.o]),hb⟩
  ·rintro e V ⟨rfl,N⟩;go_wp2;go_ret;exact⟨za4 U.o,A.trans (N.mono A.size)⟩
 ·have K:zaW s=false:=by simpa using z
  have U:Hid (zaL s={data:=#[]}):=zid K;clear z;go_enter func63,ntmps63;go_wp2_with fail;refine (zje _ _ Z).mono ?_;rintro e I ⟨rfl,rfl⟩;go_wp2;go_ret;exact⟨za4 U.o.symm,Below.refl _ _⟩
end Go.Proofs.YtgcbmogmniahjaaGreat
namespace Go.Proofs.YtgcbmogmniahjaaGreat
open List (length_take getElem?_eq_getElem mem_of_getElem? getElem?_map)
open Go.Proofs.Tryz
set_option maxRecDepth 100000
set_option maxHeartbeats 12800000
open Go.RowKit Go.PlainAid Go.Sort
variable (g:Nat) {w:World} {b:Nat} {W:Rw} {C:List BA} {s:BA} {S:Md} {q:Gr}
theorem OwnR.take {n i:Nat} {e:TypeId} {xs:List Value} (h:OwnR w b e 1 W n xs) (M:i<=n):OwnR w b e 1 W i (xs.take i):=by
 have K:=h.1;refine⟨by rw[length_take];omega,?_⟩;rcases h.2 with ⟨q,N⟩|⟨g,A,z,q,I,E,L,H,J,D⟩
 ·left;simp only[Value.slice.injEq] at q;obtain rfl:i=0:=by omega
  exact⟨by rw[q.1,q.2.2],rfl⟩
 ·right;simp only[Value.slice.injEq] at q;refine⟨g,A,z,by rw[q.1,q.2.2],I,E,by omega,H,J,?_⟩;rw[<-D,List.take_take,Nat.min_eq_left (by omega),Nat.mul_one]
theorem RowS.own {r:Rw} (h:OwnR w b 9 1 r C.length (C.flatMap fun x=>[Value.string x])):OwnR w b 9 1 r C.length (C.map .string):=by rw[zkK];exact h
theorem OwnR.first {i:Nat} (h:OwnR w b 9 1 W C.length (C.flatMap fun x=>[Value.string x])) (q:i<=C.length):OwnR w b 9 1 W (C.take i).length ((C.take i).map .string):=by
 have:=(RowS.own h).take q;rw[<-List.map_take] at this;rw[length_take,Nat.min_eq_left q];exact this
theorem zwK {P:Prop} (q:C.getD b sNone=s) (E: ∀j,j<b->zch C j) (w: ¬zch C b->¬P):
  (zaW s=false/\¬P)∨(zaW s=true/\((((zaL s).toList==s.toList)=false/\¬P)∨(((zaL s).toList==s.toList)=true/\((zaU (C.take b) s=true/\¬P)∨(zaU (C.take b) s=false/\∀j,j<b+1->zch C j))))):=by
 cases A:zaW s with
 |false=>exact .inl ⟨rfl,w fun k=>by rw[zch,q,A] at k;exact absurd k.1 (by decide)⟩
 |true=>
  refine .inr ⟨rfl,?_⟩;cases z:((zaL s).toList==s.toList) with
  |false=>exact .inl ⟨rfl,w fun k=>by rw[zch,q,z] at k;exact absurd k.2.1 (by decide)⟩
  |true=>
   refine .inr ⟨rfl,?_⟩;cases D:zaU (C.take b) s with
   |true=>exact .inl ⟨rfl,w fun k=>by rw[zch,q] at k;exact absurd (D.symm.trans k.2.2) (by decide)⟩
   |false=>
    refine .inr ⟨rfl,fun j H=>?_⟩;by_cases e:j=b
    ·rw[e,zch,q];exact⟨A,z,D⟩
    ·exact E j (by omega)
theorem znl (a:Option Addr) (D:Nat) (q:List BA) (w:World) (h:OwnR w g 9 1 ⟨a,D⟩ q.length (q.flatMap fun x=>[Value.string x])) (hl:q.length<=1000000) (hs: ∀p∈q,p.size<=1048576):
  Calls prog 34 #[.slice a q.length D] w fun e w'=>SameOut (∀i,i<q.length->zch q i) e/\Bw w w':=by
 have HO:=zc h;have HS:=zc hs;have M:=OwnR.cap h;simp only at M;clear h hs;go_enter func34,ntmps34;go_wp2;go_loopg [7] q.length (fun k s7 wr=>∃i:Nat,s7= .int .i64 i/\i+k=q.length/\(∀j,j<i->zch q j)/\Bw w wr)
 case atStart=>exact⟨0,rfl,by omega,(fun j hj=>absurd hj (Nat.not_lt_zero j)),Below.refl _ _⟩
 case round=>
  obtain⟨i,rfl,hi,ht,I⟩:=hrel;have TO:=zc ht;have L:=zc I;clear ht I;by_cases K:i<q.length
  ·have U:(i:Int)<(q.length:Int):=by omega
   have ac:(i:Int)<=(D:Int):=by omega
   obtain⟨p,V⟩: ∃p,q[i]? =some p:=⟨_,getElem?_eq_getElem K⟩;have Y:=zc (HO.o.later L.o);obtain⟨b1,o1,e1,k1⟩:=(RowAt.of (f:=fun x=>[Value.string x]) (m:=1) (fun _=>rfl) Y.o).get V;simp only at e1;subst e1;have c0:=k1 0 _ rfl;simp only[Nat.add_zero,Nat.mul_one] at c0;have ab:=HS.o p (mem_of_getElem? V);have PD:Hid (q.getD i sNone=p):=by show _=_;rw[List.getD,V];rfl
   have N:p.size<=9223372036854775807:=by omega
   have Z:(q.take i).length=i:=by rw[length_take];omega
   clear V k1;obtain⟨X,J⟩: ∃X,X=i+1:=⟨_,rfl⟩;have ei:(i:Int)+1=(X:Int):=by omega
   have O:=zc J;clear J;have z:=zwK PD.o TO.o (P:=∀i,i<q.length->zch q i) (fun k h=>k (h i K));go_wp2_with fail;refine (zje p _ N).mono ?_;rintro e w1 ⟨rfl,rfl⟩;rcases z with ⟨h1,A⟩|⟨h1,z⟩
   ·have H:=zc A;clear A;rw[h1];go_wp2;go_ret;exact⟨zbz H.o rfl,L.o⟩
   rw[h1];go_wp2_with fail;refine (zwJ p _ N).mono ?_;rintro e w2 ⟨rfl,I⟩;have aa:=zc (Y.o.later I);have E:=zc (zZ L.o I);clear I Y L c0;rcases z with ⟨h2,A⟩|⟨h2,z⟩
   ·have H:=zc A;clear A;go_wp2;go_ret;exact⟨zbz H.o rfl,E.o⟩
   have cI:=zg1 g ⟨some ⟨b1,o1,none⟩,D⟩ (q.take i) p w2 (aa.o.first (by omega)) (by omega);rw[Z] at cI;have CI:=zc cI;clear cI;go_wp2_with fail;refine CI.o.mono ?_;rintro e w3 ⟨rfl,rfl⟩;rcases z with ⟨h3,A⟩|⟨h3,A⟩
   ·have H:=zc A;clear A;rw[h3];go_wp2;go_ret;exact⟨zbz H.o rfl,E.o⟩
   ·have H:=zc A;clear A;rw[h3];go_wp2;go_roundg (gk-1)
    case rel=>exact⟨X,rfl,by have:=O.o;omega,by rw[O.o];exact H.o,E.o⟩
    case measure=>omega
  ·have U: ¬(i:Int)<(q.length:Int):=by omega
   obtain rfl:i=q.length:=by omega
   go_wp2;go_ret;exact⟨zil TO.o rfl,L.o⟩
theorem zwL {h:List Md} (z:h[b]? =some S) (D: ∀(j:Nat) (x:Md),j<b->h[j]? =some x->MOk x/\zat x=0):
  (¬MOk S/\¬zda h)∨(MOk S/\((¬zat S=0/\¬zda h)∨(zat S=0/\∀(j:Nat) (x:Md),j<b+1->h[j]? =some x->MOk x/\zat x=0))):=by
 by_cases w:MOk S
 ·refine .inr ⟨w,?_⟩;by_cases q:zat S=0
  ·refine .inr ⟨q,fun j x E A=>?_⟩;by_cases e:j=b
   ·rw[e,z] at A;cases A;exact⟨w,q⟩
   ·exact D j x (by omega) A
  ·exact .inl ⟨q,fun k=>q (k S (mem_of_getElem? z)).2⟩
 ·exact .inl ⟨w,fun k=>w (k S (mem_of_getElem? z)).1⟩
theorem znm (H:zfR 65) (D:zfS 66) (base:Nat) (a:Option Addr) (ab:Nat) (U:List Sv) (q:List Md) (w:World) (hu:U.length=q.length) (h:OwnR w base 54 5 ⟨a,ab⟩ q.length ((U.zip q).flatMap mdL)) (ad: ∀x∈U.zip q,OwnMd w base x.1 x.2) (hg: ∀m∈q,GdM m) (hl:q.length<=1000000):
  Calls prog 35 #[.slice a q.length ab] w fun e w'=>SameOut (zda q) e/\Bw w w':=by
 have HO:=zc (RowAt.of (f:=mdL) (m:=5) (fun _=>rfl) (zfa hu h));have HM:=zc ad;have HG:=zc hg;have HU:=zc hu;have CM:=zc H;have CE:=zc D;clear h ad hg hu H D;go_enter func35,ntmps35;go_wp2;go_loopg [7] q.length (fun k s7 wr=>∃i:Nat,s7= .int .i64 i/\i+k=q.length/\(∀(j:Nat) (x:Md),j<i->q[j]? =some x->MOk x/\zat x=0)/\Bw w wr)
 case atStart=>exact⟨0,rfl,by omega,(fun j x hj=>absurd hj (Nat.not_lt_zero j)),Below.refl _ _⟩
 case round=>
  obtain⟨i,rfl,hi,ht,z⟩:=hrel;have TO:=zc ht;have E:=zc z;clear ht z;by_cases af:i<q.length
  ·have ae:(i:Int)<(q.length:Int):=by omega
   obtain⟨m,O⟩: ∃m,q[i]? =some m:=⟨_,getElem?_eq_getElem af⟩;obtain⟨S,hS⟩:=zec HU.o O;obtain⟨b1,o1,e1,M⟩:=(HO.o.later E.o).get hS;subst e1;have V:=M 0 _ rfl;have c1:=M 1 _ rfl;have c2:=M 2 _ rfl;have c3:=M 3 _ rfl;have c4:=M 4 _ rfl;simp only[Nat.add_zero] at V;have N:=zc ((HM.o _ (mem_of_getElem? hS)).later E.o);have GM:=zc (HG.o m (mem_of_getElem? O));have J:=zwL O TO.o;clear O hS M;obtain⟨i1,Y⟩: ∃i1,i1=i+1:=⟨_,rfl⟩;have ei:(i:Int)+1=(i1:Int):=by omega
   have ac:=zc Y;clear Y;go_upto_region 4 with fail;obtain⟨gl,L⟩: ∃gl,gl=wr.heap.size:=⟨_,rfl⟩;rw[<-L];refine zu (R:=fun W=>Bk W gl (mdL (S,m)).toArray 54/\OwnMd W base S m/\Below w.heap.size w W) ⟨by rw[L];exact heap_alloc_new wr _,N.o.later (zan wr _),zZ E.o (zan wr _)⟩ ?_;clear L E N V c1 c2 c3 c4;rintro w1 ⟨A,ho,z⟩;have X:=zc A;have N:=zc ho;have E:=zc z;clear A ho z;obtain⟨V,c1,c2,c3,c4,cf⟩:=zj X.o;go_wp2_with fail;refine (CM.o base S m _ N.o GM.o).mono ?_;rintro e w2 ⟨I,z⟩;have X2:=zc (X.o.later z);have Z:=zc (N.o.later z);have K:=zc (zZ E.o z);clear z X N E V c1 c2 c3 c4 cf;rcases J with ⟨h1,A⟩|⟨h1,J⟩
   ·have HX:=zc A;clear A;obtain rfl:=I.of (b:=false) (by simp[h1]);go_wp2;go_ret;exact⟨zbz HX.o rfl,K.o⟩
   obtain rfl:=I.of (b:=true) (by simp[h1]);clear I;obtain⟨V,c1,c2,c3,c4,cf⟩:=zj X2.o;go_wp2_with fail;refine (CE.o base S m _ Z.o GM.o h1).mono ?_;rintro e w3 ⟨rfl,z⟩;have aa:=zc (zZ K.o z);clear z Z K X2 V c1 c2 c3 c4 cf h1;rcases J with ⟨h2,A⟩|⟨h2,A⟩
   ·have HX:=zc A;clear A;go_wp2;go_ret;exact⟨zbz HX.o rfl,aa.o⟩
   ·have HX:=zc A;clear A;go_wp2;go_roundg (gk-1)
    case rel=>exact⟨i1,rfl,by have:=ac.o;omega,by rw[ac.o];exact HX.o,aa.o⟩
    case measure=>omega
  ·have ae: ¬(i:Int)<(q.length:Int):=by omega
   obtain rfl:i=q.length:=by omega
   have HY:Hid (zda q):=fun m O=>by
    obtain⟨j,hj⟩:=List.mem_iff_getElem?.1 O;exact TO.o j m (List.getElem?_eq_some_iff.1 hj).1 hj
   go_wp2;go_ret;exact⟨zil HY.o rfl,E.o⟩
theorem zwM (x:Lk) (f:Int) (s:BA):(x.frm=f/\(x.spec.toList==s.toList)=true/\zU x=(f,s.toList))∨(x.frm=f/\(x.spec.toList==s.toList)=false/\zU x≠(f,s.toList))∨(¬x.frm=f/\zU x≠(f,s.toList)):=by
 by_cases h:x.frm=f
 ·cases q:(x.spec.toList==s.toList) with
  |true=>exact .inl ⟨h,rfl,by unfold zU;rw[h,eq_of_beq q]⟩
  |false=>exact .inr (.inl ⟨h,rfl,fun e=>by rw[(Prod.mk.inj e).2] at q;simp at q⟩)
 ·exact .inr (.inr ⟨h,fun e=>h (Prod.mk.inj e).1⟩)
theorem znn (G:GS) (c:Gr) (f:Int) (s:BA) (w:World) (ho:GrOwn w g G c) (hl:c.ls.length<=1048576):
  Calls prog 67 #[grD G c,.int .i64 f,.string s] w fun e w'=>e= .returned (.int .i64 (zbn c.ls (f,s.toList)))/\Bw w w':=by
 have HR:=zc (RowAt.of (f:=lkL) (m:=3) (fun _=>rfl) ho.ls);clear ho;obtain⟨pr,mr,sv,⟨la,lc⟩⟩:=G;unfold grD;simp only at HR ⊢;go_enter func67,ntmps67;go_upto_region 1 with fail;obtain⟨gx,D⟩: ∃gx,gx=w.heap.size:=⟨_,rfl⟩;rw[<-D];refine zu (R:=fun W=>Bk W gx #[.slice pr.a c.ps.length pr.cap,.slice mr.a c.ms.length mr.cap,.slice la c.ls.length lc] 32/\Below w.heap.size w W) ⟨by rw[D];exact heap_alloc_new w _,zan w _⟩ ?_;rintro W0 ⟨h,q⟩;have J:=zc q;obtain⟨O,V,X,cf⟩:=zo h;clear D h q;go_wp2;clear O V X cf;go_loopg [12] c.ls.length (fun k aa wr=>∃i:Nat,aa= .int .i64 i/\i+k=c.ls.length/\(∀(j:Nat) (x:Lk),j<i->c.ls[j]? =some x->zU x≠(f,s.toList))/\Bw w wr)
 case atStart=>exact⟨0,rfl,by omega,(fun j x M=>absurd M (Nat.not_lt_zero j)),J.o⟩
 case round=>
  obtain⟨i,rfl,hi,ht,q⟩:=hrel;have TO:=zc ht;have z:=zc q;clear ht q J;by_cases Z:i<c.ls.length
  ·have N:(i:Int)<(c.ls.length:Int):=by omega
   obtain⟨l,A⟩: ∃l,c.ls[i]? =some l:=⟨_,getElem?_eq_getElem Z⟩;obtain⟨b1,o1,e1,U⟩:=(HR.o.later z.o).get A;subst e1;have O:=U 0 _ rfl;have V:=U 1 _ rfl;have X:=U 2 _ rfl;simp only[Nat.add_zero] at O;have HL:=zc A;clear A U;obtain⟨L,I⟩: ∃L,L=i+1:=⟨_,rfl⟩;have ei:(i:Int)+1=(L:Int):=by omega
   have K:=zc I;clear I;go_upto_region 4 with fail;obtain⟨Y,E⟩: ∃Y,Y=wr.heap.size:=⟨_,rfl⟩;rw[<-E];refine zu (R:=fun W=>Bk W Y #[.int .i64 l.frm,.string l.spec,.int .i64 l.to] 57/\Below w.heap.size w W) ⟨by rw[E];exact heap_alloc_new wr _,zZ z.o (zan wr _)⟩ ?_;clear E z O V X;rintro w1 ⟨h,q⟩;have z:=zc q;obtain⟨O,V,X,cf⟩:=zo h;clear h q;rcases zwM l f s with ⟨h1,h2,H⟩|⟨h1,h2,H⟩|⟨h1,H⟩
   ·have HV:=zc (zpO HL.o H TO.o);clear H;go_wp2;go_ret;exact⟨by rw[HV.o];rfl,z.o⟩
   all_goals (
    have HK:Hid (∀(j:Nat) (x:Lk),j<L->c.ls[j]? =some x->zU x≠(f,s.toList)):=fun j x M h=>by
     by_cases e:j=i
     ·rw[e,HL.o] at h;cases h;exact H
     ·exact TO.o j x (by have:=K.o;omega) h
    clear H;go_wp2;go_roundg (gk-1)
    case rel=>exact⟨L,rfl,by have:=K.o;omega,HK.o,z.o⟩
    case measure=>omega)
  ·have N: ¬(i:Int)<(c.ls.length:Int):=by omega
   obtain rfl:i=c.ls.length:=by omega
   have HV:Hid (zbn c.ls (f,s.toList)= -1):=zpN fun l hl=>by
    obtain⟨j,M⟩:=List.mem_iff_getElem?.1 hl;exact TO.o j l (List.getElem?_eq_some_iff.1 M).1 M
   go_wp2;go_ret;exact⟨by rw[HV.o];rfl,z.o⟩
def RqTo (g:Gr) (i j:Nat):Prop:=∀(f:Nat) (m:Md),g.ms[f]? =some m->∀(k:Nat) (s:BA),m.rq[k]? =some s->f<i∨(f=i/\k<j)->0<=zbn g.ls ((f:Int),s.toList)/\zbn g.ls ((f:Int),s.toList)<(g.ms.length:Int)
theorem RqTo.next {j:Nat} (h:RqTo q b j) (z:q.ms[b]? =some S) (D:S.rq[j]? =some s) (A:0<=zbn q.ls ((b:Int),s.toList)/\zbn q.ls ((b:Int),s.toList)<(q.ms.length:Int)):RqTo q b (j+1):=by
 intro f x w k t c E;by_cases e:f=b/\k=j
 ·obtain⟨rfl,rfl⟩:=e;rw[z] at w;cases w;rw[D] at c;cases c;exact A
 ·exact h f x w k t c (by omega)
theorem RqTo.row (h:RqTo q b S.rq.length) (z:q.ms[b]? =some S):RqTo q (b+1) 0:=by
 intro f x w k t c A;by_cases e:f=b
 ·rw[e,z] at w;cases w;exact h f S (by rw[e];exact z) k t c (.inr ⟨e,(List.getElem?_eq_some_iff.1 c).1⟩)
 ·exact h f x w k t c (.inl (by omega))
theorem zno {j:Nat} (w:q.ms[b]? =some S) (z:S.rq[j]? =some s) (h: ¬(0<=zbn q.ls ((b:Int),s.toList)/\zbn q.ls ((b:Int),s.toList)<(q.ms.length:Int))): ¬zbV (zE q) q.ls:=fun k=>h (by
 have:=k.2 b S.rq (by rw[zE,getElem?_map,w];rfl) s (mem_of_getElem? z);rw[zco] at this
 exact this)
theorem zwN (A:q.ls.length=zas (zE q)) (h:RqTo q q.ms.length 0):zbV (zE q) q.ls:=by
 refine⟨A,fun f E c s D=>?_⟩;rw[zco];rw[zE,getElem?_map] at c;cases w:q.ms[f]? with
 |none=>rw[w] at c;cases c
 |some m=>
  rw[w] at c;cases c;obtain⟨k,z⟩:=List.mem_iff_getElem?.1 D;exact h f m w k s z (.inl (List.getElem?_eq_some_iff.1 w).1)
theorem znp (G:GS) (c:Gr) (w:World) (ho:GrOwn w g G c) (hg:GdG c):
  Calls prog 36 #[grD G c] w fun e w'=>SameOut (zbV (zE c) c.ls) e/\Bw w w':=by
 have HO:=zc ho;have HG:=zc hg;have az:=hg.ml;have av:=hg.ll;clear ho hg;have ae:Hid (∀k,zas ((zE c).take k)<=1048576):=fun k=>Nat.le_trans (zik _ _) HG.o.rq;obtain⟨M,⟨ma,mc⟩,sv,L⟩:=G;have HZ:=zc (RowAt.of (f:=mdL) (m:=5) (fun _=>rfl) (zfa HO.o.len HO.o.ms));unfold grD;simp only at HZ ⊢;go_enter func36,ntmps36;go_upto_region 1 with fail;obtain⟨gx,aa⟩: ∃gx,gx=w.heap.size:=⟨_,rfl⟩;rw[<-aa];refine zu (R:=fun W=>Bk W gx #[.slice M.a c.ps.length M.cap,.slice ma c.ms.length mc,.slice L.a c.ls.length L.cap] 32/\Below w.heap.size w W) ⟨by rw[aa];exact heap_alloc_new w _,zan w _⟩ ?_;clear aa;rintro W0 ⟨A,h⟩;have X0:=zc A;have ai:=zc h;obtain⟨D,I,H,Z⟩:=zo A;clear A h;go_wp2;clear D I H Z;go_loopg [3,14] c.ms.length (fun k s3 au wr=>∃i:Nat,au= .int .i64 i/\s3= .int .i64 (zas ((zE c).take i):Nat)/\i+k=c.ms.length/\Bk wr gx #[.slice M.a c.ps.length M.cap,.slice ma c.ms.length mc,.slice L.a c.ls.length L.cap] 32/\Bw w wr)
 case atStart=>exact⟨0,rfl,rfl,by omega,X0.o,ai.o⟩
 case round=>
  obtain⟨i,rfl,rfl,hi,A,h⟩:=hrel;have X:=zc A;have q:=zc h;clear A h X0 ai;have aw:=ae.o i;by_cases ab:i<c.ms.length
  ·have V:(i:Int)<(c.ms.length:Int):=by omega
   obtain⟨m,hm⟩: ∃m,c.ms[i]? =some m:=⟨_,getElem?_eq_getElem ab⟩;obtain⟨S,hS⟩:=zec HO.o.len hm;obtain⟨b1,o1,e1,O⟩:=(HZ.o.later q.o).get hS;subst e1;have D:=O 0 _ rfl;have I:=O 1 _ rfl;have H:=O 2 _ rfl;have c3:=O 3 _ rfl;have c4:=O 4 _ rfl;simp only[Nat.add_zero] at D;obtain⟨N,K⟩: ∃N,N=i+1:=⟨_,rfl⟩;have ei:(i:Int)+1=(N:Int):=by omega
   have U:=zc K;have ax:(zas ((zE c).take i):Int)+(m.rq.length:Int)=(zas ((zE c).take N):Nat):=by rw[K,zij (rq:=m.rq) (by rw[zE,getElem?_map,hm];rfl)];omega
   have aB:=ae.o N;clear K hm hS O;go_upto_region 5 with fail;obtain⟨gl,E⟩: ∃gl,gl=wr.heap.size:=⟨_,rfl⟩;rw[<-E];refine zu (R:=fun W=>Bk W gl (mdL (S,m)).toArray 54/\Bk W gx #[.slice M.a c.ps.length M.cap,.slice (some ⟨b1,o1,none⟩) c.ms.length mc,.slice L.a c.ls.length L.cap] 32/\Below w.heap.size w W) ⟨by rw[E];exact heap_alloc_new wr _,X.o.later (zan wr _),zZ q.o (zan wr _)⟩ ?_;clear E q X D I H c3 c4;rintro w1 ⟨hy,A,h⟩;have q:=zc h;have X:=zc A;obtain⟨D,I,H,c3,c4,Z⟩:=zj hy;clear A h hy;go_wp2;go_roundg (gk-1)
   case rel=>exact⟨N,rfl,rfl,by have:=U.o;omega,X.o,q.o⟩
   case measure=>omega
  ·have V: ¬(i:Int)<(c.ms.length:Int):=by omega
   obtain rfl:i=c.ms.length:=by omega
   have HT:Hid (zas ((zE c).take c.ms.length)=zas (zE c)):=by show _=_;rw[List.take_of_length_le (by rw[zco];exact Nat.le_refl _)]
   obtain⟨D,I,H,Z⟩:=zo X.o;by_cases J:c.ls.length=zas ((zE c).take c.ms.length)
   case neg=>
    have HN:Hid (¬zbV (zE c) c.ls):=fun k=>J (k.1.trans HT.o.symm);have af: ¬(c.ls.length:Int)=((zas ((zE c).take c.ms.length):Nat):Int):=by omega
    clear J;go_wp2;go_ret;exact⟨zbz HN.o rfl,q.o⟩
   have af:(c.ls.length:Int)=((zas ((zE c).take c.ms.length):Nat):Int):=by omega
   have ar:=zc (J.trans HT.o);clear J;go_wp2;clear D I H Z af;have X1:=zc X.o;have Y:=zc q.o;clear X q;go_loopg [32] c.ms.length (fun k aq wr=>∃i:Nat,aq= .int .i64 i/\i+k=c.ms.length/\RqTo c i 0/\Bk wr gx #[.slice M.a c.ps.length M.cap,.slice ma c.ms.length mc,.slice L.a c.ls.length L.cap] 32/\Bw w wr)
   case atStart=>exact⟨0,rfl,by omega,(fun f m _ k s _ hf=>by omega),X1.o,Y.o⟩
   case round=>
    obtain⟨i,rfl,hi,ht,A,h⟩:=hrel;have X:=zc A;have q:=zc h;have TO:=zc ht;clear A h ht X1 Y;by_cases ab:i<c.ms.length
    ·have V:(i:Int)<(c.ms.length:Int):=by omega
     obtain⟨m,hm⟩: ∃m,c.ms[i]? =some m:=⟨_,getElem?_eq_getElem ab⟩;obtain⟨S,hS⟩:=zec HO.o.len hm;obtain⟨b1,o1,e1,O⟩:=(HZ.o.later q.o).get hS;subst e1;have D:=O 0 _ rfl;have I:=O 1 _ rfl;have H:=O 2 _ rfl;have c3:=O 3 _ rfl;have c4:=O 4 _ rfl;simp only[Nat.add_zero] at D;have RS:=zc (RowS.of (HO.o.md _ (mem_of_getElem? hS)).rq);have HM:=zc hm;have ay:m.rq.length<=1048576:=by
      have:=(HG.o.ms m (mem_of_getElem? hm)).1;unfold zbi at this;omega
     obtain⟨N,K⟩: ∃N,N=i+1:=⟨_,rfl⟩;have ei:(i:Int)+1=(N:Int):=by omega
     have U:=zc K;clear K hm hS O;obtain⟨⟨ra,rc⟩,an,ak,aj,ah,aA⟩:=S;simp only at D I H c3 c4 RS;go_upto_region 12 with fail;obtain⟨gl,E⟩: ∃gl,gl=wr.heap.size:=⟨_,rfl⟩;rw[<-E];refine zu (R:=fun W=>Bk W gl #[.slice ra m.rq.length rc,.slice an.a m.im.length an.cap,.slice ak.a m.ep.length ak.cap,.slice aj.a m.st.length aj.cap,.slice ah.a m.ex.length ah.cap] 54/\Bk W gx #[.slice M.a c.ps.length M.cap,.slice (some ⟨b1,o1,none⟩) c.ms.length mc,.slice L.a c.ls.length L.cap] 32/\Below w.heap.size w W) ⟨by rw[E];exact heap_alloc_new wr _,X.o.later (zan wr _),zZ q.o (zan wr _)⟩ ?_;clear E q X D I H c3 c4;rintro w1 ⟨hy,A,h⟩;have Y:=zc h;have X1:=zc A;obtain⟨D,I,H,c3,c4,Z⟩:=zj hy;clear A h hy;go_wp2;clear D I H c3 c4 Z;go_loopg [40] m.rq.length (fun k ap wr=>∃j:Nat,ap= .int .i64 j/\j+k=m.rq.length/\RqTo c i j/\Bk wr gx #[.slice M.a c.ps.length M.cap,.slice (some ⟨b1,o1,none⟩) c.ms.length mc,.slice L.a c.ls.length L.cap] 32/\Bw w wr)
     case atStart=>exact⟨0,rfl,by omega,TO.o,X1.o,Y.o⟩
     case round=>
      obtain⟨j,rfl,hj,ht,A,h⟩:=hrel;have X:=zc A;have q:=zc h;have TJ:=zc ht;clear A h ht X1 Y;by_cases ao:j<m.rq.length
      ·have am:(j:Int)<(m.rq.length:Int):=by omega
       obtain⟨s,hs⟩: ∃s,m.rq[j]? =some s:=⟨_,getElem?_eq_getElem ao⟩;obtain⟨b2,o2,e2,k2⟩:=(RS.o.later q.o).get hs;subst e2;have z0:=k2 0 _ rfl;simp only[Nat.add_zero,Nat.mul_one] at z0;have HS:=zc hs;obtain⟨D,I,H,Z⟩:=zo X.o;obtain⟨j1,ag⟩: ∃j1,j1=j+1:=⟨_,rfl⟩;have ej:(j:Int)+1=(j1:Int):=by omega
       have al:=zc ag;clear ag hs k2;go_wp2_with fail;refine (znn g ⟨M,⟨some ⟨b1,o1,none⟩,mc⟩,sv,L⟩ c i s _ (HO.o.later q.o) av).mono ?_;rintro e w2 ⟨rfl,h⟩;obtain⟨z,hz⟩: ∃z,z=zbn c.ls ((i:Int),s.toList):=⟨_,rfl⟩;rw[<-hz];have ad:=zc hz;have X2:=zc (X.o.later h);have ac:=zc (zZ q.o h);clear hz h z0 D I H Z X q;obtain⟨D,I,H,Z⟩:=zo X2.o;by_cases h1:z<0
       ·have HN:Hid (¬zbV (zE c) c.ls):=zno HM.o HS.o fun k=>by rw[<-ad.o] at k;omega
        go_wp2;go_ret;exact⟨zbz HN.o rfl,ac.o⟩
       ·by_cases h2:z<(c.ms.length:Int)
        ·have HK:Hid (RqTo c i j1):=by
          rw[al.o];exact TJ.o.next HM.o HS.o (by rw[<-ad.o];omega)
         go_wp2;go_roundg (gk-1)
         case rel=>exact⟨j1,rfl,by have:=al.o;omega,HK.o,X2.o,ac.o⟩
         case measure=>omega
        ·have HN:Hid (¬zbV (zE c) c.ls):=zno HM.o HS.o fun k=>by rw[<-ad.o] at k;omega
         go_wp2;go_ret;exact⟨zbz HN.o rfl,ac.o⟩
      ·have am: ¬(j:Int)<(m.rq.length:Int):=by omega
       obtain rfl:j=m.rq.length:=by omega
       have HK:Hid (RqTo c N 0):=by rw[U.o];exact TJ.o.row HM.o
       go_wp2;go_roundg (c.ms.length-N)
       case rel=>exact⟨N,rfl,by have:=U.o;omega,HK.o,X.o,q.o⟩
       case measure=>have:=U.o;omega
    ·have V: ¬(i:Int)<(c.ms.length:Int):=by omega
     obtain rfl:i=c.ms.length:=by omega
     go_wp2;go_ret;exact⟨zil (zwN ar.o TO.o) rfl,q.o⟩
end Go.Proofs.YtgcbmogmniahjaaGreat
