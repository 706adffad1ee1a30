/- Facts. -/
import Derived.Lib.MinMax
import Derived.Laws.CopyOwn
import Derived.WalkMore
import Derived.Test.YtegdaafmaookjaaGreatP76
import Derived.Test.YtegdaafmaookjaaGreatP34
import Derived.Test.YtegdaafmaookjaaGreatP55
namespace Go.Proofs.YtegdaafmaookjaaGreat
open Go.Proofs.Tryz
set_option maxRecDepth 1000000
set_option maxHeartbeats 3200000
open Go.RowKit Go.PlainAid
variable (g:Nat) (s:BA0) (b:Nat) (w:World)
theorem zyq:Addr.add ⟨g,0,none⟩ b=⟨g,b,none⟩:=by
 unfold Addr.add
 split<;>simp_all
theorem zyr {w:World} {base g m q:Nat} {e:TypeId} {A:List Value} {I:List BA0} (M:base<=g) (N:w.heap[g]? =some (.cells A.toArray e (0,0))) (H:A.length=q) (K:m<=q) (J:q<=1000000) (h:A.take m=I.map Value.string) (L:m=I.length):zbw w base e g m q I:=
 ⟨⟨by rw[List.length_map];omega,.inr ⟨g,q,A.toArray,rfl,M,N,K,by unfold maxLen;omega,by simp[H],by simpa using h⟩⟩,L⟩
theorem zok (W n af:Nat) (xs:List BA0) (w:World) (I:zbw w g 9 W n af xs) (hB:g<=w.heap.size) (hn:n<=1000):
  Calls prog 144 #[.slice (some ⟨W,0,none⟩) n af] w fun e w'=>∃g' H,e= .returned (.slice (some ⟨g',0,none⟩) (n-1:Nat) H)/\zbw w' g 9 g' (n-1) H xs.dropLast/\Bw w w':=by
 obtain⟨i0,hi,ak,ag,am⟩:=info_parts Tryz.infoStr;have Y:=zhw I;obtain⟨m,hm⟩: ∃m,m=n-1:=⟨_,rfl⟩;have av:max ((n:Int)-1) 0=(m:Int):=by rw[Int.max_def];split<;>omega
 have HM:Hid (m=n-1):=hm;have ao:m<=n:=by omega
 obtain⟨K,V⟩: ∃K:List Value,K=xs.dropLast.map Value.string:=⟨_,rfl⟩;have U:Hid (K=xs.dropLast.map Value.string):=V;have aj:K.length=m:=by rw[V,List.length_map,List.length_dropLast];omega
 have N:Hid (K.length=m):=aj;have L: ∀j v,K[j]? =some v->w.cell? ⟨W,j,none⟩=some v:=by
  intro j v hj;have au:j<K.length:=by
   rcases Nat.lt_or_ge j K.length with k|k
   ·exact k
   ·rw[List.getElem?_eq_none k] at hj;cases hj
  rw[ziY I j (by omega)];rw[V,List.getElem?_map] at hj;have e:xs.dropLast[j]? =xs[j]?:=by rw[List.getElem?_dropLast,if_pos (by omega)]
  rw[e,gE (show j<xs.length by omega)] at hj;simp only[Option.map_some,sI0] at hj;rw[<-hj];simp[List.getD,gE (show j<xs.length by omega)]
 have ab:Hid (∀j v,K[j]? =some v->w.cell? ⟨W,j,none⟩=some v):=L;have ae:W<w.heap.size:=by
  rcases I.1.2 with ⟨O,_⟩|⟨g',H,q,O,_,hg,_⟩
  ·simp at O
  ·simp only[vI,sI0,Addr.mk.injEq,and_true,true_and] at O;obtain⟨rfl,rfl⟩:=O;exact (aLt hg)
 have aa:(prog.info? 9).map (·.size)=some 1:=by rw[hi];simp[ag]
 have ap:Hid ((prog.info? 9).map (·.size)=some 1):=aa;have ar:Hid (n=xs.length):=Y;clear L V hm aa aj Y;go_enter func144,ntmps144;go_wp2_with (first|(at_make;refine wpList_make_full w rfl _ _ 22 rfl w.heap.size 9 i0 _ 1 underlying22 hi ak ag .i64 .i64 _ _ m (by rfl) (by rfl) rfl rfl (by rw[am];omega) (by unfold maxLen;omega) (Nat.le_refl _) ?_));intro w1 M X;obtain⟨q,Z,J⟩: ∃q:List Value,w1.heap[w.heap.size]? =some (.cells q.toArray 9 (0,0))/\q.length=m:=by
  rcases M.2 with ⟨O,_⟩|⟨g',H,q,O,_,hg,_,_,an,_⟩
  ·simp at O
  ·simp only[vI,sI0,Addr.mk.injEq,and_true,true_and] at O;obtain⟨rfl,rfl⟩:=O;exact⟨q.toList,by simpa using hg,by simpa using an⟩
 have ai:Bw w w1:=(Below.refl _ _).grown X (Nat.le_refl _) (fun k h=>by cases h);have ac:Hid (w1.heap[w.heap.size]? =some (.cells q.toArray 9 (0,0))):=Z;have A:Hid (q.length=m):=J;have ad:Hid (∀j v,K[j]? =some v->w1.cell? (Addr.add ⟨W,0,none⟩ j)=some v):=fun j v hj=>by
  rw[zyq,ai.cell ae];exact ab.o j v hj
 clear M X Z J;go_wp2_with (first|(refine wpList_copy_splice rfl _ _ 22 22 rfl 9 underlying22 ap.o _ _ _ _ _ _ (by rfl) (by rfl) w.heap.size 0 q 9 ac.o K (by rw[N.o];exact (Nat.min_eq_right ao).symm) (fun _=>⟨rfl,_,rfl,ad.o⟩) (by rw[N.o,A.o];omega) (fun v hv=>by rw[U.o] at hv;obtain⟨x,_,rfl⟩:=List.mem_map.1 hv;rfl) w.heap.size w ai (Nat.le_refl _) ?_));intro w2 al aq;have ah:zbw w2 g 9 w.heap.size m m xs.dropLast:=by
  refine zyr hB al.o ?_ (Nat.le_refl _) (by omega) ?_ ?_
  ·rw[length_splice _ _ _ (by rw[N.o,A.o];omega),A.o]
  ·rw[splice,U.o];have:=N.o;rw[U.o] at this;simp[<-this]
  ·have:=N.o;rw[U.o,List.length_map] at this;exact this.symm
 go_wp2;go_ret;exact⟨w.heap.size,m,by rw[<-HM.o];rfl,by rw[<-HM.o];exact ah,aq⟩
theorem ze3 (L:b<=s.size) (O:s.size<=40):
  Calls prog 143 #[.string s,.int .i64 b] w fun e w'=>e= .returned (.int .i64 (zdb s b))/\w'=w:=by
 have q:=zod s b L;have M:zdb s b<=40:=by have:=q.2.1;omega
 have I:=Lib.indexByte_ge (s.extract b s.size).data.toList 47;clear q;obtain⟨o,A⟩: ∃o,Lib.indexByte (s.extract b s.size).data.toList 47=o:=⟨_,rfl⟩;have J:Hid (Lib.indexByte (s.extract b s.size).data.toList 47=o):=A;have h:Lib.indexByte (s.extract b s.size).data.toList (47:Int).toNat.toUInt8=o:=A;rw[A] at I;clear A;by_cases K:0<=o
 ·have H:Hid ((b:Int)+o=(zdb s b:Int)):=zym K J.o;have N:(b:Int)+o<=40:=by have:=H.o;omega
  go_enter func143,ntmps143;go_wp2_with fail;refine (Tryz.strings_IndexByte _ _ _).mono ?_;rintro e w' ⟨rfl,rfl⟩;rw[h];go_wp2;go_ret;exact⟨zbP H.o,rfl⟩
 ·have H:Hid (zdb s b=s.size):=zyn (by rw[J.o];exact K);go_enter func143,ntmps143;go_wp2_with fail;refine (Tryz.strings_IndexByte _ _ _).mono ?_;rintro e w' ⟨rfl,rfl⟩;rw[h];go_wp2;go_ret;exact⟨zbP (by rw[H.o]),rfl⟩
theorem zys (hp:zbe s=true):
  Calls prog 109 #[.string s] w fun e w'=>∃g n H,e= .returned (.slice (some ⟨g,0,none⟩) n H)/\zbw w' w.heap.size 9 g n H (parts s)/\Bw w w':=by
 obtain⟨i0,hi,ah,ao,ap⟩:=info_parts Tryz.infoStr;have aJ:1<=s.size:=(zet.1 hp).1;have N:s.size<=40:=(zet.1 hp).2.1;have E0:Hid (bt s 0=47):=(zet.1 hp).2.2.1;have H1:Hid (zad s 1=(1,[])):=zyk E0.o;go_enter func109,ntmps109;go_wp2;refine zoj 0 (fun a' w'=>∃(h n g H:Nat) (L:List BA0) (u5 u6 u7 u8 u9 af ae aH aD aA az aq al ar aE ag ak ay aw aG ai aC ad an aj am aF aB av:Value),a'={tmps:=#[.string s,undef,.slice none 0 0,.slice (some ⟨g,0,none⟩) n H,.int .i64 h,u5,u6,u7,u8,u9,af,ae,aH,aD,aA,az,aq,al,ar,aE,ag,ak,ay,aw,aG,ai,aC,ad,an,aj,am,aF,aB,av],defers:=[]}/\h<=s.size/\zad s h=(h,L)/\zbw w' w.heap.size 9 g n H L/\Bw w w') (fun a' _=>(41-intOf (a'.tmps.getD 4 undef)).toNat) rfl ?_ ?_
 ·rintro a' wr ⟨h,n,g,H,L,u5,u6,u7,u8,u9,af,ae,aH,aD,aA,az,aq,al,ar,aE,ag,ak,ay,aw,aG,ai,aC,ad,an,aj,am,aF,aB,av,rfl,M,aa,q,I⟩;have U:=I.size;have ac:=ziQ s h;rw[aa] at ac;simp only at ac;have aK:n<=42:=by have:=zhw q;omega
  have aL:=ziX q;clear ac;obtain⟨e,he⟩: ∃e,zdb s h=e:=⟨_,rfl⟩;have Z:zhY s h e:=by rw[<-he];exact zod s h M
  have aN:h<=e:=Z.1;have aM:e<=s.size:=Z.2.1;have HT:Hid (zad s (e+1)=(e+1,upd (s.extract h e) L)):=zoc aa Z;have HE:Hid (zdb s h=e):=he;clear Z he aa;by_cases p0:(s.extract h e).toList.isEmpty=true
  ·have X:Hid (zad s (e+1)=(e+1,L)):=by have:=HT.o;rw[zhv p0] at this;exact this
   by_cases V:e<s.size
   ·skip
    go_wp2_with fail;refine (ze3 _ _ _ M N).mono ?_;rintro ev Y ⟨rfl,rfl⟩;rw[HE.o];go_wp2;go_step3;refine⟨rfl,⟨e+1,n,g,H,L,_,_,_,_,_,_,_,_,_,_,_,_,_,_,_,_,_,_,_,_,_,_,_,_,_,_,_,_,_,by go_num,by omega,X.o,q,I⟩,by simp[intOf];omega⟩
   ·have HF:Hid (parts s=L):=by show (zad s (s.size+1)).2=_;rw[show s.size=e from by omega,X.o]
    go_wp2_with fail;refine (ze3 _ _ _ M N).mono ?_;rintro ev Y ⟨rfl,rfl⟩;rw[HE.o];go_wp2;simp only[Exit.jump];go_ret;exact⟨g,n,H,rfl,by rw[HF.o];exact q,I⟩
  ·have au:(s.extract h e).toList.isEmpty=false:=by simpa using p0
   clear p0;by_cases p1:((s.extract h e).toList==[46])=true
   ·have X:Hid (zad s (e+1)=(e+1,L)):=by have:=HT.o;rw[ziR p1] at this;exact this
    by_cases V:e<s.size
    ·skip
     go_wp2_with fail;refine (ze3 _ _ _ M N).mono ?_;rintro ev Y ⟨rfl,rfl⟩;rw[HE.o];go_wp2;go_step3;refine⟨rfl,⟨e+1,n,g,H,L,_,_,_,_,_,_,_,_,_,_,_,_,_,_,_,_,_,_,_,_,_,_,_,_,_,_,_,_,_,by go_num,by omega,X.o,q,I⟩,by simp[intOf];omega⟩
    ·have HF:Hid (parts s=L):=by show (zad s (s.size+1)).2=_;rw[show s.size=e from by omega,X.o]
     go_wp2_with fail;refine (ze3 _ _ _ M N).mono ?_;rintro ev Y ⟨rfl,rfl⟩;rw[HE.o];go_wp2;simp only[Exit.jump];go_ret;exact⟨g,n,H,rfl,by rw[HF.o];exact q,I⟩
   ·have ax:((s.extract h e).toList==[46])=false:=by simpa using p1
    clear p1;by_cases p2:((s.extract h e).toList==[46,46])=true
    ·have X:Hid (zad s (e+1)=(e+1,L.dropLast)):=by have:=HT.o;rw[ziT au ax p2] at this;exact this
     by_cases V:e<s.size
     ·skip
      go_wp2_with fail;refine (ze3 _ _ _ M N).mono ?_;rintro ev Y ⟨rfl,rfl⟩;rw[HE.o];go_wp2_with fail;refine (zok w.heap.size g n H L _ q U (by omega)).mono ?_;rintro ev w2 ⟨g2,J,rfl,A,O⟩;go_wp2;go_step3;refine⟨rfl,⟨e+1,(n-1),g2,J,L.dropLast,_,_,_,_,_,_,_,_,_,_,_,_,_,_,_,_,_,_,_,_,_,_,_,_,_,_,_,_,_,by go_num,by omega,X.o,A,(I.trans (O.mono U))⟩,by simp[intOf];omega⟩
     ·have HF:Hid (parts s=L.dropLast):=by show (zad s (s.size+1)).2=_;rw[show s.size=e from by omega,X.o]
      go_wp2_with fail;refine (ze3 _ _ _ M N).mono ?_;rintro ev Y ⟨rfl,rfl⟩;rw[HE.o];go_wp2_with fail;refine (zok w.heap.size g n H L _ q U (by omega)).mono ?_;rintro ev w2 ⟨g2,J,rfl,A,O⟩;go_wp2;simp only[Exit.jump];go_ret;exact⟨g2,(n-1),J,rfl,by rw[HF.o];exact A,(I.trans (O.mono U))⟩
    ·have aI:((s.extract h e).toList==[46,46])=false:=by simpa using p2
     clear p2;have X:Hid (zad s (e+1)=(e+1,L++[s.extract h e])):=by have:=HT.o;rw[ziS au ax aI] at this;exact this
     by_cases V:e<s.size
     ·skip
      go_wp2_with fail;refine (ze3 _ _ _ M N).mono ?_;rintro ev Y ⟨rfl,rfl⟩;rw[HE.o];go_wp2_with (first|(at_builtin;refine zhx Y rfl _ _ 22 rfl w.heap.size 9 i0 _ underlying22 hi ah ao ap rfl g n H L (by rfl) q (s.extract h e) (by rfl) (by omega) U ?_));intro g2 J w2 A O;go_wp2;go_step3;refine⟨rfl,⟨e+1,(n+1),g2,J,(L++[s.extract h e]),_,_,_,_,_,_,_,_,_,_,_,_,_,_,_,_,_,_,_,_,_,_,_,_,_,_,_,_,_,by go_num,by omega,X.o,A,(I.trans O)⟩,by simp[intOf];omega⟩
     ·have HF:Hid (parts s=(L++[s.extract h e])):=by show (zad s (s.size+1)).2=_;rw[show s.size=e from by omega,X.o]
      go_wp2_with fail;refine (ze3 _ _ _ M N).mono ?_;rintro ev Y ⟨rfl,rfl⟩;rw[HE.o];go_wp2_with (first|(at_builtin;refine zhx Y rfl _ _ 22 rfl w.heap.size 9 i0 _ underlying22 hi ah ao ap rfl g n H L (by rfl) q (s.extract h e) (by rfl) (by omega) U ?_));intro g2 J w2 A O;go_wp2;simp only[Exit.jump];go_ret;exact⟨g2,(n+1),J,rfl,by rw[HF.o];exact A,(I.trans O)⟩
 ·intro ab;go_wp2;go_step3
  rename_i K hK
  refine hK _ _ (ab _ _ ⟨1,0,w.heap.size,0,[],_,_,_,_,_,_,_,_,_,_,_,_,_,_,_,_,_,_,_,_,_,_,_,_,_,_,_,_,_,rfl,aJ,H1.o,⟨World.ownsRow_lit w #[] 0 (Nat.le_refl _) (by unfold maxLen;omega) rfl,rfl⟩,bA0⟩)
theorem zyt (hs:s.size<=9223372036854775807):
  Calls prog 77 #[.string s] w fun e w'=>e= .returned (.string (zaR s))/\Bw w w':=by
 by_cases A:zbe s=true
 ·have HP:Hid (zbe s=true):=A;have ad:s.size<=40:=(zet.1 A).2.1;obtain⟨J,K⟩: ∃J,Lib.join ((parts s).map (·.data.toList)) [47]=J:=⟨_,rfl⟩;have X:Hid (({data:=#[47]}:BA0)++⟨J.toArray⟩=zaR s):=by have:=zoe A;rw[K] at this;exact this
  have q:J.length<=2000:=by rw[<-K];exact zyp s A
  have Z:Hid (Lib.join ((parts s).map (·.data.toList)) [47]=J):=K;have ab:(parts s).length<=41:=by have:=zof s;omega
  have ac:({data:=J.toArray}:BA0).size<=2000:=q;clear K;go_enter func77,ntmps77;go_wp2_with fail;refine (zjR _ _ hs).mono ?_;rintro e w' ⟨rfl,rfl⟩;go_wp2_with fail;refine (zys _ _ HP.o).mono ?_;rintro e L ⟨g,n,N,rfl,h,H⟩;have O:Hid (n=(parts s).length):=zhw h;go_wp2_with fail;refine (Calls.mono (R:=fun e Y=>e= .returned (.string {data:=J.toArray})/\Below L.heap.size L Y) ?_ ?_)
  ·have hj:=Tryz.strings_Join g 0 N (parts s) {data:=#[47]} L
    (fun j x V=>by
     have q:j<(parts s).length:=by
      rcases Nat.lt_or_ge j (parts s).length with k|k
      ·exact k
      ·rw[List.getElem?_eq_none k] at V;cases V
     rw[Nat.zero_add,ziY h j (by rw[O.o];exact q)]
     simp[List.getD,V])
    (by
     rcases h.1.2 with ⟨I,_⟩|⟨g',aa,ae,I,_,hg,_⟩
     ·simp at I
     ·simp only[vI,sI0,Addr.mk.injEq,and_true,true_and] at I;obtain⟨rfl,rfl⟩:=I
      exact (aLt hg))
    (by omega) (by rw[<-O.o];exact (ziX h).1)
    (by show (Lib.join ((parts s).map (·.data.toList)) [47]).length<=_;rw[Z.o];omega)
   rw[<-O.o] at hj;refine hj.mono ?_;rintro e Y ⟨rfl,hb⟩;exact⟨za9 (by show ByteArray.mk (Lib.join ((parts s).map (·.data.toList)) [47]).toArray=_;rw[Z.o]),hb⟩
  ·rintro e Y ⟨rfl,U⟩;go_wp2;go_ret;exact⟨za9 X.o,H.trans (U.mono H.size)⟩
 ·have M:zbe s=false:=by simpa using A
  have X:Hid (zaR s={data:=#[]}):=ziU M;clear A;go_enter func77,ntmps77;go_wp2_with fail;refine (zjR _ _ hs).mono ?_;rintro e w' ⟨rfl,rfl⟩;go_wp2;go_ret;exact⟨za9 X.o.symm,Below.refl _ _⟩
set_option maxRecDepth 100000
set_option maxHeartbeats 12800000
open Go.Sort
variable (g:Nat) {w:World} {b:Nat} {W:Rw} {C:List BA0} {s:BA0} {S:Md} {q:Gr}
theorem OwnR.take {n i:Nat} {e:TypeId} {xs:List Value} (h:OwnR w b e 1 W n xs) (U:i<=n):OwnR w b e 1 W i (xs.take i):=by
 have N:=h.1;refine⟨by rw[List.length_take];omega,?_⟩;rcases h.2 with ⟨q,V⟩|⟨g,H,A,q,L,J,O,K,M,I⟩
 ·left;simp only[vI] at q;obtain rfl:i=0:=by omega
  exact⟨by rw[q.1,q.2.2],rfl⟩
 ·right;simp only[vI] at q;refine⟨g,H,A,by rw[q.1,q.2.2],L,J,by omega,K,M,?_⟩;rw[<-I,List.take_take,Nat.min_eq_left (by omega),Nat.mul_one]
theorem RowS.own {r:Rw} (h:OwnR w b 9 1 r C.length (C.flatMap fun x=>[Value.string x])):OwnR w b 9 1 r C.length (C.map .string):=by rw[zlH];exact h
theorem OwnR.first {i:Nat} (h:OwnR w b 9 1 W C.length (C.flatMap fun x=>[Value.string x])) (q:i<=C.length):OwnR w b 9 1 W (C.take i).length ((C.take i).map .string):=by
 have:=(RowS.own h).take q;rw[<-List.map_take] at this;rw[List.length_take,Nat.min_eq_left q];exact this
theorem zyu {P:Prop} (q:C.getD b sNone=s) (J: ∀j,j<b->zcp C j) (w: ¬zcp C b->¬P):
  (zbe s=false/\¬P)∨(zbe s=true/\((((zaR s).toList==s.toList)=false/\¬P)∨(((zaR s).toList==s.toList)=true/\((zbb (C.take b) s=true/\¬P)∨(zbb (C.take b) s=false/\∀j,j<b+1->zcp C j))))):=by
 cases H:zbe s with
 |false=>exact .inl ⟨rfl,w fun k=>by rw[zcp,q,H] at k;exact absurd k.1 (by decide)⟩
 |true=>
  refine .inr ⟨rfl,?_⟩;cases A:((zaR s).toList==s.toList) with
  |false=>exact .inl ⟨rfl,w fun k=>by rw[zcp,q,A] at k;exact absurd k.2.1 (by decide)⟩
  |true=>
   refine .inr ⟨rfl,?_⟩;cases I:zbb (C.take b) s with
   |true=>exact .inl ⟨rfl,w fun k=>by rw[zcp,q] at k;exact absurd (I.symm.trans k.2.2) (by decide)⟩
   |false=>
    refine .inr ⟨rfl,fun j K=>?_⟩;by_cases e:j=b
    ·rw[e,zcp,q];exact⟨H,A,I⟩
    ·exact J j (by omega)
theorem zol (a:Option Addr) (I:Nat) (q:List BA0) (w:World) (h:OwnR w g 9 1 ⟨a,I⟩ q.length (q.flatMap fun x=>[Value.string x])) (hl:q.length<=1000000) (hs: ∀p∈q,p.size<=1048576):
  Calls prog 46 #[.slice a q.length I] w fun e w'=>SameOut (∀i,i<q.length->zcp q i) e/\Bw w w':=by
 have HO:=zc h;have HS:=zc hs;have U:=OwnR.cap h;simp only at U;clear h hs;go_enter func46,ntmps46;go_wp2;go_loopg [7] q.length (fun k s7 wr=>∃i:Nat,s7= .int .i64 i/\i+k=q.length/\(∀j,j<i->zcp q j)/\Bw w wr)
 case atStart=>exact⟨0,rfl,by omega,(fun j hj=>absurd hj (Nat.not_lt_zero j)),Below.refl _ _⟩
 case round=>
  obtain⟨i,rfl,hi,ht,L⟩:=hrel;have TO:=zc ht;have O:=zc L;clear ht L;by_cases N:i<q.length
  ·have Y:(i:Int)<(q.length:Int):=by omega
   have ad:(i:Int)<=(I:Int):=by omega
   obtain⟨p,Z⟩: ∃p,q[i]? =some p:=⟨_,gE N⟩;have OW:=zc (HO.o.later O.o);obtain⟨b1,o1,e1,k1⟩:=(RowAt.of (f:=fun x=>[Value.string x]) (m:=1) (fun _=>rfl) OW.o).get Z;simp only at e1;subst e1;have c0:=k1 0 _ rfl;simp only[Nat.add_zero,Nat.mul_one] at c0;have ac:=HS.o p (mG Z);have PD:Hid (q.getD i sNone=p):=by show _=_;rw[List.getD,Z];rfl
   have V:p.size<=9223372036854775807:=by omega
   have aa:(q.take i).length=i:=by rw[List.length_take];omega
   clear Z k1;obtain⟨i1,M⟩: ∃i1,i1=i+1:=⟨_,rfl⟩;have ei:(i:Int)+1=(i1:Int):=by omega
   have X:=zc M;clear M;have A:=zyu PD.o TO.o (P:=∀i,i<q.length->zcp q i) (fun k h=>k (h i N));go_wp2_with fail;refine (zjR p _ V).mono ?_;rintro e w1 ⟨rfl,rfl⟩;rcases A with ⟨h1,H⟩|⟨h1,A⟩
   ·have K:=zc H;clear H;rw[h1];go_wp2;go_ret;exact⟨zb8 K.o rfl,O.o⟩
   rw[h1];go_wp2_with fail;refine (zyt p _ V).mono ?_;rintro e w2 ⟨rfl,L⟩;have ab:=zc (OW.o.later L);have J:=zc (zi O.o L);clear L OW O c0;rcases A with ⟨h2,H⟩|⟨h2,A⟩
   ·have K:=zc H;clear H;go_wp2;go_ret;exact⟨zb8 K.o rfl,J.o⟩
   have cI:=zhg g ⟨some ⟨b1,o1,none⟩,I⟩ (q.take i) p w2 (ab.o.first (by omega)) (by omega);rw[aa] at cI;have CI:=zc cI;clear cI;go_wp2_with fail;refine CI.o.mono ?_;rintro e w3 ⟨rfl,rfl⟩;rcases A with ⟨h3,H⟩|⟨h3,H⟩
   ·have K:=zc H;clear H;rw[h3];go_wp2;go_ret;exact⟨zb8 K.o rfl,J.o⟩
   ·have K:=zc H;clear H;rw[h3];go_wp2;go_roundg (gk-1)
    case rel=>exact⟨i1,rfl,by have:=X.o;omega,by rw[X.o];exact K.o,J.o⟩
    case measure=>omega
  ·have Y: ¬(i:Int)<(q.length:Int):=by omega
   obtain rfl:i=q.length:=by omega
   go_wp2;go_ret;exact⟨zja TO.o rfl,O.o⟩
theorem zyv {h:List Md} (A:h[b]? =some S) (H: ∀(j:Nat) (x:Md),j<b->h[j]? =some x->MOk x/\zax x=0):
  (¬(MOk S/\zax S=0)/\¬zdH h)∨((MOk S/\zax S=0)/\∀(j:Nat) (x:Md),j<b+1->h[j]? =some x->MOk x/\zax x=0):=by
 by_cases q:MOk S/\zax S=0
 ·refine .inr ⟨q,fun j x I w=>?_⟩;by_cases e:j=b
  ·rw[e,A] at w;cases w;exact q
  ·exact H j x (by omega) w
 ·exact .inl ⟨q,fun k=>q (k S (mG A))⟩
theorem zyw (I:zf3 111) (H:zf4 112) (base:Nat) (S:Sv) (m:Md) (w:World) (h:OwnMd w base S m) (hg:GdM m):
  Calls prog 79 #[zo S m,.bool false] w fun e w'=>SameOut (MOk m/\zax m=0) e/\Bw w w':=by
 have HO:=zc h;have GM:=zc hg;have CM:=zc I;have CE:=zc H;clear h hg I H;unfold zo;go_enter func79,ntmps79;go_upto_region 1 with fail;obtain⟨N,K⟩: ∃N,N=w.heap.size:=⟨_,rfl⟩;rw[<-K];refine zp (R:=fun W=>Bk W N (mdL (S,m)).toArray 59/\OwnMd W base S m/\Below w.heap.size w W) ⟨by rw[K];exact hN0 w _,HO.o.later (zn w _),zn w _⟩ ?_;clear K HO;rintro w1 ⟨hx,ho,q⟩;have X:=zc hx;have V:=zc ho;have HB:=zc q;clear hx ho q;obtain⟨c0,Y,Z,c3,c4,cf⟩:=zl X.o;go_wp2_with fail;refine (CM.o base S m _ V.o GM.o).mono ?_;rintro e w2 ⟨A,q⟩;have X2:=zc (X.o.later q);have M:=zc (V.o.later q);have L:=zc (zi HB.o q);clear q X V HB c0 Y Z c3 c4 cf;by_cases J:MOk m
 ·obtain rfl:=A.of (b:=true) (by simp[J]);clear A;have O:=zc J;obtain⟨c0,Y,Z,c3,c4,cf⟩:=zl X2.o;go_wp2_with fail;refine (CE.o base S m _ M.o GM.o J).mono ?_;rintro e w3 ⟨rfl,q⟩;have U:=zc (zi L.o q);clear q M L X2 c0 Y Z c3 c4 cf J;go_wp2;go_ret;exact⟨⟨_,rfl,by simp[O.o]⟩,U.o⟩
 ·have O:=zc J;obtain rfl:=A.of (b:=false) (by simp[J]);clear A J;go_wp2;go_ret;exact⟨zb8 (fun k=>O.o k.1) rfl,L.o⟩
theorem zom (K:zf3 111) (I:zf4 112) (base:Nat) (a:Option Addr) (aa:Nat) (U:List Sv) (q:List Md) (w:World) (hu:U.length=q.length) (h:OwnR w base 59 5 ⟨a,aa⟩ q.length ((U.zip q).flatMap mdL)) (ad: ∀x∈U.zip q,OwnMd w base x.1 x.2) (hg: ∀m∈q,GdM m) (hl:q.length<=1000000):
  Calls prog 47 #[.slice a q.length aa] w fun e w'=>SameOut (zdH q) e/\Bw w w':=by
 have HO:=zc (RowAt.of (f:=mdL) (m:=5) (fun _=>rfl) (zey hu h));have HM:=zc ad;have HG:=zc hg;have HU:=zc hu;have CM:=zc K;have CE:=zc I;clear h ad hg hu K I;go_enter func47,ntmps47;go_wp2;go_loopg [7] q.length (fun k s7 wr=>∃i:Nat,s7= .int .i64 i/\i+k=q.length/\(∀(j:Nat) (x:Md),j<i->q[j]? =some x->MOk x/\zax x=0)/\Bw w wr)
 case atStart=>exact⟨0,rfl,by omega,(fun j x hj=>absurd hj (Nat.not_lt_zero j)),Below.refl _ _⟩
 case round=>
  obtain⟨i,rfl,hi,ht,H⟩:=hrel;have TO:=zc ht;have J:=zc H;clear ht H;by_cases af:i<q.length
  ·have ae:(i:Int)<(q.length:Int):=by omega
   obtain⟨m,O⟩: ∃m,q[i]? =some m:=⟨_,gE af⟩;obtain⟨S,hS⟩:=zec HU.o O;obtain⟨b1,o1,e1,N⟩:=(HO.o.later J.o).get hS;subst e1;have c0:=N 0 _ rfl;have c1:=N 1 _ rfl;have c2:=N 2 _ rfl;have c3:=N 3 _ rfl;have c4:=N 4 _ rfl;simp only[Nat.add_zero] at c0;have Y:=zc ((HM.o _ (mG hS)).later J.o);have GM:=zc (HG.o m (mG O));have ag:=zyv O TO.o;clear O hS N;obtain⟨i1,V⟩: ∃i1,i1=i+1:=⟨_,rfl⟩;have ei:(i:Int)+1=(i1:Int):=by omega
   have ac:=zc V;clear V;go_upto_region 4 with fail;obtain⟨gl,M⟩: ∃gl,gl=wr.heap.size:=⟨_,rfl⟩;rw[<-M];refine zp (R:=fun W=>Bk W gl (mdL (S,m)).toArray 59/\OwnMd W base S m/\Below w.heap.size w W) ⟨by rw[M];exact hN0 wr _,Y.o.later (zn wr _),zi J.o (zn wr _)⟩ ?_;clear M J Y c0 c1 c2 c3 c4;rintro w1 ⟨L,ho,H⟩;have X:=zc L;have Y:=zc ho;have J:=zc H;clear L ho H;obtain⟨c0,c1,c2,c3,c4,cf⟩:=zl X.o;go_wp2_with fail;refine (zyw CM.o CE.o base S m _ Y.o GM.o).mono ?_;rintro e w2 ⟨A,H⟩;have ab:=zc (zi J.o H);clear H X Y J c0 c1 c2 c3 c4 cf;rcases ag with ⟨Z,L⟩|⟨Z,L⟩
   ·have HX:=zc L;clear L;obtain rfl:=A.of (b:=false) (by simp[Z]);clear A Z;go_wp2;go_ret;exact⟨zb8 HX.o rfl,ab.o⟩
   ·have HX:=zc L;clear L;obtain rfl:=A.of (b:=true) (by simp[Z]);clear A Z;go_wp2;go_roundg (gk-1)
    case rel=>exact⟨i1,rfl,by have:=ac.o;omega,by rw[ac.o];exact HX.o,ab.o⟩
    case measure=>omega
  ·have ae: ¬(i:Int)<(q.length:Int):=by omega
   obtain rfl:i=q.length:=by omega
   have HY:Hid (zdH q):=fun m O=>by
    obtain⟨j,hj⟩:=List.mem_iff_getElem?.1 O;exact TO.o j m (gS hj).1 hj
   go_wp2;go_ret;exact⟨zja HY.o rfl,J.o⟩
theorem zon (x:Lk) (f:Int) (s:BA0):(x.frm=f/\(x.spec.toList==s.toList)=true/\zW x=(f,s.toList))∨(x.frm=f/\(x.spec.toList==s.toList)=false/\zW x≠(f,s.toList))∨(¬x.frm=f/\zW x≠(f,s.toList)):=by
 by_cases h:x.frm=f
 ·cases q:(x.spec.toList==s.toList) with
  |true=>exact .inl ⟨h,rfl,by unfold zW;rw[h,eq_of_beq q]⟩
  |false=>exact .inr (.inl ⟨h,rfl,fun e=>by rw[(Prod.mk.inj e).2] at q;simp at q⟩)
 ·exact .inr (.inr ⟨h,fun e=>h (Prod.mk.inj e).1⟩)
theorem zoo (G:GS) (z:Gr) (f:Int) (s:BA0) (w:World) (ho:GrOwn w g G z) (hl:z.ls.length<=1048576):
  Calls prog 80 #[grD G z,.int .i64 f,.string s] w fun e w'=>e= .returned (.int .i64 (zbd z.ls (f,s.toList)))/\Bw w w':=by
 have HR:=zc (RowAt.of (f:=lkL) (m:=3) (fun _=>rfl) ho.ls);clear ho;obtain⟨pr,mr,sv,⟨la,lc⟩⟩:=G;unfold grD;simp only at HR ⊢;go_enter func80,ntmps80;go_upto_region 1 with fail;obtain⟨gx,I⟩: ∃gx,gx=w.heap.size:=⟨_,rfl⟩;rw[<-I];refine zp (R:=fun W=>Bk W gx #[.slice pr.a z.ps.length pr.cap,.slice mr.a z.ms.length mr.cap,.slice la z.ls.length lc] 32/\Below w.heap.size w W) ⟨by rw[I];exact hN0 w _,zn w _⟩ ?_;rintro W0 ⟨h,q⟩;have M:=zc q;obtain⟨X,Z,c2,cf⟩:=zg h;clear I h q;go_wp2;clear X Z c2 cf;go_loopg [12] z.ls.length (fun k ab wr=>∃i:Nat,ab= .int .i64 i/\i+k=z.ls.length/\(∀(j:Nat) (x:Lk),j<i->z.ls[j]? =some x->zW x≠(f,s.toList))/\Bw w wr)
 case atStart=>exact⟨0,rfl,by omega,(fun j x U=>absurd U (Nat.not_lt_zero j)),M.o⟩
 case round=>
  obtain⟨i,rfl,hi,ht,q⟩:=hrel;have TO:=zc ht;have A:=zc q;clear ht q M;by_cases aa:i<z.ls.length
  ·have V:(i:Int)<(z.ls.length:Int):=by omega
   obtain⟨l,H⟩: ∃l,z.ls[i]? =some l:=⟨_,gE aa⟩;obtain⟨b1,o1,e1,Y⟩:=(HR.o.later A.o).get H;subst e1;have X:=Y 0 _ rfl;have Z:=Y 1 _ rfl;have c2:=Y 2 _ rfl;simp only[Nat.add_zero] at X;have HL:=zc H;clear H Y;obtain⟨O,L⟩: ∃O,O=i+1:=⟨_,rfl⟩;have ei:(i:Int)+1=(O:Int):=by omega
   have N:=zc L;clear L;go_upto_region 4 with fail;obtain⟨gl,J⟩: ∃gl,gl=wr.heap.size:=⟨_,rfl⟩;rw[<-J];refine zp (R:=fun W=>Bk W gl #[.int .i64 l.frm,.string l.spec,.int .i64 l.to] 62/\Below w.heap.size w W) ⟨by rw[J];exact hN0 wr _,zi A.o (zn wr _)⟩ ?_;clear J A X Z c2;rintro w1 ⟨h,q⟩;have A:=zc q;obtain⟨X,Z,c2,cf⟩:=zg h;clear h q;rcases zon l f s with ⟨h1,h2,K⟩|⟨h1,h2,K⟩|⟨h1,K⟩
   ·have HV:=zc (zlq HL.o K TO.o);clear K;go_wp2;go_ret;exact⟨by rw[HV.o];rfl,A.o⟩
   all_goals (
    have HK:Hid (∀(j:Nat) (x:Lk),j<O->z.ls[j]? =some x->zW x≠(f,s.toList)):=fun j x U h=>by
     by_cases e:j=i
     ·rw[e,HL.o] at h;cases h;exact K
     ·exact TO.o j x (by have:=N.o;omega) h
    clear K;go_wp2;go_roundg (gk-1)
    case rel=>exact⟨O,rfl,by have:=N.o;omega,HK.o,A.o⟩
    case measure=>omega)
  ·have V: ¬(i:Int)<(z.ls.length:Int):=by omega
   obtain rfl:i=z.ls.length:=by omega
   have HV:Hid (zbd z.ls (f,s.toList)= -1):=zlp fun l hl=>by
    obtain⟨j,U⟩:=List.mem_iff_getElem?.1 hl;exact TO.o j l (gS U).1 U
   go_wp2;go_ret;exact⟨by rw[HV.o];rfl,A.o⟩
def RqTo (g:Gr) (i j:Nat):Prop:=∀(f:Nat) (m:Md),g.ms[f]? =some m->∀(k:Nat) (s:BA0),m.rq[k]? =some s->f<i∨(f=i/\k<j)->0<=zbd g.ls ((f:Int),s.toList)/\zbd g.ls ((f:Int),s.toList)<(g.ms.length:Int)
theorem RqTo.next {j:Nat} (h:RqTo q b j) (A:q.ms[b]? =some S) (I:S.rq[j]? =some s) (H:0<=zbd q.ls ((b:Int),s.toList)/\zbd q.ls ((b:Int),s.toList)<(q.ms.length:Int)):RqTo q b (j+1):=by
 intro f x w k t z J;by_cases e:f=b/\k=j
 ·obtain⟨rfl,rfl⟩:=e;rw[A] at w;cases w;rw[I] at z;cases z;exact H
 ·exact h f x w k t z (by omega)
theorem RqTo.row (h:RqTo q b S.rq.length) (A:q.ms[b]? =some S):RqTo q (b+1) 0:=by
 intro f x w k t z H;by_cases e:f=b
 ·rw[e,A] at w;cases w;exact h f S (by rw[e];exact A) k t z (.inr ⟨e,(gS z).1⟩)
 ·exact h f x w k t z (.inl (by omega))
theorem zop {j:Nat} (w:q.ms[b]? =some S) (z:S.rq[j]? =some s) (h: ¬(0<=zbd q.ls ((b:Int),s.toList)/\zbd q.ls ((b:Int),s.toList)<(q.ms.length:Int))): ¬zbM (zw q) q.ls:=fun k=>h (by
 have:=k.2 b S.rq (by rw[zw,List.getElem?_map,w];rfl) s (mG z);rw[zcf] at this
 exact this)
theorem zyx (H:q.ls.length=zar (zw q)) (h:RqTo q q.ms.length 0):zbM (zw q) q.ls:=by
 refine⟨H,fun f J z s I=>?_⟩;rw[zcf];rw[zw,List.getElem?_map] at z;cases w:q.ms[f]? with
 |none=>rw[w] at z;cases z
 |some m=>
  rw[w] at z;cases z;obtain⟨k,A⟩:=List.mem_iff_getElem?.1 I;exact h f m w k s A (.inl (gS w).1)
theorem zoq (G:GS) (c:Gr) (w:World) (ho:GrOwn w g G c) (hg:GdG c):
  Calls prog 48 #[grD G c] w fun e w'=>SameOut (zbM (zw c) c.ls) e/\Bw w w':=by
 have HO:=zc ho;have HG:=zc hg;have aA:=hg.ml;have aw:=hg.ll;clear ho hg;have af:Hid (∀k,zar ((zw c).take k)<=1048576):=fun k=>Nat.le_trans (zh3 _ _) HG.o.rq;obtain⟨O,⟨ma,mc⟩,sv,N⟩:=G;have HZ:=zc (RowAt.of (f:=mdL) (m:=5) (fun _=>rfl) (zey HO.o.len HO.o.ms));unfold grD;simp only at HZ ⊢;go_enter func48,ntmps48;go_upto_region 1 with fail;obtain⟨gx,ab⟩: ∃gx,gx=w.heap.size:=⟨_,rfl⟩;rw[<-ab];refine zp (R:=fun W=>Bk W gx #[.slice O.a c.ps.length O.cap,.slice ma c.ms.length mc,.slice N.a c.ls.length N.cap] 32/\Below w.heap.size w W) ⟨by rw[ab];exact hN0 w _,zn w _⟩ ?_;clear ab;rintro W0 ⟨A,h⟩;have X0:=zc A;have aj:=zc h;obtain⟨H,K,J,cf⟩:=zg A;clear A h;go_wp2;clear H K J cf;go_loopg [3,14] c.ms.length (fun k s3 av wr=>∃i:Nat,av= .int .i64 i/\s3= .int .i64 (zar ((zw c).take i):Nat)/\i+k=c.ms.length/\Bk wr gx #[.slice O.a c.ps.length O.cap,.slice ma c.ms.length mc,.slice N.a c.ls.length N.cap] 32/\Bw w wr)
 case atStart=>exact⟨0,rfl,rfl,by omega,X0.o,aj.o⟩
 case round=>
  obtain⟨i,rfl,rfl,hi,A,h⟩:=hrel;have X:=zc A;have q:=zc h;clear A h X0 aj;have ax:=af.o i;by_cases ac:i<c.ms.length
  ·have Z:(i:Int)<(c.ms.length:Int):=by omega
   obtain⟨m,hm⟩: ∃m,c.ms[i]? =some m:=⟨_,gE ac⟩;obtain⟨S,hS⟩:=zec HO.o.len hm;obtain⟨b1,o1,e1,V⟩:=(HZ.o.later q.o).get hS;subst e1;have H:=V 0 _ rfl;have K:=V 1 _ rfl;have J:=V 2 _ rfl;have c3:=V 3 _ rfl;have c4:=V 4 _ rfl;simp only[Nat.add_zero] at H;obtain⟨U,M⟩: ∃U,U=i+1:=⟨_,rfl⟩;have ei:(i:Int)+1=(U:Int):=by omega
   have Y:=zc M;have ay:(zar ((zw c).take i):Int)+(m.rq.length:Int)=(zar ((zw c).take U):Nat):=by rw[M,zh2 (rq:=m.rq) (by rw[zw,List.getElem?_map,hm];rfl)];omega
   have aC:=af.o U;clear M hm hS V;go_upto_region 5 with fail;obtain⟨gl,I⟩: ∃gl,gl=wr.heap.size:=⟨_,rfl⟩;rw[<-I];refine zp (R:=fun W=>Bk W gl (mdL (S,m)).toArray 59/\Bk W gx #[.slice O.a c.ps.length O.cap,.slice (some ⟨b1,o1,none⟩) c.ms.length mc,.slice N.a c.ls.length N.cap] 32/\Below w.heap.size w W) ⟨by rw[I];exact hN0 wr _,X.o.later (zn wr _),zi q.o (zn wr _)⟩ ?_;clear I q X H K J c3 c4;rintro w1 ⟨hy,A,h⟩;have q:=zc h;have X:=zc A;obtain⟨H,K,J,c3,c4,cf⟩:=zl hy;clear A h hy;go_wp2;go_roundg (gk-1)
   case rel=>exact⟨U,rfl,rfl,by have:=Y.o;omega,X.o,q.o⟩
   case measure=>omega
  ·have Z: ¬(i:Int)<(c.ms.length:Int):=by omega
   obtain rfl:i=c.ms.length:=by omega
   have HT:Hid (zar ((zw c).take c.ms.length)=zar (zw c)):=by show _=_;rw[List.take_of_length_le (by rw[zcf];exact Nat.le_refl _)]
   obtain⟨H,K,J,cf⟩:=zg X.o;by_cases L:c.ls.length=zar ((zw c).take c.ms.length)
   case neg=>
    have HN:Hid (¬zbM (zw c) c.ls):=fun k=>L (k.1.trans HT.o.symm);have ag: ¬(c.ls.length:Int)=((zar ((zw c).take c.ms.length):Nat):Int):=by omega
    clear L;go_wp2;go_ret;exact⟨zb8 HN.o rfl,q.o⟩
   have ag:(c.ls.length:Int)=((zar ((zw c).take c.ms.length):Nat):Int):=by omega
   have au:=zc (L.trans HT.o);clear L;go_wp2;clear H K J cf ag;have X1:=zc X.o;have aa:=zc q.o;clear X q;go_loopg [32] c.ms.length (fun k ar wr=>∃i:Nat,ar= .int .i64 i/\i+k=c.ms.length/\RqTo c i 0/\Bk wr gx #[.slice O.a c.ps.length O.cap,.slice ma c.ms.length mc,.slice N.a c.ls.length N.cap] 32/\Bw w wr)
   case atStart=>exact⟨0,rfl,by omega,(fun f m _ k s _ hf=>by omega),X1.o,aa.o⟩
   case round=>
    obtain⟨i,rfl,hi,ht,A,h⟩:=hrel;have X:=zc A;have q:=zc h;have TO:=zc ht;clear A h ht X1 aa;by_cases ac:i<c.ms.length
    ·have Z:(i:Int)<(c.ms.length:Int):=by omega
     obtain⟨m,hm⟩: ∃m,c.ms[i]? =some m:=⟨_,gE ac⟩;obtain⟨S,hS⟩:=zec HO.o.len hm;obtain⟨b1,o1,e1,V⟩:=(HZ.o.later q.o).get hS;subst e1;have H:=V 0 _ rfl;have K:=V 1 _ rfl;have J:=V 2 _ rfl;have c3:=V 3 _ rfl;have c4:=V 4 _ rfl;simp only[Nat.add_zero] at H;have RS:=zc (RowS.of (HO.o.md _ (mG hS)).rq);have HM:=zc hm;have az:m.rq.length<=1048576:=by
      have:=(HG.o.ms m (mG hm)).1;unfold zaU at this;omega
     obtain⟨U,M⟩: ∃U,U=i+1:=⟨_,rfl⟩;have ei:(i:Int)+1=(U:Int):=by omega
     have Y:=zc M;clear M hm hS V;obtain⟨⟨ra,rc⟩,ao,al,ak,ai,aB⟩:=S;simp only at H K J c3 c4 RS;go_upto_region 12 with fail;obtain⟨gl,I⟩: ∃gl,gl=wr.heap.size:=⟨_,rfl⟩;rw[<-I];refine zp (R:=fun W=>Bk W gl #[.slice ra m.rq.length rc,.slice ao.a m.im.length ao.cap,.slice al.a m.ep.length al.cap,.slice ak.a m.st.length ak.cap,.slice ai.a m.ex.length ai.cap] 59/\Bk W gx #[.slice O.a c.ps.length O.cap,.slice (some ⟨b1,o1,none⟩) c.ms.length mc,.slice N.a c.ls.length N.cap] 32/\Below w.heap.size w W) ⟨by rw[I];exact hN0 wr _,X.o.later (zn wr _),zi q.o (zn wr _)⟩ ?_;clear I q X H K J c3 c4;rintro w1 ⟨hy,A,h⟩;have aa:=zc h;have X1:=zc A;obtain⟨H,K,J,c3,c4,cf⟩:=zl hy;clear A h hy;go_wp2;clear H K J c3 c4 cf;go_loopg [40] m.rq.length (fun k aq wr=>∃j:Nat,aq= .int .i64 j/\j+k=m.rq.length/\RqTo c i j/\Bk wr gx #[.slice O.a c.ps.length O.cap,.slice (some ⟨b1,o1,none⟩) c.ms.length mc,.slice N.a c.ls.length N.cap] 32/\Bw w wr)
     case atStart=>exact⟨0,rfl,by omega,TO.o,X1.o,aa.o⟩
     case round=>
      obtain⟨j,rfl,hj,ht,A,h⟩:=hrel;have X:=zc A;have q:=zc h;have TJ:=zc ht;clear A h ht X1 aa;by_cases ap:j<m.rq.length
      ·have an:(j:Int)<(m.rq.length:Int):=by omega
       obtain⟨s,hs⟩: ∃s,m.rq[j]? =some s:=⟨_,gE ap⟩;obtain⟨b2,o2,e2,k2⟩:=(RS.o.later q.o).get hs;subst e2;have z0:=k2 0 _ rfl;simp only[Nat.add_zero,Nat.mul_one] at z0;have HS:=zc hs;obtain⟨H,K,J,cf⟩:=zg X.o;obtain⟨j1,ah⟩: ∃j1,j1=j+1:=⟨_,rfl⟩;have ej:(j:Int)+1=(j1:Int):=by omega
       have am:=zc ah;clear ah hs k2;go_wp2_with fail;refine (zoo g ⟨O,⟨some ⟨b1,o1,none⟩,mc⟩,sv,N⟩ c i s _ (HO.o.later q.o) aw).mono ?_;rintro e w2 ⟨rfl,h⟩;obtain⟨z,hz⟩: ∃z,z=zbd c.ls ((i:Int),s.toList):=⟨_,rfl⟩;rw[<-hz];have ae:=zc hz;have X2:=zc (X.o.later h);have ad:=zc (zi q.o h);clear hz h z0 H K J cf X q;obtain⟨H,K,J,cf⟩:=zg X2.o;by_cases h1:z<0
       ·have HN:Hid (¬zbM (zw c) c.ls):=zop HM.o HS.o fun k=>by rw[<-ae.o] at k;omega
        go_wp2;go_ret;exact⟨zb8 HN.o rfl,ad.o⟩
       ·by_cases h2:z<(c.ms.length:Int)
        ·have HK:Hid (RqTo c i j1):=by
          rw[am.o];exact TJ.o.next HM.o HS.o (by rw[<-ae.o];omega)
         go_wp2;go_roundg (gk-1)
         case rel=>exact⟨j1,rfl,by have:=am.o;omega,HK.o,X2.o,ad.o⟩
         case measure=>omega
        ·have HN:Hid (¬zbM (zw c) c.ls):=zop HM.o HS.o fun k=>by rw[<-ae.o] at k;omega
         go_wp2;go_ret;exact⟨zb8 HN.o rfl,ad.o⟩
      ·have an: ¬(j:Int)<(m.rq.length:Int):=by omega
       obtain rfl:j=m.rq.length:=by omega
       have HK:Hid (RqTo c U 0):=by rw[Y.o];exact TJ.o.row HM.o
       go_wp2;go_roundg (c.ms.length-U)
       case rel=>exact⟨U,rfl,by have:=Y.o;omega,HK.o,X.o,q.o⟩
       case measure=>have:=Y.o;omega
    ·have Z: ¬(i:Int)<(c.ms.length:Int):=by omega
     obtain rfl:i=c.ms.length:=by omega
     go_wp2;go_ret;exact⟨zja (zyx au.o TO.o) rfl,q.o⟩
