/-
  What spec.DrawParse and laws.at tell: some text that is not long,some flag; some byte: the walks.
  Texts made of tokens and of what is passed over between them,and that Lex tells these tokens of them. No program is spoken of.
  Expressions as trees: what is read of tokens is the row of a tree. No program is spoken of.
  A tree's tokens are read as its row. No program is spoken of.
  Two rows of the same tokens are read as the same program,wherever they stand. No program is spoken of.
  Lines of a program's text,as plain functions. No program is spoken of.
  A program's text: its lines,one behind the other. No program is spoken of.
  A tree's text,out of the row that it stands in; how often each expression of a tree is used. No program is spoken of.
  What was read: each statement a tree,each name and each request as it may stand. No program is spoken of.
-/
import Derived.Test.YthfeoomfiafldaaGreatCdImplParseJToMdMem
namespace Go.Proofs.YthfeoomfiafldaaGreat
set_option maxRecDepth 100000
set_option maxHeartbeats 1600000
open Go.RowKit Go.PlainAid Go.Sort
theorem zoW (S:Src) (I:S.ok) (w:World) (N:CodeW S w) (U:S.lim≤w.heap.size):
  Calls Tryz.prog 5 #[.slice S.a S.len S.cap] w fun e V=>∃s scr,e= .returned (.tuple #[.string s,.bool scr])∧s.size≤20000∧Below w.heap.size w V:=by
 have z:S.len≤9223372036854775807:=by have:=I.1;omega
 go_enter Tryz.func5,Tryz.ntmps5
 go_wp2_with fail
 refine (zni S I _ N U).mono ?_
 rintro e w1 ⟨rfl,o,D⟩
 have M:=zc D
 clear N D
 go_wp2_with fail
 refine (zdv S I _ _ 3 _ o (by omega)).mono ?_
 rintro e w2 ⟨rfl,j,H⟩
 have O:=zc (zju M.out H (Nat.le_refl _) M.out.size)
 have K:=zc j
 clear o H j
 generalize ((bw S (start S) 3).1==0)=scr
 go_wp2_with fail
 refine (znO S z 10 (by omega) (by omega) _).mono ?_
 rintro e Y ⟨⟨r,rfl,Z⟩,L⟩
 rw[L]
 clear L
 go_wp2_with fail
 refine (znP S I w.heap.size r (by omega) scr _ _ K.out).mono ?_
 rintro e w4 ⟨x,q4,rfl,Q,J,E⟩
 have X:=zc (zju O.out E (Nat.le_refl _) O.out.size)
 clear J E
 go_wp2
 go_ret2
 exact⟨x,scr,rfl,Q,X.out⟩
theorem zgC (S:Src) (o:S.ok) (k:Nat) (w:World) (I:CodeW S w) (L:k≤4000):
  Calls Tryz.prog 11 #[.slice S.a S.len S.cap,.int .i64 k] w fun e K=>(∃z:Int,e= .returned (.int .i64 z)∧0≤z∧z≤255)∧K=w:=by
 have E:=o.1
 by_cases h:k<S.len
 ·obtain⟨b,J,H,M,j⟩:=I k h
  have D:=o.2 k
  rw[H]
  go_enter Tryz.func11,Tryz.ntmps11
  go_wp2
  go_ret
  exact⟨⟨S.Z k,by go_num,D.1,D.2⟩,rfl⟩
 ·go_enter Tryz.func11,Tryz.ntmps11
  go_wp2
  go_ret
  exact⟨⟨_,rfl,by omega,by omega⟩,rfl⟩
structure Tn where
 kind:Int
 text:ByteArray
 num:Int
def zbE (t:Tk):Tn:=⟨t.kind,t.text,t.num⟩
def ib (b:UInt8):Int:=(b.toNat:Int)
def zaw (t:Tn):List UInt8:=if t.kind==2 then (strOfNums (zaN t.num)).data.toList else if t.kind==3 then 34::(t.text.data.toList++[34]) else t.text.data.toList
def GoodT (scr:Bool) (t:Tn):Prop:=
 (∃x c cs,x.data.toList=c::cs∧zam (ib c) scr=true∧(∀b∈cs,zB scr (ib b)=true)∧t=⟨1,x,0⟩)∨(∃n,0≤n∧n≤1000000∧t=⟨2,{data:=#[]},n⟩)∨(∃x:ByteArray,x.size≤40∧(∀b∈x.data.toList,zbn (ib b))∧t=⟨3,x,0⟩)∨(∃(x:ByteArray) (c:UInt8),x.data.toList=[c]∧zaM (ib c)∧t=⟨4,x,0⟩)
theorem GoodT.name {scr:Bool} {x:ByteArray} {c:UInt8} {cs:List UInt8} (o:x.data.toList=c::cs) (h:zam (ib c) scr=true) (j: ∀b∈cs,zB scr (ib b)=true):GoodT scr ⟨1,x,0⟩:=.inl ⟨x,c,cs,o,h,j,rfl⟩
theorem GoodT.num {scr:Bool} {n:Int} (j:0≤n) (o:n≤1000000):GoodT scr ⟨2,{data:=#[]},n⟩:=.inr (.inl ⟨n,j,o,rfl⟩)
theorem GoodT.str {scr:Bool} {x:ByteArray} (o:x.size≤40) (j: ∀b∈x.data.toList,zbn (ib b)):GoodT scr ⟨3,x,0⟩:=.inr (.inr (.inl ⟨x,o,j,rfl⟩))
theorem GoodT.sign {scr:Bool} {x:ByteArray} {c:UInt8} (j:x.data.toList=[c]) (h:zaM (ib c)):GoodT scr ⟨4,x,0⟩:=.inr (.inr (.inr ⟨x,c,j,h,rfl⟩))
theorem GoodT.elim {scr:Bool} {motive:(t:Tn)→GoodT scr t→Prop} {t:Tn} (h:GoodT scr t) (name: ∀{x:ByteArray} {c:UInt8} {cs:List UInt8} (hx:x.data.toList=c::cs) (h:zam (ib c) scr=true) (hs: ∀b∈cs,zB scr (ib b)=true),motive _ (.name hx h hs)) (num: ∀{n:Int} (h0:0≤n) (h1:n≤1000000),motive _ (.num h0 h1)) (str: ∀{x:ByteArray} (h0:x.size≤40) (hs: ∀b∈x.data.toList,zbn (ib b)),motive _ (.str h0 hs)) (sign: ∀{x:ByteArray} {c:UInt8} (hx:x.data.toList=[c]) (h:zaM (ib c)),motive _ (.sign hx h)):motive t h:=by
 rcases h with ⟨x,c,cs,h1,h2,h3,rfl⟩|⟨n,h1,h2,rfl⟩|⟨x,h1,h2,rfl⟩|⟨x,c,h1,h2,rfl⟩
 ·exact name h1 h2 h3
 ·exact num h1 h2
 ·exact str h1 h2
 ·exact sign h1 h2
def zaZ (t:Tn):Bool:=t.kind==1||t.kind==2
abbrev Pc:=Tn ⊕ List UInt8
def zL:List Pc→List UInt8
 |[]=>[]
 | .inl t::l=>zaw t++zL l
 | .inr x::l=>x++zL l
def zg:List Pc→List Tn
 |[]=>[]
 | .inl t::l=>t::zg l
 | .inr _::l=>zg l
theorem zbY (a b:List Pc):zL (a++b)=zL a++zL b:=by
 induction a with
 |nil=>rfl
 |cons p l j=>cases p<;>simp[zL,j]
theorem zba (a b:List Pc):zg (a++b)=zg a++zg b:=by
 induction a with
 |nil=>rfl
 |cons p l j=>cases p<;>simp[zg,j]
abbrev sp1:List UInt8:=[32]
abbrev nl1:List UInt8:=[10]
abbrev cm1:List UInt8:=[32,47,47,32,120,10]
def zeY (x:List UInt8):Prop:=x=sp1∨x=nl1∨x=cm1
def adj (w:Bool):List Pc→Prop
 |[]=>True
 | .inr _::l=>adj false l
 | .inl t::l=>(w=true→zaZ t=false)∧adj (zaZ t) l
theorem zkc {a b:List Pc} (o: ∀w,adj w b): ∀w,adj w a→adj w (a++b):=by
 induction a with
 |nil=>intro w _;exact o w
 |cons p l j=>
  intro w h
  cases p with
  |inl t=>exact⟨h.1,j _ h.2⟩
  |inr x=>exact j _ h
theorem zkd {t:Tn} {b:List Pc} (j:zaZ t=false) (o:adj false b): ∀w,adj w (.inl t::b):=fun w=>⟨fun _=>j,by rw[j];exact o⟩
theorem zke {x:List UInt8} {b:List Pc} (j:adj false b): ∀w,adj w (.inr x::b):=fun _=>j
def GoodP (scr:Bool) (l:List Pc):Prop:=∀p∈l,match p with
 | .inl t=>GoodT scr t
 | .inr x=>zeY x
theorem GoodP.app {scr:Bool} {a b:List Pc} (o:GoodP scr a) (j:GoodP scr b):GoodP scr (a++b):=fun p z=>(List.mem_append.1 z).elim (o p) (j p)
theorem zeZ (s:ByteArray) (k:Nat):bt s k=ib (s.data.toList.getD k 0):=by
 rw[zdr]
 simp only[List.getD,List.getElem?_map]
 cases s.data.toList[k]? <;>rfl
theorem zbS (s:ByteArray):s.data.toList.length=s.size:=Array.length_toList
theorem zcp {s:ByteArray} {pre x j:List UInt8} (h:s.data.toList=pre++(x++j)) {i:Nat} (o:i<x.length):bt s (pre.length+i)=ib x[i]:=by
 rw[zeZ,h]
 simp only[List.getD]
 rw[List.getElem?_append_right (by omega),List.getElem?_append_left (by omega),Nat.add_sub_cancel_left,List.getElem?_eq_getElem o]
 rfl
theorem zhX {s:ByteArray} {pre x:List UInt8} {c:UInt8} {cs:List UInt8} (h:s.data.toList=pre++(x++c::cs)):bt s (pre.length+x.length)=ib c:=by
 rw[zeZ,h]
 simp only[List.getD]
 rw[List.getElem?_append_right (by omega),List.getElem?_append_right (by omega),Nat.add_sub_cancel_left,Nat.sub_self]
 rfl
theorem zgD {s:ByteArray} {pre x j:List UInt8} (h:s.data.toList=pre++(x++j)):s.size=pre.length+x.length+j.length:=by
 rw[←zbS,h,List.length_append,List.length_append]
 omega
theorem zhY {s:ByteArray} {pre x j:List UInt8} (h:s.data.toList=pre++(x++j)) {y:ByteArray} (o:y.data.toList=x):s.extract pre.length (pre.length+x.length)=y:=by
 apply zgo
 rw[Lib.extract_data,h,o,List.drop_append_of_le_length (Nat.le_refl _),List.drop_eq_nil_of_le (Nat.le_refl _),List.nil_append,Nat.add_sub_cancel_left,List.take_append_of_le_length (Nat.le_refl _),List.take_of_length_le (Nat.le_refl _)]
def zhZ (scr:Bool) (post:List UInt8):Prop:=∀c cs,post=c::cs→zB scr (ib c)=false
theorem zkf {s:ByteArray} {pre x o:List UInt8} (h:s.data.toList=pre++(x++o)) {p:Int→Bool} (D: ∀b∈x,p (ib b)=true) (E: ∀c cs,o=c::cs→p (ib c)=false):zax p s pre.length (pre.length+x.length):=by
 have I:=zgD h
 refine⟨by omega,by omega,fun j H J=>?_,fun H=>?_⟩
 ·obtain⟨i,rfl⟩: ∃i,j=pre.length+i:=⟨j-pre.length,by omega⟩
  have z:i<x.length:=by omega
  rw[zcp h z]
  exact D _ (List.getElem_mem z)
 ·cases o with
  |nil=>rw[List.length_nil] at I;omega
  |cons c cs=>rw[zhX h];exact E c cs rfl
theorem zkg {n:Int} (j:0≤n):(strOfNums (zaN n)).data.toList=(dgk n (dcn n)).map fun k=>UInt8.ofNat k.toNat:=by rw[strOfNums_data,zgv j]
theorem zkh {n:Int} (o:0≤n) {i:Nat} (z:i<((strOfNums (zaN n)).data.toList).length):ib ((strOfNums (zaN n)).data.toList)[i]=48+n/10^(dcn n-1-i)%10:=by
 have e:=zkg o
 have D:((strOfNums (zaN n)).data.toList).length=dcn n:=by rw[e,List.length_map,zcm]
 have j:((strOfNums (zaN n)).data.toList)[i]? =some (UInt8.ofNat (48+n/10^(dcn n-1-i)%10).toNat):=by
  rw[e,List.getElem?_map]
  have:=zh6 n (dcn n) (dcn n-1-i) (by omega)
  rw[show dcn n-1-(dcn n-1-i)=i from by omega] at this
  rw[this]
  rfl
 rw[List.getElem?_eq_getElem z] at j
 rw[Option.some.inj j]
 unfold ib
 rw[UInt8.toNat_ofNat']
 omega
theorem zoX {s:ByteArray} {a c:Nat} {n:Int} (z:0≤n) (j:n<10^c) (h: ∀i,i<c→bt s (a+i)=48+n/10^(c-1-i)%10): ∀k,k≤c→zbo s a k=n/10^(c-k):=by
 intro k
 induction k with
 |zero=>intro _;rw[zbo,Nat.sub_zero,Int.ediv_eq_zero_of_lt z j]
 |succ k o=>
  intro D
  rw[zbo,o (by omega),h k (by omega),show c-(k+1)=c-1-k from by omega,show c-k=(c-1-k)+1 from by omega,←zeb]
  omega
theorem zoY {s:ByteArray} {pre j:List UInt8} {scr:Bool} {n:Int} (D:0≤n) (K:n≤1000000) (h:s.data.toList=pre++((strOfNums (zaN n)).data.toList++j)) (I:zhZ scr j):zbd s pre.length scr n (pre.length+((strOfNums (zaN n)).data.toList).length)∧zG (bt s pre.length)=true:=by
 have J:((strOfNums (zaN n)).data.toList).length=dcn n:=by rw[zkg D,List.length_map,zcm]
 obtain⟨U,V,H,o⟩:=zcS n D (by omega)
 have z: ∀i,i<dcn n→bt s (pre.length+i)=48+n/10^(dcn n-1-i)%10:=fun i N=>by
  rw[zcp h (by omega),zkh D]
 have hd: ∀b∈(strOfNums (zaN n)).data.toList,zG (ib b)=true:=by
  intro b z
  obtain⟨i,N,rfl⟩:=List.getElem_of_mem z
  rw[zkh D,zbV]
  omega
 have M:=zgD h
 refine⟨⟨zkf h hd fun c E e=>?_,by omega,?_,?_,K,fun L=>?_⟩,?_⟩
 ·have:=I c E e
  simp only[zB,Bool.or_eq_false_iff] at this
  exact this.2
 ·rcases o with o|o
  ·left;rw[J,o]
  ·right
   have:=z 0 (by omega)
   rw[Nat.add_zero,Nat.sub_zero] at this
   rw[this]
   have O:1≤n/10^(dcn n-1):=by rw[Int.le_ediv_iff_mul_le (zea _),Int.one_mul];exact o
   have Q:n/10^(dcn n-1)<10:=by
    rw[Int.ediv_lt_iff_lt_mul (zea _),Int.mul_comm,←zdK,show dcn n-1+1=dcn n from by omega]
    exact H
   omega
 ·rw[Nat.add_sub_cancel_left,J,zoX D H z _ (Nat.le_refl _),Nat.sub_self,Int.pow_zero,Int.ediv_one]
 ·cases j with
  |nil=>rw[List.length_nil] at M;omega
  |cons c E=>
   rw[zhX h]
   have:=I c E rfl
   simp only[zB,Bool.or_eq_false_iff] at this
   exact this.1
 ·have:=z 0 (by omega)
  rw[Nat.add_zero] at this
  rw[this,zbV]
  omega
theorem zoZ {s:ByteArray} {pre o:List UInt8} {scr:Bool} {t:Tn} (ht:GoodT scr t) (h:s.data.toList=pre++(zaw t++o)) (Q:zaZ t=true→zhZ scr o):
  Tok s scr pre.length ⟨t.kind,t.text,t.num,pre.length⟩ (pre.length+(zaw t).length)∧pre.length<s.size∧¬zbQ (bt s pre.length)∧¬zck s pre.length:=by
 have I:=zgD h
 cases ht using GoodT.elim with
 | @name x c O D H M=>
  have E:zaw ⟨1,x,0⟩=c::O:=D
  rw[E] at h I ⊢
  have z:bt s pre.length=ib c:=by have:=zcp h (i:=0) (by simp);simpa using this
  have Z: ∀b∈c::O,zB scr (ib b)=true:=by
   intro b L
   rcases List.mem_cons.1 L with rfl|L
   ·unfold zB;rw[H];rfl
   ·exact M b L
  have:=Tok.name (s:=s) (scr:=scr) (a:=pre.length) (by rw[z];exact H) (zkf h Z (Q rfl))
  rw[zhY h D] at this
  rw[zdI] at H
  refine⟨this,by simp at I;omega,?_,fun k=>?_⟩
  ·rw[z];unfold zbQ;omega
  ·have:=k.1;rw[z] at this;omega
 | @num n z Y=>
  have E:zaw ⟨2,{data:=#[]},n⟩=(strOfNums (zaN n)).data.toList:=rfl
  rw[E] at h I ⊢
  obtain⟨J,X⟩:=zoY z Y h (Q rfl)
  have:=Tok.num (s:=s) (scr:=scr) (a:=pre.length) X J
  rw[zbV] at X
  refine⟨this,by have:=J.1.2.1;have:=J.2.1;omega,by unfold zbQ;omega,fun k=>by have:=k.1;omega⟩
 | @str x z M=>
  have E:zaw ⟨3,x,0⟩=34::(x.data.toList++[34]):=rfl
  rw[E] at h I ⊢
  have K:=zbS x
  have V:bt s pre.length=34:=by have:=zcp h (i:=0) (by simp);simpa [ib] using this
  have e1:(34::(x.data.toList++[34]):List UInt8).length=x.size+2:=by simp[K]
  rw[e1] at I ⊢
  have N:s.data.toList=(pre++[34])++(x.data.toList++([34]++o)):=by rw[h];simp
  have hj: ∀i,(U:i<x.data.toList.length)→bt s (pre.length+1+i)=ib x.data.toList[i]:=fun i U=>by
   have:=zcp N (i:=i) U
   rw[List.length_append] at this
   exact this
  have D:s.extract (pre.length+1) (pre.length+(x.size+2)-1)=x:=by
   have:=zhY N (y:=x) rfl
   rw[List.length_append,K] at this
   rw[show pre.length+(x.size+2)-1=pre.length+[(34:UInt8)].length+x.size from by simp;omega]
   exact this
  have he:bt s (pre.length+(x.size+2)-1)=34:=by
   have:=zhX (s:=s) (pre:=pre++[34]) (x:=x.data.toList) (c:=34) (cs:=o) (by rw[N];simp)
   rw[List.length_append,K] at this
   rw[show pre.length+(x.size+2)-1=pre.length+[(34:UInt8)].length+x.size from by simp;omega]
   exact this
  have:=Tok.str (s:=s) (scr:=scr) (a:=pre.length) (e:=pre.length+(x.size+2)) V ⟨by omega,by omega,by omega,he,fun j g1 g2=>by
   obtain⟨i,rfl⟩: ∃i,j=pre.length+1+i:=⟨j-pre.length-1,by omega⟩
   rw[hj i (by omega)]
   exact M _ (List.getElem_mem _)⟩
  rw[D] at this
  refine⟨this,by omega,by rw[V];unfold zbQ;omega,fun k=>by have:=k.1;omega⟩
 | @sign x c D H=>
  have E:zaw ⟨4,x,0⟩=[c]:=D
  rw[E] at h I ⊢
  have z:bt s pre.length=ib c:=by have:=zcp h (i:=0) (by simp);simpa using this
  have:=Tok.sign (s:=s) (scr:=scr) (a:=pre.length) (by rw[z];exact H)
  have e:=zhY h D
  simp only[List.length_cons,List.length_nil,Nat.zero_add] at e I
  rw[e] at this
  refine⟨this,by omega,?_,fun k=>?_⟩
  ·rw[z];unfold zaM at H;unfold zbQ;omega
  ·have:=k.1;rw[z] at this;unfold zaM at H;omega
theorem zpa {s:ByteArray} {pre x z:List UInt8} (L:zeY x) (h:s.data.toList=pre++(x++z)) {b:Nat} (o:Skip s (pre.length+x.length) b):Skip s pre.length b:=by
 have E:=zgD h
 rcases L with rfl|rfl|rfl
 ·have D:bt s pre.length=32:=by have:=zcp h (i:=0) (by simp);simpa [ib] using this
  simp at E o
  exact .blank (by omega) (by rw[D];exact .inr (.inr (.inr rfl))) o
 ·have D:bt s pre.length=10:=by have:=zcp h (i:=0) (by simp);simpa [ib] using this
  simp at E o
  exact .blank (by omega) (by rw[D];exact .inr (.inl rfl)) o
 ·have D:bt s pre.length=32:=by have:=zcp h (i:=0) (by simp);simpa [ib] using this
  have J:bt s (pre.length+1)=47:=by have:=zcp h (i:=1) (by simp);simpa [ib] using this
  have I:bt s (pre.length+2)=47:=by have:=zcp h (i:=2) (by simp);simpa [ib] using this
  have K:bt s (pre.length+3)=32:=by have:=zcp h (i:=3) (by simp);simpa [ib] using this
  have M:bt s (pre.length+4)=120:=by have:=zcp h (i:=4) (by simp);simpa [ib] using this
  have H:bt s (pre.length+5)=10:=by have:=zcp h (i:=5) (by simp);simpa [ib] using this
  simp at E o
  refine .blank (by omega) (by rw[D];exact .inr (.inr (.inr rfl))) ?_
  refine .comment (c:=pre.length+5) (by omega) ⟨J,by omega,I⟩ ⟨by omega,by omega,fun j N O=>?_,fun _=>by rw[H];rfl⟩ ?_
  ·obtain k|k|k|k:j=pre.length+1∨j=pre.length+2∨j=pre.length+3∨j=pre.length+4:=by omega
   ·rw[k,J];rfl
   ·rw[k,I];rfl
   ·rw[k,K];rfl
   ·rw[k,M];rfl
  ·exact .blank (by omega) (by rw[H];exact .inr (.inl rfl)) o
theorem zpb {scr:Bool} {l:List Pc} (H:GoodP scr l) (I:adj true l):zhZ scr (zL l):=by
 intro c N e
 cases l with
 |nil=>cases e
 |cons p l=>
  cases p with
  |inr x=>
   have o:zeY x:=H (.inr x) (List.mem_cons_self ..)
   simp only[zL] at e
   rcases o with rfl|rfl|rfl<;>simp only[List.cons_append] at e<;>cases e<;>cases scr<;>rfl
  |inl t=>
   have J:GoodT scr t:=H (.inl t) (List.mem_cons_self ..)
   have D:=I.1 rfl
   simp only[zL] at e
   cases J using GoodT.elim with
   |name _ _ _=>cases D
   |num _ _=>cases D
   |str _ _=>simp[zaw] at e;rw[←e.1];cases scr<;>rfl
   | @sign x j o E=>
    have K:zaw ⟨4,x,0⟩=[j]:=o
    rw[K] at e
    simp at e
    rw[←e.1]
    simp only[zB,Bool.or_eq_false_iff]
    have M:zam (ib j) scr=false:=by
     cases z:zam (ib j) scr with
     |false=>rfl
     |true=>exact absurd E (zdX z).2.2
    have L:zG (ib j)=false:=by
     cases z:zG (ib j) with
     |false=>rfl
     |true=>exact absurd E (zdY z).2
    exact⟨M,L⟩
theorem zpc {scr:Bool} {s:ByteArray} (P:List Pc): ∀(w:Bool) (pre:List UInt8) (n:Nat),s.data.toList=pre++zL P→GoodP scr P→adj w P→n+(zg P).length≤4000→
  ∃b o,Skip s pre.length b∧Lx s scr b n (.ok o)∧o.map zbE=zg P:=by
 induction P with
 |nil=>
  intro w pre n h _ _ _
  have L:s.size=pre.length:=by rw[←zbS,h];simp[zL]
  refine⟨pre.length,[],?_,?_,rfl⟩
  ·rw[←L];exact .done
  ·rw[←L];exact .done
 |cons p l K=>
  intro w pre n h H D J
  have j:GoodP scr l:=fun q O=>H q (List.mem_cons_of_mem _ O)
  cases p with
  |inr x=>
   have X:zeY x:=H (.inr x) (List.mem_cons_self ..)
   simp only[zL] at h
   obtain⟨b,o,z,I,E⟩:=K false (pre++x) n (by rw[h,List.append_assoc]) j D J
   rw[List.length_append] at z
   exact⟨b,o,zpa X h z,I,E⟩
  |inl t=>
   have Q:GoodT scr t:=H (.inl t) (List.mem_cons_self ..)
   simp only[zL] at h
   simp only[zg,List.length_cons] at J
   obtain⟨b,o,z,I,E⟩:=K (zaZ t) (pre++zaw t) (n+1) (by rw[h,List.append_assoc]) j D.2 (by omega)
   obtain⟨Y,M,V,U⟩:=zoZ Q h fun N=>zpb j (by have:=D.2;rw[N] at this;exact this)
   rw[List.length_append] at z
   refine⟨pre.length,_,.stop M V U,.tok (r:=.ok o) M (by omega) Y z I,?_⟩
   simp only[List.map_cons,E,zg]
   rfl
theorem zki {scr:Bool} {s:ByteArray} {P:List Pc} (h:s.data.toList=zL P) (D:GoodP scr P) (o:adj false P) (I:(zg P).length≤4000): ∃j,zY s scr (.ok j)∧j.map zbE=zg P:=by
 obtain⟨b,j,H,E,z⟩:=zpc P false [] 0 (by rw[h];rfl) D o (by omega)
 exact⟨j,⟨b,H,E⟩,z⟩
theorem zpd {s:ByteArray} {scr:Bool} {a e:Nat} {t:Tk} (D:a<s.size) (h:Tok s scr a t e):GoodT scr (zbE t):=by
 have hcut: ∀e,a≤e→e≤s.size→∀b∈(s.extract a e).data.toList,∃j,a≤j∧j<e∧ib b=bt s j:=by
  intro e N M b z
  rw[Lib.extract_data] at z
  obtain⟨i,H,rfl⟩:=List.getElem_of_mem z
  rw[List.length_take,List.length_drop,zbS] at H
  refine⟨a+i,by omega,by omega,?_⟩
  rw[zeZ,List.getElem_take,List.getElem_drop]
  simp only[List.getD]
  rw[List.getElem?_eq_getElem (by rw[zbS];omega)]
  rfl
 have L:=zdJ D h
 cases h using Tok.elim with
 |name h o=>
  have E:(s.extract a e).data.toList=s.data.toList[a]'(by rw[zbS];exact D)::((s.data.toList.drop (a+1)).take (e-a-1)):=by
   rw[Lib.extract_data,List.drop_eq_getElem_cons (by rw[zbS];exact D),show e-a=(e-a-1)+1 from by omega,List.take_succ_cons]
   rfl
  have z:ib (s.data.toList[a]'(by rw[zbS];exact D))=bt s a:=by
   rw[zeZ]
   simp only[List.getD]
   rw[List.getElem?_eq_getElem (by rw[zbS];exact D)]
   rfl
  refine GoodT.name E (by rw[z];exact h) fun b z=>?_
  obtain⟨j,O,J,K⟩:=hcut e (by omega) L.2.1 b (by rw[E];exact List.mem_cons_of_mem _ z)
  rw[K]
  exact o.2.2.1 j O J
 | @num n _ h o=>
  refine GoodT.num ?_ o.2.2.2.2.1
  rw[o.2.2.2.1]
  refine (zgt (e-a) (e-a) (fun j U=>?_) (Nat.le_refl _)).1
  have:=o.1.2.2.1 (a+j) (by omega) (by omega)
  rw[zbV] at this
  exact this.1
 |str h o=>
  obtain⟨N,M,Q,V,I⟩:=o
  refine GoodT.str ?_ fun b z=>?_
  ·rw[←zbS,Lib.extract_data,List.length_take,List.length_drop,zbS]
   omega
  ·rw[Lib.extract_data] at z
   obtain⟨i,H,rfl⟩:=List.getElem_of_mem z
   rw[List.length_take,List.length_drop,zbS] at H
   have:=I (a+1+i) (by omega) (by omega)
   rw[zeZ] at this
   simp only[List.getD] at this
   rw[List.getElem?_eq_getElem (by rw[zbS];omega)] at this
   rw[List.getElem_take,List.getElem_drop]
   exact this
 |sign h=>
  have E:(s.extract a (a+1)).data.toList=[s.data.toList[a]'(by rw[zbS];exact D)]:=by
   rw[Lib.extract_data,List.drop_eq_getElem_cons (by rw[zbS];exact D),Nat.add_sub_cancel_left,List.take_succ_cons]
   rfl
  have z:ib (s.data.toList[a]'(by rw[zbS];exact D))=bt s a:=by
   rw[zeZ]
   simp only[List.getD]
   rw[List.getElem?_eq_getElem (by rw[zbS];exact D)]
   rfl
  exact GoodT.sign E (by rw[z];exact h)
theorem zkj {s:ByteArray} {scr:Bool} {a n:Nat} {r:Except Nat (List Tk)} (h:Lx s scr a n r): ∀o,r= .ok o→∀t∈o,GoodT scr (zbE t):=by
 induction h using Lx.ind with
 |done=>intro o z t D;cases z;cases D
 |bad _ _=>intro o z;cases z
 | @tok a n e b t r h I D J z H=>
  intro o j u E
  cases r with
  |error p=>simp[Except.map] at j
  |ok l=>
   simp only[Except.map,Except.ok.injEq] at j
   subst j
   rcases List.mem_cons.1 E with rfl|E
   ·exact zpd h D
   ·exact H l rfl u E
def zkk (L:List (Ex ⊕ Int)):Prop:=∀P:List (Ex ⊕ Int)→Prop,(∀x,P [.inl x])→(∀k a b,P a→P b→P (a++(b++[.inr k])))→P L
structure Tr where
 row:List (Ex ⊕ Int)
 ok:zkk row
def Tr.leaf (x:Ex):Tr:=⟨[.inl x],fun _ h0 _=>h0 x⟩
def Tr.two (k:Int) (l r:Tr):Tr:=⟨l.row++(r.row++[.inr k]),fun P h0 h1=>h1 k _ _ (l.ok P h0 h1) (r.ok P h0 h1)⟩
theorem Tr.ind {motive:Tr→Prop} (t:Tr) (leaf: ∀x,motive (.leaf x)) (two: ∀k l r,motive l→motive r→motive (.two k l r)):motive t:=by
 obtain⟨_,h⟩:=t.ok (fun L=>∃h:zkk L,motive ⟨L,h⟩) (fun x=>⟨_,leaf x⟩) (fun k a b ⟨ha,ma⟩ ⟨hb,mb⟩=>⟨_,two k ⟨a,ha⟩ ⟨b,hb⟩ ma mb⟩)
 exact h
theorem Tr.elim {motive:Tr→Prop} (t:Tr) (leaf: ∀x,motive (.leaf x)) (two: ∀k l r,motive (.two k l r)):motive t:=t.ind leaf fun k l r _ _=>two k l r
def stk {α:Type} (f:Ex→α) (g:Int→α→α→α):List (Ex ⊕ Int)→List α→List α
 |[],s=>s
 | .inl x::l,s=>stk f g l (f x::s)
 | .inr k::l,b::a::s=>stk f g l (g k a b::s)
 | .inr _::l,s=>stk f g l s
theorem zgE {α:Type} (f:Ex→α) (g:Int→α→α→α) (a b:List (Ex ⊕ Int)): ∀s,stk f g (a++b) s=stk f g b (stk f g a s):=by
 induction a with
 |nil=>intro s;rfl
 |cons x l j=>
  intro s
  cases x with
  |inl x=>exact j _
  |inr k=>
   match s with
   |[]=>exact j _
   |[_]=>exact j _
   |_::_::_=>exact j _
def Tr.fold {α:Type} (f:Ex→α) (g:Int→α→α→α) (t:Tr):α:=(stk f g t.row []).headD (f ⟨0,0,sNone,sNone,0,0⟩)
theorem Tr.fold_row {α:Type} (f:Ex→α) (g:Int→α→α→α) (t:Tr): ∀s,stk f g t.row s=t.fold f g::s:=by
 induction t using Tr.ind with
 |leaf x=>intro s;rfl
 |two k l r j o=>
  have h: ∀s,stk f g (Tr.two k l r).row s=g k (l.fold f g) (r.fold f g)::s:=fun s=>by
   show stk f g (l.row++(r.row++[.inr k])) s=_
   rw[zgE,j,zgE,o]
   rfl
  intro s
  have e:(Tr.two k l r).fold f g=g k (l.fold f g) (r.fold f g):=by
   show (stk f g (Tr.two k l r).row []).headD _=_
   rw[h]
   rfl
  rw[h,e]
theorem Tr.fold_two {α:Type} (f:Ex→α) (g:Int→α→α→α) (k:Int) (l r:Tr):(Tr.two k l r).fold f g=g k (l.fold f g) (r.fold f g):=by
 have h:=Tr.fold_row f g (.two k l r) []
 have e:stk f g (Tr.two k l r).row []=[g k (l.fold f g) (r.fold f g)]:=by
  show stk f g (l.row++(r.row++[.inr k])) []=_
  rw[zgE,Tr.fold_row,zgE,Tr.fold_row]
  rfl
 rw[e] at h
 exact (List.cons.inj h).1.symm
def Tr.both {α:Type} (f:Ex→α) (g:Int→Tr→Tr→α→α→α) (t:Tr):Tr×α:=t.fold (fun x=>(Tr.leaf x,f x)) (fun k a b=>(Tr.two k a.1 b.1,g k a.1 b.1 a.2 b.2))
def Tr.para {α:Type} (f:Ex→α) (g:Int→Tr→Tr→α→α→α) (t:Tr):α:=(t.both f g).2
theorem Tr.both_one {α:Type} (f:Ex→α) (g:Int→Tr→Tr→α→α→α) (t:Tr):(t.both f g).1=t:=by
 induction t using Tr.ind with
 |leaf x=>rfl
 |two k l r j o=>
  unfold Tr.both at j o ⊢
  rw[Tr.fold_two,j,o]
theorem Tr.para_two {α:Type} (f:Ex→α) (g:Int→Tr→Tr→α→α→α) (k:Int) (l r:Tr):(Tr.two k l r).para f g=g k l r (l.para f g) (r.para f g):=by
 have j:=Tr.both_one f g l
 have o:=Tr.both_one f g r
 unfold Tr.para
 unfold Tr.both at j o ⊢
 rw[Tr.fold_two,j,o]
def Tr.size:Tr→Nat:=Tr.fold (fun _=>1) fun _ a b=>a+b+1
theorem Tr.size_leaf (x:Ex):(Tr.leaf x).size=1:=rfl
theorem Tr.size_two (k:Int) (l r:Tr):(Tr.two k l r).size=l.size+r.size+1:=Tr.fold_two ..
def Tr.kind:Tr→Int:=Tr.fold (fun x=>x.kind) fun k _ _=>k
theorem Tr.kind_two (k:Int) (l r:Tr):(Tr.two k l r).kind=k:=Tr.fold_two ..
def Tr.flat:Tr→Nat→List Ex:=Tr.para (fun x _=>[x]) fun k l r a b o=>a o++(b (o+l.size)++[⟨k,0,sNone,sNone,((o+l.size:Nat):Int)-1,((o+l.size+r.size:Nat):Int)-1⟩])
theorem Tr.flat_leaf (x:Ex) (o:Nat):(Tr.leaf x).flat o=[x]:=rfl
theorem Tr.flat_two (k:Int) (l r:Tr) (o:Nat):(Tr.two k l r).flat o=l.flat o++(r.flat (o+l.size)++[⟨k,0,sNone,sNone,((o+l.size:Nat):Int)-1,((o+l.size+r.size:Nat):Int)-1⟩]):=congrFun (Tr.para_two ..) o
theorem Tr.flat_len (t:Tr): ∀o,(t.flat o).length=t.size:=by
 induction t using Tr.ind with
 |leaf x=>intro o;rfl
 |two k l r j z=>intro o;simp only[flat_two,size_two,List.length_append,j,z,List.length_cons,List.length_nil];omega
theorem Tr.pos (t:Tr):0<t.size:=by cases t using Tr.elim<;>simp only[size_leaf,size_two]<;>omega
def Tr.dp:Tr→Nat:=Tr.para (fun _=>0) fun k l r a b=>if k==8 then max ((if zA l.kind then 1 else 0)+a) ((if zO r.kind then 1 else 0)+b) else max a ((if zA r.kind then 1 else 0)+b)
theorem Tr.dp_two (k:Int) (l r:Tr):(Tr.two k l r).dp=if k==8 then max ((if zA l.kind then 1 else 0)+l.dp) ((if zO r.kind then 1 else 0)+r.dp) else max l.dp ((if zA r.kind then 1 else 0)+r.dp):=Tr.para_two ..
def dpS (b:Bool) (t:Tr):Nat:=(if b then 1 else 0)+t.dp
theorem zkl {k:Int} (h:k=6∨k=7) (l r:Tr):(Tr.two k l r).dp=max l.dp (dpS (zA r.kind) r):=by rw[Tr.dp_two];rcases h with rfl|rfl<;>rfl
theorem zkm (l r:Tr):(Tr.two 8 l r).dp=max (dpS (zA l.kind) l) (dpS (zO r.kind) r):=Tr.dp_two ..
theorem zpe (b:Bool) (t:Tr):dpS b t≤t.dp+1:=by unfold dpS;split<;>omega
theorem zpf (b:Bool) (t:Tr):t.dp≤dpS b t:=by unfold dpS;omega
theorem zpg {k:Int} (h:zA k=true):zO k=true:=by
 unfold zA at h
 unfold zO
 rw[h]
 rfl
theorem zph (t:Tr):dpS (zA t.kind) t≤dpS (zO t.kind) t:=by
 unfold dpS
 cases h:zA t.kind with
 |false=>simp
 |true=>rw[zpg h];exact Nat.le_refl _
def NameG (scr:Bool) (x:ByteArray):Prop:=GoodT scr ⟨1,x,0⟩∧zr x scr=false
def FieldG (scr:Bool) (x:ByteArray):Prop:=GoodT scr ⟨1,x,0⟩∧(zr x scr=false∨x.toList=[100,101,102,97,117,108,116])
def zdO (scr:Bool) (x:ByteArray):Prop:=NameG scr x∨(scr=true∧x=sUndef)
def LeafOk (scr:Bool) (e:Ex):Prop:=
 (∃n,0≤n∧n≤1000000∧e=⟨1,n,sNone,sNone,0,0⟩)∨(∃x,zdO scr x∧(e=⟨2,0,x,sNone,0,0⟩∨e=⟨3,0,x,sNone,0,0⟩))∨(∃x f,NameG scr x∧FieldG scr f∧(e=⟨4,0,x,f,0,0⟩∨e=⟨5,0,x,f,0,0⟩))
theorem LeafOk.num {scr:Bool} {n:Int} (j:0≤n) (o:n≤1000000):LeafOk scr ⟨1,n,sNone,sNone,0,0⟩:=.inl ⟨n,j,o,rfl⟩
theorem LeafOk.name {scr:Bool} {x:ByteArray} (h:zdO scr x):LeafOk scr ⟨2,0,x,sNone,0,0⟩:=.inr (.inl ⟨x,h,.inl rfl⟩)
theorem LeafOk.call {scr:Bool} {x:ByteArray} (h:zdO scr x):LeafOk scr ⟨3,0,x,sNone,0,0⟩:=.inr (.inl ⟨x,h,.inr rfl⟩)
theorem LeafOk.mem {scr:Bool} {x f:ByteArray} (h:NameG scr x) (j:FieldG scr f):LeafOk scr ⟨4,0,x,f,0,0⟩:=.inr (.inr ⟨x,f,h,j,.inl rfl⟩)
theorem LeafOk.memCall {scr:Bool} {x f:ByteArray} (h:NameG scr x) (j:FieldG scr f):LeafOk scr ⟨5,0,x,f,0,0⟩:=.inr (.inr ⟨x,f,h,j,.inr rfl⟩)
theorem LeafOk.elim {scr:Bool} {motive:(e:Ex)→LeafOk scr e→Prop} {e:Ex} (h:LeafOk scr e) (num: ∀{n:Int} (h0:0≤n) (h1:n≤1000000),motive _ (.num h0 h1)) (name: ∀{x:ByteArray} (h:zdO scr x),motive _ (.name h)) (call: ∀{x:ByteArray} (h:zdO scr x),motive _ (.call h)) (mem: ∀{x f:ByteArray} (h:NameG scr x) (hf:FieldG scr f),motive _ (.mem h hf)) (memCall: ∀{x f:ByteArray} (h:NameG scr x) (hf:FieldG scr f),motive _ (.memCall h hf)):motive e h:=by
 rcases h with ⟨n,h0,h1,rfl⟩|⟨x,h,rfl|rfl⟩|⟨x,f,h,hf,rfl|rfl⟩
 ·exact num h0 h1
 ·exact name h
 ·exact call h
 ·exact mem h hf
 ·exact memCall h hf
def TrOk (scr:Bool):Tr→Prop:=Tr.fold (LeafOk scr) fun k a b=>(k=6∨k=7∨k=8)∧a∧b
theorem TrOk.two {scr:Bool} {k:Int} {l r:Tr}:TrOk scr (.two k l r)=((k=6∨k=7∨k=8)∧TrOk scr l∧TrOk scr r):=Tr.fold_two ..
theorem zia {scr:Bool} {x:Ex} (h:LeafOk scr x):zO x.kind=false:=by cases h using LeafOk.elim<;>rfl
def zb2 (C:Cx):Prop:=∀t∈C.ts,GoodT C.scr (zbE t)
theorem zgF {C:Cx} (h:zb2 C) {i:Nat} (j:i<C.ts.length):GoodT C.scr (zbE (zf C i)):=by
 unfold zf
 simp only[List.getD]
 rw[List.getElem?_eq_getElem j]
 exact h _ (List.getElem_mem j)
theorem zkn {scr:Bool} {t:Tn} (h:GoodT scr t) (j:t.kind=1):GoodT scr ⟨1,t.text,0⟩:=by
 cases h using GoodT.elim with
 |name z h o=>exact .name z h o
 |num _ _=>cases j
 |str _ _=>cases j
 |sign _ _=>cases j
theorem zib {C:Cx} (h:zb2 C) {i:Nat} (j:plainB C i false=true):NameG C.scr (zf C i).text:=by
 have o:=zed j
 simp only[plainB,Bool.and_eq_true,beq_iff_eq,Bool.false_and,Bool.or_false,Bool.not_eq_true'] at j
 exact⟨zkn (zgF h o) j.1,j.2⟩
theorem zko {C:Cx} (h:zb2 C) {i:Nat} {o:Bool} (j:plainB C i o=true):FieldG C.scr (zf C i).text:=by
 have z:=zed j
 simp only[plainB,Bool.and_eq_true,beq_iff_eq,Bool.or_eq_true,Bool.not_eq_true'] at j
 refine⟨zkn (zgF h z) j.1,?_⟩
 rcases j.2 with k|k
 ·exact .inl k
 ·exact .inr k.2
structure Sm5 (q q':PS):Prop where
 rq:q'.rq=q.rq
 im:q'.im=q.im
 ep:q'.ep=q.ep
 st:q'.st=q.st
 la:q'.la=q.la
theorem Sm5.refl (q:PS):Sm5 q q:=⟨rfl,rfl,rfl,rfl,rfl⟩
theorem Sm5.trans {a b c:PS} (h:Sm5 a b) (k:Sm5 b c):Sm5 a c:=⟨k.rq.trans h.rq,k.im.trans h.im,k.ep.trans h.ep,k.st.trans h.st,k.la.trans h.la⟩
theorem Sm5.adv (q:PS):Sm5 q (adv q):=⟨rfl,rfl,rfl,rfl,rfl⟩
def LeafRes (C:Cx) (q q':PS):Prop:=∃x,LeafOk C.scr x∧q'.ex=q.ex++[x]∧Sm5 q q'∧q'.ex.length≤300
theorem zfI {C:Cx} {x:Ex} {q q':PS} (h:zJ C x q= .ok q') (j:LeafOk C.scr x):LeafRes C q q':=by
 obtain⟨rfl,o⟩:=zbx h
 exact⟨x,j,rfl,⟨rfl,rfl,rfl,rfl,rfl⟩,by simp;omega⟩
theorem zkp {C:Cx} {n:ByteArray} {q q':PS} (h:zau C n q= .ok q') (j:zdO C.scr n):LeafRes C q q':=by
 unfold zau at h
 split at h
 ·obtain⟨a,I,H⟩:=ze h
  obtain⟨b,o,J⟩:=ze I
  obtain⟨rfl,_⟩:=zbh o
  obtain⟨rfl,_⟩:=zbh J
  obtain⟨x,E,K,D,z⟩:=zfI H (.call j)
  exact⟨x,E,K,(Sm5.adv _).trans ((Sm5.adv _).trans D),z⟩
 ·exact zfI h (.name j)
theorem zpi {C:Cx} {n f:ByteArray} {q q':PS} (h:za5 C n f q= .ok q') (j:NameG C.scr n) (o:FieldG C.scr f):LeafRes C q q':=by
 unfold za5 at h
 split at h
 ·obtain⟨a,J,I⟩:=ze h
  obtain⟨b,z,K⟩:=ze J
  obtain⟨rfl,_⟩:=zbh z
  obtain⟨rfl,_⟩:=zbh K
  obtain⟨x,H,L,E,D⟩:=zfI I (.memCall j o)
  exact⟨x,H,L,(Sm5.adv _).trans ((Sm5.adv _).trans E),D⟩
 ·exact zfI h (.mem j o)
def zfa (C:Cx) (A:List Ex) (m:Tr→Nat) (d:Nat) (q q':PS):Prop:=∃t,TrOk C.scr t∧q'.ex=A++t.flat A.length∧d+m t≤20∧Sm5 q q'∧q'.ex.length≤300
def zfJ (t:Tr):Nat:=t.dp
def zfb (t:Tr):Nat:=dpS (zA t.kind) t
def zgG (t:Tr):Nat:=dpS (zO t.kind) t
def Res (C:Cx):NT→Nat→PS→PS→Prop
 | .sum,d,q,q'=>zfa C q.ex zfJ d q q'
 | .prod,d,q,q'=>zfa C q.ex zfb d q q'
 | .part,d,q,q'=>zfa C q.ex zgG d q q'
 | .sumT,d,q,q'=>∀A t0,TrOk C.scr t0→q.ex=A++t0.flat A.length→d+zfJ t0≤20→q.ex.length≤300→zfa C A zfJ d q q'
 | .prodT,d,q,q'=>∀A t0,TrOk C.scr t0→q.ex=A++t0.flat A.length→d+zfb t0≤20→q.ex.length≤300→zfa C A zfb d q q'
theorem zic {A:List Ex} {t0 t1:Tr} {k:Int} {q q1:PS} (o:q.ex=A++t0.flat A.length) (z:q1.ex=q.ex++t1.flat q.ex.length):
  q1.ex++[⟨k,0,sNone,sNone,(q.ex.length:Int)-1,(q1.ex.length:Int)-1⟩]=A++(Tr.two k t0 t1).flat A.length:=by
 have j:q.ex.length=A.length+t0.size:=by rw[o,List.length_append,Tr.flat_len]
 have D:q1.ex.length=A.length+t0.size+t1.size:=by rw[z,List.length_append,Tr.flat_len,j]
 rw[D,z,j,o,Tr.flat_two]
 simp only[List.append_assoc]
theorem zgH {C:Cx} {q q':PS} {d:Nat} (hd:d≤20) (h:LeafRes C q q'):zfa C q.ex zgG d q q':=by
 obtain⟨x,j,z,o,D⟩:=h
 refine⟨.leaf x,j,z,?_,o,D⟩
 have:zgG (.leaf x)=0:=by
  unfold zgG dpS
  rw[show (Tr.leaf x).kind=x.kind from rfl,zia j]
  rfl
 omega
theorem LeafRes.from {C:Cx} {q q1 q':PS} (h:LeafRes C q1 q') (z:q1.ex=q.ex) (o:Sm5 q q1):LeafRes C q q':=by
 obtain⟨x,E,D,j,H⟩:=h
 exact⟨x,E,by rw[D,z],o.trans j,H⟩
theorem zpj {C:Cx} (hC:zb2 C) (f:Nat): ∀(nt:NT) (d:Nat) (q q':PS),d≤20→ev C f nt d q= .ok q'→Res C nt d q q':=by
 induction f with
 |zero=>intro nt d q q' _ h;cases nt using NT.elim<;>cases h
 |succ f I=>
  intro nt d q q' hd h
  cases nt using NT.elim with
  |sum=>
   rw[ev] at h
   obtain⟨a,o,j⟩:=ze h
   obtain⟨t,L,J,H,K,M⟩:=I _ _ _ _ hd o
   obtain⟨V,X,O,N,E,Q⟩:=I _ _ _ _ hd j _ t L J (Nat.le_trans (Nat.add_le_add_left (zpf _ _) _) H) M
   exact⟨V,X,O,N,K.trans E,Q⟩
  |prod=>
   rw[ev] at h
   obtain⟨a,o,j⟩:=ze h
   obtain⟨t,L,J,H,K,M⟩:=I _ _ _ _ hd o
   obtain⟨V,X,O,N,E,Q⟩:=I _ _ _ _ hd j _ t L J (Nat.le_trans (Nat.add_le_add_left (zph t) _) H) M
   exact⟨V,X,O,N,K.trans E,Q⟩
  |sumT=>
   intro A D U k2 k3 k4
   rw[ev] at h
   split at h
   ·obtain⟨a,o,j⟩:=ze h
    obtain⟨b,h3,Z⟩:=ze o
    obtain⟨t,L,J,H,K,M⟩:=I _ _ _ _ hd h3
    obtain⟨rfl,hl⟩:=zbx Z
    have Y:zbw C q.pos=6∨zbw C q.pos=7:=by unfold zbw;split<;>simp
    have hm:d+zfJ (Tr.two (zbw C q.pos) D t)≤20:=by
     have e:zfJ (Tr.two (zbw C q.pos) D t)=max D.dp (dpS (zA t.kind) t):=zkl Y _ _
     rw[e]
     have:d+dpS (zA t.kind) t≤20:=H
     have:d+D.dp≤20:=k3
     omega
    obtain⟨V,X,O,N,E,Q⟩:=I _ _ _ _ hd j A (.two (zbw C q.pos) D t) (by rw[TrOk.two];exact⟨by rcases Y with e|e<;>simp[e],U,L⟩) (zic k2 J) hm (by simp;omega)
    exact⟨V,X,O,N,(Sm5.adv _).trans (K.trans ⟨E.rq,E.im,E.ep,E.st,E.la⟩),Q⟩
   ·cases h
    exact⟨D,U,k2,k3,Sm5.refl _,k4⟩
  |prodT=>
   intro A D U k2 k3 k4
   rw[ev] at h
   split at h
   ·obtain⟨a,o,j⟩:=ze h
    obtain⟨b,h3,Z⟩:=ze o
    obtain⟨t,L,J,H,K,M⟩:=I _ _ _ _ hd h3
    obtain⟨rfl,hl⟩:=zbx Z
    have hm:d+zfb (Tr.two 8 D t)≤20:=by
     have e:zfb (Tr.two 8 D t)=max (dpS (zA D.kind) D) (dpS (zO t.kind) t):=by unfold zfb dpS;rw[Tr.kind_two];exact (Nat.zero_add _).trans (zkm _ _)
     rw[e]
     have:d+dpS (zO t.kind) t≤20:=H
     have:d+dpS (zA D.kind) D≤20:=k3
     omega
    obtain⟨V,X,O,N,E,Q⟩:=I _ _ _ _ hd j A (.two 8 D t) (by rw[TrOk.two];exact⟨.inr (.inr rfl),U,L⟩) (zic k2 J) hm (by simp;omega)
    exact⟨V,X,O,N,(Sm5.adv _).trans (K.trans ⟨E.rq,E.im,E.ep,E.st,E.la⟩),Q⟩
   ·cases h
    exact⟨D,U,k2,k3,Sm5.refl _,k4⟩
  |part=>
   rw[ev] at h
   split at h
   ·next Y=>
    have hl:=zeJ Y (by decide)
    have hg:=zgF hC hl
    rw[beq_iff_eq] at Y
    refine zgH hd ((zfI h ?_).from rfl (Sm5.adv _))
    generalize hT:zbE (zf C q.pos)=T at hg
    have o:T.kind=2:=by rw[←hT];exact Y
    have j:T.num=(zf C q.pos).num:=by rw[←hT];rfl
    rw[←j]
    cases hg using GoodT.elim with
    |name _ _ _=>cases o
    |num k0 U=>exact .num k0 U
    |str _ _=>cases o
    |sign _ _=>cases o
   ·split at h
    ·split at h
     ·cases h
     ·obtain⟨a,o,j⟩:=ze h
      obtain⟨t,L,J,H,K,M⟩:=I _ _ _ _ (by omega) o
      obtain⟨rfl,_⟩:=zbh j
      refine⟨t,L,J,?_,(Sm5.adv _).trans (K.trans (Sm5.adv _)),M⟩
      have h3:=zpe (zO t.kind) t
      have Z:d+1+t.dp≤20:=H
      show d+dpS _ _≤20
      omega
    ·split at h
     ·next hs=>
      rw[Bool.and_eq_true] at hs
      exact zgH hd ((zkp h (.inr ⟨hs.1,rfl⟩)).from rfl (Sm5.adv _))
     ·obtain⟨y,o,j⟩:=ze h
      obtain⟨rfl,hp⟩:=zaX o
      simp only at j
      split at j
      ·obtain⟨z,h3,Z⟩:=ze j
       obtain⟨rfl,aa⟩:=zaX h3
       exact zgH hd ((zpi Z (zib hC hp) (zko hC aa)).from rfl ((Sm5.adv _).trans ((Sm5.adv _).trans (Sm5.adv _))))
      ·exact zgH hd ((zkp j (.inl (zib hC hp))).from rfl (Sm5.adv _))
theorem zkq {C:Cx} (o:zb2 C) {q q':PS} (h:pE C .sum 0 q= .ok q'): ∃t,TrOk C.scr t∧q'.ex=q.ex++t.flat q.ex.length∧t.dp≤20∧Sm5 q q'∧q'.ex.length≤300:=by
 obtain⟨t,D,z,j,E⟩:=zpj o _ .sum 0 q q' (by omega) h
 exact⟨t,D,z,by rw[Nat.zero_add] at j;exact j,E⟩
def zi (x:ByteArray):Tn:=⟨4,x,0⟩
def zl (x:ByteArray):Tn:=⟨1,x,0⟩
def zbi (x:Ex):List Pc:=
 if x.kind==1 then [.inl ⟨2,sNone,x.num⟩]
 else if x.kind==2 then [.inl (zl x.name)]
 else if x.kind==3 then [.inl (zl x.name),.inl (zi cOpen),.inl (zi zU)]
 else if x.kind==4 then [.inl (zl x.name),.inl (zi cPoint),.inl (zl x.field)]
 else [.inl (zl x.name),.inl (zi cPoint),.inl (zl x.field),.inl (zi cOpen),.inl (zi zU)]
def zaG (b:Bool) (l:List Pc):List Pc:=if b then .inl (zi cOpen)::(l++[.inl (zi zU)]) else l
def opP (k:Int):ByteArray:=if k==8 then zp else if k==7 then zaI else zbq
def Tr.pcs:Tr→List Pc:=Tr.para zbi fun k l r a b=>zaG (k==8&&zA l.kind) a++(.inr sp1:: .inl (zi (opP k)):: .inr sp1::zaG (if k==8 then zO r.kind else zA r.kind) b)
theorem Tr.pcs_leaf (x:Ex):(Tr.leaf x).pcs=zbi x:=rfl
theorem Tr.pcs_two (k:Int) (l r:Tr):(Tr.two k l r).pcs=zaG (k==8&&zA l.kind) l.pcs++(.inr sp1:: .inl (zi (opP k)):: .inr sp1::zaG (if k==8 then zO r.kind else zA r.kind) r.pcs):=Tr.para_two ..
def Rem (C:Cx) (p:Nat) (l:List Tn):Prop:=(C.ts.drop p).map zbE=l
theorem Rem.next {C:Cx} {p:Nat} {t:Tn} {l:List Tn} (h:Rem C p (t::l)):zbE (zf C p)=t∧Rem C (p+1) l∧p<C.ts.length:=by
 unfold Rem at h
 have j:p<C.ts.length:=by
  rcases Nat.lt_or_ge p C.ts.length with k|k
  ·exact k
  ·rw[List.drop_eq_nil_of_le k] at h;cases h
 rw[List.drop_eq_getElem_cons j,List.map_cons] at h
 injection h with h1 h2
 refine⟨?_,h2,j⟩
 rw[←h1]
 unfold zf
 simp only[List.getD]
 rw[List.getElem?_eq_getElem j]
 rfl
theorem Rem.none {C:Cx} {p:Nat} (h:Rem C p []):C.ts.length≤p:=by
 unfold Rem at h
 have:=congrArg List.length h
 rw[List.length_map,List.length_drop,List.length_nil] at this
 omega
def hd (l:List Tn) (k:Int) (x:ByteArray):Bool:=match l with
 |[]=>false
 |t::_=>t.kind==k&&t.text.toList==x.toList
theorem Rem.is {C:Cx} {p:Nat} {l:List Tn} (h:Rem C p l) {k:Int} (j:k≠0) (x:ByteArray):isT C p k x=hd l k x:=by
 cases l with
 |nil=>
  cases o:isT C p k x with
  |false=>rfl
  |true=>have:=za1 o j;have:=h.none;omega
 |cons t l=>
  obtain⟨z,_⟩:=h.next
  unfold isT hd
  rw[←z]
  rfl
theorem Rem.app {C:Cx} {a:List Tn}: ∀{p:Nat} {l:List Tn},Rem C p (a++l)→Rem C (p+a.length) l:=by
 induction a with
 |nil=>intro p l h;exact h
 |cons t a j=>
  intro p l h
  have:=j h.next.2.1
  rw[List.length_cons,show p+(a.length+1)=p+1+a.length from by omega]
  exact this
theorem Rem.kind {C:Cx} {p:Nat} {t:Tn} {l:List Tn} (h:Rem C p (t::l)):(zf C p).kind=t.kind∧(zf C p).text=t.text∧(zf C p).num=t.num:=by
 rw[←h.next.1]
 exact⟨rfl,rfl,rfl⟩
theorem zes {C:Cx} {t:Tn} {l:List Tn} {q:PS} {k:Int} {x:ByteArray} (h:Rem C q.pos (t::l)) (j:k≠0) (o:hd (t::l) k x=true):zd C k x q= .ok (adv q):=by
 unfold zd
 rw[if_pos (by rw[h.is j];exact o)]
theorem zkr (k:Int) (x:ByteArray) (n:Int) (l:List Tn):hd (⟨k,x,n⟩::l) k x=true:=by simp[hd]
theorem zcf (x:ByteArray) (l:List Tn):hd (zi x::l) 4 x=true:=zkr 4 x 0 l
theorem zks (x:ByteArray) (l:List Tn):hd (zl x::l) 1 x=true:=zkr 1 x 0 l
theorem zfK {t:Tn} {l:List Tn} {k:Int} {x:ByteArray} (h:t.kind≠k):hd (t::l) k x=false:=by
 unfold hd
 simp only
 rw[beq_eq_false_iff_ne.2 h]
 rfl
theorem zdP {C:Cx} {x:ByteArray} {l:List Tn} {p:Nat} (h:Rem C p (zl x::l)) (j:NameG C.scr x) (o:Bool):plainB C p o=true:=by
 obtain⟨D,z,_⟩:=h.kind
 unfold plainB
 rw[D,z,show (zl x).text=x from rfl,j.2]
 rfl
theorem zfL {C:Cx} {x:ByteArray} {l:List Tn} {p:Nat} (h:Rem C p (zl x::l)) (j:FieldG C.scr x):plainB C p true=true:=by
 obtain⟨z,o,_⟩:=h.kind
 unfold plainB
 rw[z,o,show (zl x).text=x from rfl]
 rcases j.2 with k|k
 ·rw[k];rfl
 ·rw[k];simp[zl]
theorem zcH {C:Cx} {x:ByteArray} {l:List Tn} {q:PS} {o:Bool} (h:Rem C q.pos (zl x::l)) (j:plainB C q.pos o=true):zk C o q= .ok (adv q,x):=by
 unfold zk
 rw[if_pos j,h.kind.2.1]
 rfl
def zet (l:List Tn):Prop:=hd l 4 cOpen=false∧hd l 4 cPoint=false
def aft (q:PS) (n:Nat) (t:Tr):PS:={q with pos:=q.pos+n,ex:=q.ex++t.flat q.ex.length}
theorem zeu {C:Cx} {x:Ex} {q:PS} (h:q.ex.length<300):zJ C x q= .ok {q with ex:=q.ex++[x]}:=by unfold zJ;rw[if_neg (by omega)]
theorem zpk (scr:Bool):zr sUndef scr=scr:=by
 have e:sUndef.toList=[117,110,100,101,102]:=by rw[Lib.toList_data]
 unfold zr
 rw[e]
 cases scr<;>rfl
theorem zpl {x:ByteArray} {scr:Bool} (j:zr x scr=false) (o:scr=true):(x.toList==sUndef.toList)=false:=by
 cases h:x.toList==sUndef.toList with
 |false=>rfl
 |true=>
  have:=(zeF _ _).1 h
  rw[this,zpk,o] at j
  cases j
theorem zpm {C:Cx} {x:ByteArray} {l:List Tn} {q:PS} (h:Rem C q.pos l) (j:zet l) (o:q.ex.length<300):zau C x q= .ok {q with ex:=q.ex++[⟨2,0,x,sNone,0,0⟩]}:=by
 unfold zau
 rw[if_neg (by rw[h.is (by decide),j.1];decide),zeu o]
theorem zpn {C:Cx} {x:ByteArray} {l:List Tn} {q:PS} (h:Rem C q.pos (zi cOpen::zi zU::l)) (j:q.ex.length<300):zau C x q= .ok {q with pos:=q.pos+2,ex:=q.ex++[⟨3,0,x,sNone,0,0⟩]}:=by
 unfold zau
 rw[if_pos (by rw[h.is (by decide)];exact zcf _ _),zes h (by decide) (zcf _ _),zh,zes (q:=adv q) h.next.2.1 (by decide) (zcf _ _),zh]
 exact zeu j
theorem zpo {C:Cx} {x f:ByteArray} {l:List Tn} {q:PS} (h:Rem C q.pos l) (j:zet l) (o:q.ex.length<300):za5 C x f q= .ok {q with ex:=q.ex++[⟨4,0,x,f,0,0⟩]}:=by
 unfold za5
 rw[if_neg (by rw[h.is (by decide),j.1];decide),zeu o]
theorem zpp {C:Cx} {x f:ByteArray} {l:List Tn} {q:PS} (h:Rem C q.pos (zi cOpen::zi zU::l)) (j:q.ex.length<300):za5 C x f q= .ok {q with pos:=q.pos+2,ex:=q.ex++[⟨5,0,x,f,0,0⟩]}:=by
 unfold za5
 rw[if_pos (by rw[h.is (by decide)];exact zcf _ _),zes h (by decide) (zcf _ _),zh,zes (q:=adv q) h.next.2.1 (by decide) (zcf _ _),zh]
 exact zeu j
theorem zpq:cOpen.toList≠cPoint.toList:=by rw[Lib.toList_data,Lib.toList_data];decide
theorem zpr (l:List Tn):hd (zi cOpen::l) 4 cPoint=false:=by
 unfold hd zi
 simp only[beq_self_eq_true,Bool.true_and]
 exact beq_eq_false_iff_ne.2 zpq
theorem zkt {C:Cx} {x:ByteArray} {l:List Tn} {q:PS} {d:Nat} (h:Rem C q.pos (zl x::l)):
  pE C .part d q=if C.scr&&isT C q.pos 1 sUndef then zau C sUndef (adv q)
   else bd (zk C false q) fun y=>if isT C y.1.pos 4 cPoint then bd (zk C true (adv y.1)) fun z=>za5 C y.2 z.2 z.1 else zau C y.2 y.1:=by
 rw[zby,if_neg (by rw[h.kind.1];exact (by decide: ¬(((1:Int)==2)=true))),if_neg (by rw[h.is (by decide),zfK (show (1:Int)≠4 by decide)];decide)]
theorem zid {C:Cx} {x:ByteArray} {l:List Tn} {q:PS} {d:Nat} (h:Rem C q.pos (zl x::l)) (j:NameG C.scr x):
  pE C .part d q=if hd l 4 cPoint then bd (zk C true (adv (adv q))) fun z=>za5 C x z.2 z.1 else zau C x (adv q):=by
 rw[zkt h]
 have D:(C.scr&&isT C q.pos 1 sUndef)=false:=by
  cases o:C.scr with
  |false=>rfl
  |true=>
   rw[h.is (by decide)]
   unfold hd
   simp only[zl,zpl j.2 o,Bool.and_false]
 rw[D,if_neg (by decide),zcH h (zdP h j false),zh]
 simp only
 rw[show (adv q).pos=q.pos+1 from rfl,h.next.2.1.is (by decide)]
theorem zku {C:Cx} {x:ByteArray} {l:List Tn} {q:PS} {d:Nat} (h:Rem C q.pos (zl x::l)) (j:zdO C.scr x) (z:hd l 4 cPoint=false):pE C .part d q=zau C x (adv q):=by
 rcases j with j|⟨o,rfl⟩
 ·rw[zid h j,if_neg (by rw[z];decide)]
 ·rw[zkt h,if_pos (by rw[o,h.is (by decide),zks];rfl)]
theorem zkv {C:Cx} {x:Ex} {l:List Tn} {q:PS} {d:Nat} (I:LeafOk C.scr x) (h:Rem C q.pos (zg (zbi x)++l)) (H:zet l) (D:q.ex.length<300):pE C .part d q= .ok (aft q (zg (zbi x)).length (.leaf x)):=by
 cases I using LeafOk.elim with
 | @num n K J=>
  have j:Rem C q.pos (⟨2,sNone,n⟩::l):=h
  rw[zby,if_pos (by rw[j.kind.1];rfl),j.kind.2.2]
  exact zeu D
 | @name y o=>
  have j:Rem C q.pos (zl y::l):=h
  rw[zku j o H.2]
  exact zpm (q:=adv q) j.next.2.1 H D
 | @call y o=>
  have j:Rem C q.pos (zl y::zi cOpen::zi zU::l):=h
  rw[zku j o (zpr _),zpn (q:=adv q) j.next.2.1 D]
  rfl
 | @mem y f o E=>
  have j:Rem C q.pos (zl y::zi cPoint::zl f::l):=h
  have z:=j.next.2.1.next.2.1
  rw[zid j o,if_pos (zcf _ _),zcH (q:=adv (adv q)) z (zfL z E),zh]
  simp only
  rw[zpo (q:=adv (adv (adv q))) z.next.2.1 H D]
  rfl
 | @memCall y f o E=>
  have j:Rem C q.pos (zl y::zi cPoint::zl f::zi cOpen::zi zU::l):=h
  have z:=j.next.2.1.next.2.1
  rw[zid j o,if_pos (zcf _ _),zcH (q:=adv (adv q)) z (zfL z E),zh]
  simp only
  rw[zpp (q:=adv (adv (adv q))) z.next.2.1 D]
  rfl
theorem zkw {C:Cx} {l:List Tn} {q:PS} {d:Nat} (h:Rem C q.pos l) (o:hd l 4 zbq=false) (j:hd l 4 zaI=false):pE C .sumT d q= .ok q:=by
 rw[zee,if_neg (by rw[h.is (by decide),h.is (by decide),o,j];decide)]
theorem zie {C:Cx} {l:List Tn} {q:PS} {d:Nat} (h:Rem C q.pos l) (j:hd l 4 zp=false):pE C .prodT d q= .ok q:=by
 rw[zeK,if_neg (by rw[h.is (by decide),j];decide)]
theorem zcq {x y:ByteArray} (h:x.data.toList≠y.data.toList) (l:List Tn):hd (zi x::l) 4 y=false:=by
 unfold hd zi
 simp only[beq_self_eq_true,Bool.true_and]
 refine beq_eq_false_iff_ne.2 fun e=>h ?_
 rw[←Lib.toList_data,←Lib.toList_data]
 exact e
def zgI (C:Cx) (t:Tr):Prop:=∀(d:Nat) (q:PS) (l:List Tn),d+t.dp≤20→Rem C q.pos (zg t.pcs++l)→zet l→hd l 4 zp=false→q.ex.length+t.size≤300→pE C .sum d q=pE C .sumT d (aft q (zg t.pcs).length t)
def zgJ (C:Cx) (t:Tr):Prop:=∀(d:Nat) (q:PS) (l:List Tn),d+t.dp≤20→Rem C q.pos (zg t.pcs++l)→zet l→q.ex.length+t.size≤300→pE C .prod d q=pE C .prodT d (aft q (zg t.pcs).length t)
theorem zkx (b:Bool) (l:List Pc):zg (zaG b l)=if b then zi cOpen::(zg l++[zi zU]) else zg l:=by
 unfold zaG
 split
 ·simp only[zg,zba]
 ·rfl
theorem zif {C:Cx} {t:Tr} (H:zgI C t) {l:List Tn} {q:PS} {d:Nat} (j:d+1+t.dp≤20) (h:Rem C q.pos (zg (zaG true t.pcs)++l)) (E:q.ex.length+t.size≤300):pE C .part d q= .ok (aft q (zg (zaG true t.pcs)).length t):=by
 rw[zkx,if_pos rfl] at h ⊢
 have o:Rem C q.pos (zi cOpen::(zg t.pcs++(zi zU::l))):=by simpa using h
 rw[zby,if_neg (by rw[o.kind.1];decide),if_pos (by rw[o.is (by decide)];exact zcf _ _),if_neg (by omega)]
 have D:=o.next.2.1
 have z:=D.app
 rw[H (d+1) (adv q) _ j D ⟨zcq (by decide) _,zcq (by decide) _⟩ (zcq (by decide) _) E,zkw (q:=aft (adv q) _ t) z (zcq (by decide) _) (zcq (by decide) _),zh,zes (q:=aft (adv q) _ t) z (by decide) (zcf _ _)]
 simp only[List.length_cons,List.length_append,List.length_nil,aft,adv]
 congr 2
 omega
theorem zps {C:Cx} {t:Tr} (o:TrOk C.scr t) (H:zgI C t) {l:List Tn} {q:PS} {d:Nat} {b:Bool} (E:b=false→zO t.kind=false) (j:d+dpS b t≤20) (h:Rem C q.pos (zg (zaG b t.pcs)++l)) (I:zet l) (z:q.ex.length+t.size≤300):
  pE C .part d q= .ok (aft q (zg (zaG b t.pcs)).length t):=by
 cases b with
 |true=>exact zif H (by unfold dpS at j;simp at j;omega) h z
 |false=>
  have D:=E rfl
  cases t using Tr.elim with
  |leaf x=>exact zkv o h I (by simp only[Tr.size_leaf] at z;omega)
  |two k a c=>
   rw[TrOk.two] at o
   rw[Tr.kind_two] at D
   obtain⟨rfl|rfl|rfl,_⟩:=o<;>cases D
theorem zky (q:PS) (n m:Nat) (k:Int) (a c:Tr):
  ({aft (adv (aft q n a)) m c with ex:=(aft (adv (aft q n a)) m c).ex++[⟨k,0,sNone,sNone,((aft q n a).ex.length:Int)-1,((aft (adv (aft q n a)) m c).ex.length:Int)-1⟩]}:PS)=aft q (n+1+m) (.two k a c):=by
 have j:=zic (A:=q.ex) (t0:=a) (t1:=c) (k:=k) (q:=aft q n a) (q1:=aft (adv (aft q n a)) m c) rfl rfl
 rw[j]
 simp only[aft,adv]
 congr 1
 omega
theorem zig (k:Int) (a c:Tr):zg (Tr.two k a c).pcs=zg (zaG (k==8&&zA a.kind) a.pcs)++(zi (opP k)::zg (zaG (if k==8 then zO c.kind else zA c.kind) c.pcs)):=by
 rw[Tr.pcs_two,zba]
 rfl
theorem zih (q:PS) (n:Nat) (t:Tr):(aft q n t).ex.length=q.ex.length+t.size:=by simp only[aft,List.length_append,Tr.flat_len]
theorem zgK (q:PS) (n:Nat) (t:Tr):(adv (aft q n t)).ex.length=q.ex.length+t.size:=zih q n t
theorem zkz {k:Int} (l:List Tn):zet (zi (opP k)::l):=by
 unfold opP
 split
 ·exact⟨zcq (by decide) _,zcq (by decide) _⟩
 ·split
  ·exact⟨zcq (by decide) _,zcq (by decide) _⟩
  ·exact⟨zcq (by decide) _,zcq (by decide) _⟩
theorem zpt {C:Cx} (t:Tr):TrOk C.scr t→zgI C t∧(zA t.kind=false→zgJ C t):=by
 have D: ∀t,zgJ C t→zgI C t:=fun t L d q l V j Q h4 O=>by
  rw[zh9,L d q l V j Q O,zie (q:=aft q _ t) j.app h4,zh]
 induction t using Tr.ind with
 |leaf x=>
  intro J
  have L:zgJ C (.leaf x):=fun d q l V j Q O=>by
   rw[zf4,zkv (d:=d) J j Q (by simp only[Tr.size_leaf] at O;omega),zh]
   rfl
  exact⟨D _ L,fun _=>L⟩
 |two k a c ab aa=>
  intro J
  rw[TrOk.two] at J
  obtain⟨hk,ha,hc⟩:=J
  obtain⟨sa,pa⟩:=ab ha
  obtain⟨sc,pc⟩:=aa hc
  by_cases k8:k=8
  ·subst k8
   have L:zgJ C (.two 8 a c):=fun d q l V j Q O=>by
    rw[zkm] at V
    rw[zig] at j ⊢
    simp only[show ((8:Int)==8)=true from rfl,Bool.true_and,if_true] at j ⊢
    rw[List.append_assoc,List.cons_append] at j
    simp only[Tr.size_two] at O
    have U:=j.app
    have z:d+dpS (zA a.kind) a≤20:=by omega
    have o:d+dpS (zO c.kind) c≤20:=by omega
    have X:pE C .prod d q=pE C .prodT d (aft q (zg (zaG (zA a.kind) a.pcs)).length a):=by
     cases H:zA a.kind with
     |true=>
      rw[H] at j z
      rw[zf4,zif sa (by unfold dpS at z;simp at z;omega) j (by omega),zh]
     |false=>
      rw[H] at j z
      exact pa H d q _ (by unfold dpS at z;simp at z;omega) j (zkz _) (by omega)
    have K:Rem C (adv (aft q (zg (zaG (zA a.kind) a.pcs)).length a)).pos (zg (zaG (zO c.kind) c.pcs)++l):=U.next.2.1
    have N:=zps hc sc (q:=adv (aft q (zg (zaG (zA a.kind) a.pcs)).length a)) (fun h=>h) o K Q (by rw[zgK];omega)
    rw[X,zeK,if_pos (by rw[show (aft q (zg (zaG (zA a.kind) a.pcs)).length a).pos=q.pos+(zg (zaG (zA a.kind) a.pcs)).length from rfl,U.is (by decide)];exact zcf _ _),N,zh,zeu (by rw[zih,zgK];omega),zh,zky]
    rw[List.length_append,List.length_cons,Nat.add_assoc,Nat.add_comm 1]
   exact⟨D _ L,fun _=>L⟩
  ·have I:k=6∨k=7:=by omega
   have ac:(k==8)=false:=beq_eq_false_iff_ne.2 k8
   refine⟨fun d q l V j Q h4 O=>?_,fun H=>by rw[Tr.kind_two] at H;rcases I with rfl|rfl<;>cases H⟩
   rw[zkl I] at V
   rw[zig] at j ⊢
   simp only[ac,Bool.false_and,Bool.false_eq_true,if_false] at j ⊢
   rw[List.append_assoc,List.cons_append] at j
   simp only[Tr.size_two] at O
   have e0:zaG false a.pcs=a.pcs:=rfl
   rw[e0] at j ⊢
   have U:=j.app
   have o:d+dpS (zA c.kind) c≤20:=by omega
   have M:hd (zi (opP k)::(zg (zaG (zA c.kind) c.pcs)++l)) 4 zp=false:=by rcases I with rfl|rfl<;>exact zcq (by decide) _
   have K:Rem C (adv (aft q (zg a.pcs).length a)).pos (zg (zaG (zA c.kind) c.pcs)++l):=U.next.2.1
   have Y:=K.app
   have N:pE C .prod d (adv (aft q (zg a.pcs).length a))= .ok (aft (adv (aft q (zg a.pcs).length a)) (zg (zaG (zA c.kind) c.pcs)).length c):=by
    have E:(adv (aft q (zg a.pcs).length a)).ex.length+c.size≤300:=by rw[zgK];omega
    cases H:zA c.kind with
    |true=>
     rw[H] at K Y o
     rw[zf4,zif sc (by unfold dpS at o;simp at o;omega) K E,zh]
     exact zie (q:=aft _ _ c) Y h4
    |false=>
     rw[H] at K Y o
     have e1:zaG false c.pcs=c.pcs:=rfl
     rw[e1] at K Y ⊢
     rw[pc H d _ l (by unfold dpS at o;simp at o;omega) K Q E]
     exact zie (q:=aft _ _ c) Y h4
   have Z:(isT C (aft q (zg a.pcs).length a).pos 4 zbq||isT C (aft q (zg a.pcs).length a).pos 4 zaI)=true∧zbw C (aft q (zg a.pcs).length a).pos=k:=by
    unfold zbw
    rw[show (aft q (zg a.pcs).length a).pos=q.pos+(zg a.pcs).length from rfl,U.is (by decide),U.is (by decide)]
    rcases I with rfl|rfl
    ·exact⟨by rw[show opP 6=zbq from rfl,zcf];rfl,by rw[show opP 6=zbq from rfl,zcq (by decide)];rfl⟩
    ·exact⟨by rw[show opP 7=zaI from rfl,zcf];simp,by rw[show opP 7=zaI from rfl,zcf];rfl⟩
   rw[sa d q _ (by omega) j (zkz _) M (by omega),zee,if_pos Z.1,Z.2,N,zh,zeu (by rw[zih,zgK];omega),zh,zky]
   rw[List.length_append,List.length_cons,Nat.add_assoc,Nat.add_comm 1]
theorem zgL {C:Cx} {t:Tr} {x:ByteArray} {l:List Tn} {q:PS} (o:TrOk C.scr t) (z:t.dp≤20) (H:x=cSemi∨x=zU) (h:Rem C q.pos (zg t.pcs++zi x::l)) (D:q.ex.length+t.size≤300):pE C .sum 0 q= .ok (aft q (zg t.pcs).length t):=by
 have j: ∀y,y=cOpen∨y=cPoint∨y=zp∨y=zbq∨y=zaI→hd (zi x::l) 4 y=false:=by
  intro y E
  rcases H with rfl|rfl<;>rcases E with rfl|rfl|rfl|rfl|rfl<;>exact zcq (by decide) _
 rw[(zpt t o).1 0 q _ (by omega) h ⟨j _ (by simp),j _ (by simp)⟩ (j _ (by simp)) D]
 exact zkw (q:=aft q _ t) h.app (j _ (by simp)) (j _ (by simp))
def er {α:Type} (x:Except Nat α):Option α:=match x with
 | .ok a=>some a
 | .error _=>none
theorem zap {α β:Type} (x:Except Nat α) (f:α→Except Nat β):er (bd x f)=(er x).bind fun a=>er (f a):=by cases x<;>rfl
theorem zpu {α:Type} {x:Except Nat α} {a:α}:er x=some a↔x= .ok a:=by
 cases x with
 |ok b=>simp[er]
 |error e=>simp[er]
structure SameC (C D:Cx):Prop where
 ts:C.ts.map zbE=D.ts.map zbE
 scr:C.scr=D.scr
theorem SameC.len {C D:Cx} (h:SameC C D):C.ts.length=D.ts.length:=by
 have:=congrArg List.length h.ts
 simpa using this
theorem SameC.tok {C D:Cx} (h:SameC C D) (i:Nat):(zf C i).kind=(zf D i).kind∧(zf C i).text=(zf D i).text∧(zf C i).num=(zf D i).num:=by
 have j:=h.len
 rcases Nat.lt_or_ge i C.ts.length with k|k
 ·have e:=congrArg (fun l=>l[i]?) h.ts
  simp only[List.getElem?_map,List.getElem?_eq_getElem k,List.getElem?_eq_getElem (j▸k),Option.map_some,Option.some.injEq] at e
  unfold zf
  simp only[List.getD,List.getElem?_eq_getElem k,List.getElem?_eq_getElem (j▸k),Option.getD_some]
  exact⟨congrArg Tn.kind e,congrArg Tn.text e,congrArg Tn.num e⟩
 ·rw[zcT k,zcT (by omega)]
  exact⟨rfl,rfl,rfl⟩
theorem SameC.isT {C D:Cx} (h:SameC C D) (i:Nat) (k:Int) (x:ByteArray):isT C i k x=isT D i k x:=by
 unfold Go.Proofs.YthfeoomfiafldaaGreat.isT
 rw[(h.tok i).1,(h.tok i).2.1]
theorem SameC.plainB {C D:Cx} (h:SameC C D) (i:Nat) (o:Bool):plainB C i o=plainB D i o:=by
 unfold Go.Proofs.YthfeoomfiafldaaGreat.plainB
 rw[(h.tok i).1,(h.tok i).2.1,h.scr]
theorem zbF {C D:Cx} (h:SameC C D) (k:Int) (x:ByteArray) (q:PS):er (zd C k x q)=er (zd D k x q):=by
 unfold zd
 rw[h.isT]
 split<;>rfl
theorem zd3 {C D:Cx} (h:SameC C D) (o:Bool) (q:PS):er (zk C o q)=er (zk D o q):=by
 unfold zk
 rw[h.plainB,(h.tok _).2.1]
 split<;>rfl
theorem zk0 {C D:Cx} (h:SameC C D) (q:PS):er (zy C q)=er (zy D q):=by
 unfold zy
 rw[(h.tok _).1,(h.tok _).2.1]
 split
 ·split
  ·rfl
  ·split<;>rfl
 ·rfl
theorem zii (C D:Cx) (x:Im) (q:PS):er (zX C x q)=er (zX D x q):=by unfold zX;split<;>rfl
theorem zfc (C D:Cx) (x:Ep) (q:PS):er (zm C x q)=er (zm D x q):=by
 unfold zm
 split
 ·rfl
 ·split<;>rfl
theorem zev (C D:Cx) (k:Int) (n:ByteArray) (q:PS):er (zE C k n q)=er (zE D k n q):=by unfold zE;split<;>rfl
theorem zew (C D:Cx) (x:Ex) (q:PS):er (zJ C x q)=er (zJ D x q):=by unfold zJ;split<;>rfl
theorem zk1 {C D:Cx} (h:SameC C D) (n:ByteArray) (q:PS):er (zau C n q)=er (zau D n q):=by
 unfold zau
 rw[h.isT]
 split
 ·simp only[zap,zbF h,zew C D]
 ·exact zew C D _ _
theorem zpv {C D:Cx} (h:SameC C D) (n f:ByteArray) (q:PS):er (za5 C n f q)=er (za5 D n f q):=by
 unfold za5
 rw[h.isT]
 split
 ·simp only[zap,zbF h,zew C D]
 ·exact zew C D _ _
theorem zpw {C D:Cx} (h:SameC C D) (f:Nat): ∀j d q,er (ev C f j d q)=er (ev D f j d q):=by
 induction f with
 |zero=>intro j d q;cases j<;>rfl
 |succ f o=>
  intro j d q
  cases j using NT.elim with
  |sum=>simp only[ev,zap,o]
  |prod=>simp only[ev,zap,o]
  |sumT=>
   have z:zbw C q.pos=zbw D q.pos:=by unfold zbw;rw[h.isT]
   simp only[ev,h.isT]
   split
   ·simp only[zap,o,zew C D,z]
   ·rfl
  |prodT=>
   simp only[ev,h.isT]
   split
   ·simp only[zap,o,zew C D]
   ·rfl
  |part=>
   simp only[ev,h.isT,(h.tok _).1,(h.tok _).2.2,h.scr]
   split
   ·exact zew C D _ _
   ·split
    ·split
     ·rfl
     ·simp only[zap,o,zbF h]
    ·split
     ·exact zk1 h _ _
     ·simp only[zap,zd3 h]
      congr 1
      funext x
      split
      ·simp only[zap,zd3 h,zpv h]
      ·exact zk1 h _ _
theorem zex {C D:Cx} (h:SameC C D) (j:NT) (d:Nat) (q:PS):er (pE C j d q)=er (pE D j d q):=by
 unfold pE nd
 rw[h.len]
 exact zpw h ..
theorem zpx {C D:Cx} (h:SameC C D) (j:Bool) (a:PS×ByteArray):er (asP C j a)=er (asP D j a):=by
 unfold asP
 rw[h.isT]
 split
 ·exact zd3 h _ _
 ·split<;>rfl
theorem zpy {C D:Cx} (h:SameC C D) (j:Bool) (f:Nat): ∀q acc,er (zbK C j f q acc)=er (zbK D j f q acc):=by
 induction f with
 |zero=>intro q acc;rfl
 |succ f o=>
  intro q acc
  simp only[zbK,zap,zd3 h,zpx h,h.isT]
  congr 1
  funext a
  congr 1
  funext b
  split
  ·exact o _ _
  ·simp only[zap,zbF h]
theorem zk2 {C D:Cx} (h:SameC C D) (j:Bool) (q:PS):er (zbB C j q)=er (zbB D j q):=by
 unfold zbB zay
 simp only[zap,zbF h,h.len,zpy h]
theorem zfM {C D:Cx} (h:SameC C D) {x y:PR} (j:er x=er y):er (zaD C (zav C x))=er (zaD D (zav D y)):=by
 unfold zaD zav
 simp only[zap,j,zbF h,zk0 h]
theorem zij {α:Type} {f g:α→PS→PR} (z: ∀a q,er (f a q)=er (g a q)) (l:List α): ∀x y,er x=er y→er (zK f l x)=er (zK g l y):=by
 induction l with
 |nil=>intro x y j;exact j
 |cons a l o=>
  intro x y j
  refine o _ _ ?_
  simp only[zap,j,z]
theorem zpz {C D:Cx} (h:SameC C D) (q:PS):er (za3 C q)=er (za3 D q):=by
 unfold za3
 simp only[zap,zbF h]
 congr 1
 funext q1
 rw[h.isT,h.isT,h.plainB]
 split
 ·simp only[zap,zk2 h]
  congr 1
  funext a
  rw[zfM h rfl]
  congr 1
  funext b
  exact zij (fun a q=>zii C D _ _) _ _ _ rfl
 ·split
  ·simp only[zap,zbF h,zd3 h]
   congr 1
   funext a
   rw[zfM h rfl]
   congr 1
   funext b
   exact zii C D _ _
  ·split
   ·simp only[zap,zd3 h]
    congr 1
    funext a
    rw[zfM h rfl]
    congr 1
    funext b
    exact zii C D _ _
   ·simp only[zap,zk0 h,zbF h]
theorem zk3 {C D:Cx} (h:SameC C D) (q:PS):er (zbA C q)=er (zbA D q):=by
 unfold zbA withN
 simp only[zap,zbF h,zd3 h,zex h,zev C D]
theorem zk4 {C D:Cx} (h:SameC C D) (q:PS):er (fnP C q)=er (fnP D q):=by
 unfold fnP withN
 simp only[zap,zbF h,zd3 h,zex h,zev C D]
theorem zp0 {C D:Cx} (h:SameC C D) (q:PS):er (zV C q)=er (zV D q):=by
 unfold zV
 simp only[zap,zbF h]
 congr 1
 funext q1
 rw[h.isT,h.isT,h.isT,h.isT,h.isT]
 split
 ·simp only[zap,zk2 h]
  congr 1
  funext a
  rw[h.isT]
  split
  ·simp only[zap,zbF h]
   congr 1
   funext b
   exact zij (fun a q=>zfc C D _ _) _ _ _ rfl
  ·rw[zap,zap,zfM h rfl]
   congr 1
   funext b
   exact zij (fun a q=>zfc C D _ _) _ _ _ rfl
 ·split
  ·rw[zap,zap,zfM h (zbF h 4 zp q1)]
   congr 1
   funext b
   exact zfc C D _ _
  ·split
   ·simp only[zap,zbF h,zex h,zev C D,zfc C D]
   ·split
    ·simp only[zap,zk3 h,zfc C D]
    ·split
     ·simp only[zap,zk4 h,zfc C D]
     ·rfl
theorem zp1 {C D:Cx} (h:SameC C D) (q:PS):er (zo C q)=er (zo D q):=by
 unfold zo za7
 rw[h.scr]
 simp only[h.isT]
 split
 ·exact zpz h q
 ·split
  ·exact zp0 h q
  ·split
   ·simp only[zap,zk3 h]
   ·split
    ·simp only[zap,zk4 h]
    ·split
     ·simp only[zap,zbF h,zex h,zev C D]
     ·split
      ·simp only[zap,zbF h,zex h,zev C D]
      ·split
       ·simp only[zap,zbF h,zex h,zev C D]
       ·simp only[zap,zbF h,zd3 h,zex h,zev C D]
theorem zp2 {C D:Cx} (h:SameC C D) (f:Nat): ∀q,er (zbL C f q)=er (zbL D f q):=by
 induction f with
 |zero=>intro q;rfl
 |succ f j=>
  intro q
  simp only[zbL,h.len]
  split
  ·simp only[zap,zp1 h,j]
  ·rfl
theorem zp3 {s t:ByteArray} {scr:Bool} {j o:List Tk} {q:PS} (J:zY s scr (.ok j)) (H:zY t scr (.ok o)) (K:o.map zbE=j.map zbE) (h:za8 s scr (.ok q)):za8 t scr (.ok q):=by
 obtain⟨r,I,e⟩:=h
 obtain rfl:=zh5 I J
 refine⟨.ok o,H,?_⟩
 have D:SameC ⟨j,s.size,scr⟩ ⟨o,t.size,scr⟩:=⟨K.symm,rfl⟩
 have:=zp2 D (j.length-startP.pos+1) startP
 have z:zM ⟨j,s.size,scr⟩ startP= .ok q:=e.symm
 unfold zM at z
 rw[z] at this
 have E:=zpu.1 this.symm
 show Except.ok q=zM ⟨o,t.size,scr⟩ startP
 unfold zM
 rw[←D.len]
 exact E.symm
def zaL (s:ByteArray):ByteArray:=({data:=#[34]}:ByteArray)++s++({data:=#[34]}:ByteArray)
def asT (a b:ByteArray):ByteArray:=if a.toList==b.toList then a else a++({data:=#[32,97,115,32]}:ByteArray)++b
def zaO (x:Im):ByteArray:=
 if x.first.toList==[42] then ({data:=#[105,109,112,111,114,116,32,42,32,97,115,32]}:ByteArray)++x.loc++({data:=#[32,102,114,111,109,32]}:ByteArray)++zaL x.spec++({data:=#[59,10]}:ByteArray)
 else if x.first.toList==[100,101,102,97,117,108,116] then ({data:=#[105,109,112,111,114,116,32]}:ByteArray)++x.loc++({data:=#[32,102,114,111,109,32]}:ByteArray)++zaL x.spec++({data:=#[59,10]}:ByteArray)
 else ({data:=#[105,109,112,111,114,116,32,123,32]}:ByteArray)++asT x.first x.loc++({data:=#[32,125,32,102,114,111,109,32]}:ByteArray)++zaL x.spec++({data:=#[59,10]}:ByteArray)
def zc7 (x:Ep):ByteArray:=
 if x.kind==3 then ({data:=#[101,120,112,111,114,116,32,42,32,102,114,111,109,32]}:ByteArray)++zaL x.spec++({data:=#[59,10]}:ByteArray)
 else if x.kind==2 then ({data:=#[101,120,112,111,114,116,32,123,32]}:ByteArray)++asT x.loc x.name++({data:=#[32,125,32,102,114,111,109,32]}:ByteArray)++zaL x.spec++({data:=#[59,10]}:ByteArray)
 else ({data:=#[101,120,112,111,114,116,32,123,32]}:ByteArray)++asT x.loc x.name++({data:=#[32,125,59,10]}:ByteArray)
def zd4 (k:Int) (n e:ByteArray):ByteArray:=
 if k==1 then (if n.toList==[42,100,101,102,97,117,108,116] then ({data:=#[101,120,112,111,114,116,32,100,101,102,97,117,108,116,32]}:ByteArray)++e++({data:=#[59,10]}:ByteArray) else ({data:=#[108,101,116,32]}:ByteArray)++n++({data:=#[32,61,32]}:ByteArray)++e++({data:=#[59,10]}:ByteArray))
 else if k==2 then ({data:=#[102,117,110,99,116,105,111,110,32]}:ByteArray)++n++({data:=#[40,41,32,123,32,114,101,116,117,114,110,32]}:ByteArray)++e++({data:=#[59,32,125,10]}:ByteArray)
 else if k==3 then n++({data:=#[32,61,32]}:ByteArray)++e++({data:=#[59,10]}:ByteArray)
 else if k==4 then ({data:=#[112,114,105,110,116,40]}:ByteArray)++e++({data:=#[41,59,10]}:ByteArray)
 else if k==5 then ({data:=#[116,104,114,111,119,32]}:ByteArray)++e++({data:=#[59,10]}:ByteArray)
 else ({data:=#[102,97,105,108,32]}:ByteArray)++e++({data:=#[59,10]}:ByteArray)
def zcZ (k:Int) (n e:ByteArray):ByteArray:=if n.toList==[42,100,101,102,97,117,108,116] then ({data:=#[101,120,112,111,114,116,32,100,101,102,97,117,108,116,32]}:ByteArray)++e++({data:=#[59,10]}:ByteArray) else zd4 k n e
def rqT (s:ByteArray):ByteArray:=({data:=#[105,109,112,111,114,116,32]}:ByteArray)++zaL s++({data:=#[59,10]}:ByteArray)
def acc {α:Type} (f:α→ByteArray) (l:List α) (t:ByteArray):ByteArray:=l.foldl (fun t x=>t++f x) t
theorem zd5 {α:Type} (f:α→ByteArray) {l:List α} {j:Nat} {x:α} (h:l[j]? =some x) (t:ByteArray):acc f (l.take (j+1)) t=acc f (l.take j) t++f x:=by
 obtain⟨o,rfl⟩:=List.getElem?_eq_some_iff.1 h
 rw[List.take_succ_eq_append_getElem o,acc,List.foldl_append]
 rfl
theorem zgM {α:Type} (f:α→ByteArray) (l:List α): ∀t:ByteArray,t.size≤(acc f l t).size:=by
 induction l with
 |nil=>intro t;exact Nat.le_refl _
 |cons x l j=>
  intro t
  refine Nat.le_trans ?_ (j (t++f x))
  rw[ByteArray.size_append]
  omega
theorem zp4 {α:Type} (f:α→ByteArray) (a b:List α) (t:ByteArray):acc f (a++b) t=acc f b (acc f a t):=by rw[acc,List.foldl_append];rfl
theorem zgN {α:Type} (f:α→ByteArray) (l:List α) (j:Nat) (t:ByteArray):(acc f (l.take j) t).size≤(acc f l t).size:=by
 have:acc f l t=acc f (l.drop j) (acc f (l.take j) t):=by rw[←zp4,List.take_append_drop]
 rw[this]
 exact zgM f _ _
def epF (x:Ep):ByteArray:=if x.loc.toList==[42,100,101,102,97,117,108,116] then sNone else zc7 x
def stF (ex:List Ex) (s:Sm):ByteArray:=zd4 s.kind s.name (prX ex s.expr.toNat)
def zc8 (ex:List Ex) (s:Sm):ByteArray:=zcZ s.kind s.name (prX ex s.expr.toNat)
def zda (m:Md):ByteArray:=acc epF m.ep (acc zaO m.im (acc rqT m.rq sNone))
def zcx (m:Md):ByteArray:=acc (stF m.ex) m.st (zda m)
def zbZ (m:Md):ByteArray:=acc (zc8 m.ex) m.st (zda m)
def PrintOut (T:ByteArray) (m:Md) (e:Ending):Prop:=(Tree m∧e= .returned (.string T))∨(¬Tree m∧e= .returned (.string sNone))
structure Small (m:Md):Prop where
 rq: ∀x∈m.rq,x.size≤4294967296
 im: ∀x∈m.im,x.spec.size≤4294967296∧x.first.size≤4294967296∧x.loc.size≤4294967296
 ep: ∀x∈m.ep,x.spec.size≤4294967296∧x.name.size≤4294967296∧x.loc.size≤4294967296
 st: ∀x∈m.st,x.name.size≤4294967296
 nums:zeL m.ex
 few:m.rq.length≤4294967296∧m.im.length≤4294967296∧m.ep.length≤4294967296∧m.st.length≤4294967296∧m.ex.length≤4294967296
def Tr.root:Tr→Nat→Ex:=Tr.para (fun x _=>x) fun k l r _ _ o=>⟨k,0,sNone,sNone,((o+l.size:Nat):Int)-1,((o+l.size+r.size:Nat):Int)-1⟩
theorem Tr.root_two (k:Int) (l r:Tr) (o:Nat):(Tr.two k l r).root o=⟨k,0,sNone,sNone,((o+l.size:Nat):Int)-1,((o+l.size+r.size:Nat):Int)-1⟩:=congrFun (Tr.para_two ..) o
theorem Tr.flat_last (t:Tr) (o:Nat): ∃i,t.flat o=i++[t.root o]∧i.length+1=t.size:=by
 cases t using Tr.elim with
 |leaf x=>exact⟨[],rfl,rfl⟩
 |two k l r=>exact⟨l.flat o++r.flat (o+l.size),by simp[flat_two,root_two],by simp only[List.length_append,flat_len,size_two]⟩
theorem Tr.root_kind (t:Tr) (o:Nat):(t.root o).kind=t.kind:=by
 cases t using Tr.elim with
 |leaf x=>rfl
 |two k l r=>rw[root_two,kind_two]
theorem zgO (A B:List Ex) (t:Tr):(A++(t.flat A.length++B)).getD (A.length+t.size-1) zn=t.root A.length:=by
 obtain⟨i,j,o⟩:=t.flat_last A.length
 rw[j]
 simp only[List.getD]
 rw[show A.length+t.size-1=A.length+i.length from by omega,List.getElem?_append_right (by omega),Nat.add_sub_cancel_left,List.append_assoc,List.getElem?_append_right (by omega),Nat.sub_self]
 rfl
theorem zfN (a b:ByteArray):(a++b).data.toList=a.data.toList++b.data.toList:=by
 rw[ByteArray.data_append,Array.toList_append]
theorem zk5 (b:Bool) (t:ByteArray) (l:List Pc) (h:t.data.toList=zL l):(zai b t).data.toList=zL (zaG b l):=by
 unfold zai zaG
 split
 ·simp[h,zL,zbY,zaw,zi]
 ·exact h
theorem zp5 {k:Int} (h:k=6∨k=7∨k=8) (a c:ByteArray) (P Q:List Pc) (o:a.data.toList=zL P) (j:c.data.toList=zL Q):
  (a++(if k==6 then tPlus else if k==7 then tMinus else tStar)++c).data.toList=zL (P++(.inr sp1:: .inl (zi (opP k)):: .inr sp1::Q)):=by
 rcases h with rfl|rfl|rfl<;>simp[o,j,zL,zbY,zaw,zi,opP]
theorem zp6 {scr:Bool} (t:Tr):TrOk scr t→∀(A B:List Ex) (f:Nat),t.size≤f→(prE (A++(t.flat A.length++B)) f (A.length+t.size-1)).data.toList=zL t.pcs:=by
 induction t using Tr.ind with
 |leaf x=>
  intro o A B f D
  obtain⟨f,rfl⟩: ∃g,f=g+1:=⟨f-1,by simp only[Tr.size_leaf] at D;omega⟩
  rw[prE]
  simp only[zgO]
  rw[show (Tr.leaf x).root A.length=x from rfl,show (Tr.leaf x).pcs=zbi x from rfl]
  cases o using LeafOk.elim with
  |num Y X=>simp[zbi,zL,zaw]
  |name h=>simp[zbi,zL,zaw,zl]
  |call h=>simp[zbi,zL,zaw,zl,zi]
  |mem h D=>simp[zbi,zL,zaw,zl,zi]
  |memCall h D=>simp[zbi,zL,zaw,zl,zi]
 |two k l r H E=>
  intro o A B f D
  rw[TrOk.two] at o
  obtain⟨K,Q,O⟩:=o
  obtain⟨f,rfl⟩: ∃g,f=g+1:=⟨f-1,by simp only[Tr.size_two] at D;omega⟩
  simp only[Tr.size_two] at D
  have J:A++((Tr.two k l r).flat A.length++B)=A++(l.flat A.length++(r.flat (A.length+l.size)++((Tr.two k l r).root A.length::B))):=by simp[Tr.flat_two,Tr.root_two]
  have M:A++((Tr.two k l r).flat A.length++B)=(A++l.flat A.length)++(r.flat (A++l.flat A.length).length++((Tr.two k l r).root A.length::B)):=by rw[J,List.length_append,Tr.flat_len];simp
  have U:=l.pos
  have V:=r.pos
  have z:=H Q A (r.flat (A.length+l.size)++((Tr.two k l r).root A.length::B)) f (by omega)
  have j:=E O (A++l.flat A.length) ((Tr.two k l r).root A.length::B) f (by omega)
  have L:=zgO A (r.flat (A.length+l.size)++((Tr.two k l r).root A.length::B)) l
  have I:=zgO (A++l.flat A.length) ((Tr.two k l r).root A.length::B) r
  rw[←J] at z L
  rw[←M] at j I
  rw[List.length_append,Tr.flat_len] at j I
  rw[prE]
  simp only[zgO]
  have N:((Tr.two k l r).root A.length).l.toNat=A.length+l.size-1:=by rw[Tr.root_two];show (((A.length+l.size:Nat):Int)-1).toNat=_;omega
  have er:((Tr.two k l r).root A.length).r.toNat=A.length+l.size+r.size-1:=by rw[Tr.root_two];show (((A.length+l.size+r.size:Nat):Int)-1).toNat=_;omega
  rw[N,er,L,I,Tr.root_kind l,Tr.root_kind r,Tr.root_kind,Tr.kind_two,Tr.pcs_two]
  generalize prE (A++((Tr.two k l r).flat A.length++B)) f (A.length+l.size-1)=tl at z ⊢
  generalize prE (A++((Tr.two k l r).flat A.length++B)) f (A.length+l.size+r.size-1)=tr at j ⊢
  have:=zp5 K (zai (k==8&&zA l.kind) tl) (zai (if k==8 then zO r.kind else zA r.kind) tr) _ _ (zk5 _ tl _ z) (zk5 _ tr _ j)
  rw[←this]
  rcases K with rfl|rfl|rfl<;>rfl
theorem zp7 {scr:Bool} {t:Tr} (h:TrOk scr t) (A B:List Ex):(prX (A++(t.flat A.length++B)) (A.length+t.size-1)).data.toList=zL t.pcs:=zp6 t h A B _ (by have:=t.pos;omega)
theorem zp8 {scr:Bool} {x:Ex} (h:LeafOk scr x):GoodP scr (zbi x)∧adj false (zbi x):=by
 have z: ∀c:UInt8,zaM (ib c)→GoodT scr ⟨4,{data:=#[c]},0⟩:=fun c J=>.sign (c:=c) rfl J
 have E:GoodT scr (zi cOpen):=z 40 (by decide)
 have H:GoodT scr (zi zU):=z 41 (by decide)
 have D:GoodT scr (zi cPoint):=z 46 (by decide)
 have I: ∀x,zdO scr x→GoodT scr (zl x):=by
  rintro x (h|⟨hs,rfl⟩)
  ·exact h.1
  ·exact .name (c:=117) (cs:=[110,100,101,102]) rfl (by rw[hs];decide) (by rw[hs];decide)
 cases h using LeafOk.elim with
 |num L K=>exact⟨fun p j=>by simp[zbi] at j;subst j;exact .num L K,by simp[zbi,adj]⟩
 |name h=>exact⟨fun p j=>by simp[zbi] at j;subst j;exact I _ h,by simp[zbi,adj]⟩
 |call h=>exact⟨fun p j=>by simp[zbi] at j;rcases j with rfl|rfl|rfl<;>first|exact I _ h|exact E|exact H,by simp[zbi,adj,zaZ,zi]⟩
 |mem h o=>exact⟨fun p j=>by simp[zbi] at j;rcases j with rfl|rfl|rfl<;>first|exact h.1|exact D|exact o.1,by simp[zbi,adj,zaZ,zi]⟩
 |memCall h o=>exact⟨fun p j=>by simp[zbi] at j;rcases j with rfl|rfl|rfl|rfl|rfl<;>first|exact h.1|exact D|exact o.1|exact E|exact H,by simp[zbi,adj,zaZ,zi]⟩
theorem zgP {scr:Bool} {x:ByteArray} (h:x=cOpen∨x=zU∨x=cPoint∨x=zp∨x=zbq∨x=zaI∨x=zbv∨x=cSemi∨x=cEq∨x=zF∨x=zaJ):GoodT scr (zi x):=by
 have o: ∀c:UInt8,zaM (ib c)→GoodT scr ⟨4,{data:=#[c]},0⟩:=fun c j=>.sign (c:=c) rfl j
 rcases h with rfl|rfl|rfl|rfl|rfl|rfl|rfl|rfl|rfl|rfl|rfl<;>exact o _ (by decide)
theorem zk6 {scr b:Bool} {l:List Pc} (h:GoodP scr l∧adj false l):GoodP scr (zaG b l)∧adj false (zaG b l):=by
 unfold zaG
 split
 ·refine⟨fun p j=>?_,⟨(fun k=>by cases k),zkc (zkd (b:=[]) rfl trivial) _ h.2⟩⟩
  simp only[List.mem_cons,List.mem_append,List.not_mem_nil,or_false] at j
  rcases j with rfl|j|rfl
  ·exact zgP (by simp)
  ·exact h.1 p j
  ·exact zgP (by simp)
 ·exact h
theorem zfd {scr:Bool} (t:Tr):TrOk scr t→GoodP scr t.pcs∧adj false t.pcs:=by
 induction t using Tr.ind with
 |leaf x=>exact zp8
 |two k l r z o=>
  rw[TrOk.two,Tr.pcs_two]
  rintro⟨H,I,D⟩
  have a:=zk6 (b:=k==8&&zA l.kind) (z I)
  have c:=zk6 (b:=if k==8 then zO r.kind else zA r.kind) (o D)
  have E:GoodT scr (zi (opP k)):=by rcases H with rfl|rfl|rfl<;>exact zgP (by simp[opP])
  refine⟨a.1.app fun p j=>?_,zkc (zke ?_) _ a.2⟩
  ·simp only[List.mem_cons] at j
   rcases j with rfl|rfl|rfl|j
   ·exact .inl rfl
   ·exact E
   ·exact .inl rfl
   ·exact c.1 p j
  ·exact zkd rfl (zke c.2 _) _
theorem zk7 (b:Bool) (l:List Pc):(zg (zaG b l)).length≤(zg l).length+2:=by
 rw[zkx]
 split
 ·simp
 ·omega
theorem zp9 (t:Tr):(zg t.pcs).length≤5*t.size:=by
 induction t using Tr.ind with
 |leaf x=>
  simp only[Tr.pcs_leaf,zbi,Tr.size_leaf]
  repeat' split
  all_goals simp[zg]
 |two k l r o j=>
  rw[zig,List.length_append,List.length_cons]
  have D:=zk7 (k==8&&zA l.kind) l.pcs
  have z:=zk7 (if k==8 then zO r.kind else zA r.kind) r.pcs
  simp only[Tr.size_two]
  omega
structure SI where
 kind:Int
 name:ByteArray
 t:Tr
def exS:List SI→Nat→List Ex
 |[],_=>[]
 |s::l,o=>s.t.flat o++exS l (o+s.t.size)
def stS:List SI→Nat→List Sm
 |[],_=>[]
 |s::l,o=>⟨s.kind,s.name,((o+s.t.size:Nat):Int)-1⟩::stS l (o+s.t.size)
abbrev dEp:Ep:=⟨1,sDefault,zbp,sNone⟩
def isD (n:ByteArray):Bool:=n.toList==[42,100,101,102,97,117,108,116]
def laS:List SI→List Ep
 |[]=>[]
 |s::l=>(if isD s.name then [dEp] else [])++laS l
theorem zpA (l m:List SI): ∀o,exS (l++m) o=exS l o++exS m (o+(exS l o).length):=by
 induction l with
 |nil=>intro o;rfl
 |cons s l j=>intro o;simp only[List.cons_append,exS,j,List.append_assoc,List.length_append,Tr.flat_len,Nat.add_assoc]
theorem zpB (l m:List SI): ∀o,stS (l++m) o=stS l o++stS m (o+(exS l o).length):=by
 induction l with
 |nil=>intro o;rfl
 |cons s l j=>intro o;simp only[List.cons_append,stS,exS,j,List.length_append,Tr.flat_len,Nat.add_assoc]
theorem zpC (l m:List SI):laS (l++m)=laS l++laS m:=by
 induction l with
 |nil=>rfl
 |cons s l j=>simp only[List.cons_append,laS,j,List.append_assoc]
def SOk (scr:Bool) (s:SI):Prop:=(TrOk scr s.t∧s.t.dp≤20)∧((NameG scr s.name∧(s.kind=1∨s.kind=2∨s.kind=3))∨(scr=false∧s.kind=1∧s.name=zbp)∨(s.name=sNone∧(s.kind=4∨s.kind=5∨(scr=true∧s.kind=6))))
theorem SOk.lt {scr:Bool} {n:ByteArray} {t:Tr} (j:NameG scr n) (o:TrOk scr t) (hd:t.dp≤20):SOk scr ⟨1,n,t⟩:=⟨⟨o,hd⟩,.inl ⟨j,.inl rfl⟩⟩
theorem SOk.dflt {scr:Bool} {t:Tr} (j:scr=false) (o:TrOk scr t) (hd:t.dp≤20):SOk scr ⟨1,zbp,t⟩:=⟨⟨o,hd⟩,.inr (.inl ⟨j,rfl,rfl⟩)⟩
theorem SOk.fn {scr:Bool} {n:ByteArray} {t:Tr} (j:NameG scr n) (o:TrOk scr t) (hd:t.dp≤20):SOk scr ⟨2,n,t⟩:=⟨⟨o,hd⟩,.inl ⟨j,.inr (.inl rfl)⟩⟩
theorem SOk.set {scr:Bool} {n:ByteArray} {t:Tr} (j:NameG scr n) (o:TrOk scr t) (hd:t.dp≤20):SOk scr ⟨3,n,t⟩:=⟨⟨o,hd⟩,.inl ⟨j,.inr (.inr rfl)⟩⟩
theorem SOk.prt {scr:Bool} {t:Tr} (j:TrOk scr t) (hd:t.dp≤20):SOk scr ⟨4,sNone,t⟩:=⟨⟨j,hd⟩,.inr (.inr ⟨rfl,.inl rfl⟩)⟩
theorem SOk.thr {scr:Bool} {t:Tr} (j:TrOk scr t) (hd:t.dp≤20):SOk scr ⟨5,sNone,t⟩:=⟨⟨j,hd⟩,.inr (.inr ⟨rfl,.inr (.inl rfl)⟩)⟩
theorem SOk.fail {scr:Bool} {t:Tr} (j:scr=true) (o:TrOk scr t) (hd:t.dp≤20):SOk scr ⟨6,sNone,t⟩:=⟨⟨o,hd⟩,.inr (.inr ⟨rfl,.inr (.inr ⟨j,rfl⟩)⟩)⟩
theorem SOk.elim {scr:Bool} {motive:(s:SI)→SOk scr s→Prop} {s:SI} (h:SOk scr s) (lt: ∀{n:ByteArray} {t:Tr} (hn:NameG scr n) (ht:TrOk scr t) (hd:t.dp≤20),motive _ (.lt hn ht hd)) (dflt: ∀{t:Tr} (hs:scr=false) (ht:TrOk scr t) (hd:t.dp≤20),motive _ (.dflt hs ht hd)) (fn: ∀{n:ByteArray} {t:Tr} (hn:NameG scr n) (ht:TrOk scr t) (hd:t.dp≤20),motive _ (.fn hn ht hd)) (set: ∀{n:ByteArray} {t:Tr} (hn:NameG scr n) (ht:TrOk scr t) (hd:t.dp≤20),motive _ (.set hn ht hd)) (prt: ∀{t:Tr} (ht:TrOk scr t) (hd:t.dp≤20),motive _ (.prt ht hd)) (thr: ∀{t:Tr} (ht:TrOk scr t) (hd:t.dp≤20),motive _ (.thr ht hd)) (fail: ∀{t:Tr} (hs:scr=true) (ht:TrOk scr t) (hd:t.dp≤20),motive _ (.fail hs ht hd)):motive s h:=by
 obtain⟨k,n,t⟩:=s
 obtain⟨⟨ht,hd⟩,h⟩:=h
 simp only at h ht hd
 rcases h with ⟨hn,rfl|rfl|rfl⟩|⟨hs,rfl,rfl⟩|⟨rfl,rfl|rfl|⟨hs,rfl⟩⟩
 ·exact lt hn ht hd
 ·exact fn hn ht hd
 ·exact set hn ht hd
 ·exact dflt hs ht hd
 ·exact prt ht hd
 ·exact thr ht hd
 ·exact fail hs ht hd
theorem SOk.tree {scr:Bool} {s:SI} (h:SOk scr s):TrOk scr s.t∧s.t.dp≤20:=h.1
structure ImOk (scr:Bool) (rq:List ByteArray) (x:Im):Prop where
 spec:x.spec∈rq
 loc:NameG scr x.loc
 first:x.first=zp∨FieldG scr x.first
def EpOk (scr:Bool) (rq:List ByteArray) (e:Ep):Prop:=(∃n l,FieldG scr n∧NameG scr l∧e=⟨1,n,l,sNone⟩)∨(∃n l s,FieldG scr n∧FieldG scr l∧s∈rq∧e=⟨2,n,l,s⟩)∨(∃s,s∈rq∧e=⟨3,sNone,sNone,s⟩)
theorem EpOk.loc {scr:Bool} {rq:List ByteArray} {n l:ByteArray} (j:FieldG scr n) (o:NameG scr l):EpOk scr rq ⟨1,n,l,sNone⟩:=.inl ⟨n,l,j,o,rfl⟩
theorem EpOk.frm {scr:Bool} {rq:List ByteArray} {n l s:ByteArray} (j:FieldG scr n) (o:FieldG scr l) (z:s∈rq):EpOk scr rq ⟨2,n,l,s⟩:=.inr (.inl ⟨n,l,s,j,o,z,rfl⟩)
theorem EpOk.star {scr:Bool} {rq:List ByteArray} {s:ByteArray} (j:s∈rq):EpOk scr rq ⟨3,sNone,sNone,s⟩:=.inr (.inr ⟨s,j,rfl⟩)
theorem EpOk.elim {scr:Bool} {rq:List ByteArray} {motive:(e:Ep)→EpOk scr rq e→Prop} {e:Ep} (h:EpOk scr rq e) (loc: ∀{n l:ByteArray} (hn:FieldG scr n) (hl:NameG scr l),motive _ (.loc hn hl)) (frm: ∀{n l s:ByteArray} (hn:FieldG scr n) (hl:FieldG scr l) (hs:s∈rq),motive _ (.frm hn hl hs)) (star: ∀{s:ByteArray} (hs:s∈rq),motive _ (.star hs)):motive e h:=by
 rcases h with ⟨n,l,hn,hl,rfl⟩|⟨n,l,s,hn,hl,hs,rfl⟩|⟨s,hs,rfl⟩
 ·exact loc hn hl
 ·exact frm hn hl hs
 ·exact star hs
structure PI (scr:Bool) (q:PS) (sts:List SI):Prop where
 ex:q.ex=exS sts 0
 st:q.st=stS sts 0
 la:q.la=laS sts
 ok: ∀s∈sts,SOk scr s
 rq: ∀x∈q.rq,GoodT scr ⟨3,x,0⟩
 nd:q.rq.Nodup
 im: ∀x∈q.im,ImOk scr q.rq x
 ep: ∀x∈q.ep,EpOk scr q.rq x
 nrq:q.rq.length≤40
 nim:q.im.length≤40
 nep:q.ep.length+q.la.length≤40
 nst:q.st.length≤80
 nex:q.ex.length≤300
 scrr:scr=true→q.rq=[]∧q.im=[]∧q.ep=[]
structure Sm6 (q q':PS):Prop where
 five:Sm5 q q'
 ex:q'.ex=q.ex
theorem Sm6.refl (q:PS):Sm6 q q:=⟨Sm5.refl q,rfl⟩
theorem Sm6.trans {a b c:PS} (h:Sm6 a b) (k:Sm6 b c):Sm6 a c:=⟨h.five.trans k.five,k.ex.trans h.ex⟩
theorem Sm6.adv (q:PS):Sm6 q (adv q):=⟨Sm5.adv q,rfl⟩
theorem zaz {C:Cx} {k:Int} {x:ByteArray} {q q':PS} (h:zd C k x q= .ok q'):Sm6 q q':=by
 obtain⟨rfl,_⟩:=zbh h
 exact Sm6.adv q
theorem zey {C:Cx} {o:Bool} {q:PS} {y:PS×ByteArray} (h:zk C o q= .ok y):Sm6 q y.1:=by
 obtain⟨rfl,_⟩:=zaX h
 exact Sm6.adv q
theorem zfe {C:Cx} (j:zb2 C) {q:PS} {y:PS×ByteArray} (h:zk C false q= .ok y):NameG C.scr y.2:=by
 obtain⟨rfl,o⟩:=zaX h
 exact zib j o
theorem zk8 {C:Cx} (j:zb2 C) {o:Bool} {q:PS} {y:PS×ByteArray} (h:zk C o q= .ok y):FieldG C.scr y.2:=by
 obtain⟨rfl,z⟩:=zaX h
 exact zko j z
theorem NameG.field {scr:Bool} {x:ByteArray} (h:NameG scr x):FieldG scr x:=⟨h.1,.inl h.2⟩
theorem FieldG.name {scr:Bool} {x:ByteArray} (h:FieldG scr x) (j:(x.toList==[100,101,102,97,117,108,116])=false):NameG scr x:=by
 refine⟨h.1,h.2.elim id fun k=>?_⟩
 rw[k] at j
 cases j
theorem zcy {scr:Bool} {x:ByteArray} (h:FieldG scr x):isD x=false:=by
 unfold isD
 rw[Lib.toList_data]
 generalize j:(⟨1,x,0⟩:Tn)=T at h
 have z:=h.1
 rw[j] at z
 cases z using GoodT.elim with
 | @name y c E D o _=>
  cases j
  rw[D]
  refine beq_eq_false_iff_ne.2 fun e=>?_
  injection e with e1 _
  rw[e1] at o
  revert o
  cases scr<;>decide
 |num _ _=>cases j
 |str _ _=>cases j
 |sign _ _=>cases j
theorem PI.same {scr:Bool} {q q':PS} {E:List SI} (h:PI scr q E) (s:Sm6 q q'):PI scr q' E:=by
 obtain⟨⟨s1,U,V,Y,X⟩,Z⟩:=s
 obtain⟨Q,M,K,a4,L,N,J,I,O,z,o,H,D,j⟩:=h
 rw[←Z] at Q D
 rw[←Y] at M H
 rw[←X] at K o
 rw[←s1] at L N J I O j
 rw[←U] at J z j
 rw[←V] at I o j
 exact⟨Q,M,K,a4,L,N,J,I,O,z,o,H,D,j⟩
theorem PI.stmt {scr:Bool} {q q1 q':PS} {z:List SI} {k:Int} {n:ByteArray} {t:Tr} (h:PI scr q z) (s:Sm5 q q1) (L:q1.ex=q.ex++t.flat q.ex.length) (Y:q1.ex.length≤300) (N:q'.ex=q1.ex) (H:q'.st=q1.st++[⟨k,n,(q1.ex.length:Int)-1⟩]) (j:q1.st.length<80)
  (o:q'.rq=q1.rq) (E:q'.im=q1.im) (J:q'.ep=q1.ep) (M:q'.la=q1.la++if isD n then [dEp] else []) (hn:q'.ep.length+q'.la.length≤40) (ok:SOk scr ⟨k,n,t⟩):PI scr q' (z++[⟨k,n,t⟩]):=by
 obtain⟨s1,Q,X,s4,Z⟩:=s
 obtain⟨O,a2,U,a4,V,a6,a7,a8,a9,I,ab,ac,aa,K⟩:=h
 rw[s1] at o
 rw[Q] at E
 rw[X] at J
 rw[s4] at H j
 rw[Z] at M
 have D:q1.ex.length=q.ex.length+t.size:=by rw[L,List.length_append,Tr.flat_len]
 refine⟨?_,?_,?_,?_,by rw[o];exact V,by rw[o];exact a6,by rw[o,E];exact a7,by rw[o,J];exact a8,by rw[o];exact a9,by rw[E];exact I,hn,?_,by rw[N];exact Y,by rw[o,E,J];exact K⟩
 ·rw[N,L,zpA,Nat.zero_add,←O]
  simp[exS]
 ·rw[H,zpB,Nat.zero_add,←O,←a2,D]
  rfl
 ·rw[M,zpC,←U]
  simp[laS]
 ·intro s j
  rcases List.mem_append.1 j with j|j
  ·exact a4 s j
  ·rw[List.mem_singleton] at j
   rw[j]
   exact ok
 ·rw[H,List.length_append,List.length_cons,List.length_nil]
  omega
theorem zk9 {C:Cx} {k:Int} {n:ByteArray} {q q':PS} (h:zE C k n q= .ok q'):q'={q with st:=q.st++[⟨k,n,(q.ex.length:Int)-1⟩]}∧q.st.length<80:=by
 unfold zE at h
 split at h
 ·cases h
 ·cases h;exact⟨rfl,by omega⟩
theorem zpD {C:Cx} {x:Im} {q q':PS} (h:zX C x q= .ok q'):q'={q with im:=q.im++[x]}∧q.im.length<40:=by
 unfold zX at h
 split at h
 ·cases h
 ·cases h;exact⟨rfl,by omega⟩
theorem zpE {C:Cx} {x:Ep} {q q':PS} (h:zm C x q= .ok q') (j:isD x.loc=false):q'={q with ep:=q.ep++[x]}∧q.ep.length+q.la.length<40:=by
 unfold zm at h
 split at h
 ·cases h
 ·rw[if_neg (by unfold isD at j;rw[j];decide)] at h
  cases h;exact⟨rfl,by omega⟩
theorem zdQ:isD zbp=true:=by unfold isD;rw[Lib.toList_data];rfl
theorem zpF {C:Cx} {q q':PS} (h:zm C dEp q= .ok q'):q'={q with la:=q.la++[dEp]}∧q.ep.length+q.la.length<40:=by
 unfold zm at h
 split at h
 ·cases h
 ·rw[if_pos (by have:=zdQ;unfold isD at this;exact this)] at h
  cases h;exact⟨rfl,by omega⟩
theorem zff {C:Cx} (U:zb2 C) {q H q1 o I:PS} {D:List SI} {k:Int} {n:ByteArray} (h:PI C.scr q D) (J:Sm6 q H) (X:pE C .sum 0 H= .ok q1) (E:Sm6 q1 o) (L:zE C k n o= .ok I) (N:isD n=false) (Q: ∀t,TrOk C.scr t→t.dp≤20→SOk C.scr ⟨k,n,t⟩): ∃j,PI C.scr I j:=by
 obtain⟨t,V,Z,K,Y,O⟩:=zkq U X
 obtain⟨rfl,M⟩:=zk9 L
 have z:=(J.five.trans Y).trans E.five
 refine⟨_,h.stmt (q1:=o) (t:=t) z (by rw[E.ex,Z,J.ex]) (by rw[E.ex];exact O) rfl rfl M rfl rfl rfl (by rw[N];simp) ?_ (Q t V K)⟩
 show o.ep.length+o.la.length≤40
 rw[z.ep,z.la]
 exact h.nep
theorem zpG {C:Cx} (Y:zb2 C) {q H q1 j I J:PS} {z:List SI} (h:PI C.scr q z) (K:Sm6 q H) (he:pE C .sum 0 H= .ok q1) (E:Sm6 q1 j) (M:zE C 1 zbp j= .ok I) (U:zm C dEp I= .ok J) (V:C.scr=false): ∃o,PI C.scr J o:=by
 obtain⟨t,Z,t2,L,t4,X⟩:=zkq Y he
 obtain⟨rfl,Q⟩:=zk9 M
 obtain⟨rfl,D⟩:=zpF U
 have N:=(K.five.trans t4).trans E.five
 refine⟨_,h.stmt (q1:=j) (t:=t) N (by rw[E.ex,t2,K.ex]) (by rw[E.ex];exact X) rfl rfl Q rfl rfl rfl (by rw[zdQ];rfl) ?_ (.dflt V Z L)⟩
 show j.ep.length+(j.la++[dEp]).length≤40
 rw[List.length_append,List.length_cons,List.length_nil]
 have O:j.ep.length+j.la.length<40:=D
 omega
theorem zgQ {l:List ByteArray} {x:ByteArray}:zbe l x=true↔x∈l:=by
 unfold zbe
 rw[List.any_eq_true]
 constructor
 ·rintro⟨y,o,j⟩
  rw[←(zeF _ _).1 j]
  exact o
 ·intro h
  exact⟨x,h,beq_self_eq_true _⟩
structure MoreR (scr:Bool) (q q':PS):Prop where
 old: ∀x∈q.rq,x∈q'.rq
 good: ∀x∈q'.rq,GoodT scr ⟨3,x,0⟩
 nd:q'.rq.Nodup
 few:q'.rq.length≤40
 im:q'.im=q.im
 ep:q'.ep=q.ep
 st:q'.st=q.st
 ex:q'.ex=q.ex
 la:q'.la=q.la
theorem PI.more {scr:Bool} {q q':PS} {o:List SI} (h:PI scr q o) (m:MoreR scr q q') (Y:scr=false):PI scr q' o:=by
 obtain⟨a1,a2,X,a4,a5,a6,L,a8,a9,D,K,M,J,aa⟩:=h
 obtain⟨z,m2,Z,m4,N,O,U,V,Q⟩:=m
 exact⟨by rw[V];exact a1,by rw[U];exact a2,by rw[Q];exact X,a4,m2,Z,by rw[N];exact fun x j=>⟨z _ (L x j).spec,(L x j).loc,(L x j).first⟩,
  by
   rw[O]
   intro x j
   cases a8 x j using EpOk.elim with
   |loc H E=>exact .loc H E
   |frm H E I=>exact .frm H E (z _ I)
   |star I=>exact .star (z _ I),
  m4,by rw[N];exact D,by rw[O,Q];exact K,by rw[U];exact M,by rw[V];exact J,fun k=>by rw[Y] at k;cases k⟩
theorem zpH {scr:Bool} {t:Tn} (h:GoodT scr t) (j:t.kind=3):GoodT scr ⟨3,t.text,0⟩:=by
 cases h using GoodT.elim with
 |name D h o=>cases j
 |num _ _=>cases j
 |str z o=>exact .str z o
 |sign _ _=>cases j
theorem zkA {C:Cx} (M:zb2 C) {q:PS} {a:PS×ByteArray} (h:zy C q= .ok a) (H: ∀x∈q.rq,GoodT C.scr ⟨3,x,0⟩) (E:q.rq.Nodup) (K:q.rq.length≤40):MoreR C.scr q a.1∧a.2∈a.1.rq:=by
 unfold zy at h
 split at h
 ·next o=>
  have L:=zpH (zgF M (zeJ o (by decide))) (by rw[beq_iff_eq] at o;exact o)
  split at h
  ·next z=>
   cases h
   exact⟨⟨fun _ j=>j,H,E,K,rfl,rfl,rfl,rfl,rfl⟩,zgQ.1 z⟩
  ·next z=>
   split at h
   ·cases h
   ·next N=>
    cases h
    have I:(zf C q.pos).text∉q.rq:=fun k=>z (zgQ.2 k)
    refine⟨⟨fun x j=>List.mem_append_left _ j,fun x j=>?_,?_,?_,rfl,rfl,rfl,rfl,rfl⟩,by simp⟩
    ·rcases List.mem_append.1 j with j|j
     ·exact H x j
     ·rw[List.mem_singleton] at j
      rw[j]
      exact L
    ·show (q.rq++[(zf C q.pos).text]).Nodup
     rw[List.nodup_append]
     refine⟨E,by simp,fun a J b D=>?_⟩
     rw[List.mem_singleton] at D
     rw[D]
     exact fun e=>I (e▸J)
    ·show (q.rq++[(zf C q.pos).text]).length≤40
     simp
     omega
 ·cases h
theorem zfO {C:Cx} (N:zb2 C) {D q:PS} {o:List SI} {b:PS×ByteArray} (h:zaD C (zav C (.ok q))= .ok b) (Q:PI C.scr D o) (O:Sm6 D q) (j:C.scr=false):PI C.scr b.1 o∧b.2∈b.1.rq:=by
 obtain⟨a,V,U⟩:=ze h
 obtain⟨c,L,K⟩:=ze U
 obtain⟨d,J,M⟩:=ze V
 cases K
 have I:Sm6 q d:=zaz (show zd C 1 zH q= .ok d from J)
 have z:=Q.same (O.trans I)
 obtain⟨m,H⟩:=zkA N M z.rq z.nd z.nrq
 have E:=zaz L
 exact⟨(z.more m j).same E,by show a.2∈c.rq;rw[E.five.rq];exact H⟩
def zgR (scr exp:Bool) (e:Ep):Prop:=FieldG scr e.loc∧FieldG scr e.name∧(exp=false→NameG scr e.name)
theorem zpI {C:Cx} (o:zb2 C) {j:Bool} {a b:PS×ByteArray} (h:asP C j a= .ok b) (z:FieldG C.scr a.2):Sm6 a.1 b.1∧FieldG C.scr b.2∧(j=false→NameG C.scr b.2):=by
 unfold asP at h
 split at h
 ·refine⟨(Sm6.adv a.1).trans (zey h),zk8 o h,fun e=>?_⟩
  subst e
  exact zfe o h
 ·split at h
  ·cases h
  ·next D=>
   cases h
   refine⟨Sm6.refl _,z,fun e=>z.name ?_⟩
   subst e
   simpa using D
theorem zpJ {C:Cx} (K:zb2 C) {o:Bool} (f:Nat): ∀(q:PS) (acc:List Ep) (a:PS×List Ep),zbK C o f q acc= .ok a→(∀e∈acc,zgR C.scr o e)→Sm6 q a.1∧∀e∈a.2,zgR C.scr o e:=by
 induction f with
 |zero=>intro q acc a h;cases h
 |succ f Q=>
  intro q acc a h D
  rw[zbK] at h
  obtain⟨b,I,N⟩:=ze h
  obtain⟨c,Y,E⟩:=ze N
  have L:=zey I
  have J:=zk8 K I
  obtain⟨H,O,U⟩:=zpI K Y J
  have j: ∀e∈acc++[(⟨0,c.2,b.2,sNone⟩:Ep)],zgR C.scr o e:=by
   intro e z
   rcases List.mem_append.1 z with z|z
   ·exact D e z
   ·rw[List.mem_singleton] at z
    rw[z]
    exact⟨J,O,U⟩
  split at E
  ·obtain⟨V,Z⟩:=Q _ _ _ E j
   exact⟨(L.trans H).trans ((Sm6.adv _).trans V),Z⟩
  ·obtain⟨d,X,M⟩:=ze E
   cases M
   exact⟨(L.trans H).trans (zaz X),j⟩
theorem zkB {C:Cx} (o:zb2 C) {j:Bool} {q:PS} {a:PS×List Ep} (h:zbB C j q= .ok a):Sm6 q a.1∧∀e∈a.2,zgR C.scr j e:=by
 obtain⟨b,E,D⟩:=ze h
 obtain⟨I,H⟩:=zpJ o _ _ _ _ D (fun e z=>by cases z)
 exact⟨(zaz E).trans I,H⟩
theorem zik {C:Cx} {q q':PS} {o:List SI} {x:Im} (h:PI C.scr q o) (z:zX C x q= .ok q') (E:ImOk C.scr q.rq x) (D:C.scr=false):PI C.scr q' o∧q'.rq=q.rq:=by
 obtain⟨rfl,H⟩:=zpD z
 refine⟨⟨h.ex,h.st,h.la,h.ok,h.rq,h.nd,fun y j=>?_,h.ep,h.nrq,by show (q.im++[x]).length≤40;simp;omega,h.nep,h.nst,h.nex,fun k=>by rw[D] at k;cases k⟩,rfl⟩
 rcases List.mem_append.1 j with j|j
 ·exact h.im y j
 ·rw[List.mem_singleton] at j
  rw[j]
  exact E
theorem zfP {C:Cx} {q q':PS} {o:List SI} {x:Ep} (h:PI C.scr q o) (H:zm C x q= .ok q') (D:EpOk C.scr q.rq x) (J:C.scr=false):PI C.scr q' o∧q'.rq=q.rq:=by
 have hd:isD x.loc=false:=by
  cases D using EpOk.elim with
  |loc E z=>exact zcy z.field
  |frm E z I=>exact zcy z
  |star I=>show isD sNone=false;unfold isD;rw[Lib.toList_data];rfl
 obtain⟨rfl,z⟩:=zpE H hd
 refine⟨⟨h.ex,h.st,h.la,h.ok,h.rq,h.nd,h.im,fun y j=>?_,h.nrq,h.nim,by show (q.ep++[x]).length+q.la.length≤40;simp;omega,h.nst,h.nex,fun k=>by rw[J] at k;cases k⟩,rfl⟩
 rcases List.mem_append.1 j with j|j
 ·exact h.ep y j
 ·rw[List.mem_singleton] at j
  rw[j]
  exact D
theorem zpK {α:Type} {f:α→PS→PR} {e:Nat} (l:List α):zK f l (.error e)= .error e:=by
 induction l with
 |nil=>rfl
 |cons b l j=>simp only[zK,zec];exact j
theorem zil {C:Cx} {α:Type} {f:α→PS→PR} {j:List SI} {R:List ByteArray} (l:List α):(∀a∈l,∀q q',PI C.scr q j→q.rq=R→f a q= .ok q'→PI C.scr q' j∧q'.rq=q.rq)→∀(q q':PS),PI C.scr q j→q.rq=R→zK f l (.ok q)= .ok q'→PI C.scr q' j:=by
 induction l with
 |nil=>intro _ q q' h _ o;cases o;exact h
 |cons a l I=>
  intro H q q' h D o
  simp only[zK,zh] at o
  cases z:f a q with
  |error e=>
   rw[z,zpK] at o
   cases o
  |ok E=>
   rw[z] at o
   obtain⟨L,K⟩:=H a (List.mem_cons_self ..) q E h D z
   exact I (fun b J=>H b (List.mem_cons_of_mem _ J)) E q' L (K.trans D) o
theorem zpL {C:Cx} (D:zb2 C) {q q':PS} {L:List SI} (V:PI C.scr q L) (j:C.scr=false) (h:za3 C q= .ok q'):PI C.scr q' L:=by
 obtain⟨q1,X,z⟩:=ze h
 have E:=V.same (zaz X)
 split at z
 ·obtain⟨a,o,H⟩:=ze z
  obtain⟨b,M,I⟩:=ze H
  obtain⟨s1,Y⟩:=zkB D o
  obtain⟨J,K⟩:=zfO D M E s1 j
  refine zil (C:=C) (R:=b.1.rq) a.2 (fun e he r r' pr Z U=>?_) b.1 q' J rfl I
  have Q:=Y e he
  exact zik pr U ⟨by rw[Z];exact K,Q.2.2 rfl,.inr Q.1⟩ j
 ·split at z
  ·obtain⟨a,o,H⟩:=ze z
   obtain⟨b,M,I⟩:=ze H
   obtain⟨c,h7,O⟩:=ze o
   obtain⟨d,h9,N⟩:=ze h7
   obtain⟨J,K⟩:=zfO D M E ((zaz h9).trans ((zaz N).trans (zey O))) j
   exact (zik J I ⟨K,zfe D O,.inl rfl⟩ j).1
  ·split at z
   ·obtain⟨a,o,H⟩:=ze z
    obtain⟨b,M,I⟩:=ze H
    obtain⟨J,K⟩:=zfO D M E (zey o) j
    refine (zik J I ⟨K,zfe D o,.inr ⟨?_,.inr (Lib.toList_data _)⟩⟩ j).1
    exact .name (c:=100) (cs:=[101,102,97,117,108,116]) rfl (by rw[j];decide) (by rw[j];decide)
   ·obtain⟨a,o,H⟩:=ze z
    exact (E.more (zkA D o E.rq E.nd E.nrq).1 j).same (zaz H)
theorem zkC {C:Cx} (K:zb2 C) {q:PS} {a:PS×ByteArray} {I:List SI} (X:PI C.scr q I) (h:zbA C q= .ok a):(∃j,PI C.scr a.1 j)∧NameG C.scr a.2:=by
 obtain⟨b,H,E⟩:=ze h
 obtain⟨e,D,z⟩:=ze E
 cases z
 obtain⟨c,U,L⟩:=ze H
 obtain⟨d,Q,V⟩:=ze D
 obtain⟨f,O,N⟩:=ze Q
 obtain⟨g,M,J⟩:=ze O
 have o:=zfe K L
 exact⟨zff K X ((zaz U).trans ((zey L).trans (zaz (show zd C 4 cEq b.1= .ok g from M)))) J (zaz N) V (zcy o.field) (fun t H E=>.lt o H E),o⟩
theorem zkD {C:Cx} (Y:zb2 C) {q:PS} {a:PS×ByteArray} {K:List SI} (hp:PI C.scr q K) (h:fnP C q= .ok a):(∃o,PI C.scr a.1 o)∧NameG C.scr a.2:=by
 obtain⟨b,H,E⟩:=ze h
 obtain⟨e,D,U⟩:=ze E
 cases U
 obtain⟨c,h3,Z⟩:=ze H
 obtain⟨d,h5,h6⟩:=ze D
 obtain⟨f,h7,h8⟩:=ze h5
 obtain⟨g,h9,V⟩:=ze h7
 obtain⟨i,N,M⟩:=ze h9
 obtain⟨j,X,I⟩:=ze N
 obtain⟨k,L,Q⟩:=ze X
 obtain⟨l,z,O⟩:=ze L
 have J:=zfe Y Z
 exact⟨zff Y hp ((zaz h3).trans ((zey Z).trans ((zaz (show zd C 4 cOpen b.1= .ok l from z)).trans ((zaz O).trans ((zaz Q).trans (zaz I)))))) M ((zaz V).trans (zaz h8)) h6 (zcy J.field) (fun t H E=>.fn J H E),J⟩
theorem zpM {C:Cx} (L:zb2 C) {q q':PS} {E:List SI} (hp:PI C.scr q E) (I:C.scr=false) (h:zV C q= .ok q'): ∃j,PI C.scr q' j:=by
 obtain⟨q1,h1,o⟩:=ze h
 have M:=hp.same (zaz h1)
 split at o
 ·obtain⟨a,K,H⟩:=ze o
  obtain⟨s1,hl⟩:=zkB L K
  split at H
  ·next hg=>
   obtain⟨b,z,J⟩:=ze H
   have D:=M.same (s1.trans (zaz z))
   refine⟨E,zil (C:=C) (R:=b.rq) a.2 (fun e U r r' Y hr V=>?_) b q' D rfl J⟩
   have O:=hl e U
   rw[Bool.and_eq_true] at hg
   have hd:(e.loc.toList==[100,101,102,97,117,108,116])=false:=by
    have:=hg.1
    unfold za2 at this
    rw[Bool.not_eq_true',List.any_eq_false] at this
    simpa using this e U
   exact zfP Y V (.loc O.2.1 (O.1.name hd)) I
  ·obtain⟨b,z,J⟩:=ze H
   obtain⟨D,X⟩:=zfO L z M s1 I
   refine⟨E,zil (C:=C) (R:=b.1.rq) a.2 (fun e U r r' Y hr V=>?_) b.1 q' D rfl J⟩
   have O:=hl e U
   exact zfP Y V (.frm O.2.1 O.1 (by rw[hr];exact X)) I
 ·split at o
  ·obtain⟨b,z,J⟩:=ze o
   cases Q:zd C 4 zp q1 with
   |error e=>rw[Q] at z;cases z
   |ok q2=>
    rw[Q] at z
    obtain⟨D,X⟩:=zfO L z M (zaz Q) I
    exact⟨E,(zfP D J (.star X) I).1⟩
  ·split at o
   ·obtain⟨a,K,H⟩:=ze o
    obtain⟨b,z,J⟩:=ze K
    obtain⟨c,Q,h8⟩:=ze z
    obtain⟨d,h9,Z⟩:=ze Q
    exact zpG L M (zaz h9) Z (zaz h8) J H I
   ·split at o
    ·obtain⟨a,K,H⟩:=ze o
     obtain⟨⟨j,D⟩,N⟩:=zkC L M K
     exact⟨j,(zfP D H (.loc N.field N) I).1⟩
    ·split at o
     ·obtain⟨a,K,H⟩:=ze o
      obtain⟨⟨j,D⟩,N⟩:=zkD L M K
      exact⟨j,(zfP D H (.loc N.field N) I).1⟩
     ·cases o
theorem zdR:isD sNone=false:=by unfold isD;rw[Lib.toList_data];rfl
theorem zpN {C:Cx} (z:zb2 C) {q q':PS} {M:List SI} (E:PI C.scr q M) (h:zo C q= .ok q'): ∃L,PI C.scr q' L:=by
 unfold zo at h
 split at h
 ·next D=>rw[Bool.and_eq_true,Bool.not_eq_true'] at D;exact⟨M,zpL z E D.1 h⟩
 ·split at h
  ·next D=>rw[Bool.and_eq_true,Bool.not_eq_true'] at D;exact zpM z E D.1 h
  ·split at h
   ·obtain⟨a,j,o⟩:=ze h
    cases o
    exact (zkC z E j).1
   ·split at h
    ·obtain⟨a,j,o⟩:=ze h
     cases o
     exact (zkD z E j).1
    ·split at h
     ·obtain⟨a,j,o⟩:=ze h
      obtain⟨b,I,K⟩:=ze j
      obtain⟨c,H,J⟩:=ze I
      obtain⟨d,O,N⟩:=ze H
      obtain⟨e,V,Q⟩:=ze O
      exact zff z E ((zaz V).trans (zaz Q)) N ((zaz J).trans (zaz K)) o zdR (fun t j o=>.prt j o)
     ·split at h
      ·obtain⟨a,j,o⟩:=ze h
       obtain⟨b,I,K⟩:=ze j
       obtain⟨c,H,J⟩:=ze I
       exact zff z E (zaz H) J (zaz K) o zdR (fun t j o=>.thr j o)
      ·split at h
       ·next D=>
        rw[Bool.and_eq_true] at D
        obtain⟨a,j,o⟩:=ze h
        obtain⟨b,I,K⟩:=ze j
        obtain⟨c,H,J⟩:=ze I
        exact zff z E (zaz H) J (zaz K) o zdR (fun t j o=>.fail D.1 j o)
       ·obtain⟨a,j,o⟩:=ze h
        obtain⟨b,I,K⟩:=ze o
        obtain⟨c,H,J⟩:=ze I
        obtain⟨d,O,N⟩:=ze H
        have U:=zfe z j
        exact zff z E ((zey j).trans (zaz O)) N (zaz J) K (zcy U.field) (fun t j o=>.set U j o)
theorem zpO {C:Cx} (H:zb2 C) (f:Nat): ∀(q q':PS) (j:List SI),zbL C f q= .ok q'→PI C.scr q j→∃o,PI C.scr q' o:=by
 induction f with
 |zero=>intro q q' j h;cases h
 |succ f E=>
  intro q q' j h D
  rw[zbL] at h
  split at h
  ·obtain⟨a,J,I⟩:=ze h
   obtain⟨z,K⟩:=zpN H D J
   exact E _ _ _ I K
  ·cases h
   exact⟨j,D⟩
theorem zpP (scr:Bool):PI scr startP []:=
 ⟨rfl,rfl,rfl,(fun s j=>by cases j),(fun s j=>by cases j),List.nodup_nil,(fun s j=>by cases j),(fun s j=>by cases j),by simp[startP],by simp[startP],by simp[startP],by simp[startP],by simp[startP],fun _=>⟨rfl,rfl,rfl⟩⟩
theorem zkE {s:ByteArray} {scr:Bool} {q:PS} (h:za8 s scr (.ok q)): ∃j,PI scr q j:=by
 obtain⟨r,⟨a,_,z⟩,e⟩:=h
 cases r with
 |error p=>cases e
 |ok o=>exact zpO (C:=⟨o,s.size,scr⟩) (zkj z o rfl) _ _ _ _ e.symm (zpP scr)
end Go.Proofs.YthfeoomfiafldaaGreat
