/-
  The lines of a program's text,as tokens,and that each is read as what it is of. No program is spoken of.
  Lines one behind the other are read. No program is spoken of.
  The text of a program that was read,as tokens; it is read from it. No program is spoken of.
  A program that was read has no name longer than its text,and no number that is great. No program is spoken of.
  Where a text is refused lies in it; a text put together of a text's tokens again. No program is spoken of.
  In what was read each expression is used once. No program is spoken of.
  What the laws count of a program,as plain functions. No program is spoken of.
  A program that is small has a text that is small. No program is spoken of.
-/
import Derived.Test.YthfeoomfiafldaaGreatCdDrawParseToProgInv
namespace Go.Proofs.YthfeoomfiafldaaGreat
open Go.RowKit Go.PlainAid
def za0 (s:ByteArray):Tn:=⟨3,s,0⟩
def kW (x:ByteArray):List Pc:=[.inl (zl x),.inr sp1]
def zdb (a b:ByteArray):List Pc:=if a.toList==b.toList then [.inl (zl a)] else [.inl (zl a),.inr sp1,.inl (zl sAs),.inr sp1,.inl (zl b)]
def zaH (s:ByteArray):List Pc:=[.inl (zl zH),.inr sp1,.inl (za0 s),.inl (zi cSemi),.inr nl1]
def zaP (a b:ByteArray) (r:List Pc):List Pc:=.inl (zi zF):: .inr sp1::(zdb a b++(.inr sp1:: .inl (zi zaJ)::r))
def zbk (s:ByteArray):List Pc:=kW sImport++[.inl (za0 s),.inl (zi cSemi),.inr nl1]
def zaQ (x:Im):List Pc:=
 if x.first.toList==[42] then kW sImport++(.inl (zi zp):: .inr sp1::(kW sAs++(kW x.loc++zaH x.spec)))
 else if x.first.toList==[100,101,102,97,117,108,116] then kW sImport++(kW x.loc++zaH x.spec)
 else kW sImport++zaP x.first x.loc (.inr sp1::zaH x.spec)
def zbg (x:Ep):List Pc:=
 if x.kind==3 then kW sExport++(.inl (zi zp):: .inr sp1::zaH x.spec)
 else if x.kind==2 then kW sExport++zaP x.loc x.name (.inr sp1::zaH x.spec)
 else kW sExport++zaP x.loc x.name [.inl (zi cSemi),.inr nl1]
def zaU:List Pc:=[.inl (zi cSemi),.inr nl1]
def zdc:List Pc:=[.inl (zi cEq),.inr sp1]
def zak (s:SI):List Pc:=
 if s.kind==1 then (if isD s.name then kW sExport++(kW sDefault++(s.t.pcs++zaU)) else kW sLet++(kW s.name++(zdc++(s.t.pcs++zaU))))
 else if s.kind==2 then kW sFunction++(.inl (zl s.name):: .inl (zi cOpen):: .inl (zi zU):: .inr sp1:: .inl (zi zF):: .inr sp1::(kW zdw++(s.t.pcs++[.inl (zi cSemi),.inr sp1,.inl (zi zaJ),.inr nl1])))
 else if s.kind==3 then kW s.name++(zdc++(s.t.pcs++zaU))
 else if s.kind==4 then .inl (zl sPrint):: .inl (zi cOpen)::(s.t.pcs++(.inl (zi zU)::zaU))
 else if s.kind==5 then kW sThrow++(s.t.pcs++zaU)
 else kW sFail++(s.t.pcs++zaU)
theorem neB {x y:ByteArray} (h:x.data.toList≠y.data.toList):(x.toList==y.toList)=false:=by
 rw[Lib.toList_data,Lib.toList_data]
 exact beq_eq_false_iff_ne.2 h
theorem zdd {C:Cx} {p:Nat} {y:ByteArray} {l:List Tn} (h:Rem C p (zl y::l)) (x:ByteArray):isT C p 1 x=(y.toList==x.toList):=by
 rw[h.is (by decide)]
 unfold hd zl
 simp
theorem zgS {C:Cx} {p:Nat} {y:ByteArray} {l:List Tn} (h:Rem C p (zl y::l)) (x:ByteArray):isT C p 4 x=false:=by
 rw[h.is (by decide)]
 exact zfK (show (1:Int)≠4 by decide)
theorem zd6 {C:Cx} {p:Nat} {y:ByteArray} {l:List Tn} (h:Rem C p (zi y::l)) (x:ByteArray):isT C p 4 x=(y.toList==x.toList):=by
 rw[h.is (by decide)]
 unfold hd zi
 simp
theorem zkF {C:Cx} {p:Nat} {y:ByteArray} {l:List Tn} (h:Rem C p (zi y::l)) (x:ByteArray):isT C p 1 x=false:=by
 rw[h.is (by decide)]
 exact zfK (show (4:Int)≠1 by decide)
theorem zkG {C:Cx} {p:Nat} {y:ByteArray} {l:List Tn} (h:Rem C p (za0 y::l)) (x:ByteArray):isT C p 4 x=false∧isT C p 1 x=false:=by
 rw[h.is (by decide),h.is (by decide)]
 exact⟨zfK (show (3:Int)≠4 by decide),zfK (show (3:Int)≠1 by decide)⟩
theorem zpQ {C:Cx} {p:Nat} {t:Tn} {l:List Tn} (h:Rem C p (t::l)) (j:t.kind≠1) (o:Bool):plainB C p o=false:=by
 unfold plainB
 rw[h.kind.1,beq_eq_false_iff_ne.2 j]
 rfl
theorem zbT {C:Cx} {x:ByteArray} {l:List Tn} {q:PS} (h:Rem C q.pos (zl x::l)):zd C 1 x q= .ok (adv q):=zes h (by decide) (zks _ _)
theorem zbt {C:Cx} {x:ByteArray} {l:List Tn} {q:PS} (h:Rem C q.pos (zi x::l)):zd C 4 x q= .ok (adv q):=zes h (by decide) (zcf _ _)
theorem zkH {scr:Bool} {n:ByteArray} (h:NameG scr n):(n.toList==sImport.toList)=false∧(n.toList==sExport.toList)=false∧(n.toList==sDefault.toList)=false∧(n.toList==sLet.toList)=false∧(n.toList==sFunction.toList)=false∧(n.toList==sPrint.toList)=false∧(n.toList==sThrow.toList)=false∧(scr&&(n.toList==sFail.toList))=false:=by
 have j:=h.2
 unfold zr at j
 simp only[Bool.or_eq_false_iff] at j
 obtain⟨⟨⟨⟨⟨⟨⟨⟨J,H⟩,j⟩,D⟩,I⟩,K⟩,E⟩,z⟩,o⟩:=j
 rw[Lib.toList_data sImport,Lib.toList_data sExport,Lib.toList_data sDefault,Lib.toList_data sLet,Lib.toList_data sFunction,Lib.toList_data sPrint,Lib.toList_data sThrow,Lib.toList_data sFail]
 refine⟨J,H,j,D,I,E,z,?_⟩
 cases scr with
 |false=>rfl
 |true=>
  rw[Bool.and_true,Bool.or_eq_false_iff] at o
  rw[Bool.true_and]
  exact o.1
theorem zpR {C:Cx} {s:ByteArray} {l:List Tn} {q:PS} (h:Rem C q.pos (za0 s::l)) (j:s∈q.rq):zy C q= .ok (adv q,s):=by
 unfold zy
 rw[h.kind.1,h.kind.2.1,show (za0 s).kind=3 from rfl,show (za0 s).text=s from rfl,if_pos (show ((3:Int)==3)=true from rfl),if_pos (zgQ.2 j)]
theorem zfQ {C:Cx} {s:ByteArray} {l:List Tn} {q:PS} (h:Rem C q.pos (zl zH::za0 s::zi cSemi::l)) (o:s∈q.rq):zaD C (zav C (.ok q))= .ok ({q with pos:=q.pos+3},s):=by
 have j:=h.next.2.1
 have z:=j.next.2.1
 unfold zaD zav
 rw[zh,zbT h,zh,zpR (q:=adv q) j o,zh]
 simp only
 rw[zbt (q:=adv (adv q)) z,zh]
 rfl
theorem zim {C:Cx} {a b:ByteArray} {l:List Tn} {q:PS} {j:Bool} (h:Rem C q.pos (zg (zaP a b [])++l)) (J:FieldG C.scr a) (L:FieldG C.scr b) (M:j=false→NameG C.scr b) (hd:j=false→(a.toList==[100,101,102,97,117,108,116])=true→(a.toList==b.toList)=false):
  zbB C j q= .ok ({q with pos:=q.pos+(zg (zaP a b [])).length},[⟨0,b,a,sNone⟩]):=by
 unfold zaP zdb at h ⊢
 cases o:a.toList==b.toList with
 |true=>
  have e:=(zeF _ _).1 o
  subst e
  simp only[o,if_true,zg,List.cons_append,List.nil_append] at h ⊢
  have z:=h.next.2.1
  have D:=z.next.2.1
  unfold zbB
  rw[zbt h,zh,zeM,zcH (q:=adv q) z (zfL z J),zh]
  have H:asP C j (adv (adv q),a)= .ok (adv (adv q),a):=by
   unfold asP
   rw[if_neg (by rw[zkF (p:=(adv (adv q)).pos) D];decide),if_neg]
   intro I
   rw[Bool.and_eq_true,Bool.not_eq_true'] at I
   have:=hd I.2 I.1
   rw[o] at this
   cases this
  rw[H,zh]
  simp only
  rw[if_neg (by rw[zd6 (p:=(adv (adv q)).pos) D,neB (by decide)];decide),zbt (q:=adv (adv q)) D,zh]
  rfl
 |false=>
  simp only[o,Bool.false_eq_true,if_false,zg,List.cons_append,List.nil_append] at h ⊢
  have z:=h.next.2.1
  have D:=z.next.2.1
  have E:=D.next.2.1
  have K:=E.next.2.1
  unfold zbB
  rw[zbt h,zh,zeM,zcH (q:=adv q) z (zfL z J),zh]
  have H:asP C j (adv (adv q),a)= .ok (adv (adv (adv (adv q))),b):=by
   unfold asP
   rw[if_pos (by rw[zdd (p:=(adv (adv q)).pos) D];simp),zcH (q:=adv (adv (adv q))) E]
   cases j with
   |true=>exact zfL E L
   |false=>exact zdP E (M rfl) false
  rw[H,zh]
  simp only
  rw[if_neg (by rw[zd6 (p:=(adv (adv (adv (adv q)))).pos) K,neB (by decide)];decide),zbt (q:=adv (adv (adv (adv q)))) K,zh]
  rfl
theorem zpS {C:Cx} {s:ByteArray} {l:List Tn} {q:PS} (E:C.scr=false) (h:Rem C q.pos (zg (zbk s)++l)) (z:s∉q.rq) (I:q.rq.length<40):zo C q= .ok {q with pos:=q.pos+(zg (zbk s)).length,rq:=q.rq++[s]}:=by
 have o:Rem C q.pos (zl sImport::za0 s::zi cSemi::l):=h
 have j:=o.next.2.1
 have H:=j.next.2.1
 unfold zo
 rw[if_pos (by rw[E,zdd o];simp)]
 unfold za3
 rw[zbT o,zh,if_neg (by rw[(zkG (p:=(adv q).pos) j _).1];decide),if_neg (by rw[(zkG (p:=(adv q).pos) j _).1];decide),if_neg (by rw[zpQ (p:=(adv q).pos) j (show (3:Int)≠1 by decide)];decide)]
 have D:zy C (adv q)= .ok ({adv (adv q) with rq:=q.rq++[s]},s):=by
  unfold zy
  rw[(Rem.kind (p:=(adv q).pos) j).1,(Rem.kind (p:=(adv q).pos) j).2.1,show (za0 s).kind=3 from rfl,show (za0 s).text=s from rfl,if_pos (show ((3:Int)==3)=true from rfl),if_neg (show ¬zbe (adv q).rq s=true from fun k=>z (zgQ.1 k)),if_neg (show ¬40≤(adv q).rq.length from by show ¬40≤q.rq.length;omega)]
  rfl
 rw[D,zh,zbt (q:={adv (adv q) with rq:=q.rq++[s]}) H]
 rfl
theorem zin {C:Cx} {x:Im} {q:PS} (h:q.im.length<40):zX C x q= .ok {q with im:=q.im++[x]}:=by unfold zX;rw[if_neg (by omega)]
theorem zpT {C:Cx} {x:Im} {l:List Tn} {q:PS} (N:C.scr=false) (h:Rem C q.pos (zg (zaQ x)++l)) (Y:ImOk C.scr q.rq x) (M:q.im.length<40):zo C q= .ok {q with pos:=q.pos+(zg (zaQ x)).length,im:=q.im++[x]}:=by
 obtain⟨j,first,o⟩:=x
 obtain⟨L,H,X⟩:=Y
 simp only at L H X
 have U:(first.toList==[42])=true→first=zp:=fun k=>(zeF _ _).1 (by rw[Lib.toList_data zp];exact k)
 have V:(first.toList==[100,101,102,97,117,108,116])=true→first=sDefault:=fun k=>(zeF _ _).1 (by rw[Lib.toList_data sDefault];exact k)
 by_cases I:(first.toList==[42])=true
 ·have J:zaQ ⟨j,first,o⟩=kW sImport++(.inl (zi zp):: .inr sp1::(kW sAs++(kW o++zaH j))):=by unfold zaQ;rw[if_pos I]
  rw[J] at h ⊢
  obtain rfl:=U I
  have D:Rem C q.pos (zl sImport::zi zp::zl sAs::zl o::zl zH::za0 j::zi cSemi::l):=h
  have z:=D.next.2.1
  have E:=z.next.2.1
  have Q:=E.next.2.1
  have h4:=Q.next.2.1
  unfold zo
  rw[if_pos (by rw[N,zdd D];simp)]
  unfold za3
  rw[zbT D,zh,if_neg (by rw[zd6 (p:=(adv q).pos) z,neB (by decide)];decide),if_pos (by rw[zd6 (p:=(adv q).pos) z];simp),zbt (q:=adv q) z,zh,zbT (q:=adv (adv q)) E,zh,zcH (q:=adv (adv (adv q))) Q (zdP Q H false),zh]
  simp only
  rw[zfQ (q:=adv (adv (adv (adv q)))) h4 L,zh]
  exact zin M
 ·by_cases K:(first.toList==[100,101,102,97,117,108,116])=true
  ·have J:zaQ ⟨j,first,o⟩=kW sImport++(kW o++zaH j):=by unfold zaQ;rw[if_neg I,if_pos K]
   rw[J] at h ⊢
   obtain rfl:=V K
   have D:Rem C q.pos (zl sImport::zl o::zl zH::za0 j::zi cSemi::l):=h
   have z:=D.next.2.1
   have E:=z.next.2.1
   unfold zo
   rw[if_pos (by rw[N,zdd D];simp)]
   unfold za3
   rw[zbT D,zh,if_neg (by rw[zgS (p:=(adv q).pos) z];decide),if_neg (by rw[zgS (p:=(adv q).pos) z];decide),if_pos (zdP (p:=(adv q).pos) z H false),zcH (q:=adv q) z (zdP z H false),zh]
   simp only
   rw[zfQ (q:=adv (adv q)) E L,zh]
   exact zin M
  ·have J:zaQ ⟨j,first,o⟩=kW sImport++zaP first o (.inr sp1::zaH j):=by unfold zaQ;rw[if_neg I,if_neg K]
   rw[J] at h ⊢
   have Z:FieldG C.scr first:=X.elim (fun e=>absurd (by rw[e,Lib.toList_data];rfl) I) id
   have ht:zg (kW sImport++zaP first o (.inr sp1::zaH j))=zl sImport::(zg (zaP first o [])++[zl zH,za0 j,zi cSemi]):=by simp[kW,zaP,zg,zba,zaH]
   rw[ht] at h ⊢
   rw[List.cons_append,List.append_assoc] at h
   have z:=h.next.2.1
   have E:=z.app
   unfold zo
   rw[if_pos (by rw[N,zdd h];simp)]
   unfold za3
   have O:Rem C (adv q).pos (zi zF::(zg (zdb first o++[.inr sp1,.inl (zi zaJ)])++[zl zH,za0 j,zi cSemi]++l)):=by
    rw[List.append_assoc]
    exact z
   rw[zbT h,zh,if_pos (by rw[zd6 O];simp),zim (q:=adv q) z Z H.field (fun _=>H) (fun _ k=>absurd k K),zh]
   simp only
   rw[zfQ (q:={adv q with pos:=(adv q).pos+(zg (zaP first o [])).length}) E L,zh]
   simp only[zK,zh]
   rw[zin (by exact M)]
   simp only[adv,zbW,List.length_cons,List.length_append,List.length_nil]
   congr 2
   omega
theorem zio {C:Cx} {x:Ep} {q:PS} (h:q.ep.length+q.la.length<40) (j:isD x.loc=false):zm C x q= .ok {q with ep:=q.ep++[x]}:=by
 unfold zm
 unfold isD at j
 rw[if_neg (by omega),if_neg (by rw[j];decide)]
theorem zgT {C:Cx} {l:List Tn} {q:PS} (j:C.scr=false) (h:Rem C q.pos (zl sExport::l)):zo C q=zV C q:=by
 unfold zo
 rw[if_neg (by rw[zdd h,neB (by decide)];simp),if_pos (by rw[j,zdd h];simp)]
theorem zpU {C:Cx} {x:Ep} {l:List Tn} {q:PS} (K:C.scr=false) (h:Rem C q.pos (zg (zbg x)++l)) (O:EpOk C.scr q.rq x) (L:q.ep.length+q.la.length<40):zo C q= .ok {q with pos:=q.pos+(zg (zbg x)).length,ep:=q.ep++[x]}:=by
 cases O using EpOk.elim with
 | @loc n o I j=>
  have J:zg (zbg ⟨1,n,o,sNone⟩)=zl sExport::(zg (zaP o n [])++[zi cSemi]):=by simp[zbg,kW,zaP,zg,zba]
  rw[J] at h ⊢
  rw[List.cons_append,List.append_assoc] at h
  have z:=h.next.2.1
  have H:=z.app
  have D:Rem C (adv q).pos (zi zF::(zg (zdb o n++[.inr sp1,.inl (zi zaJ)])++[zi cSemi]++l)):=by
   rw[List.append_assoc]
   exact z
  rw[zgT K h]
  unfold zV
  rw[zbT h,zh,if_pos (by rw[zd6 D];simp),zim (q:=adv q) z j.field I (fun k=>by cases k) (fun k=>by cases k),zh]
  simp only
  have N:za2 [⟨0,n,o,sNone⟩]=false:=by
   have:=(zkH j).2.2.1
   rw[Lib.toList_data sDefault] at this
   unfold za2
   simp only[List.any_cons,List.any_nil,Bool.or_false]
   exact this
  rw[if_pos (by rw[N,zkF (p:=(adv q).pos+(zg (zaP o n [])).length) H];decide),zbt (q:={adv q with pos:=(adv q).pos+(zg (zaP o n [])).length}) H,zh]
  simp only[zK,zh]
  rw[zio (by exact L) (by exact zcy j.field)]
  simp only[adv,zD,List.length_cons,List.length_append,List.length_nil]
  congr 2
  omega
 | @frm n o s I j E=>
  have J:zg (zbg ⟨2,n,o,s⟩)=zl sExport::(zg (zaP o n [])++[zl zH,za0 s,zi cSemi]):=by simp[zbg,kW,zaP,zg,zba,zaH]
  rw[J] at h ⊢
  rw[List.cons_append,List.append_assoc] at h
  have z:=h.next.2.1
  have H:=z.app
  have D:Rem C (adv q).pos (zi zF::(zg (zdb o n++[.inr sp1,.inl (zi zaJ)])++[zl zH,za0 s,zi cSemi]++l)):=by
   rw[List.append_assoc]
   exact z
  rw[zgT K h]
  unfold zV
  rw[zbT h,zh,if_pos (by rw[zd6 D];simp),zim (q:=adv q) z j I (fun k=>by cases k) (fun k=>by cases k),zh]
  simp only
  rw[if_neg (by rw[zdd (p:=(adv q).pos+(zg (zaP o n [])).length) H];simp),zfQ (q:={adv q with pos:=(adv q).pos+(zg (zaP o n [])).length}) H E,zh]
  simp only[zK,zh]
  rw[zio (by exact L) (by exact zcy j)]
  simp only[adv,zaj,List.length_cons,List.length_append,List.length_nil]
  congr 2
  omega
 | @star s E=>
  have M:Rem C q.pos (zl sExport::zi zp::zl zH::za0 s::zi cSemi::l):=h
  have z:=M.next.2.1
  have H:=z.next.2.1
  rw[zgT K M]
  unfold zV
  rw[zbT M,zh,if_neg (by rw[zd6 (p:=(adv q).pos) z,neB (by decide)];decide),if_pos (by rw[zd6 (p:=(adv q).pos) z];simp),zbt (q:=adv q) z,zfQ (q:=adv (adv q)) H E,zh]
  rw[zio (by exact L) (by exact zdR)]
  rfl
theorem zgU {C:Cx} {k:Int} {n:ByteArray} {q:PS} (h:q.st.length<80):zE C k n q= .ok {q with st:=q.st++[⟨k,n,(q.ex.length:Int)-1⟩]}:=by unfold zE;rw[if_neg (by omega)]
theorem zpV {C:Cx} {q:PS} (h:q.ep.length+q.la.length<40):zm C dEp q= .ok {q with la:=q.la++[dEp]}:=by
 unfold zm
 rw[if_neg (by omega),if_pos (by have:=zdQ;unfold isD at this;exact this)]
def zcg (q:PS) (n:Nat) (s:SI):PS:=⟨q.pos+n,q.rq,q.im,q.ep,q.st++[⟨s.kind,s.name,((q.ex.length+s.t.size:Nat):Int)-1⟩],q.ex++s.t.flat q.ex.length,q.la++if isD s.name then [dEp] else []⟩
theorem zgV {C:Cx} {l:List Tn} {q:PS} {k:Int} {m:ByteArray} {t:Tr} (n:Nat) (o:TrOk C.scr t) (j:t.dp≤20) (h:Rem C (q.pos+n) (zg t.pcs++zi cSemi::l)) (z:isD m=false) (D:q.ex.length+t.size≤300) (E:q.st.length<80):
  bd (bd (pE C .sum 0 {q with pos:=q.pos+n}) (zd C 4 cSemi)) (zE C k m)= .ok (zcg q (n+(zg t.pcs).length+1) ⟨k,m,t⟩):=by
 rw[zgL (q:={q with pos:=q.pos+n}) o j (.inl rfl) h D,zh,zbt (q:=aft {q with pos:=q.pos+n} _ t) h.app,zh]
 rw[zgU (by exact E)]
 simp only[zcg,adv,aft,z,List.length_append,Tr.flat_len,Bool.false_eq_true,if_false,List.append_nil]
 congr 2
 omega
theorem zfg {C:Cx} {x:ByteArray} {l:List Tn} {q:PS} (h:Rem C q.pos (zl x::l)) (j:(x.toList==sImport.toList)=false) (o:(x.toList==sExport.toList)=false):zo C q=
  if (x.toList==sLet.toList) then za7 (zbA C q)
  else if (x.toList==sFunction.toList) then za7 (fnP C q)
  else if (x.toList==sPrint.toList) then bd (bd (bd (bd (bd (zd C 1 sPrint q) (zd C 4 cOpen)) (pE C .sum 0)) (zd C 4 zU)) (zd C 4 cSemi)) (zE C 4 sNone)
  else if (x.toList==sThrow.toList) then bd (bd (bd (zd C 1 sThrow q) (pE C .sum 0)) (zd C 4 cSemi)) (zE C 5 sNone)
  else if C.scr&&(x.toList==sFail.toList) then bd (bd (bd (zd C 1 sFail q) (pE C .sum 0)) (zd C 4 cSemi)) (zE C 6 sNone)
  else bd (zk C false q) fun a=>bd (bd (bd (zd C 4 cEq a.1) (pE C .sum 0)) (zd C 4 cSemi)) (zE C 3 a.2):=by
 unfold zo
 simp only[zdd h,j,o,Bool.and_false,Bool.false_eq_true,if_false]
theorem zpW {C:Cx} {s:SI} {l:List Tn} {q:PS} (L:SOk C.scr s) (h:Rem C q.pos (zg (zak s)++l)) (I:q.ex.length+s.t.size≤300) (o:q.st.length<80) (X:isD s.name=true→q.ep.length+q.la.length<40):zo C q= .ok (zcg q (zg (zak s)).length s):=by
 cases L using SOk.elim with
 | @lt n t H E hd=>
  have K:=zcy H.field
  have D:zg (zak ⟨1,n,t⟩)=zl sLet::zl n::zi cEq::(zg t.pcs++[zi cSemi]):=by simp[zak,K,kW,zdc,zaU,zg,zba]
  rw[D] at h ⊢
  simp only[List.cons_append,List.append_assoc,List.nil_append] at h
  have j:=h.next.2.1
  have z:=j.next.2.1
  have J:=z.next.2.1
  rw[zfg h (neB (by decide)) (neB (by decide)),if_pos (by simp)]
  unfold zbA withN za7
  rw[zbT h,zh,zcH (q:=adv q) j (zdP j H false),zh]
  simp only[zh]
  rw[zbt (q:=adv (adv q)) z,zh]
  rw[show adv (adv (adv q))={q with pos:=q.pos+3} from rfl,zgV (q:=q) 3 E hd J K I o,zh,zh]
  simp only[List.length_cons,List.length_append,List.length_nil]
  congr 2
  omega
 | @dflt t L E hd=>
  have D:zg (zak ⟨1,zbp,t⟩)=zl sExport::zl sDefault::(zg t.pcs++[zi cSemi]):=by simp[zak,zdQ,kW,zaU,zg,zba]
  rw[D] at h ⊢
  simp only[List.cons_append,List.append_assoc,List.nil_append] at h
  have j:=h.next.2.1
  have z:=j.next.2.1
  rw[zgT L h]
  unfold zV
  rw[zbT h,zh,if_neg (by rw[zgS (p:=(adv q).pos) j];decide),if_neg (by rw[zgS (p:=(adv q).pos) j];decide),if_pos (by rw[zdd (p:=(adv q).pos) j];simp),zbT (q:=adv q) j,zh]
  rw[zgL (q:=adv (adv q)) E hd (.inl rfl) z I,zh,zbt (q:=aft (adv (adv q)) _ t) z.app,zh,zgU (by exact o),zh]
  rw[zpV (by exact X zdQ)]
  simp only[zcg,adv,aft,zdQ,List.length_append,List.length_cons,List.length_nil,Tr.flat_len,if_true]
  congr 2
  omega
 | @fn n t H E hd=>
  have K:=zcy H.field
  have D:zg (zak ⟨2,n,t⟩)=zl sFunction::zl n::zi cOpen::zi zU::zi zF::zl zdw::(zg t.pcs++[zi cSemi,zi zaJ]):=by simp[zak,kW,zg,zba]
  rw[D] at h ⊢
  simp only[List.cons_append,List.append_assoc,List.nil_append] at h
  have j:=h.next.2.1
  have z:=j.next.2.1
  have J:=z.next.2.1
  have O:=J.next.2.1
  have Q:=O.next.2.1
  have M:=Q.next.2.1
  have N:=M.app
  rw[zfg h (neB (by decide)) (neB (by decide)),if_neg (by rw[neB (by decide)];decide),if_pos (by simp)]
  unfold fnP withN za7
  rw[zbT h,zh,zcH (q:=adv q) j (zdP j H false),zh]
  simp only[zh]
  rw[zbt (q:=adv (adv q)) z,zh,zbt (q:=adv (adv (adv q))) J,zh,zbt (q:=adv (adv (adv (adv q)))) O,zh,zbT (q:=adv (adv (adv (adv (adv q))))) Q,zh]
  rw[zgL (q:=adv (adv (adv (adv (adv (adv q)))))) E hd (.inl rfl) M I,zh,zbt (q:=aft (adv (adv (adv (adv (adv (adv q)))))) _ t) N,zh,zbt (q:=adv (aft (adv (adv (adv (adv (adv (adv q)))))) _ t)) N.next.2.1,zh,zgU (by exact o),zh,zh]
  simp only[zcg,adv,aft,K,List.length_append,List.length_cons,List.length_nil,Tr.flat_len,Bool.false_eq_true,if_false,List.append_nil]
  congr 2
  omega
 | @set n t H E hd=>
  have K:=zcy H.field
  have D:zg (zak ⟨3,n,t⟩)=zl n::zi cEq::(zg t.pcs++[zi cSemi]):=by simp[zak,kW,zdc,zaU,zg,zba]
  rw[D] at h ⊢
  simp only[List.cons_append,List.append_assoc,List.nil_append] at h
  have j:=h.next.2.1
  have z:=j.next.2.1
  obtain⟨Z,a1,a2,U,a4,V,Y,a7⟩:=zkH H
  rw[zfg h Z a1,if_neg (by rw[U];decide),if_neg (by rw[a4];decide),if_neg (by rw[V];decide),if_neg (by rw[Y];decide),if_neg (by rw[a7];decide),zcH h (zdP h H false),zh]
  simp only
  rw[zbt (q:=adv q) j,zh]
  rw[show adv (adv q)={q with pos:=q.pos+2} from rfl,zgV (q:=q) 2 E hd z K I o]
  simp only[List.length_cons,List.length_append,List.length_nil]
  congr 2
  omega
 | @prt t E hd=>
  have D:zg (zak ⟨4,sNone,t⟩)=zl sPrint::zi cOpen::(zg t.pcs++[zi zU,zi cSemi]):=by simp[zak,zaU,zg,zba]
  rw[D] at h ⊢
  simp only[List.cons_append,List.append_assoc,List.nil_append] at h
  have j:=h.next.2.1
  have z:=j.next.2.1
  have J:=z.app
  rw[zfg h (neB (by decide)) (neB (by decide)),if_neg (by rw[neB (by decide)];decide),if_neg (by rw[neB (by decide)];decide),if_pos (by simp)]
  rw[zbT h,zh,zbt (q:=adv q) j,zh]
  rw[zgL (q:=adv (adv q)) E hd (.inr rfl) z I,zh,zbt (q:=aft (adv (adv q)) _ t) J,zh,zbt (q:=adv (aft (adv (adv q)) _ t)) J.next.2.1,zh,zgU (by exact o)]
  simp only[zcg,adv,aft,zdR,List.length_append,List.length_cons,List.length_nil,Tr.flat_len,Bool.false_eq_true,if_false,List.append_nil]
  congr 2
  omega
 | @thr t E hd=>
  have D:zg (zak ⟨5,sNone,t⟩)=zl sThrow::(zg t.pcs++[zi cSemi]):=by simp[zak,kW,zaU,zg,zba]
  rw[D] at h ⊢
  simp only[List.cons_append,List.append_assoc,List.nil_append] at h
  have j:=h.next.2.1
  rw[zfg h (neB (by decide)) (neB (by decide)),if_neg (by rw[neB (by decide)];decide),if_neg (by rw[neB (by decide)];decide),if_neg (by rw[neB (by decide)];decide),if_pos (by simp),zbT h,zh]
  rw[show adv q={q with pos:=q.pos+1} from rfl,zgV (q:=q) 1 E hd j zdR I o]
  simp only[List.length_cons,List.length_append,List.length_nil]
  congr 2
  omega
 | @fail t L E hd=>
  have D:zg (zak ⟨6,sNone,t⟩)=zl sFail::(zg t.pcs++[zi cSemi]):=by simp[zak,kW,zaU,zg,zba]
  rw[D] at h ⊢
  simp only[List.cons_append,List.append_assoc,List.nil_append] at h
  have j:=h.next.2.1
  rw[zfg h (neB (by decide)) (neB (by decide)),if_neg (by rw[neB (by decide)];decide),if_neg (by rw[neB (by decide)];decide),if_neg (by rw[neB (by decide)];decide),if_neg (by rw[neB (by decide)];decide),if_pos (by rw[L];simp),zbT h,zh]
  rw[show adv q={q with pos:=q.pos+1} from rfl,zgV (q:=q) 1 E hd j zdR I o]
  simp only[List.length_cons,List.length_append,List.length_nil]
  congr 2
  omega
theorem zgW {C:Cx} {q q':PS} {a l:List Tn} (o:Rem C q.pos (a++l)) (j:a≠[]) (h:zo C q= .ok q'):zM C q=zM C q':=by
 cases a with
 |nil=>exact absurd rfl j
 |cons t a=>rw[zeQ,if_pos o.next.2.2,h,zh]
theorem zd7 {a b:PS} (H:a.pos=b.pos) (E:a.rq=b.rq) (z:a.im=b.im) (I:a.ep=b.ep) (j:a.st=b.st) (D:a.ex=b.ex) (o:a.la=b.la):a=b:=by
 cases a;cases b;simp_all
theorem zpX {C:Cx} (l:List ByteArray): ∀(q:PS) (r:List Tn),(l≠[]→C.scr=false)→Rem C q.pos (zg (l.flatMap zbk)++r)→(q.rq++l).Nodup→(q.rq++l).length≤40→
  zM C q=zM C {q with pos:=q.pos+(zg (l.flatMap zbk)).length,rq:=q.rq++l}:=by
 induction l with
 |nil=>intro q r _ _ _ _;congr 1;exact zd7 rfl (by simp) rfl rfl rfl rfl rfl
 |cons s l H=>
  intro q r I h o E
  have j:=I (by simp)
  rw[List.flatMap_cons,zba] at h ⊢
  rw[List.append_assoc] at h
  have z:s∉q.rq:=by
   rw[List.nodup_append] at o
   exact fun k=>o.2.2 s k s (by simp) rfl
  have D:q.rq.length<40:=by simp at E;omega
  rw[zgW h (by simp[zbk,kW,zg]) (zpS j h z D)]
  rw[H {q with pos:=q.pos+(zg (zbk s)).length,rq:=q.rq++[s]} r (fun _=>j) h.app (by simpa using o) (by simpa using E)]
  congr 1
  exact zd7 (by simp;omega) (by simp) rfl rfl rfl rfl rfl
theorem zpY (x:Im):zg (zaQ x)≠[]:=by
 unfold zaQ
 split
 ·simp[kW,zg]
 ·split<;>simp[kW,zg]
theorem zpZ (x:Ep):zg (zbg x)≠[]:=by
 unfold zbg
 split
 ·simp[kW,zg]
 ·split<;>simp[kW,zg]
theorem zqa (s:SI):zg (zak s)≠[]:=by
 unfold zak
 repeat' split
 all_goals simp[kW,zg]
theorem zqb {C:Cx} (l:List Im): ∀(q:PS) (r:List Tn),(l≠[]→C.scr=false)→Rem C q.pos (zg (l.flatMap zaQ)++r)→(∀x∈l,ImOk C.scr q.rq x)→q.im.length+l.length≤40→
  zM C q=zM C {q with pos:=q.pos+(zg (l.flatMap zaQ)).length,im:=q.im++l}:=by
 induction l with
 |nil=>intro q r _ _ _ _;congr 1;exact zd7 rfl rfl (by simp) rfl rfl rfl rfl
 |cons s l z=>
  intro q r D h o H
  have j:=D (by simp)
  rw[List.flatMap_cons,zba] at h ⊢
  rw[List.append_assoc] at h
  rw[List.length_cons] at H
  rw[zgW h (zpY s) (zpT j h (o s (by simp)) (by omega))]
  rw[z {q with pos:=q.pos+(zg (zaQ s)).length,im:=q.im++[s]} r (fun _=>j) h.app (fun x E=>o x (by simp[E])) (by simp;omega)]
  congr 1
  exact zd7 (by simp;omega) rfl (by simp) rfl rfl rfl rfl
theorem zqc {C:Cx} (l:List Ep): ∀(q:PS) (r:List Tn),(l≠[]→C.scr=false)→Rem C q.pos (zg (l.flatMap zbg)++r)→(∀x∈l,EpOk C.scr q.rq x)→q.ep.length+l.length+q.la.length≤40→
  zM C q=zM C {q with pos:=q.pos+(zg (l.flatMap zbg)).length,ep:=q.ep++l}:=by
 induction l with
 |nil=>intro q r _ _ _ _;congr 1;exact zd7 rfl rfl rfl (by simp) rfl rfl rfl
 |cons s l z=>
  intro q r D h o H
  have j:=D (by simp)
  rw[List.flatMap_cons,zba] at h ⊢
  rw[List.append_assoc] at h
  rw[List.length_cons] at H
  rw[zgW h (zpZ s) (zpU j h (o s (by simp)) (by omega))]
  rw[z {q with pos:=q.pos+(zg (zbg s)).length,ep:=q.ep++[s]} r (fun _=>j) h.app (fun x E=>o x (by simp[E])) (by simp;omega)]
  congr 1
  exact zd7 (by simp;omega) rfl rfl (by simp) rfl rfl rfl
theorem zkI (l:List SI): ∀o,(stS l o).length=l.length:=by
 induction l with
 |nil=>intro o;rfl
 |cons s l j=>intro o;simp[stS,j]
theorem zqd {C:Cx} (l:List SI): ∀(q:PS) (r:List Tn),Rem C q.pos (zg (l.flatMap zak)++r)→(∀s∈l,SOk C.scr s)→q.st.length+l.length≤80→q.ex.length+(exS l q.ex.length).length≤300→q.ep.length+q.la.length+(laS l).length≤40→
  zM C q=zM C ⟨q.pos+(zg (l.flatMap zak)).length,q.rq,q.im,q.ep,q.st++stS l q.ex.length,q.ex++exS l q.ex.length,q.la++laS l⟩:=by
 induction l with
 |nil=>intro q r _ _ _ _ _;congr 1;exact zd7 rfl rfl rfl rfl (by simp[stS]) (by simp[exS]) (by simp[laS])
 |cons s l E=>
  intro q r h D I H o
  rw[List.flatMap_cons,zba] at h ⊢
  rw[List.append_assoc] at h
  rw[List.length_cons] at I
  simp only[exS,laS,List.length_append,Tr.flat_len] at H o
  have z:=zpW (D s (by simp)) h (by omega) (by omega) (fun k=>by rw[k] at o;simp at o;omega)
  have j:(zcg q (zg (zak s)).length s).ex.length=q.ex.length+s.t.size:=by simp[zcg,Tr.flat_len]
  rw[zgW h (zqa s) z,E (zcg q (zg (zak s)).length s) r h.app (fun x j=>D x (by simp[j])) (by simp[zcg];omega) (by rw[j];omega) (by simp only[zcg,List.length_append];omega),j]
  congr 1
  exact zd7 (by simp[zcg];omega) rfl rfl rfl (by simp[zcg,stS]) (by simp[zcg,exS]) (by simp[zcg,laS])
def zdS (q:PS) (sts:List SI):List Pc:=q.rq.flatMap zbk++(q.im.flatMap zaQ++(q.ep.flatMap zbg++sts.flatMap zak))
theorem zqe {C:Cx} {q:PS} {j:List SI} (h:PI C.scr q j) (E:Rem C 0 (zg (zdS q j))): ∃p,zM C startP= .ok {q with pos:=p}:=by
 have I: ∀{α:Type} (l:List α),(C.scr=true→l=[])→l≠[]→C.scr=false:=fun l k J=>by
  cases N:C.scr with
  |false=>rfl
  |true=>exact absurd (k N) J
 unfold zdS at E
 simp only[zba] at E
 have Q:=h.nrq
 have Y:=h.nim
 have O:=h.nep
 have V:=h.nst
 have X:=h.nex
 rw[h.la] at O
 rw[h.st,zkI] at V
 rw[h.ex] at X
 have K:zM C startP=zM C ⟨0+(zg (q.rq.flatMap zbk)).length,q.rq,[],[],[],[],[]⟩:=zpX q.rq startP _ (I _ fun k=>(h.scrr k).1) E h.nd Q
 have D:=E.app
 have M:_=zM C ⟨0+(zg (q.rq.flatMap zbk)).length+(zg (q.im.flatMap zaQ)).length,q.rq,q.im,[],[],[],[]⟩:=zqb q.im ⟨0+(zg (q.rq.flatMap zbk)).length,q.rq,[],[],[],[],[]⟩ _ (I _ fun k=>(h.scrr k).2.1) D h.im (by show 0+q.im.length≤40;omega)
 have z:=D.app
 have L:_=zM C ⟨0+(zg (q.rq.flatMap zbk)).length+(zg (q.im.flatMap zaQ)).length+(zg (q.ep.flatMap zbg)).length,q.rq,q.im,q.ep,[],[],[]⟩:=zqc q.ep ⟨0+(zg (q.rq.flatMap zbk)).length+(zg (q.im.flatMap zaQ)).length,q.rq,q.im,[],[],[],[]⟩ _ (I _ fun k=>(h.scrr k).2.2) z h.ep (by show 0+q.ep.length+0≤40;omega)
 have o:=z.app
 rw[←List.append_nil (zg (j.flatMap zak))] at o
 have U:_=zM C ⟨0+(zg (q.rq.flatMap zbk)).length+(zg (q.im.flatMap zaQ)).length+(zg (q.ep.flatMap zbg)).length+(zg (j.flatMap zak)).length,q.rq,q.im,q.ep,stS j 0,exS j 0,laS j⟩:=zqd j ⟨0+(zg (q.rq.flatMap zbk)).length+(zg (q.im.flatMap zaQ)).length+(zg (q.ep.flatMap zbg)).length,q.rq,q.im,q.ep,[],[],[]⟩ _ o h.ok (by show 0+j.length≤80;omega) (by show 0+(exS j 0).length≤300;omega) (by show q.ep.length+0+(laS j).length≤40;omega)
 have H:=o.app.none
 rw[K,M,L,U,zeQ,if_neg (Nat.not_lt.2 H)]
 refine⟨_,congrArg Except.ok (zd7 (b:={q with pos:=_}) rfl rfl rfl rfl h.st.symm h.ex.symm h.la.symm)⟩
theorem zqf {α:Type} (f:α→ByteArray) (l:List α): ∀t,(acc f l t).data.toList=t.data.toList++l.flatMap fun x=>(f x).data.toList:=by
 induction l with
 |nil=>intro t;simp[acc]
 |cons x l j=>
  intro t
  show (acc f l (t++f x)).data.toList=_
  rw[j,zfN,List.flatMap_cons,List.append_assoc]
theorem zip {α:Type} (f:α→List Pc) (l:List α):zL (l.flatMap f)=l.flatMap fun x=>zL (f x):=by
 induction l with
 |nil=>rfl
 |cons x l j=>rw[List.flatMap_cons,List.flatMap_cons,zbY,j]
theorem zqg (s:ByteArray):(rqT s).data.toList=zL (zbk s):=by simp[rqT,zaL,zbk,kW,zL,zaw,zl,za0,zi]
theorem ziq (a b:ByteArray):(asT a b).data.toList=zL (zdb a b):=by
 unfold asT zdb
 split
 ·simp[zL,zaw,zl]
 ·simp[zL,zaw,zl]
theorem zqh (x:Im):(zaO x).data.toList=zL (zaQ x):=by
 unfold zaO zaQ
 split
 ·simp[zaL,kW,zaH,zL,zaw,zl,za0,zi]
 ·split
  ·simp[zaL,kW,zaH,zL,zaw,zl,za0,zi]
  ·simp[zaL,kW,zaH,zaP,ziq,zbY,zL,zaw,zl,za0,zi]
theorem zqi (x:Ep):(zc7 x).data.toList=zL (zbg x):=by
 unfold zc7 zbg
 split
 ·simp[zaL,kW,zaH,zL,zaw,zl,za0,zi]
 ·split
  ·simp[zaL,kW,zaH,zaP,ziq,zbY,zL,zaw,zl,za0,zi]
  ·simp[kW,zaP,ziq,zbY,zL,zaw,zl,zi]
theorem zqj (k:Int) (n e:ByteArray) (t:Tr) (j:e.data.toList=zL t.pcs):(zd4 k n e).data.toList=zL (zak ⟨k,n,t⟩):=by
 unfold zd4 zak
 split
 ·show _=zL (if isD n then _ else _)
  unfold isD
  split
  ·simp[j,kW,zaU,zbY,zL,zaw,zl,zi]
  ·simp[j,kW,zaU,zdc,zbY,zL,zaw,zl,zi]
 ·split
  ·simp[j,kW,zbY,zL,zaw,zl,zi]
  ·split
   ·simp[j,kW,zaU,zdc,zbY,zL,zaw,zl,zi]
   ·split
    ·simp[j,zaU,zbY,zL,zaw,zl,zi]
    ·split
     ·simp[j,kW,zaU,zbY,zL,zaw,zl,zi]
     ·simp[j,kW,zaU,zbY,zL,zaw,zl,zi]
theorem zqk {scr:Bool} (l:List SI): ∀A:List Ex,(∀s∈l,SOk scr s)→(stS l A.length).flatMap (fun s=>(stF (A++exS l A.length) s).data.toList)=zL (l.flatMap zak):=by
 induction l with
 |nil=>intro A _;rfl
 |cons s l o=>
  intro A h
  have E:=s.t.pos
  have j:=o (A++s.t.flat A.length) fun x D=>h x (by simp[D])
  rw[List.length_append,Tr.flat_len] at j
  have e:A++exS (s::l) A.length=A++s.t.flat A.length++exS l (A.length+s.t.size):=by simp[exS]
  rw[List.flatMap_cons,zbY,stS,List.flatMap_cons,e,j]
  congr 1
  refine zqj s.kind s.name _ s.t ?_
  have z:(((A.length+s.t.size:Nat):Int)-1).toNat=A.length+s.t.size-1:=by omega
  simp only[z,List.append_assoc]
  exact zp7 (h s (by simp)).tree.1 A _
theorem zql (l:List SI):(laS l).flatMap (fun x=>(epF x).data.toList)=[]:=by
 induction l with
 |nil=>rfl
 |cons s l j=>
  rw[laS,List.flatMap_append,j,List.append_nil]
  split
  ·have:epF dEp=sNone:=by unfold epF;rw[if_pos (by have:=zdQ;unfold isD at this;exact this)]
   simp[this]
  ·rfl
theorem zqm {scr:Bool} {rq:List ByteArray} (l:List Ep) (h: ∀x∈l,EpOk scr rq x):l.flatMap (fun x=>(epF x).data.toList)=zL (l.flatMap zbg):=by
 rw[zip]
 have: ∀x∈l,(epF x).data.toList=zL (zbg x):=fun x H=>by
  have hd:isD x.loc=false:=by
   cases h x H using EpOk.elim with
   |loc o j=>exact zcy j.field
   |frm o j D=>exact zcy j
   |star D=>exact zdR
  unfold epF
  unfold isD at hd
  rw[if_neg (by rw[hd];decide)]
  exact zqi x
 clear h
 induction l with
 |nil=>rfl
 |cons x l z=>rw[List.flatMap_cons,List.flatMap_cons,this x (by simp),z fun y E=>this y (by simp[E])]
theorem zqn {scr:Bool} {q:PS} {j:List SI} (h:PI scr q j):(zcx (zaS q)).data.toList=zL (zdS q j):=by
 unfold zcx zda zaS zdS
 simp only[zqf,List.flatMap_append,zbY,h.la,zql,List.append_nil,zqm q.ep h.ep,h.ex,h.st]
 have:=zqk j [] h.ok
 simp only[List.length_nil,List.nil_append] at this
 rw[this,zip zbk,zip zaQ]
 simp only[zqg,zqh,List.append_assoc]
 rfl
def zal (w:Bool):List Pc→Prop
 |[]=>w=false
 | .inr _::l=>zal false l
 | .inl t::l=>(w=true→zaZ t=false)∧zal (zaZ t) l
theorem zde {a b:List Pc} (o:zal false b): ∀w,zal w a→zal w (a++b):=by
 induction a with
 |nil=>intro w h;rw[show w=false from h];exact o
 |cons p l j=>
  intro w h
  cases p with
  |inl t=>exact⟨h.1,j _ h.2⟩
  |inr x=>exact j _ h
theorem zir {a b:List Pc} (o: ∀w,zal w b): ∀w,adj w a→zal w (a++b):=by
 induction a with
 |nil=>intro w _;exact o w
 |cons p l j=>
  intro w h
  cases p with
  |inl t=>exact⟨h.1,j _ h.2⟩
  |inr x=>exact j _ h
theorem zkJ {a:List Pc}: ∀w,zal w a→adj w a:=by
 induction a with
 |nil=>intro w _;trivial
 |cons p l j=>
  intro w h
  cases p with
  |inl t=>exact⟨h.1,j _ h.2⟩
  |inr x=>exact j _ h
theorem zgX {α:Type} {f:α→List Pc} (l:List α) (h: ∀x∈l,zal false (f x)):zal false (l.flatMap f):=by
 induction l with
 |nil=>rfl
 |cons x l o=>rw[List.flatMap_cons];exact zde (o fun y j=>h y (by simp[j])) _ (h x (by simp))
theorem zgY {scr:Bool} {α:Type} {f:α→List Pc} (l:List α) (h: ∀x∈l,GoodP scr (f x)):GoodP scr (l.flatMap f):=by
 intro p j
 obtain⟨x,z,o⟩:=List.mem_flatMap.1 j
 exact h x z p o
def zca (x:ByteArray):Prop:=x=sImport∨x=sExport∨x=sDefault∨x=sLet∨x=sFunction∨x=zdw∨x=sPrint∨x=sThrow∨x=sFail∨x=sAs∨x=zH
theorem zez {scr:Bool} {x:ByteArray} (h:zca x):GoodT scr (zl x):=by
 have z: ∀(c:UInt8) (j:List UInt8),(zam (ib c) scr&&j.all fun b=>zB scr (ib b))=true→GoodT scr (zl ⟨(c::j).toArray⟩):=fun c j o=>by
  rw[Bool.and_eq_true,List.all_eq_true] at o
  exact .name (c:=c) (cs:=j) rfl o.1 o.2
 rcases h with rfl|rfl|rfl|rfl|rfl|rfl|rfl|rfl|rfl|rfl|rfl<;>exact z _ _ (by cases scr<;>decide)
theorem zcI {scr:Bool} {t:Tn} {l:List Pc} (h:GoodT scr t) (o:GoodP scr l):GoodP scr (.inl t::l):=by
 intro p j
 rcases List.mem_cons.1 j with rfl|j
 ·exact h
 ·exact o p j
theorem zb3 {scr:Bool} {x:List UInt8} {l:List Pc} (h:x=sp1∨x=nl1) (o:GoodP scr l):GoodP scr (.inr x::l):=by
 intro p j
 rcases List.mem_cons.1 j with rfl|j
 ·exact h.elim .inl fun k=>.inr (.inl k)
 ·exact o p j
theorem zd8 {scr:Bool}:GoodP scr []:=fun p j=>by cases j
theorem zb4 {scr:Bool} {x:ByteArray} {l:List Pc} (h:GoodT scr (zl x)) (j:GoodP scr l):GoodP scr (kW x++l):=zcI h (zb3 (.inl rfl) j)
theorem zbN {scr:Bool} {x:ByteArray} {l:List Pc} (h:x=cOpen∨x=zU∨x=cPoint∨x=zp∨x=zbq∨x=zaI∨x=zbv∨x=cSemi∨x=cEq∨x=zF∨x=zaJ) (j:GoodP scr l):GoodP scr (.inl (zi x)::l):=zcI (zgP h) j
theorem zis {scr:Bool} {s:ByteArray} (h:GoodT scr (za0 s)):GoodP scr (zaH s):=zb4 (zez (by simp[zca])) (zcI h (zbN (by simp) (zb3 (.inr rfl) zd8)))
theorem zit {scr:Bool} {a b:ByteArray} {r:List Pc} (j:FieldG scr a) (o:FieldG scr b) (z:GoodP scr r):GoodP scr (zaP a b r):=by
 refine zbN (by simp) (zb3 (.inl rfl) (GoodP.app ?_ (zb3 (.inl rfl) (zbN (by simp) z))))
 unfold zdb
 split
 ·exact zcI j.1 zd8
 ·exact zcI j.1 (zb3 (.inl rfl) (zcI (zez (by simp[zca])) (zb3 (.inl rfl) (zcI o.1 zd8))))
theorem ziu (a b:ByteArray) {r:List Pc} (j:zal false r):zal false (zaP a b r):=by
 unfold zaP zdb
 split<;>simp[zal,zaZ,zi,zl,j]
theorem zkK {scr:Bool} {rq:List ByteArray} {x:Im} (E: ∀s∈rq,GoodT scr (za0 s)) (h:ImOk scr rq x):GoodP scr (zaQ x)∧zal false (zaQ x):=by
 obtain⟨J,o,H⟩:=h
 have z:GoodT scr (zl sImport):=zez (by simp[zca])
 have j:=zis (E _ J)
 unfold zaQ
 split
 ·exact⟨zb4 z (zbN (by simp) (zb3 (.inl rfl) (zb4 (zez (by simp[zca])) (zb4 o.1 j)))),by simp[zal,kW,zaH,zaZ,zi,zl,za0]⟩
 ·next D=>
  split
  ·exact⟨zb4 z (zb4 o.1 j),by simp[zal,kW,zaH,zaZ,zi,zl,za0]⟩
  ·have I:FieldG scr x.first:=H.elim (fun e=>absurd (by rw[e,Lib.toList_data];rfl) D) id
   exact⟨zb4 z (zit I o.field (zb3 (.inl rfl) j)),zde (ziu _ _ (by simp[zal,zaH,zaZ,zi,zl,za0])) _ (by simp[zal,kW])⟩
theorem zkL {scr:Bool} {rq:List ByteArray} {x:Ep} (E: ∀s∈rq,GoodT scr (za0 s)) (h:EpOk scr rq x):GoodP scr (zbg x)∧zal false (zbg x):=by
 have D:GoodT scr (zl sExport):=zez (by simp[zca])
 cases h using EpOk.elim with
 |loc j z=>exact⟨zb4 D (zit z.field j (zbN (by simp) (zb3 (.inr rfl) zd8))),zde (ziu _ _ (by simp[zal,zaZ,zi])) _ (by simp[zal,kW])⟩
 |frm j z o=>exact⟨zb4 D (zit z j (zb3 (.inl rfl) (zis (E _ o)))),zde (ziu _ _ (by simp[zal,zaH,zaZ,zi,zl,za0])) _ (by simp[zal,kW])⟩
 |star o=>exact⟨zb4 D (zbN (by simp) (zb3 (.inl rfl) (zis (E _ o)))),by simp[zbg,zal,kW,zaH,zaZ,zi,zl,za0]⟩
theorem zdf {scr:Bool} {t:Tr} (h:TrOk scr t):GoodP scr (t.pcs++zaU)∧zal false (t.pcs++zaU):=
 ⟨(zfd t h).1.app (zbN (by simp) (zb3 (.inr rfl) zd8)),zir (fun w=>by simp[zaU,zal,zaZ,zi]) _ (zfd t h).2⟩
theorem ze0 (x:ByteArray) {l:List Pc} (h:zal false l):zal false (kW x++l):=by simp[kW,zal,h]
theorem zkM {scr:Bool} {s:SI} (h:SOk scr s):GoodP scr (zak s)∧zal false (zak s):=by
 have o: ∀{x},zca x→GoodT scr (zl x):=fun h=>zez h
 cases h using SOk.elim with
 | @lt n t z j hd=>
  have e:zak ⟨1,n,t⟩=kW sLet++(kW n++(zdc++(t.pcs++zaU))):=by simp[zak,zcy z.field]
  rw[e]
  exact⟨zb4 (o (by simp[zca])) (zb4 z.1 (zbN (by simp) (zb3 (.inl rfl) (zdf j).1))),ze0 _ (ze0 _ (zde (zdf j).2 _ (by simp[zdc,zal,zaZ,zi])))⟩
 | @dflt t D j hd=>
  have e:zak ⟨1,zbp,t⟩=kW sExport++(kW sDefault++(t.pcs++zaU)):=by simp[zak,zdQ]
  rw[e]
  exact⟨zb4 (o (by simp[zca])) (zb4 (o (by simp[zca])) (zdf j).1),ze0 _ (ze0 _ (zdf j).2)⟩
 | @fn n t z j hd=>
  refine⟨zb4 (o (by simp[zca])) (zcI z.1 (zbN (by simp) (zbN (by simp) (zb3 (.inl rfl) (zbN (by simp) (zb3 (.inl rfl) (zb4 (o (by simp[zca])) ((zfd t j).1.app (zbN (by simp) (zb3 (.inl rfl) (zbN (by simp) (zb3 (.inr rfl) zd8)))))))))))),?_⟩
  have:=zir (a:=t.pcs) (b:=[.inl (zi cSemi),.inr sp1,.inl (zi zaJ),.inr nl1]) (fun w=>by simp[zal,zaZ,zi]) false (zfd t j).2
  simp[zak,kW,zal,zaZ,zi]
  exact this
 | @set n t z j hd=>
  exact⟨zb4 z.1 (zbN (by simp) (zb3 (.inl rfl) (zdf j).1)),ze0 _ (zde (zdf j).2 _ (by simp[zdc,zal,zaZ,zi]))⟩
 | @prt t j hd=>
  refine⟨zcI (o (by simp[zca])) (zbN (by simp) ((zfd t j).1.app (zbN (by simp) (zbN (by simp) (zb3 (.inr rfl) zd8))))),?_⟩
  have:=zir (a:=t.pcs) (b:=.inl (zi zU)::zaU) (fun w=>by simp[zaU,zal,zaZ,zi]) false (zfd t j).2
  simp[zak,zal,zaZ,zi]
  exact this
 | @thr t j hd=>exact⟨zb4 (o (by simp[zca])) (zdf j).1,ze0 _ (zdf j).2⟩
 | @fail t D j hd=>exact⟨zb4 (o (by simp[zca])) (zdf j).1,ze0 _ (zdf j).2⟩
theorem zqo {scr:Bool} {q:PS} {z:List SI} (h:PI scr q z):GoodP scr (zdS q z)∧adj false (zdS q z):=by
 have D: ∀s∈q.rq,GoodT scr (za0 s):=h.rq
 have E: ∀s∈q.rq,GoodP scr (zbk s)∧zal false (zbk s):=fun s j=>⟨zb4 (zez (by simp[zca])) (zcI (D s j) (zbN (by simp) (zb3 (.inr rfl) zd8))),by simp[zbk,kW,zal,zaZ,zi,za0]⟩
 refine⟨(zgY _ fun s j=>(E s j).1).app ((zgY _ fun x o=>(zkK D (h.im x o)).1).app ((zgY _ fun x o=>(zkL D (h.ep x o)).1).app (zgY _ fun s j=>(zkM (h.ok s j)).1))),zkJ _ ?_⟩
 exact zde (zde (zde (zgX _ fun s j=>(zkM (h.ok s j)).2) _ (zgX _ fun x o=>(zkL D (h.ep x o)).2)) _ (zgX _ fun x o=>(zkK D (h.im x o)).2)) _ (zgX _ fun s j=>(E s j).2)
theorem ziv {α:Type} {f:α→List Pc} {n:Nat} (j: ∀x,(zg (f x)).length≤n) (l:List α):(zg (l.flatMap f)).length≤n*l.length:=by
 induction l with
 |nil=>simp[zg]
 |cons x l o=>
  have:=j x
  rw[List.flatMap_cons,zba,List.length_append,List.length_cons,Nat.mul_add]
  omega
theorem ziw (a b:ByteArray) (r:List Pc):(zg (zaP a b r)).length≤5+(zg r).length:=by
 unfold zaP zdb
 split<;>simp[zg]<;>omega
theorem zqp (x:Im):(zg (zaQ x)).length≤9:=by
 have:=ziw x.first x.loc (.inr sp1::zaH x.spec)
 have e:(zg (.inr sp1::zaH x.spec)).length=3:=rfl
 unfold zaQ
 split
 ·simp[zg,kW,zaH]
 ·split
  ·simp[zg,kW,zaH]
  ·rw[zba,List.length_append,show (zg (kW sImport)).length=1 from rfl]
   omega
theorem zqq (x:Ep):(zg (zbg x)).length≤9:=by
 have:=ziw x.loc x.name (.inr sp1::zaH x.spec)
 have:=ziw x.loc x.name [.inl (zi cSemi),.inr nl1]
 have e:(zg (.inr sp1::zaH x.spec)).length=3:=rfl
 have e:(zg [.inl (zi cSemi),.inr nl1]).length=1:=rfl
 unfold zbg
 split
 ·simp[zg,kW,zaH]
 ·split
  ·rw[zba,List.length_append,show (zg (kW sExport)).length=1 from rfl]
   omega
  ·rw[zba,List.length_append,show (zg (kW sExport)).length=1 from rfl]
   omega
theorem zqr (s:SI):(zg (zak s)).length≤8+5*s.t.size:=by
 have:=zp9 s.t
 unfold zak
 repeat' split
 all_goals simp[kW,zaU,zdc,zg,zba]
 all_goals omega
theorem zqs (l:List SI): ∀o,(zg (l.flatMap zak)).length≤8*l.length+5*(exS l o).length:=by
 induction l with
 |nil=>intro o;simp[zg]
 |cons s l j=>
  intro o
  have D:=zqr s
  have z:=j (o+s.t.size)
  rw[List.flatMap_cons,zba,List.length_append,List.length_cons,exS,List.length_append,Tr.flat_len]
  omega
theorem zqt {scr:Bool} {q:PS} {j:List SI} (h:PI scr q j):(zg (zdS q j)).length≤4000:=by
 have I:=ziv (f:=zbk) (n:=3) (fun s=>by simp[zbk,kW,zg]) q.rq
 have H:=ziv zqp q.im
 have D:=ziv zqq q.ep
 have J:=zqs j 0
 have K:=h.nrq
 have L:=h.nim
 have E:=h.nep
 have o:=h.nst
 have z:=h.nex
 rw[h.st,zkI] at o
 rw[h.ex] at z
 unfold zdS
 simp only[zba,List.length_append]
 omega
theorem zqu {scr:Bool} {q:PS} {j:List SI} (h:PI scr q j): ∃z,za8 (zcx (zaS q)) scr (.ok z)∧zaS z=zaS q:=by
 obtain⟨H,D⟩:=zqo h
 obtain⟨o,J,E⟩:=zki (zqn h) H D (zqt h)
 obtain⟨p,I⟩:=zqe (C:=⟨o,(zcx (zaS q)).size,scr⟩) h (by unfold Rem;rw[List.drop_zero];exact E)
 exact⟨{q with pos:=p},⟨.ok o,J,I.symm⟩,rfl⟩
def zdg (N:Nat) (x:Ep):Prop:=x.name.size≤N∧x.loc.size≤N∧x.spec.size≤N
def zfR (N:Nat) (x:Ex):Prop:=x.name.size≤N∧x.field.size≤N∧0≤x.num∧x.num≤1000000
structure BS (N:Nat) (q:PS):Prop where
 rq: ∀x∈q.rq,x.size≤N
 im: ∀x∈q.im,x.spec.size≤N∧x.first.size≤N∧x.loc.size≤N
 ep: ∀x∈q.ep,zdg N x
 la: ∀x∈q.la,zdg N x
 st: ∀x∈q.st,x.name.size≤N
 ex: ∀x∈q.ex,zfR N x
def BT (N:Nat) (ts:List Tk):Prop:=∀t∈ts,t.text.size≤N∧0≤t.num∧t.num≤1000000
theorem zqv {s:ByteArray} {scr:Bool} {a e:Nat} {t:Tk} (h:Tok s scr a t e):t.text.size≤s.size∧0≤t.num∧t.num≤1000000:=by
 cases h using Tok.elim with
 |name _ _=>exact⟨by simp only[ByteArray.size_extract];omega,by simp,by simp⟩
 |num h o=>
  refine⟨Nat.zero_le _,?_,o.2.2.2.2.1⟩
  have:=zgt (s:=s) (a:=a) 0 (e-a) (fun j z=>by
   have:=o.1.2.2.1 (a+j) (by omega) (by omega)
   rw[zbV] at this
   exact this.1) (Nat.zero_le _)
  rw[o.2.2.2.1]
  exact this.2
 |str _ _=>exact⟨by simp only[ByteArray.size_extract];omega,by simp,by simp⟩
 |sign _=>exact⟨by simp only[ByteArray.size_extract];omega,by simp,by simp⟩
theorem zkN {s:ByteArray} {scr:Bool} {a n:Nat} {r:Except Nat (List Tk)} (h:Lx s scr a n r): ∀j,r= .ok j→BT s.size j:=by
 induction h using Lx.ind with
 |done=>intro j k;cases k;intro t o;cases o
 |bad _ _=>intro j k;cases k
 | @tok a n e b t r h E o I H D=>
  intro j k
  cases r with
  |error p=>cases k
  |ok l=>
   cases k
   intro u z
   rcases List.mem_cons.1 z with rfl|z
   ·exact zqv o
   ·exact D l rfl u z
theorem zfS {N:Nat} {C:Cx} (o:BT N C.ts) (i:Nat):(zf C i).text.size≤N∧0≤(zf C i).num∧(zf C i).num≤1000000:=by
 by_cases j:i<C.ts.length
 ·have e:zf C i=C.ts[i]:=by simp[zf,List.getD,List.getElem?_eq_getElem j]
  rw[e]
  exact o _ (List.getElem_mem j)
 ·rw[zcT (by omega)]
  exact⟨Nat.zero_le _,by simp,by simp⟩
theorem zcJ {N:Nat} {q:PS} (h:BS N q):BS N (adv q):=⟨h.rq,h.im,h.ep,h.la,h.st,h.ex⟩
theorem zar {N:Nat} {C:Cx} {k:Int} {x:ByteArray} {q q':PS} (h:zd C k x q= .ok q') (j:BS N q):BS N q':=by
 obtain⟨rfl,_⟩:=zbh h
 exact zcJ j
theorem zd9 {N:Nat} {C:Cx} (j:BT N C.ts) {o:Bool} {q:PS} {y:PS×ByteArray} (h:zk C o q= .ok y) (z:BS N q):BS N y.1∧y.2.size≤N:=by
 obtain⟨rfl,_⟩:=zaX h
 exact⟨zcJ z,(zfS j _).1⟩
theorem ze1 {N:Nat} {C:Cx} {x:Ex} {q q':PS} (h:zJ C x q= .ok q') (o:BS N q) (z:zfR N x):BS N q':=by
 obtain⟨rfl,_⟩:=zbx h
 refine⟨o.rq,o.im,o.ep,o.la,o.st,fun y j=>?_⟩
 rcases List.mem_append.1 j with j|j
 ·exact o.ex y j
 ·rw[List.mem_singleton] at j
  rw[j]
  exact z
theorem zfh {N:Nat} {k l r:Int} {n f:ByteArray} (j:n.size≤N) (o:f.size≤N):zfR N ⟨k,0,n,f,l,r⟩:=⟨j,o,Int.le_refl _,by simp⟩
theorem zkO {N:Nat} {C:Cx} {n:ByteArray} {q q':PS} (h:zau C n q= .ok q') (o:BS N q) (j:n.size≤N):BS N q':=by
 unfold zau at h
 split at h
 ·obtain⟨a,E,D⟩:=ze h
  obtain⟨b,z,H⟩:=ze E
  exact ze1 D (zar H (zar z o)) (zfh j (Nat.zero_le _))
 ·exact ze1 h o (zfh j (Nat.zero_le _))
theorem zqw {N:Nat} {C:Cx} {n f:ByteArray} {q q':PS} (h:za5 C n f q= .ok q') (o:BS N q) (j:n.size≤N) (z:f.size≤N):BS N q':=by
 unfold za5 at h
 split at h
 ·obtain⟨a,H,E⟩:=ze h
  obtain⟨b,D,I⟩:=ze H
  exact ze1 E (zar I (zar D o)) (zfh j z)
 ·exact ze1 h o (zfh j z)
theorem zqx {N:Nat} {C:Cx} (J:BT N C.ts) (M:8≤N) (f:Nat): ∀(I:NT) (d:Nat) (q q':PS),ev C f I d q= .ok q'→BS N q→BS N q':=by
 induction f with
 |zero=>intro I d q q' h;cases I using NT.elim<;>cases h
 |succ f D=>
  intro I d q q' h z
  cases I using NT.elim with
  |sum=>
   rw[ev] at h
   obtain⟨a,o,j⟩:=ze h
   exact D _ _ _ _ j (D _ _ _ _ o z)
  |prod=>
   rw[ev] at h
   obtain⟨a,o,j⟩:=ze h
   exact D _ _ _ _ j (D _ _ _ _ o z)
  |sumT=>
   rw[ev] at h
   split at h
   ·obtain⟨a,o,j⟩:=ze h
    obtain⟨b,E,H⟩:=ze o
    exact D _ _ _ _ j (ze1 H (D _ _ _ _ E (zcJ z)) (zfh (Nat.zero_le _) (Nat.zero_le _)))
   ·cases h
    exact z
  |prodT=>
   rw[ev] at h
   split at h
   ·obtain⟨a,o,j⟩:=ze h
    obtain⟨b,E,H⟩:=ze o
    exact D _ _ _ _ j (ze1 H (D _ _ _ _ E (zcJ z)) (zfh (Nat.zero_le _) (Nat.zero_le _)))
   ·cases h
    exact z
  |part=>
   rw[ev] at h
   split at h
   ·exact ze1 h (zcJ z) ⟨Nat.zero_le _,Nat.zero_le _,(zfS J _).2⟩
   ·split at h
    ·split at h
     ·cases h
     ·obtain⟨a,o,j⟩:=ze h
      exact zar j (D _ _ _ _ o (zcJ z))
    ·split at h
     ·exact zkO h (zcJ z) (Nat.le_trans (show 5≤8 by omega) M)
     ·obtain⟨a,o,j⟩:=ze h
      obtain⟨L,K⟩:=zd9 J o z
      split at j
      ·obtain⟨b,E,H⟩:=ze j
       obtain⟨O,Q⟩:=zd9 J E (zcJ L)
       exact zqw H O K Q
      ·exact zkO j L K
theorem zfi {N:Nat} {C:Cx} (j:BT N C.ts) (D:8≤N) {z:NT} {d:Nat} {q q':PS} (h:pE C z d q= .ok q') (o:BS N q):BS N q':=zqx j D _ _ _ _ _ h o
theorem zkP {N:Nat} {C:Cx} (z:BT N C.ts) {q:PS} {a:PS×ByteArray} (h:zy C q= .ok a) (j:BS N q):BS N a.1∧a.2.size≤N:=by
 unfold zy at h
 split at h
 ·split at h
  ·cases h
   exact⟨zcJ j,(zfS z _).1⟩
  ·split at h
   ·cases h
   ·cases h
    refine⟨⟨fun x o=>?_,j.im,j.ep,j.la,j.st,j.ex⟩,(zfS z _).1⟩
    rcases List.mem_append.1 o with o|o
    ·exact j.rq x o
    ·rw[List.mem_singleton] at o
     rw[o]
     exact (zfS z _).1
 ·cases h
theorem zfj {N:Nat} {C:Cx} {k:Int} {n:ByteArray} {q q':PS} (h:zE C k n q= .ok q') (o:BS N q) (z:n.size≤N):BS N q':=by
 unfold zE at h
 split at h
 ·cases h
 ·cases h
  refine⟨o.rq,o.im,o.ep,o.la,fun x j=>?_,o.ex⟩
  rcases List.mem_append.1 j with j|j
  ·exact o.st x j
  ·rw[List.mem_singleton] at j
   rw[j]
   exact z
theorem zix {N:Nat} {C:Cx} {y:Im} {q q':PS} (h:zX C y q= .ok q') (o:BS N q) (z:y.spec.size≤N∧y.first.size≤N∧y.loc.size≤N):BS N q':=by
 unfold zX at h
 split at h
 ·cases h
 ·cases h
  refine⟨o.rq,fun x j=>?_,o.ep,o.la,o.st,o.ex⟩
  rcases List.mem_append.1 j with j|j
  ·exact o.im x j
  ·rw[List.mem_singleton] at j
   rw[j]
   exact z
theorem ziy {α:Type} {P:α→Prop} {l:List α} {y:α} (h: ∀x∈l,P x) (o:P y): ∀x∈l++[y],P x:=fun x j=>by
 rcases List.mem_append.1 j with j|j
 ·exact h x j
 ·rw[List.mem_singleton] at j
  rw[j]
  exact o
theorem zfk {N:Nat} {C:Cx} {y:Ep} {q q':PS} (h:zm C y q= .ok q') (j:BS N q) (o:zdg N y):BS N q':=by
 unfold zm at h
 split at h
 ·cases h
 ·split at h
  ·cases h
   exact⟨j.rq,j.im,j.ep,ziy j.la o,j.st,j.ex⟩
  ·cases h
   exact⟨j.rq,j.im,ziy j.ep o,j.la,j.st,j.ex⟩
theorem zqy {α:Type} {f:α→PS→PR} (l:List α): ∀(x:PR) (q':PS),zK f l x= .ok q'→∃q,x= .ok q∧True:=by
 induction l with
 |nil=>intro x q' h;exact⟨q',h,trivial⟩
 |cons a l o=>
  intro x q' h
  obtain⟨b,z,_⟩:=o _ _ h
  obtain⟨c,j,_⟩:=ze z
  exact⟨c,j,trivial⟩
theorem ziz {α:Type} {N:Nat} {f:α→PS→PR} (l:List α) (D: ∀a∈l,∀q q',f a q= .ok q'→BS N q→BS N q'): ∀(q q':PS),zK f l (.ok q)= .ok q'→BS N q→BS N q':=by
 induction l with
 |nil=>intro q q' h z;cases h;exact z
 |cons a l E=>
  intro q q' h z
  have o:zK f l (f a q)= .ok q':=h
  cases j:f a q with
  |error e=>
   rw[j] at o
   obtain⟨c,I,_⟩:=zqy l _ _ o
   cases I
  |ok b=>
   rw[j] at o
   exact E (fun x H=>D x (List.mem_cons_of_mem _ H)) b q' o (D a (List.mem_cons_self ..) q b j z)
theorem zqz {N:Nat} {C:Cx} (z:BT N C.ts) {j:Bool} {a b:PS×ByteArray} (h:asP C j a= .ok b) (o:BS N a.1) (D:a.2.size≤N):BS N b.1∧b.2.size≤N:=by
 unfold asP at h
 split at h
 ·exact zd9 z h (zcJ o)
 ·split at h
  ·cases h
  ·cases h
   exact⟨o,D⟩
theorem zq0 {N:Nat} {C:Cx} (I:BT N C.ts) {o:Bool} (f:Nat): ∀(q:PS) (acc:List Ep) (a:PS×List Ep),zbK C o f q acc= .ok a→BS N q→(∀x∈acc,zdg N x)→BS N a.1∧∀x∈a.2,zdg N x:=by
 induction f with
 |zero=>intro q acc a h;cases h
 |succ f J=>
  intro q acc a h L j
  rw[zbK] at h
  obtain⟨b,V,U⟩:=ze h
  obtain⟨c,M,z⟩:=ze U
  obtain⟨Q,E⟩:=zd9 I V L
  obtain⟨H,X⟩:=zqz I M Q E
  have D: ∀x∈acc++[(⟨0,c.2,b.2,sNone⟩:Ep)],zdg N x:=ziy j ⟨X,E,Nat.zero_le _⟩
  split at z
  ·exact J _ _ _ z (zcJ H) D
  ·obtain⟨d,K,O⟩:=ze z
   cases O
   exact⟨zar K H,D⟩
theorem zkQ {N:Nat} {C:Cx} (z:BT N C.ts) {j:Bool} {q:PS} {a:PS×List Ep} (h:zbB C j q= .ok a) (o:BS N q):BS N a.1∧∀x∈a.2,zdg N x:=by
 obtain⟨b,H,E⟩:=ze h
 exact zq0 z _ _ _ _ E (zar H o) fun x D=>by cases D
theorem zfT {N:Nat} {C:Cx} (I:BT N C.ts) {x:PR} {b:PS×ByteArray} (h:zaD C (zav C x)= .ok b): ∃q,x= .ok q∧(BS N q→BS N b.1∧b.2.size≤N):=by
 obtain⟨a,K,J⟩:=ze h
 obtain⟨c,E,M⟩:=ze J
 obtain⟨d,o,H⟩:=ze K
 obtain⟨e,D,j⟩:=ze o
 cases M
 refine⟨e,D,fun z=>?_⟩
 obtain⟨O,L⟩:=zkP I H (zar j z)
 exact⟨zar E O,L⟩
theorem zq1 {N:Nat} {C:Cx} (D:BT N C.ts) (Z:8≤N) {q q':PS} (h:za3 C q= .ok q') (hq:BS N q):BS N q':=by
 obtain⟨q1,h1,j⟩:=ze h
 have O:=zar h1 hq
 split at j
 ·obtain⟨a,I,E⟩:=ze j
  obtain⟨b,L,J⟩:=ze E
  obtain⟨l1,Y⟩:=zkQ D I O
  obtain⟨d,V,H⟩:=zfT D L
  cases V
  obtain⟨K,M⟩:=H l1
  exact ziz _ (fun x X p p' hp hb=>zix hp hb ⟨M,(Y x X).2.1,(Y x X).1⟩) _ _ J K
 ·split at j
  ·obtain⟨a,I,E⟩:=ze j
   obtain⟨b,L,J⟩:=ze E
   obtain⟨c,h7,h8⟩:=ze I
   obtain⟨d,V,H⟩:=ze h7
   obtain⟨U,Q⟩:=zd9 D h8 (zar H (zar V O))
   obtain⟨f,z,o⟩:=zfT D L
   cases z
   obtain⟨K,M⟩:=o U
   exact zix J K ⟨M,Nat.le_trans (show 1≤8 by omega) Z,Q⟩
  ·split at j
   ·obtain⟨a,I,E⟩:=ze j
    obtain⟨b,L,J⟩:=ze E
    obtain⟨U,Q⟩:=zd9 D I O
    obtain⟨f,z,o⟩:=zfT D L
    cases z
    obtain⟨K,M⟩:=o U
    exact zix J K ⟨M,Nat.le_trans (show 7≤8 by omega) Z,Q⟩
   ·obtain⟨a,I,E⟩:=ze j
    exact zar E (zkP D I O).1
theorem zkR {N:Nat} {C:Cx} (E:BT N C.ts) (M:8≤N) {q:PS} {a:PS×ByteArray} (h:zbA C q= .ok a) (K:BS N q):BS N a.1∧a.2.size≤N:=by
 obtain⟨b,X,V⟩:=ze h
 obtain⟨z,o,j⟩:=ze V
 cases j
 obtain⟨c,O,Z⟩:=ze X
 obtain⟨d,J,Q⟩:=ze o
 obtain⟨f,L,I⟩:=ze J
 obtain⟨g,Y,D⟩:=ze L
 obtain⟨U,H⟩:=zd9 E Z (zar O K)
 exact⟨zfj Q (zar I (zfi E M D (zar (show zd C 4 cEq b.1= .ok g from Y) U))) H,H⟩
theorem zkS {N:Nat} {C:Cx} (V:BT N C.ts) (hN:8≤N) {q:PS} {a:PS×ByteArray} (h:fnP C q= .ok a) (hq:BS N q):BS N a.1∧a.2.size≤N:=by
 obtain⟨b,Z,Y⟩:=ze h
 obtain⟨z,O,J⟩:=ze Y
 cases J
 obtain⟨c,h3,h4⟩:=ze Z
 obtain⟨d,h5,X⟩:=ze O
 obtain⟨f,h7,h8⟩:=ze h5
 obtain⟨g,h9,M⟩:=ze h7
 obtain⟨i,I,H⟩:=ze h9
 obtain⟨j,Q,D⟩:=ze I
 obtain⟨k,E,L⟩:=ze Q
 obtain⟨l,o,K⟩:=ze E
 obtain⟨n1,U⟩:=zd9 V h4 (zar h3 hq)
 exact⟨zfj X (zar h8 (zar M (zfi V hN H (zar D (zar L (zar K (zar (show zd C 4 cOpen b.1= .ok l from o) n1))))))) U,U⟩
theorem zq2 {N:Nat} {C:Cx} (L:BT N C.ts) (K:8≤N) {q q':PS} (h:zV C q= .ok q') (hq:BS N q):BS N q':=by
 obtain⟨q1,Z,j⟩:=ze h
 have Q:=zar Z hq
 split at j
 ·obtain⟨a,J,z⟩:=ze j
  obtain⟨Y,U⟩:=zkQ L J Q
  split at z
  ·obtain⟨b,I,E⟩:=ze z
   exact ziz (f:=fun e=>zm C (zD e)) _ (fun x M p p' V X=>zfk (y:=zD x) V X ⟨(U x M).1,(U x M).2.1,Nat.zero_le _⟩) _ _ E (zar I Y)
  ·obtain⟨b,I,E⟩:=ze z
   obtain⟨d,O,o⟩:=zfT L I
   cases O
   obtain⟨H,D⟩:=o Y
   exact ziz (f:=fun e=>zm C (zaj b.2 e)) _ (fun x M p p' V X=>zfk (y:=zaj b.2 x) V X ⟨(U x M).1,(U x M).2.1,D⟩) _ _ E H
 ·split at j
  ·obtain⟨b,I,E⟩:=ze j
   obtain⟨d,O,o⟩:=zfT L I
   obtain⟨H,D⟩:=o (zar O Q)
   exact zfk E H ⟨Nat.zero_le _,Nat.zero_le _,D⟩
  ·split at j
   ·obtain⟨a,J,z⟩:=ze j
    obtain⟨b,I,E⟩:=ze J
    obtain⟨c,h7,h8⟩:=ze I
    obtain⟨d,O,o⟩:=ze h7
    exact zfk z (zfj E (zar h8 (zfi L K o (zar O Q))) K) ⟨Nat.le_trans (show 7≤8 by omega) K,K,Nat.zero_le _⟩
   ·split at j
    ·obtain⟨a,J,z⟩:=ze j
     obtain⟨H,D⟩:=zkR L K J Q
     exact zfk z H ⟨D,D,Nat.zero_le _⟩
    ·split at j
     ·obtain⟨a,J,z⟩:=ze j
      obtain⟨H,D⟩:=zkS L K J Q
      exact zfk z H ⟨D,D,Nat.zero_le _⟩
     ·cases j
theorem zkT {N:Nat} {C:Cx} (H:BT N C.ts) (z:8≤N) {s:ByteArray} {k:Int} {q q':PS} (h:bd (bd (bd (zd C 1 s q) (pE C .sum 0)) (zd C 4 cSemi)) (zE C k sNone)= .ok q') (o:BS N q):BS N q':=by
 obtain⟨a,J,I⟩:=ze h
 obtain⟨b,D,K⟩:=ze J
 obtain⟨c,j,E⟩:=ze D
 exact zfj I (zar K (zfi H z E (zar j o))) (Nat.zero_le _)
theorem zq3 {N:Nat} {C:Cx} (j:BT N C.ts) (z:8≤N) {q q':PS} (h:zo C q= .ok q') (o:BS N q):BS N q':=by
 unfold zo at h
 split at h
 ·exact zq1 j z h o
 ·split at h
  ·exact zq2 j z h o
  ·split at h
   ·obtain⟨a,E,D⟩:=ze h
    cases D
    exact (zkR j z E o).1
   ·split at h
    ·obtain⟨a,E,D⟩:=ze h
     cases D
     exact (zkS j z E o).1
    ·split at h
     ·obtain⟨a,E,D⟩:=ze h
      obtain⟨b,K,M⟩:=ze E
      obtain⟨c,I,L⟩:=ze K
      obtain⟨d,J,H⟩:=ze I
      obtain⟨e,U,O⟩:=ze J
      exact zfj D (zar M (zar L (zfi j z H (zar O (zar U o))))) (Nat.zero_le _)
     ·split at h
      ·exact zkT j z h o
      ·split at h
       ·exact zkT j z h o
       ·obtain⟨a,E,D⟩:=ze h
        obtain⟨b,K,M⟩:=ze D
        obtain⟨c,I,L⟩:=ze K
        obtain⟨d,J,H⟩:=ze I
        obtain⟨Q,V⟩:=zd9 j E o
        exact zfj M (zar L (zfi j z H (zar J Q))) V
theorem zq4 {N:Nat} {C:Cx} (D:BT N C.ts) (z:8≤N) (f:Nat): ∀(q q':PS),zbL C f q= .ok q'→BS N q→BS N q':=by
 induction f with
 |zero=>intro q q' h;cases h
 |succ f o=>
  intro q q' h j
  rw[zbL] at h
  split at h
  ·obtain⟨a,H,E⟩:=ze h
   exact o _ _ E (zq3 D z H j)
  ·cases h
   exact j
theorem zq5 {s:ByteArray} {scr:Bool} {q:PS} {N:Nat} (h:za8 s scr (.ok q)) (D:s.size≤N) (z:8≤N):BS N q:=by
 obtain⟨r,⟨a,_,H⟩,e⟩:=h
 cases r with
 |error p=>cases e
 |ok j=>
  refine zq4 (C:=⟨j,s.size,scr⟩) (fun t o=>?_) z _ _ _ e.symm ⟨?_,?_,?_,?_,?_,?_⟩
  ·have:=zkN H j rfl t o
   exact⟨Nat.le_trans this.1 D,this.2⟩
  all_goals (intro x E;cases E)
def bn {α:Type} (B:Nat) (x:Except Nat α):Prop:=∀p,x= .error p→p≤B
theorem zaR {α:Type} {B:Nat} (a:α):bn B (.ok a):=fun p h=>by cases h
theorem zcr {α:Type} {B p:Nat} (h:p≤B):bn B (.error p:Except Nat α):=fun q k=>by cases k;exact h
theorem zt {α β:Type} {B:Nat} {x:Except Nat α} {f:α→Except Nat β} (j:bn B x) (o: ∀a,bn B (f a)):bn B (bd x f):=by
 cases x with
 |ok a=>exact o a
 |error e=>intro p h;cases h;exact j e rfl
def InC (C:Cx):Prop:=∀t∈C.ts,t.pos≤C.fin
theorem zdh {C:Cx} (h:InC C) (i:Nat):zu C i≤C.fin:=by
 unfold zu zf
 simp only[List.getD]
 cases j:C.ts[i]? with
 |none=>exact Nat.le_refl _
 |some t=>exact h t (List.mem_of_getElem? j)
theorem zaq {C:Cx} (h:InC C) (k:Int) (x:ByteArray) (q:PS):bn C.fin (zd C k x q):=by
 unfold zd
 split
 ·exact zaR _
 ·exact zcr (zdh h _)
theorem zdA {C:Cx} (h:InC C) (o:Bool) (q:PS):bn C.fin (zk C o q):=by
 unfold zk
 split
 ·exact zaR _
 ·exact zcr (zdh h _)
theorem zkU {C:Cx} (h:InC C) (q:PS):bn C.fin (zy C q):=by
 unfold zy
 repeat' split
 all_goals first|exact zaR _|exact zcr (zdh h _)
theorem zi0 {C:Cx} (h:InC C) (x:Im) (q:PS):bn C.fin (zX C x q):=by
 unfold zX
 split
 ·exact zcr (zdh h _)
 ·exact zaR _
theorem zfl {C:Cx} (h:InC C) (x:Ep) (q:PS):bn C.fin (zm C x q):=by
 unfold zm
 repeat' split
 all_goals first|exact zaR _|exact zcr (zdh h _)
theorem ze2 {C:Cx} (h:InC C) (k:Int) (n:ByteArray) (q:PS):bn C.fin (zE C k n q):=by
 unfold zE
 split
 ·exact zcr (zdh h _)
 ·exact zaR _
theorem ze3 {C:Cx} (h:InC C) (x:Ex) (q:PS):bn C.fin (zJ C x q):=by
 unfold zJ
 split
 ·exact zcr (zdh h _)
 ·exact zaR _
theorem zkV {C:Cx} (h:InC C) (n:ByteArray) (q:PS):bn C.fin (zau C n q):=by
 unfold zau
 split
 ·exact zt (zt (zaq h _ _ _) fun _=>zaq h _ _ _) fun _=>ze3 h _ _
 ·exact ze3 h _ _
theorem zq6 {C:Cx} (h:InC C) (n f:ByteArray) (q:PS):bn C.fin (za5 C n f q):=by
 unfold za5
 split
 ·exact zt (zt (zaq h _ _ _) fun _=>zaq h _ _ _) fun _=>ze3 h _ _
 ·exact ze3 h _ _
theorem zq7 {C:Cx} (h:InC C) (f:Nat): ∀o d q,bn C.fin (ev C f o d q):=by
 induction f with
 |zero=>intro o d q;cases o using NT.elim<;>exact zcr (Nat.zero_le _)
 |succ f j=>
  intro o d q
  cases o using NT.elim with
  |sum=>rw[ev];exact zt (j _ _ _) fun _=>j _ _ _
  |prod=>rw[ev];exact zt (j _ _ _) fun _=>j _ _ _
  |sumT=>
   rw[ev]
   split
   ·exact zt (zt (j _ _ _) fun _=>ze3 h _ _) fun _=>j _ _ _
   ·exact zaR _
  |prodT=>
   rw[ev]
   split
   ·exact zt (zt (j _ _ _) fun _=>ze3 h _ _) fun _=>j _ _ _
   ·exact zaR _
  |part=>
   rw[ev]
   split
   ·exact ze3 h _ _
   ·split
    ·split
     ·exact zcr (zdh h _)
     ·exact zt (j _ _ _) fun _=>zaq h _ _ _
    ·split
     ·exact zkV h _ _
     ·refine zt (zdA h _ _) fun x=>?_
      split
      ·exact zt (zdA h _ _) fun _=>zq6 h _ _ _
      ·exact zkV h _ _
theorem ze4 {C:Cx} (h:InC C) (j:NT) (d:Nat) (q:PS):bn C.fin (pE C j d q):=zq7 h _ _ _ _
theorem zq8 {C:Cx} (h:InC C) (j:Bool) (a:PS×ByteArray):bn C.fin (asP C j a):=by
 unfold asP
 split
 ·exact zdA h _ _
 ·split
  ·exact zcr (zdh h _)
  ·exact zaR _
theorem zq9 {C:Cx} (h:InC C) (j:Bool) (f:Nat): ∀q acc,bn C.fin (zbK C j f q acc):=by
 induction f with
 |zero=>intro q acc;exact zcr (Nat.zero_le _)
 |succ f o=>
  intro q acc
  rw[zbK]
  refine zt (zdA h _ _) fun a=>zt (zq8 h _ _) fun b=>?_
  split
  ·exact o _ _
  ·exact zt (zaq h _ _ _) fun _=>zaR _
theorem zkW {C:Cx} (h:InC C) (j:Bool) (q:PS):bn C.fin (zbB C j q):=zt (zaq h _ _ _) fun _=>zq9 h _ _ _ _
theorem zfU {C:Cx} (h:InC C) {x:PR} (j:bn C.fin x):bn C.fin (zaD C (zav C x)):=zt (zt (zt j fun _=>zaq h _ _ _) fun _=>zkU h _) fun _=>zt (zaq h _ _ _) fun _=>zaR _
theorem zi1 {α:Type} {B:Nat} {f:α→PS→PR} (z: ∀a q,bn B (f a q)) (l:List α): ∀x,bn B x→bn B (zK f l x):=by
 induction l with
 |nil=>intro x j;exact j
 |cons a l o=>intro x j;exact o _ (zt j fun _=>z _ _)
theorem zqA {C:Cx} (h:InC C) (q:PS):bn C.fin (za3 C q):=by
 refine zt (zaq h _ _ _) fun j=>?_
 split
 ·exact zt (zkW h _ _) fun _=>zt (zfU h (zaR _)) fun _=>zi1 (fun _ _=>zi0 h _ _) _ _ (zaR _)
 ·split
  ·exact zt (zt (zt (zaq h _ _ _) fun _=>zaq h _ _ _) fun _=>zdA h _ _) fun _=>zt (zfU h (zaR _)) fun _=>zi0 h _ _
  ·split
   ·exact zt (zdA h _ _) fun _=>zt (zfU h (zaR _)) fun _=>zi0 h _ _
   ·exact zt (zkU h _) fun _=>zaq h _ _ _
theorem zkX {B:Nat} {y:PRN} {F:PR→ByteArray→PR} (j:bn B y) (o: ∀q n,bn B (F (.ok q) n)):bn B (withN y F):=zt j fun _=>zt (o _ _) fun _=>zaR _
theorem zkY {C:Cx} (h:InC C) (q:PS):bn C.fin (zbA C q):=zkX (zt (zaq h _ _ _) fun _=>zdA h _ _) fun _ _=>zt (zt (zt (zt (zaR _) fun _=>zaq h _ _ _) fun _=>ze4 h _ _ _) fun _=>zaq h _ _ _) fun _=>ze2 h _ _ _
theorem zkZ {C:Cx} (h:InC C) (q:PS):bn C.fin (fnP C q):=zkX (zt (zaq h _ _ _) fun _=>zdA h _ _) fun _ _=>zt (zt (zt (zt (zt (zt (zt (zt (zaR _) fun _=>zaq h _ _ _) fun _=>zaq h _ _ _) fun _=>zaq h _ _ _) fun _=>zaq h _ _ _) fun _=>ze4 h _ _ _) fun _=>zaq h _ _ _) fun _=>zaq h _ _ _) fun _=>ze2 h _ _ _
theorem zqB {C:Cx} (h:InC C) (q:PS):bn C.fin (zV C q):=by
 refine zt (zaq h _ _ _) fun j=>?_
 split
 ·refine zt (zkW h _ _) fun a=>?_
  split
  ·exact zt (zaq h _ _ _) fun _=>zi1 (fun _ _=>zfl h _ _) _ _ (zaR _)
  ·exact zt (zfU h (zaR _)) fun _=>zi1 (fun _ _=>zfl h _ _) _ _ (zaR _)
 ·split
  ·exact zt (zfU h (zaq h _ _ _)) fun _=>zfl h _ _
  ·split
   ·exact zt (zt (zt (zt (zaq h _ _ _) fun _=>ze4 h _ _ _) fun _=>zaq h _ _ _) fun _=>ze2 h _ _ _) fun _=>zfl h _ _
   ·split
    ·exact zt (zkY h _) fun _=>zfl h _ _
    ·split
     ·exact zt (zkZ h _) fun _=>zfl h _ _
     ·exact zcr (zdh h _)
theorem zqC {C:Cx} (h:InC C) (q:PS):bn C.fin (zo C q):=by
 unfold zo
 split
 ·exact zqA h q
 ·split
  ·exact zqB h q
  ·split
   ·exact zt (zkY h _) fun _=>zaR _
   ·split
    ·exact zt (zkZ h _) fun _=>zaR _
    ·split
     ·exact zt (zt (zt (zt (zt (zaq h _ _ _) fun _=>zaq h _ _ _) fun _=>ze4 h _ _ _) fun _=>zaq h _ _ _) fun _=>zaq h _ _ _) fun _=>ze2 h _ _ _
     ·split
      ·exact zt (zt (zt (zaq h _ _ _) fun _=>ze4 h _ _ _) fun _=>zaq h _ _ _) fun _=>ze2 h _ _ _
      ·split
       ·exact zt (zt (zt (zaq h _ _ _) fun _=>ze4 h _ _ _) fun _=>zaq h _ _ _) fun _=>ze2 h _ _ _
       ·exact zt (zdA h _ _) fun _=>zt (zt (zt (zaq h _ _ _) fun _=>ze4 h _ _ _) fun _=>zaq h _ _ _) fun _=>ze2 h _ _ _
theorem zqD {C:Cx} (h:InC C) (f:Nat): ∀q,bn C.fin (zbL C f q):=by
 induction f with
 |zero=>intro q;exact zcr (Nat.zero_le _)
 |succ f j=>
  intro q
  rw[zbL]
  split
  ·exact zt (zqC h _) fun _=>j _
  ·exact zaR _
theorem zqE {s:ByteArray} {scr:Bool} {a n:Nat} {r:Except Nat (List Tk)} (h:Lx s scr a n r):bn s.size r∧∀j,r= .ok j→∀t∈j,t.pos≤s.size:=by
 induction h using Lx.ind with
 |done=>exact⟨zaR _,fun j o t z=>by cases o;cases z⟩
 |bad h _=>exact⟨zcr (Nat.le_of_lt h),fun j o=>by cases o⟩
 | @tok a n e b t r h H z I o E=>
  cases r with
  |error p=>exact⟨fun q k=>by cases k;exact E.1 p rfl,fun j k=>by simp[Except.map] at k⟩
  |ok l=>
   refine⟨zaR _,fun j k=>?_⟩
   simp only[Except.map,Except.ok.injEq] at k
   subst k
   intro u D
   rcases List.mem_cons.1 D with rfl|D
   ·rw[(zdJ h z).2.2];exact Nat.le_of_lt h
   ·exact E.2 l rfl u D
theorem zqF {s:ByteArray} {scr:Bool} {p:Nat} (h:za8 s scr (.error p)):p≤s.size:=by
 obtain⟨r,⟨a,_,z⟩,e⟩:=h
 obtain⟨D,o⟩:=zqE z
 cases r with
 |error E=>cases e;exact D _ rfl
 |ok j=>exact zqD (C:=⟨j,s.size,scr⟩) (o j rfl) _ _ p e.symm
def zfV (scr:Bool) (l:List Tk) (T:ByteArray):Prop:=∃P,T.data.toList=zL P∧zg P=l.map zbE∧GoodP scr P∧zal false P
theorem zqG (scr:Bool):zfV scr [] sNone:=⟨[],rfl,rfl,zd8,rfl⟩
theorem zgZ {scr:Bool} {l:List Tk} {t:Tk} {T r x:ByteArray} (h:zfV scr l T) (o:GoodT scr (zbE t)) (z:r.data.toList=zaw (zbE t)) (E:zeY x.data.toList):zfV scr (l++[t]) (T++r++x):=by
 obtain⟨P,I,H,D,J⟩:=h
 refine⟨P++[.inl (zbE t),.inr x.data.toList],?_,?_,D.app (zcI o fun p j=>?_),zde ?_ _ J⟩
 ·rw[zfN,zfN,I,z,zbY]
  simp[zL]
 ·rw[zba,H]
  simp[zg]
 ·rw[List.mem_singleton] at j
  rw[j]
  exact E
 ·exact⟨(fun k=>by cases k),rfl⟩
theorem zqH {s T:ByteArray} {scr:Bool} {j:List Tk} {q:PS} (o:zY s scr (.ok j)) (E:zfV scr j T) (h:za8 s scr (.ok q)):za8 T scr (.ok q):=by
 obtain⟨P,I,z,D,J⟩:=E
 obtain⟨L,K,H⟩:=zki I D (zkJ _ J) (by rw[z,List.length_map];exact zg0 o)
 exact zp3 o K (H.trans z) h
theorem zqI {s:ByteArray} {scr:Bool} {j:List Tk} (h:zY s scr (.ok j)):(∀t∈j,GoodT scr (zbE t))∧BT s.size j:=by
 obtain⟨a,_,o⟩:=h
 exact⟨zkj o j rfl,zkN o j rfl⟩
theorem zqJ {s:ByteArray} {scr:Bool} {q:PS} (h:za8 s scr (.ok q)): ∃j,zY s scr (.ok j):=by
 obtain⟨r,o,e⟩:=h
 cases r with
 |error p=>cases e
 |ok j=>exact⟨j,o⟩
def zfW (l:List Ex) (o:Nat):Prop:=∀(i:Nat) (x:Ex),l[i]? =some x→zO x.kind=true→0≤x.l∧x.l<((o+i:Nat):Int)∧0≤x.r∧x.r<((o+i:Nat):Int)
theorem zi2 {a b:List Ex} {o:Nat} (z:zfW a o) (D:zfW b (o+a.length)):zfW (a++b) o:=by
 intro i x h k
 rcases Nat.lt_or_ge i a.length with j|j
 ·rw[List.getElem?_append_left j] at h
  exact z i x h k
 ·rw[List.getElem?_append_right j] at h
  have:=D (i-a.length) x h k
  omega
theorem zqK {scr:Bool} (t:Tr):TrOk scr t→∀o,zfW (t.flat o) o:=by
 induction t using Tr.ind with
 |leaf x=>
  intro h o i y j k
  match i,j with
  |0,j=>
   cases j
   rw[zia h] at k
   cases k
  |i+1,j=>cases j
 |two k l r D z=>
  rw[TrOk.two]
  rintro⟨_,H,E⟩ o
  rw[Tr.flat_two]
  refine zi2 (D H o) (zi2 ?_ ?_)
  ·rw[Tr.flat_len];exact z E _
  ·rw[Tr.flat_len,Tr.flat_len]
   intro i y j _
   have J:=l.pos
   have I:=r.pos
   match i,j with
   |0,j=>cases j;simp only;omega
   |i+1,j=>cases j
theorem zqL {scr:Bool} (l:List SI): ∀o,(∀s∈l,SOk scr s)→zfW (exS l o) o:=by
 induction l with
 |nil=>intro o _ i x h;cases h
 |cons s l j=>
  intro o h
  refine zi2 (zqK _ (h s (by simp)).tree.1 o) ?_
  rw[Tr.flat_len]
  exact j _ fun x z=>h x (by simp[z])
theorem zi3 (a b:List Ex) (k:Int):zZ (a++b) k=zZ a k+zZ b k:=by simp[zZ]
theorem zqM (s:Sm) (l:List Sm) (k:Int):za6 (s::l) k=(if s.expr==k then 1 else 0)+za6 l k:=by simp[za6]
def inR (a k b:Nat):Nat:=if a≤k∧k<b then 1 else 0
theorem zi4 {a:Int} {k:Nat}:(if a==(k:Int) then 1 else 0:Nat)=if a=(k:Int) then 1 else 0:=by
 by_cases h:a=(k:Int)
 ·rw[if_pos (by rw[beq_iff_eq];exact h),if_pos h]
 ·rw[if_neg (by rw[beq_iff_eq];exact h),if_neg h]
theorem zqN {scr:Bool} (t:Tr):TrOk scr t→∀o k,zZ (t.flat o) ((k:Nat):Int)=inR o k (o+t.size-1):=by
 induction t using Tr.ind with
 |leaf x=>
  intro h o k
  have:zZ [x] ((k:Nat):Int)=0:=by simp[zZ,zia h]
  rw[Tr.flat_leaf,this,show (Tr.leaf x).size=1 from rfl]
  unfold inR
  rw[if_neg (by omega)]
 |two m l r z j=>
  rw[TrOk.two]
  rintro⟨D,I,E⟩ o k
  have K:=l.pos
  have J:=r.pos
  have H:zO m=true:=by rcases D with rfl|rfl|rfl<;>rfl
  have e:zZ [⟨m,0,sNone,sNone,((o+l.size:Nat):Int)-1,((o+l.size+r.size:Nat):Int)-1⟩] ((k:Nat):Int)=(if (((o+l.size:Nat):Int)-1)=(k:Int) then 1 else 0)+(if (((o+l.size+r.size:Nat):Int)-1)=(k:Int) then 1 else 0):=by
   rw[←zi4,←zi4]
   simp[zZ,H]
  rw[Tr.flat_two,zi3,zi3,z I,j E,e,Tr.size_two]
  unfold inR
  split<;>split<;>split<;>split<;>split<;>omega
theorem zqO {scr:Bool} (l:List SI): ∀o k,(∀s∈l,SOk scr s)→zZ (exS l o) ((k:Nat):Int)+za6 (stS l o) ((k:Nat):Int)=inR o k (o+(exS l o).length):=by
 induction l with
 |nil=>
  intro o k _
  show 0+0=inR o k (o+0)
  unfold inR
  rw[if_neg (by omega)]
 |cons s l j=>
  intro o k h
  have p:=s.t.pos
  have D:=j (o+s.t.size) k fun x z=>h x (by simp[z])
  rw[exS,stS,zi3,zqM,zqN s.t (h s (by simp)).tree.1,zi4,List.length_append,Tr.flat_len]
  simp only
  have e:inR o k (o+s.t.size-1)+(if (((o+s.t.size:Nat):Int)-1)=(k:Int) then 1 else 0)+inR (o+s.t.size) k (o+s.t.size+(exS l (o+s.t.size)).length)=inR o k (o+(s.t.size+(exS l (o+s.t.size)).length)):=by
   unfold inR
   split<;>split<;>split<;>split<;>omega
  rw[←e,←D]
  omega
theorem zqP (l:List SI): ∀o s,s∈stS l o→0≤s.expr∧s.expr<((o+(exS l o).length:Nat):Int):=by
 induction l with
 |nil=>intro o s h;cases h
 |cons x l j=>
  intro o s h
  have p:=x.t.pos
  rw[exS,List.length_append,Tr.flat_len]
  rcases List.mem_cons.1 h with rfl|h
  ·simp only;omega
  ·have:=j _ s h
   omega
theorem zqQ {scr:Bool} {q:PS} {j:List SI} (h:PI scr q j):Tree (zaS q):=by
 refine⟨fun i x D k=>?_,fun s o=>?_,fun k z=>?_⟩
 ·have:=zqL j 0 h.ok i x (by rw[←h.ex];exact D) k
  rw[Nat.zero_add] at this
  exact this
 ·have:=zqP j 0 s (by rw[←h.st];exact o)
  rw[Nat.zero_add,←h.ex] at this
  exact this
 ·have:=zqO j 0 k h.ok
  rw[←h.ex,←h.st,Nat.zero_add] at this
  show zZ q.ex _+za6 q.st _=1
  rw[this]
  unfold inR
  rw[if_pos ⟨Nat.zero_le _,z⟩]
def zbb {α:Type} (c:α→Nat) (l:List α):Nat:=(l.map c).sum
def ze5 (x:ByteArray):Nat:=x.size
def zdB (x:Im):Nat:=x.spec.size+x.first.size+x.loc.size
def zdC (x:Ep):Nat:=x.name.size+x.loc.size+x.spec.size
def zfm (x:Sm):Nat:=x.name.size
def ze6 (x:Ex):Nat:=x.name.size+x.field.size
def zha (m:Md):Nat:=(m.rq.length+zbb ze5 m.rq)+(m.im.length+zbb zdB m.im)+(m.ep.length+zbb zdC m.ep)+(m.st.length+zbb zfm m.st)+(m.ex.length+zbb ze6 m.ex)
theorem zfX {α:Type} (f:α→ByteArray) (l:List α): ∀t:ByteArray,(acc f l t).size=t.size+(l.map fun x=>(f x).size).sum:=by
 induction l with
 |nil=>intro t;rfl
 |cons x l j=>
  intro t
  show (acc f l (t++f x)).size=_
  rw[j,ByteArray.size_append,List.map_cons,List.sum_cons,Nat.add_assoc]
theorem zhb {α:Type} {f c:α→Nat} (l:List α) (h: ∀x∈l,f x≤40+c x):(l.map f).sum≤40*l.length+zbb c l:=by
 induction l with
 |nil=>exact Nat.le_refl _
 |cons x l o=>
  have D:=h x (List.mem_cons_self ..)
  have z:=o fun y j=>h y (List.mem_cons_of_mem _ j)
  unfold zbb at*
  rw[List.map_cons,List.sum_cons,List.map_cons,List.sum_cons,List.length_cons]
  omega
theorem zla {α:Type} {f c g:α→Nat} (l:List α) (h: ∀x∈l,f x≤40+c x+g x):(l.map f).sum≤40*l.length+zbb c l+(l.map g).sum:=by
 induction l with
 |nil=>exact Nat.le_refl _
 |cons x l o=>
  have D:=h x (List.mem_cons_self ..)
  have z:=o fun y j=>h y (List.mem_cons_of_mem _ j)
  unfold zbb at*
  rw[List.map_cons,List.sum_cons,List.map_cons,List.sum_cons,List.map_cons,List.sum_cons,List.length_cons]
  omega
theorem zcK (a:Array UInt8):(⟨a⟩:ByteArray).size=a.size:=rfl
theorem zfn (s:ByteArray):(zaL s).size=s.size+2:=by
 rw[zaL,ByteArray.size_append,ByteArray.size_append,zcK]
 show 1+s.size+1=_
 omega
theorem zlb (a b:ByteArray):(asT a b).size≤a.size+b.size+4:=by
 unfold asT
 split
 ·omega
 ·have z:(({data:=#[32,97,115,32]}:ByteArray)).size=4:=rfl
  rw[ByteArray.size_append,ByteArray.size_append,z]
  omega
theorem zqR (s:ByteArray):(rqT s).size≤40+ze5 s:=by
 rw[rqT,ByteArray.size_append,ByteArray.size_append,zfn,zcK,zcK]
 show 7+(s.size+2)+2≤40+s.size
 omega
theorem zqS (x:Im):(zaO x).size≤40+zdB x:=by
 have j:=zlb x.first x.loc
 unfold zaO zdB
 split
 ·simp only[ByteArray.size_append,zfn,zcK]
  simp only[List.size_toArray,List.length_cons,List.length_nil]
  omega
 ·split
  ·simp only[ByteArray.size_append,zfn,zcK]
   simp only[List.size_toArray,List.length_cons,List.length_nil]
   omega
  ·simp only[ByteArray.size_append,zfn,zcK]
   simp only[List.size_toArray,List.length_cons,List.length_nil]
   omega
theorem zqT (x:Ep):(epF x).size≤40+zdC x:=by
 have j:=zlb x.loc x.name
 unfold epF
 split
 ·exact Nat.zero_le _
 ·unfold zc7 zdC
  split
  ·simp only[ByteArray.size_append,zfn,zcK]
   simp only[List.size_toArray,List.length_cons,List.length_nil]
   omega
  ·split
   ·simp only[ByteArray.size_append,zfn,zcK]
    simp only[List.size_toArray,List.length_cons,List.length_nil]
    omega
   ·simp only[ByteArray.size_append,zcK]
    simp only[List.size_toArray,List.length_cons,List.length_nil]
    omega
theorem zlc (k:Int) (n e:ByteArray):(zd4 k n e).size≤40+n.size+e.size:=by
 unfold zd4
 repeat' split
 all_goals
  simp only[ByteArray.size_append,zcK]
  simp only[List.size_toArray,List.length_cons,List.length_nil]
  omega
theorem zqU (k:Int) (n e:ByteArray):(zcZ k n e).size≤40+n.size+e.size:=by
 unfold zcZ
 split
 ·simp only[ByteArray.size_append,zcK]
  simp only[List.size_toArray,List.length_cons,List.length_nil]
  omega
 ·exact zlc k n e
theorem zqV (l:List Ex):(l.map zeg).sum≤40*l.length+zbb ze6 l:=zhb l fun x _=>by unfold zeg ze6;omega
theorem zqW (m:Md):(zda m).size≤40*m.rq.length+zbb ze5 m.rq+(40*m.im.length+zbb zdB m.im)+(40*m.ep.length+zbb zdC m.ep):=by
 have z:=zhb (c:=ze5) m.rq fun x _=>zqR x
 have o:=zhb (c:=zdB) m.im fun x _=>zqS x
 have j:=zhb (c:=zdC) m.ep fun x _=>zqT x
 rw[zda,zfX,zfX,zfX]
 have:sNone.size=0:=rfl
 omega
theorem zqX {m:Md} (t:Tree m) (j:zeL m.ex):(zcx m).size≤40*zha m∧(zbZ m).size≤40*zha m:=by
 have D:=zqW m
 have z:=znA t j
 have I:=zqV m.ex
 have H:=zla (c:=zfm) (g:=fun s=>wt m.ex s.expr.toNat) (f:=fun s=>(stF m.ex s).size) m.st fun s _=>zlc s.kind s.name _
 have o:=zla (c:=zfm) (g:=fun s=>wt m.ex s.expr.toNat) (f:=fun s=>(zc8 m.ex s).size) m.st fun s _=>zqU s.kind s.name _
 have E:zha m=(m.rq.length+zbb ze5 m.rq)+(m.im.length+zbb zdB m.im)+(m.ep.length+zbb zdC m.ep)+(m.st.length+zbb zfm m.st)+(m.ex.length+zbb ze6 m.ex):=rfl
 constructor
 ·rw[zcx,zfX]
  omega
 ·rw[zbZ,zfX]
  omega
end Go.Proofs.YthfeoomfiafldaaGreat
