/-
  A tree's text,out of the row that it stands in; how often each expression of a tree is used. No program is spoken of.
  What was read: each statement a tree,each name and each request as it may stand. No program is spoken of.
  The lines of a program's text,as tokens,and that each is read as what it is of. No program is spoken of.
  Lines one behind the other are read. No program is spoken of.
  The text of a program that was read,as tokens; it is read from it. No program is spoken of.
  A program that was read has no name longer than its text,and no number that is great. No program is spoken of.
  Where a text is refused lies in it; a text put together of a text's tokens again. No program is spoken of.
  In what was read each expression is used once. No program is spoken of.
  What the laws count of a program,as plain functions. No program is spoken of.
  A program that is small has a text that is small. No program is spoken of.
-/
import Derived.Test.YtlnohpdiiileeaaGreatClDrawProgAToPrintText
import Derived.Test.YtlnohpdiiileeaaGreatClParseMemToModMem
import Derived.Test.YtlnohpdiiileeaaGreatClDrawBaseToTokMem
namespace Go.Proofs.YtlnohpdiiileeaaGreat
open Go.RowKit Go.PlainAid
def Tr.root:Tr→Nat→Ex
 |leaf x,_=>x
 |two k l r,o=>⟨k,0,sNone,sNone,((o+l.size:Nat):Int)-1,((o+l.size+r.size:Nat):Int)-1⟩
theorem Tr.flat_last (t:Tr) (o:Nat): ∃i,t.flat o=i++[t.root o]∧i.length+1=t.size:=by
 cases t with
 |leaf x=>exact⟨[],rfl,rfl⟩
 |two k l r=>exact⟨l.flat o++r.flat (o+l.size),by simp[flat,root],by simp only[List.length_append,flat_len,size]⟩
theorem Tr.root_kind (t:Tr) (o:Nat):(t.root o).kind=t.kind:=by cases t<;>rfl
theorem zsy (A B:List Ex) (t:Tr):(A++(t.flat A.length++B)).getD (A.length+t.size-1) exNo=t.root A.length:=by
 obtain⟨i,h1,h2⟩:=t.flat_last A.length
 rw[h1]
 simp only[List.getD]
 rw[show A.length+t.size-1=A.length+i.length from by omega,List.getElem?_append_right (by omega),Nat.add_sub_cancel_left,List.append_assoc,List.getElem?_append_right (by omega),Nat.sub_self]
 rfl
theorem zis (a b:ByteArray):(a++b).data.toList=a.data.toList++b.data.toList:=by
 rw[ByteArray.data_append,Array.toList_append]
theorem zbbv (b:Bool) (t:ByteArray) (l:List Pc) (h:t.data.toList=txtP l):(zcl b t).data.toList=txtP (zed b l):=by
 unfold zcl zed
 split
 ·simp[h,txtP,zej,renT,zh]
 ·exact h
theorem zbwf {k:Int} (h:k=6∨k=7∨k=8) (a c:ByteArray) (P Q:List Pc) (ha:a.data.toList=txtP P) (hc:c.data.toList=txtP Q):
  (a++(if k==6 then tPlus else if k==7 then tMinus else tStar)++c).data.toList=txtP (P++(.sep sp1:: .tok (zh (opP k)):: .sep sp1::Q)):=by
 rcases h with rfl|rfl|rfl<;>simp[ha,hc,txtP,zej,renT,zh,opP]
theorem zbps {scr:Bool} (t:Tr):TrOk scr t→∀(A B:List Ex) (f:Nat),t.size≤f→(prE (A++(t.flat A.length++B)) f (A.length+t.size-1)).data.toList=txtP t.pcs:=by
 induction t with
 |leaf x=>
  intro hok A B f hf
  obtain⟨f,rfl⟩: ∃g,f=g+1:=⟨f-1,by simp only[Tr.size] at hf;omega⟩
  rw[prE]
  simp only[zsy]
  rw[show (Tr.leaf x).root A.length=x from rfl,show (Tr.leaf x).pcs=zfg x from rfl]
  cases hok with
  |num h0 h1=>simp[zfg,txtP,renT]
  |name h=>simp[zfg,txtP,renT,zn]
  |call h=>simp[zfg,txtP,renT,zn,zh]
  |mem h hf=>simp[zfg,txtP,renT,zn,zh]
  |memCall h hf=>simp[zfg,txtP,renT,zn,zh]
 |two k l r ihl ihr=>
  intro hok A B f hf
  obtain⟨hk,hl,hr⟩:=hok
  obtain⟨f,rfl⟩: ∃g,f=g+1:=⟨f-1,by simp only[Tr.size] at hf;omega⟩
  simp only[Tr.size] at hf
  have e1:A++((Tr.two k l r).flat A.length++B)=A++(l.flat A.length++(r.flat (A.length+l.size)++((Tr.two k l r).root A.length::B))):=by simp[Tr.flat,Tr.root]
  have e2:A++((Tr.two k l r).flat A.length++B)=(A++l.flat A.length)++(r.flat (A++l.flat A.length).length++((Tr.two k l r).root A.length::B)):=by rw[e1,List.length_append,Tr.flat_len];simp
  have pl:=l.pos
  have pr:=r.pos
  have hl1:=ihl hl A (r.flat (A.length+l.size)++((Tr.two k l r).root A.length::B)) f (by omega)
  have hr1:=ihr hr (A++l.flat A.length) ((Tr.two k l r).root A.length::B) f (by omega)
  have kl:=zsy A (r.flat (A.length+l.size)++((Tr.two k l r).root A.length::B)) l
  have kr:=zsy (A++l.flat A.length) ((Tr.two k l r).root A.length::B) r
  rw[←e1] at hl1 kl
  rw[←e2] at hr1 kr
  rw[List.length_append,Tr.flat_len] at hr1 kr
  rw[prE]
  simp only[zsy]
  have el:((Tr.two k l r).root A.length).l.toNat=A.length+l.size-1:=by show (((A.length+l.size:Nat):Int)-1).toNat=_;omega
  have er:((Tr.two k l r).root A.length).r.toNat=A.length+l.size+r.size-1:=by show (((A.length+l.size+r.size:Nat):Int)-1).toNat=_;omega
  rw[el,er,kl,kr,Tr.root_kind l,Tr.root_kind r,show ((Tr.two k l r).root A.length).kind=k from rfl,Tr.pcs]
  generalize prE (A++((Tr.two k l r).flat A.length++B)) f (A.length+l.size-1)=tl at hl1 ⊢
  generalize prE (A++((Tr.two k l r).flat A.length++B)) f (A.length+l.size+r.size-1)=tr at hr1 ⊢
  have:=zbwf hk (zcl (k==8&&sumK l.kind) tl) (zcl (if k==8 then twoK r.kind else sumK r.kind) tr) _ _ (zbbv _ tl _ hl1) (zbbv _ tr _ hr1)
  rw[←this]
  rcases hk with rfl|rfl|rfl<;>rfl
theorem zbpt {scr:Bool} {t:Tr} (h:TrOk scr t) (A B:List Ex):(prX (A++(t.flat A.length++B)) (A.length+t.size-1)).data.toList=txtP t.pcs:=zbps t h A B _ (by have:=t.pos;omega)
theorem zbmd {scr:Bool} {x:Ex} (h:LeafOk scr x):GoodP scr (zfg x)∧adj false (zfg x):=by
 have sg: ∀c:UInt8,Sign (ib c)→GoodT scr ⟨4,{data:=#[c]},0⟩:=fun c hc=>.sign (c:=c) rfl hc
 have so:GoodT scr (zh cOpen):=sg 40 (by decide)
 have ss:GoodT scr (zh zbw):=sg 41 (by decide)
 have sp:GoodT scr (zh cPoint):=sg 46 (by decide)
 have hu: ∀x,zvr scr x→GoodT scr (zn x):=by
  rintro x (h|⟨hs,rfl⟩)
  ·exact h.1
  ·exact .name (c:=117) (cs:=[110,100,101,102]) rfl (by rw[hs];decide) (by rw[hs];decide)
 cases h with
 |num h0 h1=>exact⟨fun p hp=>by simp[zfg] at hp;subst hp;exact .num h0 h1,by simp[zfg,adj]⟩
 |name h=>exact⟨fun p hp=>by simp[zfg] at hp;subst hp;exact hu _ h,by simp[zfg,adj]⟩
 |call h=>exact⟨fun p hp=>by simp[zfg] at hp;rcases hp with rfl|rfl|rfl<;>first|exact hu _ h|exact so|exact ss,by simp[zfg,adj,zep,zh]⟩
 |mem h hf=>exact⟨fun p hp=>by simp[zfg] at hp;rcases hp with rfl|rfl|rfl<;>first|exact h.1|exact sp|exact hf.1,by simp[zfg,adj,zep,zh]⟩
 |memCall h hf=>exact⟨fun p hp=>by simp[zfg] at hp;rcases hp with rfl|rfl|rfl|rfl|rfl<;>first|exact h.1|exact sp|exact hf.1|exact so|exact ss,by simp[zfg,adj,zep,zh]⟩
theorem zok {scr:Bool} {x:ByteArray} (h:x=cOpen∨x=zbw∨x=cPoint∨x=zw∨x=zfo∨x=zcy∨x=zet∨x=cSemi∨x=cEq∨x=zbj∨x=zcz):GoodT scr (zh x):=by
 have sg: ∀c:UInt8,Sign (ib c)→GoodT scr ⟨4,{data:=#[c]},0⟩:=fun c hc=>.sign (c:=c) rfl hc
 rcases h with rfl|rfl|rfl|rfl|rfl|rfl|rfl|rfl|rfl|rfl|rfl<;>exact sg _ (by decide)
theorem zyi {scr b:Bool} {l:List Pc} (h:GoodP scr l∧adj false l):GoodP scr (zed b l)∧adj false (zed b l):=by
 unfold zed
 split
 ·refine⟨fun p hp=>?_,⟨(fun k=>by cases k),zbgk (zbbm (b:=[]) rfl trivial) _ h.2⟩⟩
  simp only[List.mem_cons,List.mem_append,List.not_mem_nil,or_false] at hp
  rcases hp with rfl|hp|rfl
  ·exact zok (by simp)
  ·exact h.1 p hp
  ·exact zok (by simp)
 ·exact h
theorem zkj {scr:Bool} (t:Tr):TrOk scr t→GoodP scr t.pcs∧adj false t.pcs:=by
 induction t with
 |leaf x=>exact zbmd
 |two k l r ihl ihr=>
  rintro⟨hk,hl,hr⟩
  have a:=zyi (b:=k==8&&sumK l.kind) (ihl hl)
  have c:=zyi (b:=if k==8 then twoK r.kind else sumK r.kind) (ihr hr)
  have ho:GoodT scr (zh (opP k)):=by rcases hk with rfl|rfl|rfl<;>exact zok (by simp[opP])
  refine⟨a.1.app fun p hp=>?_,zbgk (zbgl ?_) _ a.2⟩
  ·simp only[List.mem_cons] at hp
   rcases hp with rfl|rfl|rfl|hp
   ·exact .inl rfl
   ·exact ho
   ·exact .inl rfl
   ·exact c.1 p hp
  ·exact zbbm rfl (zbgl c.2 _) _
/-- Five tokens an expression at most, besides ( ). -/
theorem zvu (b:Bool) (l:List Pc):(tksP (zed b l)).length≤(tksP l).length+2:=by
 rw[zbbr]
 split
 ·simp
 ·omega
theorem zbit (t:Tr):(tksP t.pcs).length≤5*t.size:=by
 induction t with
 |leaf x=>
  simp only[Tr.pcs,zfg,Tr.size]
  repeat' split
  all_goals simp[tksP]
 |two k l r ihl ihr=>
  rw[zxd,List.length_append,List.length_cons]
  have h1:=zvu (k==8&&sumK l.kind) l.pcs
  have h2:=zvu (if k==8 then twoK r.kind else sumK r.kind) r.pcs
  simp only[Tr.size]
  omega
structure SI where
 kind:Int
 name:ByteArray
 t:Tr
def exS:List SI→Nat→List Ex
 |[],_=>[]
 |s::l,o=>s.t.flat o++exS l (o+s.t.size)
def stS:List SI→Nat→List Sm
 |[],_=>[]
 |s::l,o=>⟨s.kind,s.name,((o+s.t.size:Nat):Int)-1⟩::stS l (o+s.t.size)
abbrev dEp:Ep:=⟨1,sDefault,zde,sNone⟩
def isD (n:ByteArray):Bool:=n.toList==[42,100,101,102,97,117,108,116]
def laS:List SI→List Ep
 |[]=>[]
 |s::l=>(if isD s.name then [dEp] else [])++laS l
theorem zbtd (l m:List SI): ∀o,exS (l++m) o=exS l o++exS m (o+(exS l o).length):=by
 induction l with
 |nil=>intro o;rfl
 |cons s l ih=>intro o;simp only[List.cons_append,exS,ih,List.append_assoc,List.length_append,Tr.flat_len,Nat.add_assoc]
theorem zbte (l m:List SI): ∀o,stS (l++m) o=stS l o++stS m (o+(exS l o).length):=by
 induction l with
 |nil=>intro o;rfl
 |cons s l ih=>intro o;simp only[List.cons_append,stS,exS,ih,List.length_append,Tr.flat_len,Nat.add_assoc]
theorem zbtf (l m:List SI):laS (l++m)=laS l++laS m:=by
 induction l with
 |nil=>rfl
 |cons s l ih=>simp only[List.cons_append,laS,ih,List.append_assoc]
inductive SOk (scr:Bool):SI→Prop
 |let {n:ByteArray} {t:Tr} (hn:NameG scr n) (ht:TrOk scr t) (hd:t.dp≤20):SOk scr ⟨1,n,t⟩
 |dflt {t:Tr} (hs:scr=false) (ht:TrOk scr t) (hd:t.dp≤20):SOk scr ⟨1,zde,t⟩
 |fn {n:ByteArray} {t:Tr} (hn:NameG scr n) (ht:TrOk scr t) (hd:t.dp≤20):SOk scr ⟨2,n,t⟩
 |set {n:ByteArray} {t:Tr} (hn:NameG scr n) (ht:TrOk scr t) (hd:t.dp≤20):SOk scr ⟨3,n,t⟩
 |prt {t:Tr} (ht:TrOk scr t) (hd:t.dp≤20):SOk scr ⟨4,sNone,t⟩
 |thr {t:Tr} (ht:TrOk scr t) (hd:t.dp≤20):SOk scr ⟨5,sNone,t⟩
 |fail {t:Tr} (hs:scr=true) (ht:TrOk scr t) (hd:t.dp≤20):SOk scr ⟨6,sNone,t⟩
theorem SOk.tree {scr:Bool} {s:SI} (h:SOk scr s):TrOk scr s.t∧s.t.dp≤20:=by cases h<;>exact⟨by assumption,by assumption⟩
structure ImOk (scr:Bool) (rq:List ByteArray) (x:Im):Prop where
 spec:x.spec∈rq
 loc:NameG scr x.loc
 first:x.first=zw∨FieldG scr x.first
inductive EpOk (scr:Bool) (rq:List ByteArray):Ep→Prop
 |loc {n l:ByteArray} (hn:FieldG scr n) (hl:NameG scr l):EpOk scr rq ⟨1,n,l,sNone⟩
 |from {n l s:ByteArray} (hn:FieldG scr n) (hl:FieldG scr l) (hs:s∈rq):EpOk scr rq ⟨2,n,l,s⟩
 |star {s:ByteArray} (hs:s∈rq):EpOk scr rq ⟨3,sNone,sNone,s⟩
/-- What is known of rows that were read. -/
structure PI (scr:Bool) (q:PS) (sts:List SI):Prop where
 ex:q.ex=exS sts 0
 st:q.st=stS sts 0
 la:q.la=laS sts
 ok: ∀s∈sts,SOk scr s
 rq: ∀x∈q.rq,GoodT scr ⟨3,x,0⟩
 nd:q.rq.Nodup
 im: ∀x∈q.im,ImOk scr q.rq x
 ep: ∀x∈q.ep,EpOk scr q.rq x
 nrq:q.rq.length≤40
 nim:q.im.length≤40
 nep:q.ep.length+q.la.length≤40
 nst:q.st.length≤80
 nex:q.ex.length≤300
 scrr:scr=true→q.rq=[]∧q.im=[]∧q.ep=[]
/-- All rows stay. -/
structure Sm6 (q q':PS):Prop where
 five:Sm5 q q'
 ex:q'.ex=q.ex
theorem Sm6.refl (q:PS):Sm6 q q:=⟨Sm5.refl q,rfl⟩
theorem Sm6.trans {a b c:PS} (h:Sm6 a b) (k:Sm6 b c):Sm6 a c:=⟨h.five.trans k.five,k.ex.trans h.ex⟩
theorem Sm6.adv (q:PS):Sm6 q (adv q):=⟨Sm5.adv q,rfl⟩
theorem zbz {C:Cx} {k:Int} {x:ByteArray} {q q':PS} (h:tokP C k x q= .ok q'):Sm6 q q':=by
 obtain⟨rfl,_⟩:=zdf h
 exact Sm6.adv q
theorem zka {C:Cx} {o:Bool} {q:PS} {y:PS×ByteArray} (h:zk C o q= .ok y):Sm6 q y.1:=by
 obtain⟨rfl,_⟩:=zcj h
 exact Sm6.adv q
theorem zik {C:Cx} (hC:zgd C) {q:PS} {y:PS×ByteArray} (h:zk C false q= .ok y):NameG C.scr y.2:=by
 obtain⟨rfl,hp⟩:=zcj h
 exact zpz hC hp
theorem ztq {C:Cx} (hC:zgd C) {o:Bool} {q:PS} {y:PS×ByteArray} (h:zk C o q= .ok y):FieldG C.scr y.2:=by
 obtain⟨rfl,hp⟩:=zcj h
 exact ztp hC hp
theorem NameG.field {scr:Bool} {x:ByteArray} (h:NameG scr x):FieldG scr x:=⟨h.1,.inl h.2⟩
theorem FieldG.name {scr:Bool} {x:ByteArray} (h:FieldG scr x) (hn:(x.toList==[100,101,102,97,117,108,116])=false):NameG scr x:=by
 refine⟨h.1,h.2.elim id fun k=>?_⟩
 rw[k] at hn
 cases hn
theorem zef {scr:Bool} {x:ByteArray} (h:FieldG scr x):isD x=false:=by
 unfold isD
 rw[Lib.toList_data]
 generalize hT:(⟨1,x,0⟩:Tn)=T at h
 have h1:=h.1
 rw[hT] at h1
 cases h1 with
 | @name y c cs hx hc _=>
  cases hT
  rw[hx]
  refine beq_eq_false_iff_ne.2 fun e=>?_
  injection e with e1 _
  rw[e1] at hc
  revert hc
  cases scr<;>decide
 |num _ _=>cases hT
 |str _ _=>cases hT
 |sign _ _=>cases hT
theorem PI.same {scr:Bool} {q q':PS} {sts:List SI} (h:PI scr q sts) (s:Sm6 q q'):PI scr q' sts:=by
 obtain⟨⟨s1,s2,s3,s4,s5⟩,s6⟩:=s
 obtain⟨a1,a2,a3,a4,a5,a6,a7,a8,a9,a10,a11,a12,a13,a14⟩:=h
 rw[←s6] at a1 a13
 rw[←s4] at a2 a12
 rw[←s5] at a3 a11
 rw[←s1] at a5 a6 a7 a8 a9 a14
 rw[←s2] at a7 a10 a14
 rw[←s3] at a8 a11 a14
 exact⟨a1,a2,a3,a4,a5,a6,a7,a8,a9,a10,a11,a12,a13,a14⟩
theorem PI.stmt {scr:Bool} {q q1 q':PS} {sts:List SI} {k:Int} {n:ByteArray} {t:Tr} (h:PI scr q sts) (s:Sm5 q q1) (he:q1.ex=q.ex++t.flat q.ex.length) (hl:q1.ex.length≤300) (e1:q'.ex=q1.ex) (e2:q'.st=q1.st++[⟨k,n,(q1.ex.length:Int)-1⟩]) (hs:q1.st.length<80)
  (e3:q'.rq=q1.rq) (e4:q'.im=q1.im) (e5:q'.ep=q1.ep) (e6:q'.la=q1.la++if isD n then [dEp] else []) (hn:q'.ep.length+q'.la.length≤40) (ok:SOk scr ⟨k,n,t⟩):PI scr q' (sts++[⟨k,n,t⟩]):=by
 obtain⟨s1,s2,s3,s4,s5⟩:=s
 obtain⟨a1,a2,a3,a4,a5,a6,a7,a8,a9,a10,a11,a12,a13,a14⟩:=h
 rw[s1] at e3
 rw[s2] at e4
 rw[s3] at e5
 rw[s4] at e2 hs
 rw[s5] at e6
 have hlen:q1.ex.length=q.ex.length+t.size:=by rw[he,List.length_append,Tr.flat_len]
 refine⟨?_,?_,?_,?_,by rw[e3];exact a5,by rw[e3];exact a6,by rw[e3,e4];exact a7,by rw[e3,e5];exact a8,by rw[e3];exact a9,by rw[e4];exact a10,hn,?_,by rw[e1];exact hl,by rw[e3,e4,e5];exact a14⟩
 ·rw[e1,he,zbtd,Nat.zero_add,←a1]
  simp[exS]
 ·rw[e2,zbte,Nat.zero_add,←a1,←a2,hlen]
  rfl
 ·rw[e6,zbtf,←a3]
  simp[laS]
 ·intro s hs
  rcases List.mem_append.1 hs with hs|hs
  ·exact a4 s hs
  ·rw[List.mem_singleton] at hs
   rw[hs]
   exact ok
 ·rw[e2,List.length_append,List.length_cons,List.length_nil]
  omega
theorem zyj {C:Cx} {k:Int} {n:ByteArray} {q q':PS} (h:zbi C k n q= .ok q'):q'={q with st:=q.st++[⟨k,n,(q.ex.length:Int)-1⟩]}∧q.st.length<80:=by
 unfold zbi at h
 split at h
 ·cases h
 ·cases h;exact⟨rfl,by omega⟩
theorem zbpu {C:Cx} {x:Im} {q q':PS} (h:zbx C x q= .ok q'):q'={q with im:=q.im++[x]}∧q.im.length<40:=by
 unfold zbx at h
 split at h
 ·cases h
 ·cases h;exact⟨rfl,by omega⟩
theorem zbpv {C:Cx} {x:Ep} {q q':PS} (h:zo C x q= .ok q') (hx:isD x.loc=false):q'={q with ep:=q.ep++[x]}∧q.ep.length+q.la.length<40:=by
 unfold zo at h
 split at h
 ·cases h
 ·rw[if_neg (by unfold isD at hx;rw[hx];decide)] at h
  cases h;exact⟨rfl,by omega⟩
theorem zit:isD zde=true:=by unfold isD;rw[Lib.toList_data];rfl
theorem zbpw {C:Cx} {q q':PS} (h:zo C dEp q= .ok q'):q'={q with la:=q.la++[dEp]}∧q.ep.length+q.la.length<40:=by
 unfold zo at h
 split at h
 ·cases h
 ·rw[if_pos (by have:=zit;unfold isD at this;exact this)] at h
  cases h;exact⟨rfl,by omega⟩
/-- A statement: rows stay up to its expression and behind it. -/
theorem zkk {C:Cx} (hC:zgd C) {q q0 q1 q2 q3:PS} {sts:List SI} {k:Int} {n:ByteArray} (h:PI C.scr q sts) (s0:Sm6 q q0) (he:pE C .sum 0 q0= .ok q1) (s1:Sm6 q1 q2) (ha:zbi C k n q2= .ok q3) (hn:isD n=false) (ok: ∀t,TrOk C.scr t→t.dp≤20→SOk C.scr ⟨k,n,t⟩): ∃sts',PI C.scr q3 sts':=by
 obtain⟨t,t1,t2,t3,t4,t5⟩:=zbgp hC he
 obtain⟨rfl,hl⟩:=zyj ha
 have s2:=(s0.five.trans t4).trans s1.five
 refine⟨_,h.stmt (q1:=q2) (t:=t) s2 (by rw[s1.ex,t2,s0.ex]) (by rw[s1.ex];exact t5) rfl rfl hl rfl rfl rfl (by rw[hn];simp) ?_ (ok t t1 t3)⟩
 show q2.ep.length+q2.la.length≤40
 rw[s2.ep,s2.la]
 exact h.nep
theorem zbme {C:Cx} (hC:zgd C) {q q0 q1 q2 q3 q4:PS} {sts:List SI} (h:PI C.scr q sts) (s0:Sm6 q q0) (he:pE C .sum 0 q0= .ok q1) (s1:Sm6 q1 q2) (ha:zbi C 1 zde q2= .ok q3) (hb:zo C dEp q3= .ok q4) (hs:C.scr=false): ∃sts',PI C.scr q4 sts':=by
 obtain⟨t,t1,t2,t3,t4,t5⟩:=zbgp hC he
 obtain⟨rfl,hl⟩:=zyj ha
 obtain⟨rfl,hl2⟩:=zbpw hb
 have s2:=(s0.five.trans t4).trans s1.five
 refine⟨_,h.stmt (q1:=q2) (t:=t) s2 (by rw[s1.ex,t2,s0.ex]) (by rw[s1.ex];exact t5) rfl rfl hl rfl rfl rfl (by rw[zit];rfl) ?_ (.dflt hs t1 t3)⟩
 show q2.ep.length+(q2.la++[dEp]).length≤40
 rw[List.length_append,List.length_cons,List.length_nil]
 have hl3:q2.ep.length+q2.la.length<40:=hl2
 omega
theorem zqg {l:List ByteArray} {x:ByteArray}:hasS l x=true↔x∈l:=by
 unfold hasS
 rw[List.any_eq_true]
 constructor
 ·rintro⟨y,h1,h2⟩
  rw[←(zgx _ _).1 h2]
  exact h1
 ·intro h
  exact⟨x,h,beq_self_eq_true _⟩
/-- One request more, or none; nothing else changes. -/
structure MoreR (scr:Bool) (q q':PS):Prop where
 old: ∀x∈q.rq,x∈q'.rq
 good: ∀x∈q'.rq,GoodT scr ⟨3,x,0⟩
 nd:q'.rq.Nodup
 few:q'.rq.length≤40
 im:q'.im=q.im
 ep:q'.ep=q.ep
 st:q'.st=q.st
 ex:q'.ex=q.ex
 la:q'.la=q.la
theorem PI.more {scr:Bool} {q q':PS} {sts:List SI} (h:PI scr q sts) (m:MoreR scr q q') (hs:scr=false):PI scr q' sts:=by
 obtain⟨a1,a2,a3,a4,a5,a6,a7,a8,a9,a10,a11,a12,a13,a14⟩:=h
 obtain⟨m1,m2,m3,m4,m5,m6,m7,m8,m9⟩:=m
 exact⟨by rw[m8];exact a1,by rw[m7];exact a2,by rw[m9];exact a3,a4,m2,m3,by rw[m5];exact fun x hx=>⟨m1 _ (a7 x hx).spec,(a7 x hx).loc,(a7 x hx).first⟩,
  by
   rw[m6]
   intro x hx
   cases a8 x hx with
   |loc hn hl=>exact .loc hn hl
   | «from» hn hl hr=>exact .from hn hl (m1 _ hr)
   |star hr=>exact .star (m1 _ hr),
  m4,by rw[m5];exact a10,by rw[m6,m9];exact a11,by rw[m7];exact a12,by rw[m8];exact a13,fun k=>by rw[hs] at k;cases k⟩
theorem zbpx {scr:Bool} {t:Tn} (h:GoodT scr t) (hk:t.kind=3):GoodT scr ⟨3,t.text,0⟩:=by
 cases h with
 |name hx h hs=>cases hk
 |num _ _=>cases hk
 |str h0 hs=>exact .str h0 hs
 |sign _ _=>cases hk
theorem zvv {C:Cx} (hC:zgd C) {q:PS} {a:PS×ByteArray} (h:zbf C q= .ok a) (h1: ∀x∈q.rq,GoodT C.scr ⟨3,x,0⟩) (h2:q.rq.Nodup) (h3:q.rq.length≤40):MoreR C.scr q a.1∧a.2∈a.1.rq:=by
 unfold zbf at h
 split at h
 ·next hk=>
  have hg:=zbpx (zsx hC (zne hk (by decide))) (by rw[beq_iff_eq] at hk;exact hk)
  split at h
  ·next hh=>
   cases h
   exact⟨⟨fun _ hx=>hx,h1,h2,h3,rfl,rfl,rfl,rfl,rfl⟩,zqg.1 hh⟩
  ·next hh=>
   split at h
   ·cases h
   ·next hl=>
    cases h
    have hn:(zd C q.pos).text∉q.rq:=fun k=>hh (zqg.2 k)
    refine⟨⟨fun x hx=>List.mem_append_left _ hx,fun x hx=>?_,?_,?_,rfl,rfl,rfl,rfl,rfl⟩,by simp⟩
    ·rcases List.mem_append.1 hx with hx|hx
     ·exact h1 x hx
     ·rw[List.mem_singleton] at hx
      rw[hx]
      exact hg
    ·show (q.rq++[(zd C q.pos).text]).Nodup
     rw[List.nodup_append]
     refine⟨h2,by simp,fun a ha b hb=>?_⟩
     rw[List.mem_singleton] at hb
     rw[hb]
     exact fun e=>hn (e▸ha)
    ·show (q.rq++[(zd C q.pos).text]).length≤40
     simp
     omega
 ·cases h
theorem zmj {C:Cx} (hC:zgd C) {q0 q:PS} {sts:List SI} {b:PS×ByteArray} (h:zdt C (zcs C (.ok q))= .ok b) (hp:PI C.scr q0 sts) (hs:Sm6 q0 q) (hscr:C.scr=false):PI C.scr b.1 sts∧b.2∈b.1.rq:=by
 obtain⟨a,h1,h2⟩:=zc h
 obtain⟨c,h3,h4⟩:=zc h2
 obtain⟨d,h5,h6⟩:=zc h1
 cases h4
 have s1:Sm6 q d:=zbz (show tokP C 1 zbl q= .ok d from h5)
 have p1:=hp.same (hs.trans s1)
 obtain⟨m,hm⟩:=zvv hC h6 p1.rq p1.nd p1.nrq
 have s2:=zbz h3
 exact⟨(p1.more m hscr).same s2,by show a.2∈c.rq;rw[s2.five.rq];exact hm⟩
def zvw (scr exp:Bool) (e:Ep):Prop:=FieldG scr e.loc∧FieldG scr e.name∧(exp=false→NameG scr e.name)
theorem zbtg {C:Cx} (hC:zgd C) {exp:Bool} {a b:PS×ByteArray} (h:asP C exp a= .ok b) (ha:FieldG C.scr a.2):Sm6 a.1 b.1∧FieldG C.scr b.2∧(exp=false→NameG C.scr b.2):=by
 unfold asP at h
 split at h
 ·refine⟨(Sm6.adv a.1).trans (zka h),ztq hC h,fun e=>?_⟩
  subst e
  exact zik hC h
 ·split at h
  ·cases h
  ·next hn=>
   cases h
   refine⟨Sm6.refl _,ha,fun e=>ha.name ?_⟩
   subst e
   simpa using hn
theorem zbmf {C:Cx} (hC:zgd C) {exp:Bool} (f:Nat): ∀(q:PS) (acc:List Ep) (a:PS×List Ep),zgw C exp f q acc= .ok a→(∀e∈acc,zvw C.scr exp e)→Sm6 q a.1∧∀e∈a.2,zvw C.scr exp e:=by
 induction f with
 |zero=>intro q acc a h;cases h
 |succ f ih=>
  intro q acc a h hacc
  rw[zgw] at h
  obtain⟨b,h1,h2⟩:=zc h
  obtain⟨c,h3,h4⟩:=zc h2
  have e1:=zka h1
  have f1:=ztq hC h1
  obtain⟨e2,f2,f3⟩:=zbtg hC h3 f1
  have hacc': ∀e∈acc++[(⟨0,c.2,b.2,sNone⟩:Ep)],zvw C.scr exp e:=by
   intro e he
   rcases List.mem_append.1 he with he|he
   ·exact hacc e he
   ·rw[List.mem_singleton] at he
    rw[he]
    exact⟨f1,f2,f3⟩
  split at h4
  ·obtain⟨k1,k2⟩:=ih _ _ _ h4 hacc'
   exact⟨(e1.trans e2).trans ((Sm6.adv _).trans k1),k2⟩
  ·obtain⟨d,h5,h6⟩:=zc h4
   cases h6
   exact⟨(e1.trans e2).trans (zbz h5),hacc'⟩
theorem zyk {C:Cx} (hC:zgd C) {exp:Bool} {q:PS} {a:PS×List Ep} (h:zgl C exp q= .ok a):Sm6 q a.1∧∀e∈a.2,zvw C.scr exp e:=by
 obtain⟨b,h1,h2⟩:=zc h
 obtain⟨k1,k2⟩:=zbmf hC _ _ _ _ h2 (fun e he=>by cases he)
 exact⟨(zbz h1).trans k1,k2⟩
theorem zqh {C:Cx} {q q':PS} {sts:List SI} {x:Im} (h:PI C.scr q sts) (ha:zbx C x q= .ok q') (hx:ImOk C.scr q.rq x) (hs:C.scr=false):PI C.scr q' sts∧q'.rq=q.rq:=by
 obtain⟨rfl,hl⟩:=zbpu ha
 refine⟨⟨h.ex,h.st,h.la,h.ok,h.rq,h.nd,fun y hy=>?_,h.ep,h.nrq,by show (q.im++[x]).length≤40;simp;omega,h.nep,h.nst,h.nex,fun k=>by rw[hs] at k;cases k⟩,rfl⟩
 rcases List.mem_append.1 hy with hy|hy
 ·exact h.im y hy
 ·rw[List.mem_singleton] at hy
  rw[hy]
  exact hx
theorem zkx {C:Cx} {q q':PS} {sts:List SI} {x:Ep} (h:PI C.scr q sts) (ha:zo C x q= .ok q') (hx:EpOk C.scr q.rq x) (hs:C.scr=false):PI C.scr q' sts∧q'.rq=q.rq:=by
 have hd:isD x.loc=false:=by
  cases hx with
  |loc hn hl=>exact zef hl.field
  | «from» hn hl hr=>exact zef hl
  |star hr=>show isD sNone=false;unfold isD;rw[Lib.toList_data];rfl
 obtain⟨rfl,hl⟩:=zbpv ha hd
 refine⟨⟨h.ex,h.st,h.la,h.ok,h.rq,h.nd,h.im,fun y hy=>?_,h.nrq,h.nim,by show (q.ep++[x]).length+q.la.length≤40;simp;omega,h.nst,h.nex,fun k=>by rw[hs] at k;cases k⟩,rfl⟩
 rcases List.mem_append.1 hy with hy|hy
 ·exact h.ep y hy
 ·rw[List.mem_singleton] at hy
  rw[hy]
  exact hx
theorem zzl {α:Type} {f:α→PS→PR} {e:Nat} (l:List α):zbb f l (.error e)= .error e:=by
 induction l with
 |nil=>rfl
 |cons b l ih=>simp only[zbb,zjr];exact ih
theorem zov {C:Cx} {α:Type} {f:α→PS→PR} {sts:List SI} {R:List ByteArray} (l:List α):(∀a∈l,∀q q',PI C.scr q sts→q.rq=R→f a q= .ok q'→PI C.scr q' sts∧q'.rq=q.rq)→∀(q q':PS),PI C.scr q sts→q.rq=R→zbb f l (.ok q)= .ok q'→PI C.scr q' sts:=by
 induction l with
 |nil=>intro _ q q' h _ ha;cases ha;exact h
 |cons a l ih=>
  intro hf q q' h hr ha
  simp only[zbb,zg] at ha
  cases hx:f a q with
  |error e=>
   rw[hx,zzl] at ha
   cases ha
  |ok q1=>
   rw[hx] at ha
   obtain⟨h1,h2⟩:=hf a (List.mem_cons_self ..) q q1 h hr hx
   exact ih (fun b hb=>hf b (List.mem_cons_of_mem _ hb)) q1 q' h1 (h2.trans hr) ha
theorem zbev {C:Cx} (hC:zgd C) {q q':PS} {sts:List SI} (hp:PI C.scr q sts) (hs:C.scr=false) (h:zcd C q= .ok q'):PI C.scr q' sts:=by
 obtain⟨q1,h1,h2⟩:=zc h
 have p1:=hp.same (zbz h1)
 split at h2
 ·obtain⟨a,h3,h4⟩:=zc h2
  obtain⟨b,h5,h6⟩:=zc h4
  obtain⟨s1,hl⟩:=zyk hC h3
  obtain⟨p2,hb⟩:=zmj hC h5 p1 s1 hs
  refine zov (C:=C) (R:=b.1.rq) a.2 (fun e he r r' pr hr hx=>?_) b.1 q' p2 rfl h6
  have hk:=hl e he
  exact zqh pr hx ⟨by rw[hr];exact hb,hk.2.2 rfl,.inr hk.1⟩ hs
 ·split at h2
  ·obtain⟨a,h3,h4⟩:=zc h2
   obtain⟨b,h5,h6⟩:=zc h4
   obtain⟨c,h7,h8⟩:=zc h3
   obtain⟨d,h9,h10⟩:=zc h7
   obtain⟨p2,hb⟩:=zmj hC h5 p1 ((zbz h9).trans ((zbz h10).trans (zka h8))) hs
   exact (zqh p2 h6 ⟨hb,zik hC h8,.inl rfl⟩ hs).1
  ·split at h2
   ·obtain⟨a,h3,h4⟩:=zc h2
    obtain⟨b,h5,h6⟩:=zc h4
    obtain⟨p2,hb⟩:=zmj hC h5 p1 (zka h3) hs
    refine (zqh p2 h6 ⟨hb,zik hC h3,.inr ⟨?_,.inr (Lib.toList_data _)⟩⟩ hs).1
    exact .name (c:=100) (cs:=[101,102,97,117,108,116]) rfl (by rw[hs];decide) (by rw[hs];decide)
   ·obtain⟨a,h3,h4⟩:=zc h2
    exact (p1.more (zvv hC h3 p1.rq p1.nd p1.nrq).1 hs).same (zbz h4)
theorem zbbw {C:Cx} (hC:zgd C) {q:PS} {a:PS×ByteArray} {sts:List SI} (hp:PI C.scr q sts) (h:letP C q= .ok a):(∃sts',PI C.scr a.1 sts')∧NameG C.scr a.2:=by
 obtain⟨b,h1,h2⟩:=zc h
 obtain⟨e,h11,h12⟩:=zc h2
 cases h12
 obtain⟨c,h3,h4⟩:=zc h1
 obtain⟨d,h5,h6⟩:=zc h11
 obtain⟨f,h7,h8⟩:=zc h5
 obtain⟨g,h9,h10⟩:=zc h7
 have hn:=zik hC h4
 exact⟨zkk hC hp ((zbz h3).trans ((zka h4).trans (zbz (show tokP C 4 cEq b.1= .ok g from h9)))) h10 (zbz h8) h6 (zef hn.field) (fun t h1 h2=>.let hn h1 h2),hn⟩
theorem zbgv {C:Cx} (hC:zgd C) {q:PS} {a:PS×ByteArray} {sts:List SI} (hp:PI C.scr q sts) (h:fnP C q= .ok a):(∃sts',PI C.scr a.1 sts')∧NameG C.scr a.2:=by
 obtain⟨b,h1,h2⟩:=zc h
 obtain⟨e,h19,h20⟩:=zc h2
 cases h20
 obtain⟨c,h3,h4⟩:=zc h1
 obtain⟨d,h5,h6⟩:=zc h19
 obtain⟨f,h7,h8⟩:=zc h5
 obtain⟨g,h9,h10⟩:=zc h7
 obtain⟨i,h11,h12⟩:=zc h9
 obtain⟨j,h13,h14⟩:=zc h11
 obtain⟨k,h15,h16⟩:=zc h13
 obtain⟨l,h17,h18⟩:=zc h15
 have hn:=zik hC h4
 exact⟨zkk hC hp ((zbz h3).trans ((zka h4).trans ((zbz (show tokP C 4 cOpen b.1= .ok l from h17)).trans ((zbz h18).trans ((zbz h16).trans (zbz h14)))))) h12 ((zbz h10).trans (zbz h8)) h6 (zef hn.field) (fun t h1 h2=>.fn hn h1 h2),hn⟩
theorem zbew {C:Cx} (hC:zgd C) {q q':PS} {sts:List SI} (hp:PI C.scr q sts) (hs:C.scr=false) (h:zbc C q= .ok q'): ∃sts',PI C.scr q' sts':=by
 obtain⟨q1,h1,h2⟩:=zc h
 have p1:=hp.same (zbz h1)
 split at h2
 ·obtain⟨a,h3,h4⟩:=zc h2
  obtain⟨s1,hl⟩:=zyk hC h3
  split at h4
  ·next hg=>
   obtain⟨b,h5,h6⟩:=zc h4
   have p2:=p1.same (s1.trans (zbz h5))
   refine⟨sts,zov (C:=C) (R:=b.rq) a.2 (fun e he r r' pr hr hx=>?_) b q' p2 rfl h6⟩
   have hk:=hl e he
   rw[Bool.and_eq_true] at hg
   have hd:(e.loc.toList==[100,101,102,97,117,108,116])=false:=by
    have:=hg.1
    unfold anyB at this
    rw[Bool.not_eq_true',List.any_eq_false] at this
    simpa using this e he
   exact zkx pr hx (.loc hk.2.1 (hk.1.name hd)) hs
  ·obtain⟨b,h5,h6⟩:=zc h4
   obtain⟨p2,hb⟩:=zmj hC h5 p1 s1 hs
   refine⟨sts,zov (C:=C) (R:=b.1.rq) a.2 (fun e he r r' pr hr hx=>?_) b.1 q' p2 rfl h6⟩
   have hk:=hl e he
   exact zkx pr hx (.from hk.2.1 hk.1 (by rw[hr];exact hb)) hs
 ·split at h2
  ·obtain⟨b,h5,h6⟩:=zc h2
   cases h7:tokP C 4 zw q1 with
   |error e=>rw[h7] at h5;cases h5
   |ok q2=>
    rw[h7] at h5
    obtain⟨p2,hb⟩:=zmj hC h5 p1 (zbz h7) hs
    exact⟨sts,(zkx p2 h6 (.star hb) hs).1⟩
  ·split at h2
   ·obtain⟨a,h3,h4⟩:=zc h2
    obtain⟨b,h5,h6⟩:=zc h3
    obtain⟨c,h7,h8⟩:=zc h5
    obtain⟨d,h9,h10⟩:=zc h7
    exact zbme hC p1 (zbz h9) h10 (zbz h8) h6 h4 hs
   ·split at h2
    ·obtain⟨a,h3,h4⟩:=zc h2
     obtain⟨⟨sts',p2⟩,hn⟩:=zbbw hC p1 h3
     exact⟨sts',(zkx p2 h4 (.loc hn.field hn) hs).1⟩
    ·split at h2
     ·obtain⟨a,h3,h4⟩:=zc h2
      obtain⟨⟨sts',p2⟩,hn⟩:=zbgv hC p1 h3
      exact⟨sts',(zkx p2 h4 (.loc hn.field hn) hs).1⟩
     ·cases h2
theorem zhv:isD sNone=false:=by unfold isD;rw[Lib.toList_data];rfl
theorem zbmg {C:Cx} (hC:zgd C) {q q':PS} {sts:List SI} (hp:PI C.scr q sts) (h:zu C q= .ok q'): ∃sts',PI C.scr q' sts':=by
 unfold zu at h
 split at h
 ·next hs=>rw[Bool.and_eq_true,Bool.not_eq_true'] at hs;exact⟨sts,zbev hC hp hs.1 h⟩
 ·split at h
  ·next hs=>rw[Bool.and_eq_true,Bool.not_eq_true'] at hs;exact zbew hC hp hs.1 h
  ·split at h
   ·obtain⟨a,h1,h2⟩:=zc h
    cases h2
    exact (zbbw hC hp h1).1
   ·split at h
    ·obtain⟨a,h1,h2⟩:=zc h
     cases h2
     exact (zbgv hC hp h1).1
    ·split at h
     ·obtain⟨a,h1,h2⟩:=zc h
      obtain⟨b,h3,h4⟩:=zc h1
      obtain⟨c,h5,h6⟩:=zc h3
      obtain⟨d,h7,h8⟩:=zc h5
      obtain⟨e,h9,h10⟩:=zc h7
      exact zkk hC hp ((zbz h9).trans (zbz h10)) h8 ((zbz h6).trans (zbz h4)) h2 zhv (fun t h1 h2=>.prt h1 h2)
     ·split at h
      ·obtain⟨a,h1,h2⟩:=zc h
       obtain⟨b,h3,h4⟩:=zc h1
       obtain⟨c,h5,h6⟩:=zc h3
       exact zkk hC hp (zbz h5) h6 (zbz h4) h2 zhv (fun t h1 h2=>.thr h1 h2)
      ·split at h
       ·next hs=>
        rw[Bool.and_eq_true] at hs
        obtain⟨a,h1,h2⟩:=zc h
        obtain⟨b,h3,h4⟩:=zc h1
        obtain⟨c,h5,h6⟩:=zc h3
        exact zkk hC hp (zbz h5) h6 (zbz h4) h2 zhv (fun t h1 h2=>.fail hs.1 h1 h2)
       ·obtain⟨a,h1,h2⟩:=zc h
        obtain⟨b,h3,h4⟩:=zc h2
        obtain⟨c,h5,h6⟩:=zc h3
        obtain⟨d,h7,h8⟩:=zc h5
        have hn:=zik hC h1
        exact zkk hC hp ((zka h1).trans (zbz h7)) h8 (zbz h6) h4 (zef hn.field) (fun t h1 h2=>.set hn h1 h2)
theorem zbiu {C:Cx} (hC:zgd C) (f:Nat): ∀(q q':PS) (sts:List SI),zfh C f q= .ok q'→PI C.scr q sts→∃sts',PI C.scr q' sts':=by
 induction f with
 |zero=>intro q q' sts h;cases h
 |succ f ih=>
  intro q q' sts h hp
  rw[zfh] at h
  split at h
  ·obtain⟨a,h1,h2⟩:=zc h
   obtain⟨sts1,p1⟩:=zbmg hC hp h1
   exact ih _ _ _ h2 p1
  ·cases h
   exact⟨sts,hp⟩
theorem zbmh (scr:Bool):PI scr startP []:=
 ⟨rfl,rfl,rfl,(fun s hs=>by cases hs),(fun s hs=>by cases hs),List.nodup_nil,(fun s hs=>by cases hs),(fun s hs=>by cases hs),by simp[startP],by simp[startP],by simp[startP],by simp[startP],by simp[startP],fun _=>⟨rfl,rfl,rfl⟩⟩
/-- What was read is such rows. -/
theorem zyl {s:ByteArray} {scr:Bool} {q:PS} (h:zct s scr (.ok q)): ∃sts,PI scr q sts:=by
 obtain⟨r,⟨a,_,hl⟩,e⟩:=h
 cases r with
 |error p=>cases e
 |ok ts=>exact zbiu (C:=⟨ts,s.size,scr⟩) (zbgn hl ts rfl) _ _ _ _ e.symm (zbmh scr)
def tStr (s:ByteArray):Tn:=⟨3,s,0⟩
def kW (x:ByteArray):List Pc:=[.tok (zn x),.sep sp1]
def asPc (a b:ByteArray):List Pc:=if a.toList==b.toList then [.tok (zn a)] else [.tok (zn a),.sep sp1,.tok (zn sAs),.sep sp1,.tok (zn b)]
def zdu (s:ByteArray):List Pc:=[.tok (zn zbl),.sep sp1,.tok (tStr s),.tok (zh cSemi),.sep nl1]
def zdh (a b:ByteArray) (r:List Pc):List Pc:=.tok (zh zbj):: .sep sp1::(asPc a b++(.sep sp1:: .tok (zh zcz)::r))
def zeh (s:ByteArray):List Pc:=kW sImport++[.tok (tStr s),.tok (zh cSemi),.sep nl1]
def zdi (x:Im):List Pc:=
 if x.first.toList==[42] then kW sImport++(.tok (zh zw):: .sep sp1::(kW sAs++(kW x.loc++zdu x.spec)))
 else if x.first.toList==[100,101,102,97,117,108,116] then kW sImport++(kW x.loc++zdu x.spec)
 else kW sImport++zdh x.first x.loc (.sep sp1::zdu x.spec)
def zdv (x:Ep):List Pc:=
 if x.kind==3 then kW sExport++(.tok (zh zw):: .sep sp1::zdu x.spec)
 else if x.kind==2 then kW sExport++zdh x.loc x.name (.sep sp1::zdu x.spec)
 else kW sExport++zdh x.loc x.name [.tok (zh cSemi),.sep nl1]
def zel:List Pc:=[.tok (zh cSemi),.sep nl1]
def eqPc:List Pc:=[.tok (zh cEq),.sep sp1]
def zby (s:SI):List Pc:=
 if s.kind==1 then (if isD s.name then kW sExport++(kW sDefault++(s.t.pcs++zel)) else kW sLet++(kW s.name++(eqPc++(s.t.pcs++zel))))
 else if s.kind==2 then kW sFunction++(.tok (zn s.name):: .tok (zh cOpen):: .tok (zh zbw):: .sep sp1:: .tok (zh zbj):: .sep sp1::(kW ziz++(s.t.pcs++[.tok (zh cSemi),.sep sp1,.tok (zh zcz),.sep nl1])))
 else if s.kind==3 then kW s.name++(eqPc++(s.t.pcs++zel))
 else if s.kind==4 then .tok (zn sPrint):: .tok (zh cOpen)::(s.t.pcs++(.tok (zh zbw)::zel))
 else if s.kind==5 then kW sThrow++(s.t.pcs++zel)
 else kW sFail++(s.t.pcs++zel)
theorem neB {x y:ByteArray} (h:x.data.toList≠y.data.toList):(x.toList==y.toList)=false:=by
 rw[Lib.toList_data,Lib.toList_data]
 exact beq_eq_false_iff_ne.2 h
theorem zil {C:Cx} {p:Nat} {y:ByteArray} {l:List Tn} (h:Rem C p (zn y::l)) (x:ByteArray):isT C p 1 x=(y.toList==x.toList):=by
 rw[h.is (by decide)]
 unfold hd zn
 simp
theorem zqi {C:Cx} {p:Nat} {y:ByteArray} {l:List Tn} (h:Rem C p (zn y::l)) (x:ByteArray):isT C p 4 x=false:=by
 rw[h.is (by decide)]
 exact zpf (show (1:Int)≠4 by decide)
theorem zjf {C:Cx} {p:Nat} {y:ByteArray} {l:List Tn} (h:Rem C p (zh y::l)) (x:ByteArray):isT C p 4 x=(y.toList==x.toList):=by
 rw[h.is (by decide)]
 unfold hd zh
 simp
theorem zbbx {C:Cx} {p:Nat} {y:ByteArray} {l:List Tn} (h:Rem C p (zh y::l)) (x:ByteArray):isT C p 1 x=false:=by
 rw[h.is (by decide)]
 exact zpf (show (4:Int)≠1 by decide)
theorem zbmi {C:Cx} {p:Nat} {y:ByteArray} {l:List Tn} (h:Rem C p (tStr y::l)) (x:ByteArray):isT C p 4 x=false∧isT C p 1 x=false:=by
 rw[h.is (by decide),h.is (by decide)]
 exact⟨zpf (show (3:Int)≠4 by decide),zpf (show (3:Int)≠1 by decide)⟩
theorem zbmj {C:Cx} {p:Nat} {t:Tn} {l:List Tn} (h:Rem C p (t::l)) (ht:t.kind≠1) (o:Bool):plainB C p o=false:=by
 unfold plainB
 rw[h.kind.1,beq_eq_false_iff_ne.2 ht]
 rfl
theorem zea {C:Cx} {x:ByteArray} {l:List Tn} {q:PS} (h:Rem C q.pos (zn x::l)):tokP C 1 x q= .ok (adv q):=zjx h (by decide) (zbgr _ _)
theorem zcw {C:Cx} {x:ByteArray} {l:List Tn} {q:PS} (h:Rem C q.pos (zh x::l)):tokP C 4 x q= .ok (adv q):=zjx h (by decide) (zfj _ _)
/-- A name is none of the words. -/
theorem zbby {scr:Bool} {n:ByteArray} (h:NameG scr n):(n.toList==sImport.toList)=false∧(n.toList==sExport.toList)=false∧(n.toList==sDefault.toList)=false∧(n.toList==sLet.toList)=false∧(n.toList==sFunction.toList)=false∧(n.toList==sPrint.toList)=false∧(n.toList==sThrow.toList)=false∧(scr&&(n.toList==sFail.toList))=false:=by
 have h2:=h.2
 unfold resB at h2
 simp only[Bool.or_eq_false_iff] at h2
 obtain⟨⟨⟨⟨⟨⟨⟨⟨h0,h1⟩,h2⟩,h3⟩,h4⟩,h5⟩,h6⟩,h7⟩,h8⟩:=h2
 rw[Lib.toList_data sImport,Lib.toList_data sExport,Lib.toList_data sDefault,Lib.toList_data sLet,Lib.toList_data sFunction,Lib.toList_data sPrint,Lib.toList_data sThrow,Lib.toList_data sFail]
 refine⟨h0,h1,h2,h3,h4,h6,h7,?_⟩
 cases scr with
 |false=>rfl
 |true=>
  rw[Bool.and_true,Bool.or_eq_false_iff] at h8
  rw[Bool.true_and]
  exact h8.1
theorem zbpy {C:Cx} {s:ByteArray} {l:List Tn} {q:PS} (h:Rem C q.pos (tStr s::l)) (hs:s∈q.rq):zbf C q= .ok (adv q,s):=by
 unfold zbf
 rw[h.kind.1,h.kind.2.1,show (tStr s).kind=3 from rfl,show (tStr s).text=s from rfl,if_pos (show ((3:Int)==3)=true from rfl),if_pos (zqg.2 hs)]
theorem znq {C:Cx} {s:ByteArray} {l:List Tn} {q:PS} (h:Rem C q.pos (zn zbl::tStr s::zh cSemi::l)) (hs:s∈q.rq):zdt C (zcs C (.ok q))= .ok ({q with pos:=q.pos+3},s):=by
 have h1:=h.next.2.1
 have h2:=h1.next.2.1
 unfold zdt zcs
 rw[zg,zea h,zg,zbpy (q:=adv q) h1 hs,zg]
 simp only
 rw[zcw (q:=adv (adv q)) h2,zg]
 rfl
/-- The one pair of a list. -/
theorem zrv {C:Cx} {a b:ByteArray} {l:List Tn} {q:PS} {exp:Bool} (h:Rem C q.pos (tksP (zdh a b [])++l)) (ha:FieldG C.scr a) (hb:FieldG C.scr b) (hx:exp=false→NameG C.scr b) (hd:exp=false→(a.toList==[100,101,102,97,117,108,116])=true→(a.toList==b.toList)=false):
  zgl C exp q= .ok ({q with pos:=q.pos+(tksP (zdh a b [])).length},[⟨0,b,a,sNone⟩]):=by
 unfold zdh asPc at h ⊢
 cases hab:a.toList==b.toList with
 |true=>
  have e:=(zgx _ _).1 hab
  subst e
  simp only[hab,if_true,tksP,List.cons_append,List.nil_append] at h ⊢
  have h1:=h.next.2.1
  have h2:=h1.next.2.1
  unfold zgl
  rw[zcw h,zg,zja,zfw (q:=adv q) h1 (zmi h1 ha),zg]
  have e1:asP C exp (adv (adv q),a)= .ok (adv (adv q),a):=by
   unfold asP
   rw[if_neg (by rw[zbbx (p:=(adv (adv q)).pos) h2];decide),if_neg]
   intro hc
   rw[Bool.and_eq_true,Bool.not_eq_true'] at hc
   have:=hd hc.2 hc.1
   rw[hab] at this
   cases this
  rw[e1,zg]
  simp only
  rw[if_neg (by rw[zjf (p:=(adv (adv q)).pos) h2,neB (by decide)];decide),zcw (q:=adv (adv q)) h2,zg]
  rfl
 |false=>
  simp only[hab,Bool.false_eq_true,if_false,tksP,List.cons_append,List.nil_append] at h ⊢
  have h1:=h.next.2.1
  have h2:=h1.next.2.1
  have h3:=h2.next.2.1
  have h4:=h3.next.2.1
  unfold zgl
  rw[zcw h,zg,zja,zfw (q:=adv q) h1 (zmi h1 ha),zg]
  have e1:asP C exp (adv (adv q),a)= .ok (adv (adv (adv (adv q))),b):=by
   unfold asP
   rw[if_pos (by rw[zil (p:=(adv (adv q)).pos) h2];simp),zfw (q:=adv (adv (adv q))) h3]
   cases exp with
   |true=>exact zmi h3 hb
   |false=>exact zhu h3 (hx rfl) false
  rw[e1,zg]
  simp only
  rw[if_neg (by rw[zjf (p:=(adv (adv (adv (adv q)))).pos) h4,neB (by decide)];decide),zcw (q:=adv (adv (adv (adv q)))) h4,zg]
  rfl
theorem zbth {C:Cx} {s:ByteArray} {l:List Tn} {q:PS} (hs:C.scr=false) (h:Rem C q.pos (tksP (zeh s)++l)) (hn:s∉q.rq) (hl:q.rq.length<40):zu C q= .ok {q with pos:=q.pos+(tksP (zeh s)).length,rq:=q.rq++[s]}:=by
 have h0:Rem C q.pos (zn sImport::tStr s::zh cSemi::l):=h
 have h1:=h0.next.2.1
 have h2:=h1.next.2.1
 unfold zu
 rw[if_pos (by rw[hs,zil h0];simp)]
 unfold zcd
 rw[zea h0,zg,if_neg (by rw[(zbmi (p:=(adv q).pos) h1 _).1];decide),if_neg (by rw[(zbmi (p:=(adv q).pos) h1 _).1];decide),if_neg (by rw[zbmj (p:=(adv q).pos) h1 (show (3:Int)≠1 by decide)];decide)]
 have e1:zbf C (adv q)= .ok ({adv (adv q) with rq:=q.rq++[s]},s):=by
  unfold zbf
  rw[(Rem.kind (p:=(adv q).pos) h1).1,(Rem.kind (p:=(adv q).pos) h1).2.1,show (tStr s).kind=3 from rfl,show (tStr s).text=s from rfl,if_pos (show ((3:Int)==3)=true from rfl),if_neg (show ¬hasS (adv q).rq s=true from fun k=>hn (zqg.1 k)),if_neg (show ¬40≤(adv q).rq.length from by show ¬40≤q.rq.length;omega)]
  rfl
 rw[e1,zg,zcw (q:={adv (adv q) with rq:=q.rq++[s]}) h2]
 rfl
theorem zqj {C:Cx} {x:Im} {q:PS} (h:q.im.length<40):zbx C x q= .ok {q with im:=q.im++[x]}:=by unfold zbx;rw[if_neg (by omega)]
theorem zbti {C:Cx} {x:Im} {l:List Tn} {q:PS} (hs:C.scr=false) (h:Rem C q.pos (tksP (zdi x)++l)) (hx:ImOk C.scr q.rq x) (hl:q.im.length<40):zu C q= .ok {q with pos:=q.pos+(tksP (zdi x)).length,im:=q.im++[x]}:=by
 obtain⟨spec,first,loc⟩:=x
 obtain⟨x1,x2,x3⟩:=hx
 simp only at x1 x2 x3
 have hfs:(first.toList==[42])=true→first=zw:=fun k=>(zgx _ _).1 (by rw[Lib.toList_data zw];exact k)
 have hfd:(first.toList==[100,101,102,97,117,108,116])=true→first=sDefault:=fun k=>(zgx _ _).1 (by rw[Lib.toList_data sDefault];exact k)
 by_cases c1:(first.toList==[42])=true
 ·have hL:zdi ⟨spec,first,loc⟩=kW sImport++(.tok (zh zw):: .sep sp1::(kW sAs++(kW loc++zdu spec))):=by unfold zdi;rw[if_pos c1]
  rw[hL] at h ⊢
  obtain rfl:=hfs c1
  have h0:Rem C q.pos (zn sImport::zh zw::zn sAs::zn loc::zn zbl::tStr spec::zh cSemi::l):=h
  have h1:=h0.next.2.1
  have h2:=h1.next.2.1
  have h3:=h2.next.2.1
  have h4:=h3.next.2.1
  unfold zu
  rw[if_pos (by rw[hs,zil h0];simp)]
  unfold zcd
  rw[zea h0,zg,if_neg (by rw[zjf (p:=(adv q).pos) h1,neB (by decide)];decide),if_pos (by rw[zjf (p:=(adv q).pos) h1];simp),zcw (q:=adv q) h1,zg,zea (q:=adv (adv q)) h2,zg,zfw (q:=adv (adv (adv q))) h3 (zhu h3 x2 false),zg]
  simp only
  rw[znq (q:=adv (adv (adv (adv q)))) h4 x1,zg]
  exact zqj hl
 ·by_cases c2:(first.toList==[100,101,102,97,117,108,116])=true
  ·have hL:zdi ⟨spec,first,loc⟩=kW sImport++(kW loc++zdu spec):=by unfold zdi;rw[if_neg c1,if_pos c2]
   rw[hL] at h ⊢
   obtain rfl:=hfd c2
   have h0:Rem C q.pos (zn sImport::zn loc::zn zbl::tStr spec::zh cSemi::l):=h
   have h1:=h0.next.2.1
   have h2:=h1.next.2.1
   unfold zu
   rw[if_pos (by rw[hs,zil h0];simp)]
   unfold zcd
   rw[zea h0,zg,if_neg (by rw[zqi (p:=(adv q).pos) h1];decide),if_neg (by rw[zqi (p:=(adv q).pos) h1];decide),if_pos (zhu (p:=(adv q).pos) h1 x2 false),zfw (q:=adv q) h1 (zhu h1 x2 false),zg]
   simp only
   rw[znq (q:=adv (adv q)) h2 x1,zg]
   exact zqj hl
  ·have hL:zdi ⟨spec,first,loc⟩=kW sImport++zdh first loc (.sep sp1::zdu spec):=by unfold zdi;rw[if_neg c1,if_neg c2]
   rw[hL] at h ⊢
   have hf:FieldG C.scr first:=x3.elim (fun e=>absurd (by rw[e,Lib.toList_data];rfl) c1) id
   have ht:tksP (kW sImport++zdh first loc (.sep sp1::zdu spec))=zn sImport::(tksP (zdh first loc [])++[zn zbl,tStr spec,zh cSemi]):=by simp[kW,zdh,tksP,zck,zdu]
   rw[ht] at h ⊢
   rw[List.cons_append,List.append_assoc] at h
   have h1:=h.next.2.1
   have h2:=h1.app
   unfold zu
   rw[if_pos (by rw[hs,zil h];simp)]
   unfold zcd
   have h1':Rem C (adv q).pos (zh zbj::(tksP (asPc first loc++[.sep sp1,.tok (zh zcz)])++[zn zbl,tStr spec,zh cSemi]++l)):=by
    rw[List.append_assoc]
    exact h1
   rw[zea h,zg,if_pos (by rw[zjf h1'];simp),zrv (q:=adv q) h1 hf x2.field (fun _=>x2) (fun _ k=>absurd k c2),zg]
   simp only
   rw[znq (q:={adv q with pos:=(adv q).pos+(tksP (zdh first loc [])).length}) h2 x1,zg]
   simp only[zbb,zg]
   rw[zqj (by exact hl)]
   simp only[adv,zhk,List.length_cons,List.length_append,List.length_nil]
   congr 2
   omega
theorem zqk {C:Cx} {x:Ep} {q:PS} (h:q.ep.length+q.la.length<40) (hx:isD x.loc=false):zo C x q= .ok {q with ep:=q.ep++[x]}:=by
 unfold zo
 unfold isD at hx
 rw[if_neg (by omega),if_neg (by rw[hx];decide)]
theorem zql {C:Cx} {l:List Tn} {q:PS} (hs:C.scr=false) (h:Rem C q.pos (zn sExport::l)):zu C q=zbc C q:=by
 unfold zu
 rw[if_neg (by rw[zil h,neB (by decide)];simp),if_pos (by rw[hs,zil h];simp)]
theorem zbtj {C:Cx} {x:Ep} {l:List Tn} {q:PS} (hs:C.scr=false) (h:Rem C q.pos (tksP (zdv x)++l)) (hx:EpOk C.scr q.rq x) (hl:q.ep.length+q.la.length<40):zu C q= .ok {q with pos:=q.pos+(tksP (zdv x)).length,ep:=q.ep++[x]}:=by
 cases hx with
 | @loc n lo hn hlo=>
  have ht:tksP (zdv ⟨1,n,lo,sNone⟩)=zn sExport::(tksP (zdh lo n [])++[zh cSemi]):=by simp[zdv,kW,zdh,tksP,zck]
  rw[ht] at h ⊢
  rw[List.cons_append,List.append_assoc] at h
  have h1:=h.next.2.1
  have h2:=h1.app
  have h1':Rem C (adv q).pos (zh zbj::(tksP (asPc lo n++[.sep sp1,.tok (zh zcz)])++[zh cSemi]++l)):=by
   rw[List.append_assoc]
   exact h1
  rw[zql hs h]
  unfold zbc
  rw[zea h,zg,if_pos (by rw[zjf h1'];simp),zrv (q:=adv q) h1 hlo.field hn (fun k=>by cases k) (fun k=>by cases k),zg]
  simp only
  have ha:anyB [⟨0,n,lo,sNone⟩]=false:=by
   have:=(zbby hlo).2.2.1
   rw[Lib.toList_data sDefault] at this
   unfold anyB
   simp only[List.any_cons,List.any_nil,Bool.or_false]
   exact this
  rw[if_pos (by rw[ha,zbbx (p:=(adv q).pos+(tksP (zdh lo n [])).length) h2];decide),zcw (q:={adv q with pos:=(adv q).pos+(tksP (zdh lo n [])).length}) h2,zg]
  simp only[zbb,zg]
  rw[zqk (by exact hl) (by exact zef hlo.field)]
  simp only[adv,zy,List.length_cons,List.length_append,List.length_nil]
  congr 2
  omega
 | @«from» n lo s hn hlo hsp=>
  have ht:tksP (zdv ⟨2,n,lo,s⟩)=zn sExport::(tksP (zdh lo n [])++[zn zbl,tStr s,zh cSemi]):=by simp[zdv,kW,zdh,tksP,zck,zdu]
  rw[ht] at h ⊢
  rw[List.cons_append,List.append_assoc] at h
  have h1:=h.next.2.1
  have h2:=h1.app
  have h1':Rem C (adv q).pos (zh zbj::(tksP (asPc lo n++[.sep sp1,.tok (zh zcz)])++[zn zbl,tStr s,zh cSemi]++l)):=by
   rw[List.append_assoc]
   exact h1
  rw[zql hs h]
  unfold zbc
  rw[zea h,zg,if_pos (by rw[zjf h1'];simp),zrv (q:=adv q) h1 hlo hn (fun k=>by cases k) (fun k=>by cases k),zg]
  simp only
  rw[if_neg (by rw[zil (p:=(adv q).pos+(tksP (zdh lo n [])).length) h2];simp),znq (q:={adv q with pos:=(adv q).pos+(tksP (zdh lo n [])).length}) h2 hsp,zg]
  simp only[zbb,zg]
  rw[zqk (by exact hl) (by exact zef hlo)]
  simp only[adv,zbp,List.length_cons,List.length_append,List.length_nil]
  congr 2
  omega
 | @star s hsp=>
  have h0:Rem C q.pos (zn sExport::zh zw::zn zbl::tStr s::zh cSemi::l):=h
  have h1:=h0.next.2.1
  have h2:=h1.next.2.1
  rw[zql hs h0]
  unfold zbc
  rw[zea h0,zg,if_neg (by rw[zjf (p:=(adv q).pos) h1,neB (by decide)];decide),if_pos (by rw[zjf (p:=(adv q).pos) h1];simp),zcw (q:=adv q) h1,znq (q:=adv (adv q)) h2 hsp,zg]
  rw[zqk (by exact hl) (by exact zhv)]
  rfl
theorem zmy {C:Cx} {k:Int} {n:ByteArray} {q:PS} (h:q.st.length<80):zbi C k n q= .ok {q with st:=q.st++[⟨k,n,(q.ex.length:Int)-1⟩]}:=by unfold zbi;rw[if_neg (by omega)]
theorem zbiv {C:Cx} {q:PS} (h:q.ep.length+q.la.length<40):zo C dEp q= .ok {q with la:=q.la++[dEp]}:=by
 unfold zo
 rw[if_neg (by omega),if_pos (by have:=zit;unfold isD at this;exact this)]
/-- Behind a statement. -/
def aftS (q:PS) (n:Nat) (s:SI):PS:=⟨q.pos+n,q.rq,q.im,q.ep,q.st++[⟨s.kind,s.name,((q.ex.length+s.t.size:Nat):Int)-1⟩],q.ex++s.t.flat q.ex.length,q.la++if isD s.name then [dEp] else []⟩
/-- An expression, a ; and a statement behind n tokens. -/
theorem zol {C:Cx} {l:List Tn} {q:PS} {k:Int} {m:ByteArray} {t:Tr} (n:Nat) (hok:TrOk C.scr t) (hdp:t.dp≤20) (h:Rem C (q.pos+n) (tksP t.pcs++zh cSemi::l)) (hn:isD m=false) (h3:q.ex.length+t.size≤300) (h4:q.st.length<80):
  bd (bd (pE C .sum 0 {q with pos:=q.pos+n}) (tokP C 4 cSemi)) (zbi C k m)= .ok (aftS q (n+(tksP t.pcs).length+1) ⟨k,m,t⟩):=by
 rw[zoj (q:={q with pos:=q.pos+n}) hok hdp (.inl rfl) h h3,zg,zcw (q:=aft {q with pos:=q.pos+n} _ t) h.app,zg]
 rw[zmy (by exact h4)]
 simp only[aftS,adv,aft,hn,List.length_append,Tr.flat_len,Bool.false_eq_true,if_false,List.append_nil]
 congr 2
 omega
theorem zkl {C:Cx} {x:ByteArray} {l:List Tn} {q:PS} (h:Rem C q.pos (zn x::l)) (h0:(x.toList==sImport.toList)=false) (h1:(x.toList==sExport.toList)=false):zu C q=
  if (x.toList==sLet.toList) then fstP (letP C q)
  else if (x.toList==sFunction.toList) then fstP (fnP C q)
  else if (x.toList==sPrint.toList) then bd (bd (bd (bd (bd (tokP C 1 sPrint q) (tokP C 4 cOpen)) (pE C .sum 0)) (tokP C 4 zbw)) (tokP C 4 cSemi)) (zbi C 4 sNone)
  else if (x.toList==sThrow.toList) then bd (bd (bd (tokP C 1 sThrow q) (pE C .sum 0)) (tokP C 4 cSemi)) (zbi C 5 sNone)
  else if C.scr&&(x.toList==sFail.toList) then bd (bd (bd (tokP C 1 sFail q) (pE C .sum 0)) (tokP C 4 cSemi)) (zbi C 6 sNone)
  else bd (zk C false q) fun a=>bd (bd (bd (tokP C 4 cEq a.1) (pE C .sum 0)) (tokP C 4 cSemi)) (zbi C 3 a.2):=by
 unfold zu
 simp only[zil h,h0,h1,Bool.and_false,Bool.false_eq_true,if_false]
theorem zbtk {C:Cx} {s:SI} {l:List Tn} {q:PS} (hs:SOk C.scr s) (h:Rem C q.pos (tksP (zby s)++l)) (hx:q.ex.length+s.t.size≤300) (hst:q.st.length<80) (hl:isD s.name=true→q.ep.length+q.la.length<40):zu C q= .ok (aftS q (tksP (zby s)).length s):=by
 cases hs with
 | @«let» n t hn ht hd=>
  have hD:=zef hn.field
  have hT:tksP (zby ⟨1,n,t⟩)=zn sLet::zn n::zh cEq::(tksP t.pcs++[zh cSemi]):=by simp[zby,hD,kW,eqPc,zel,tksP,zck]
  rw[hT] at h ⊢
  simp only[List.cons_append,List.append_assoc,List.nil_append] at h
  have h1:=h.next.2.1
  have h2:=h1.next.2.1
  have h3:=h2.next.2.1
  rw[zkl h (neB (by decide)) (neB (by decide)),if_pos (by simp)]
  unfold letP withN fstP
  rw[zea h,zg,zfw (q:=adv q) h1 (zhu h1 hn false),zg]
  simp only[zg]
  rw[zcw (q:=adv (adv q)) h2,zg]
  rw[show adv (adv (adv q))={q with pos:=q.pos+3} from rfl,zol (q:=q) 3 ht hd h3 hD hx hst,zg,zg]
  simp only[List.length_cons,List.length_append,List.length_nil]
  congr 2
  omega
 | @dflt t hs ht hd=>
  have hT:tksP (zby ⟨1,zde,t⟩)=zn sExport::zn sDefault::(tksP t.pcs++[zh cSemi]):=by simp[zby,zit,kW,zel,tksP,zck]
  rw[hT] at h ⊢
  simp only[List.cons_append,List.append_assoc,List.nil_append] at h
  have h1:=h.next.2.1
  have h2:=h1.next.2.1
  rw[zql hs h]
  unfold zbc
  rw[zea h,zg,if_neg (by rw[zqi (p:=(adv q).pos) h1];decide),if_neg (by rw[zqi (p:=(adv q).pos) h1];decide),if_pos (by rw[zil (p:=(adv q).pos) h1];simp),zea (q:=adv q) h1,zg]
  rw[zoj (q:=adv (adv q)) ht hd (.inl rfl) h2 hx,zg,zcw (q:=aft (adv (adv q)) _ t) h2.app,zg,zmy (by exact hst),zg]
  rw[zbiv (by exact hl zit)]
  simp only[aftS,adv,aft,zit,List.length_append,List.length_cons,List.length_nil,Tr.flat_len,if_true]
  congr 2
  omega
 | @fn n t hn ht hd=>
  have hD:=zef hn.field
  have hT:tksP (zby ⟨2,n,t⟩)=zn sFunction::zn n::zh cOpen::zh zbw::zh zbj::zn ziz::(tksP t.pcs++[zh cSemi,zh zcz]):=by simp[zby,kW,tksP,zck]
  rw[hT] at h ⊢
  simp only[List.cons_append,List.append_assoc,List.nil_append] at h
  have h1:=h.next.2.1
  have h2:=h1.next.2.1
  have h3:=h2.next.2.1
  have h4:=h3.next.2.1
  have h5:=h4.next.2.1
  have h6:=h5.next.2.1
  have h7:=h6.app
  rw[zkl h (neB (by decide)) (neB (by decide)),if_neg (by rw[neB (by decide)];decide),if_pos (by simp)]
  unfold fnP withN fstP
  rw[zea h,zg,zfw (q:=adv q) h1 (zhu h1 hn false),zg]
  simp only[zg]
  rw[zcw (q:=adv (adv q)) h2,zg,zcw (q:=adv (adv (adv q))) h3,zg,zcw (q:=adv (adv (adv (adv q)))) h4,zg,zea (q:=adv (adv (adv (adv (adv q))))) h5,zg]
  rw[zoj (q:=adv (adv (adv (adv (adv (adv q)))))) ht hd (.inl rfl) h6 hx,zg,zcw (q:=aft (adv (adv (adv (adv (adv (adv q)))))) _ t) h7,zg,zcw (q:=adv (aft (adv (adv (adv (adv (adv (adv q)))))) _ t)) h7.next.2.1,zg,zmy (by exact hst),zg,zg]
  simp only[aftS,adv,aft,hD,List.length_append,List.length_cons,List.length_nil,Tr.flat_len,Bool.false_eq_true,if_false,List.append_nil]
  congr 2
  omega
 | @set n t hn ht hd=>
  have hD:=zef hn.field
  have hT:tksP (zby ⟨3,n,t⟩)=zn n::zh cEq::(tksP t.pcs++[zh cSemi]):=by simp[zby,kW,eqPc,zel,tksP,zck]
  rw[hT] at h ⊢
  simp only[List.cons_append,List.append_assoc,List.nil_append] at h
  have h1:=h.next.2.1
  have h2:=h1.next.2.1
  obtain⟨a0,a1,a2,a3,a4,a5,a6,a7⟩:=zbby hn
  rw[zkl h a0 a1,if_neg (by rw[a3];decide),if_neg (by rw[a4];decide),if_neg (by rw[a5];decide),if_neg (by rw[a6];decide),if_neg (by rw[a7];decide),zfw h (zhu h hn false),zg]
  simp only
  rw[zcw (q:=adv q) h1,zg]
  rw[show adv (adv q)={q with pos:=q.pos+2} from rfl,zol (q:=q) 2 ht hd h2 hD hx hst]
  simp only[List.length_cons,List.length_append,List.length_nil]
  congr 2
  omega
 | @prt t ht hd=>
  have hT:tksP (zby ⟨4,sNone,t⟩)=zn sPrint::zh cOpen::(tksP t.pcs++[zh zbw,zh cSemi]):=by simp[zby,zel,tksP,zck]
  rw[hT] at h ⊢
  simp only[List.cons_append,List.append_assoc,List.nil_append] at h
  have h1:=h.next.2.1
  have h2:=h1.next.2.1
  have h3:=h2.app
  rw[zkl h (neB (by decide)) (neB (by decide)),if_neg (by rw[neB (by decide)];decide),if_neg (by rw[neB (by decide)];decide),if_pos (by simp)]
  rw[zea h,zg,zcw (q:=adv q) h1,zg]
  rw[zoj (q:=adv (adv q)) ht hd (.inr rfl) h2 hx,zg,zcw (q:=aft (adv (adv q)) _ t) h3,zg,zcw (q:=adv (aft (adv (adv q)) _ t)) h3.next.2.1,zg,zmy (by exact hst)]
  simp only[aftS,adv,aft,zhv,List.length_append,List.length_cons,List.length_nil,Tr.flat_len,Bool.false_eq_true,if_false,List.append_nil]
  congr 2
  omega
 | @thr t ht hd=>
  have hT:tksP (zby ⟨5,sNone,t⟩)=zn sThrow::(tksP t.pcs++[zh cSemi]):=by simp[zby,kW,zel,tksP,zck]
  rw[hT] at h ⊢
  simp only[List.cons_append,List.append_assoc,List.nil_append] at h
  have h1:=h.next.2.1
  rw[zkl h (neB (by decide)) (neB (by decide)),if_neg (by rw[neB (by decide)];decide),if_neg (by rw[neB (by decide)];decide),if_neg (by rw[neB (by decide)];decide),if_pos (by simp),zea h,zg]
  rw[show adv q={q with pos:=q.pos+1} from rfl,zol (q:=q) 1 ht hd h1 zhv hx hst]
  simp only[List.length_cons,List.length_append,List.length_nil]
  congr 2
  omega
 | @fail t hs ht hd=>
  have hT:tksP (zby ⟨6,sNone,t⟩)=zn sFail::(tksP t.pcs++[zh cSemi]):=by simp[zby,kW,zel,tksP,zck]
  rw[hT] at h ⊢
  simp only[List.cons_append,List.append_assoc,List.nil_append] at h
  have h1:=h.next.2.1
  rw[zkl h (neB (by decide)) (neB (by decide)),if_neg (by rw[neB (by decide)];decide),if_neg (by rw[neB (by decide)];decide),if_neg (by rw[neB (by decide)];decide),if_neg (by rw[neB (by decide)];decide),if_pos (by rw[hs];simp),zea h,zg]
  rw[show adv q={q with pos:=q.pos+1} from rfl,zol (q:=q) 1 ht hd h1 zhv hx hst]
  simp only[List.length_cons,List.length_append,List.length_nil]
  congr 2
  omega
theorem zom {C:Cx} {q q':PS} {a l:List Tn} (hr:Rem C q.pos (a++l)) (ha:a≠[]) (h:zu C q= .ok q'):zbg C q=zbg C q':=by
 cases a with
 |nil=>exact absurd rfl ha
 |cons t a=>rw[zii,if_pos hr.next.2.2,h,zg]
theorem zky {a b:PS} (h1:a.pos=b.pos) (h2:a.rq=b.rq) (h3:a.im=b.im) (h4:a.ep=b.ep) (h5:a.st=b.st) (h6:a.ex=b.ex) (h7:a.la=b.la):a=b:=by
 cases a;cases b;simp_all
theorem zbxl {C:Cx} (l:List ByteArray): ∀(q:PS) (r:List Tn),(l≠[]→C.scr=false)→Rem C q.pos (tksP (l.flatMap zeh)++r)→(q.rq++l).Nodup→(q.rq++l).length≤40→
  zbg C q=zbg C {q with pos:=q.pos+(tksP (l.flatMap zeh)).length,rq:=q.rq++l}:=by
 induction l with
 |nil=>intro q r _ _ _ _;congr 1;exact zky rfl (by simp) rfl rfl rfl rfl rfl
 |cons s l ih=>
  intro q r hs h hn hl
  have hs':=hs (by simp)
  rw[List.flatMap_cons,zck] at h ⊢
  rw[List.append_assoc] at h
  have hn':s∉q.rq:=by
   rw[List.nodup_append] at hn
   exact fun k=>hn.2.2 s k s (by simp) rfl
  have hl':q.rq.length<40:=by simp at hl;omega
  rw[zom h (by simp[zeh,kW,tksP]) (zbth hs' h hn' hl')]
  rw[ih {q with pos:=q.pos+(tksP (zeh s)).length,rq:=q.rq++[s]} r (fun _=>hs') h.app (by simpa using hn) (by simpa using hl)]
  congr 1
  exact zky (by simp;omega) (by simp) rfl rfl rfl rfl rfl
theorem zbiw (x:Im):tksP (zdi x)≠[]:=by
 unfold zdi
 split
 ·simp[kW,tksP]
 ·split<;>simp[kW,tksP]
theorem zbix (x:Ep):tksP (zdv x)≠[]:=by
 unfold zdv
 split
 ·simp[kW,tksP]
 ·split<;>simp[kW,tksP]
theorem zbiy (s:SI):tksP (zby s)≠[]:=by
 unfold zby
 repeat' split
 all_goals simp[kW,tksP]
theorem zbxm {C:Cx} (l:List Im): ∀(q:PS) (r:List Tn),(l≠[]→C.scr=false)→Rem C q.pos (tksP (l.flatMap zdi)++r)→(∀x∈l,ImOk C.scr q.rq x)→q.im.length+l.length≤40→
  zbg C q=zbg C {q with pos:=q.pos+(tksP (l.flatMap zdi)).length,im:=q.im++l}:=by
 induction l with
 |nil=>intro q r _ _ _ _;congr 1;exact zky rfl rfl (by simp) rfl rfl rfl rfl
 |cons s l ih=>
  intro q r hs h hn hl
  have hs':=hs (by simp)
  rw[List.flatMap_cons,zck] at h ⊢
  rw[List.append_assoc] at h
  rw[List.length_cons] at hl
  rw[zom h (zbiw s) (zbti hs' h (hn s (by simp)) (by omega))]
  rw[ih {q with pos:=q.pos+(tksP (zdi s)).length,im:=q.im++[s]} r (fun _=>hs') h.app (fun x hx=>hn x (by simp[hx])) (by simp;omega)]
  congr 1
  exact zky (by simp;omega) rfl (by simp) rfl rfl rfl rfl
theorem zbxn {C:Cx} (l:List Ep): ∀(q:PS) (r:List Tn),(l≠[]→C.scr=false)→Rem C q.pos (tksP (l.flatMap zdv)++r)→(∀x∈l,EpOk C.scr q.rq x)→q.ep.length+l.length+q.la.length≤40→
  zbg C q=zbg C {q with pos:=q.pos+(tksP (l.flatMap zdv)).length,ep:=q.ep++l}:=by
 induction l with
 |nil=>intro q r _ _ _ _;congr 1;exact zky rfl rfl rfl (by simp) rfl rfl rfl
 |cons s l ih=>
  intro q r hs h hn hl
  have hs':=hs (by simp)
  rw[List.flatMap_cons,zck] at h ⊢
  rw[List.append_assoc] at h
  rw[List.length_cons] at hl
  rw[zom h (zbix s) (zbtj hs' h (hn s (by simp)) (by omega))]
  rw[ih {q with pos:=q.pos+(tksP (zdv s)).length,ep:=q.ep++[s]} r (fun _=>hs') h.app (fun x hx=>hn x (by simp[hx])) (by simp;omega)]
  congr 1
  exact zky (by simp;omega) rfl rfl (by simp) rfl rfl rfl
theorem zbgw (l:List SI): ∀o,(stS l o).length=l.length:=by
 induction l with
 |nil=>intro o;rfl
 |cons s l ih=>intro o;simp[stS,ih]
theorem zbxo {C:Cx} (l:List SI): ∀(q:PS) (r:List Tn),Rem C q.pos (tksP (l.flatMap zby)++r)→(∀s∈l,SOk C.scr s)→q.st.length+l.length≤80→q.ex.length+(exS l q.ex.length).length≤300→q.ep.length+q.la.length+(laS l).length≤40→
  zbg C q=zbg C ⟨q.pos+(tksP (l.flatMap zby)).length,q.rq,q.im,q.ep,q.st++stS l q.ex.length,q.ex++exS l q.ex.length,q.la++laS l⟩:=by
 induction l with
 |nil=>intro q r _ _ _ _ _;congr 1;exact zky rfl rfl rfl rfl (by simp[stS]) (by simp[exS]) (by simp[laS])
 |cons s l ih=>
  intro q r h hn h1 h2 h3
  rw[List.flatMap_cons,zck] at h ⊢
  rw[List.append_assoc] at h
  rw[List.length_cons] at h1
  simp only[exS,laS,List.length_append,Tr.flat_len] at h2 h3
  have hit:=zbtk (hn s (by simp)) h (by omega) (by omega) (fun k=>by rw[k] at h3;simp at h3;omega)
  have hx:(aftS q (tksP (zby s)).length s).ex.length=q.ex.length+s.t.size:=by simp[aftS,Tr.flat_len]
  rw[zom h (zbiy s) hit,ih (aftS q (tksP (zby s)).length s) r h.app (fun x hx=>hn x (by simp[hx])) (by simp[aftS];omega) (by rw[hx];omega) (by simp only[aftS,List.length_append];omega),hx]
  congr 1
  exact zky (by simp[aftS];omega) rfl rfl rfl (by simp[aftS,stS]) (by simp[aftS,exS]) (by simp[aftS,laS])
def zmk (q:PS) (sts:List SI):List Pc:=q.rq.flatMap zeh++(q.im.flatMap zdi++(q.ep.flatMap zdv++sts.flatMap zby))
theorem zbpz {C:Cx} {q:PS} {sts:List SI} (h:PI C.scr q sts) (hr:Rem C 0 (tksP (zmk q sts))): ∃p,zbg C startP= .ok {q with pos:=p}:=by
 have hs: ∀{α:Type} (l:List α),(C.scr=true→l=[])→l≠[]→C.scr=false:=fun l k hn=>by
  cases hc:C.scr with
  |false=>rfl
  |true=>exact absurd (k hc) hn
 unfold zmk at hr
 simp only[zck] at hr
 have l1:=h.nrq
 have l2:=h.nim
 have l3:=h.nep
 have l4:=h.nst
 have l5:=h.nex
 rw[h.la] at l3
 rw[h.st,zbgw] at l4
 rw[h.ex] at l5
 have e1:zbg C startP=zbg C ⟨0+(tksP (q.rq.flatMap zeh)).length,q.rq,[],[],[],[],[]⟩:=zbxl q.rq startP _ (hs _ fun k=>(h.scrr k).1) hr h.nd l1
 have hr1:=hr.app
 have e2:_=zbg C ⟨0+(tksP (q.rq.flatMap zeh)).length+(tksP (q.im.flatMap zdi)).length,q.rq,q.im,[],[],[],[]⟩:=zbxm q.im ⟨0+(tksP (q.rq.flatMap zeh)).length,q.rq,[],[],[],[],[]⟩ _ (hs _ fun k=>(h.scrr k).2.1) hr1 h.im (by show 0+q.im.length≤40;omega)
 have hr2:=hr1.app
 have e3:_=zbg C ⟨0+(tksP (q.rq.flatMap zeh)).length+(tksP (q.im.flatMap zdi)).length+(tksP (q.ep.flatMap zdv)).length,q.rq,q.im,q.ep,[],[],[]⟩:=zbxn q.ep ⟨0+(tksP (q.rq.flatMap zeh)).length+(tksP (q.im.flatMap zdi)).length,q.rq,q.im,[],[],[],[]⟩ _ (hs _ fun k=>(h.scrr k).2.2) hr2 h.ep (by show 0+q.ep.length+0≤40;omega)
 have hr3:=hr2.app
 rw[←List.append_nil (tksP (sts.flatMap zby))] at hr3
 have e4:_=zbg C ⟨0+(tksP (q.rq.flatMap zeh)).length+(tksP (q.im.flatMap zdi)).length+(tksP (q.ep.flatMap zdv)).length+(tksP (sts.flatMap zby)).length,q.rq,q.im,q.ep,stS sts 0,exS sts 0,laS sts⟩:=zbxo sts ⟨0+(tksP (q.rq.flatMap zeh)).length+(tksP (q.im.flatMap zdi)).length+(tksP (q.ep.flatMap zdv)).length,q.rq,q.im,q.ep,[],[],[]⟩ _ hr3 h.ok (by show 0+sts.length≤80;omega) (by show 0+(exS sts 0).length≤300;omega) (by show q.ep.length+0+(laS sts).length≤40;omega)
 have hr4:=hr3.app.none
 rw[e1,e2,e3,e4,zii,if_neg (Nat.not_lt.2 hr4)]
 refine⟨_,congrArg Except.ok (zky (b:={q with pos:=_}) rfl rfl rfl rfl h.st.symm h.ex.symm h.la.symm)⟩
theorem zbqa {α:Type} (f:α→ByteArray) (l:List α): ∀t,(acc f l t).data.toList=t.data.toList++l.flatMap fun x=>(f x).data.toList:=by
 induction l with
 |nil=>intro t;simp[acc]
 |cons x l ih=>
  intro t
  show (acc f l (t++f x)).data.toList=_
  rw[ih,zis,List.flatMap_cons,List.append_assoc]
theorem zrw {α:Type} (f:α→List Pc) (l:List α):txtP (l.flatMap f)=l.flatMap fun x=>txtP (f x):=by
 induction l with
 |nil=>rfl
 |cons x l ih=>rw[List.flatMap_cons,List.flatMap_cons,zej,ih]
theorem zbwg (s:ByteArray):(rqT s).data.toList=txtP (zeh s):=by simp[rqT,zda,zeh,kW,txtP,renT,zn,tStr,zh]
theorem zbbz (a b:ByteArray):(asT a b).data.toList=txtP (asPc a b):=by
 unfold asT asPc
 split
 ·simp[txtP,renT,zn]
 ·simp[txtP,renT,zn]
theorem zbwh (x:Im):(impT x).data.toList=txtP (zdi x):=by
 unfold impT zdi
 split
 ·simp[zda,kW,zdu,txtP,renT,zn,tStr,zh]
 ·split
  ·simp[zda,kW,zdu,txtP,renT,zn,tStr,zh]
  ·simp[zda,kW,zdu,zdh,zbbz,zej,txtP,renT,zn,tStr,zh]
theorem zbwi (x:Ep):(expT x).data.toList=txtP (zdv x):=by
 unfold expT zdv
 split
 ·simp[zda,kW,zdu,txtP,renT,zn,tStr,zh]
 ·split
  ·simp[zda,kW,zdu,zdh,zbbz,zej,txtP,renT,zn,tStr,zh]
  ·simp[kW,zdh,zbbz,zej,txtP,renT,zn,zh]
theorem zbwj (k:Int) (n e:ByteArray) (t:Tr) (he:e.data.toList=txtP t.pcs):(zmx k n e).data.toList=txtP (zby ⟨k,n,t⟩):=by
 unfold zmx zby
 split
 ·show _=txtP (if isD n then _ else _)
  unfold isD
  split
  ·simp[he,kW,zel,zej,txtP,renT,zn,zh]
  ·simp[he,kW,zel,eqPc,zej,txtP,renT,zn,zh]
 ·split
  ·simp[he,kW,zej,txtP,renT,zn,zh]
  ·split
   ·simp[he,kW,zel,eqPc,zej,txtP,renT,zn,zh]
   ·split
    ·simp[he,zel,zej,txtP,renT,zn,zh]
    ·split
     ·simp[he,kW,zel,zej,txtP,renT,zn,zh]
     ·simp[he,kW,zel,zej,txtP,renT,zn,zh]
theorem zbtl {scr:Bool} (l:List SI): ∀A:List Ex,(∀s∈l,SOk scr s)→(stS l A.length).flatMap (fun s=>(stF (A++exS l A.length) s).data.toList)=txtP (l.flatMap zby):=by
 induction l with
 |nil=>intro A _;rfl
 |cons s l ih=>
  intro A h
  have hp:=s.t.pos
  have h1:=ih (A++s.t.flat A.length) fun x hx=>h x (by simp[hx])
  rw[List.length_append,Tr.flat_len] at h1
  have e:A++exS (s::l) A.length=A++s.t.flat A.length++exS l (A.length+s.t.size):=by simp[exS]
  rw[List.flatMap_cons,zej,stS,List.flatMap_cons,e,h1]
  congr 1
  refine zbwj s.kind s.name _ s.t ?_
  have e2:(((A.length+s.t.size:Nat):Int)-1).toNat=A.length+s.t.size-1:=by omega
  simp only[e2,List.append_assoc]
  exact zbpt (h s (by simp)).tree.1 A _
theorem zbwk (l:List SI):(laS l).flatMap (fun x=>(epF x).data.toList)=[]:=by
 induction l with
 |nil=>rfl
 |cons s l ih=>
  rw[laS,List.flatMap_append,ih,List.append_nil]
  split
  ·have:epF dEp=sNone:=by unfold epF;rw[if_pos (by have:=zit;unfold isD at this;exact this)]
   simp[this]
  ·rfl
theorem zbwl {scr:Bool} {rq:List ByteArray} (l:List Ep) (h: ∀x∈l,EpOk scr rq x):l.flatMap (fun x=>(epF x).data.toList)=txtP (l.flatMap zdv):=by
 rw[zrw]
 have: ∀x∈l,(epF x).data.toList=txtP (zdv x):=fun x hx=>by
  have hd:isD x.loc=false:=by
   cases h x hx with
   |loc hn hl=>exact zef hl.field
   | «from» hn hl hr=>exact zef hl
   |star hr=>exact zhv
  unfold epF
  unfold isD at hd
  rw[if_neg (by rw[hd];decide)]
  exact zbwi x
 clear h
 induction l with
 |nil=>rfl
 |cons x l ih=>rw[List.flatMap_cons,List.flatMap_cons,this x (by simp),ih fun y hy=>this y (by simp[hy])]
theorem zbqb {scr:Bool} {q:PS} {sts:List SI} (h:PI scr q sts):(zje (mdOf q)).data.toList=txtP (zmk q sts):=by
 unfold zje zme mdOf zmk
 simp only[zbqa,List.flatMap_append,zej,h.la,zbwk,List.append_nil,zbwl q.ep h.ep,h.ex,h.st]
 have:=zbtl sts [] h.ok
 simp only[List.length_nil,List.nil_append] at this
 rw[this,zrw zeh,zrw zdi]
 simp only[zbwg,zbwh,List.append_assoc]
 rfl
/-- As adj, and no word stands at the end. -/
def adjE (w:Bool):List Pc→Prop
 |[]=>w=false
 | .sep _::l=>adjE false l
 | .tok t::l=>(w=true→zep t=false)∧adjE (zep t) l
theorem zhd {a b:List Pc} (hb:adjE false b): ∀w,adjE w a→adjE w (a++b):=by
 induction a with
 |nil=>intro w h;rw[show w=false from h];exact hb
 |cons p l ih=>
  intro w h
  cases p with
  |tok t=>exact⟨h.1,ih _ h.2⟩
  |sep x=>exact ih _ h
theorem zuk {a b:List Pc} (hb: ∀w,adjE w b): ∀w,adj w a→adjE w (a++b):=by
 induction a with
 |nil=>intro w _;exact hb w
 |cons p l ih=>
  intro w h
  cases p with
  |tok t=>exact⟨h.1,ih _ h.2⟩
  |sep x=>exact ih _ h
theorem zbca {a:List Pc}: ∀w,adjE w a→adj w a:=by
 induction a with
 |nil=>intro w _;trivial
 |cons p l ih=>
  intro w h
  cases p with
  |tok t=>exact⟨h.1,ih _ h.2⟩
  |sep x=>exact ih _ h
theorem zon {α:Type} {f:α→List Pc} (l:List α) (h: ∀x∈l,adjE false (f x)):adjE false (l.flatMap f):=by
 induction l with
 |nil=>rfl
 |cons x l ih=>rw[List.flatMap_cons];exact zhd (ih fun y hy=>h y (by simp[hy])) _ (h x (by simp))
theorem zoo {scr:Bool} {α:Type} {f:α→List Pc} (l:List α) (h: ∀x∈l,GoodP scr (f x)):GoodP scr (l.flatMap f):=by
 intro p hp
 obtain⟨x,h1,h2⟩:=List.mem_flatMap.1 hp
 exact h x h1 p h2
def zhm (x:ByteArray):Prop:=x=sImport∨x=sExport∨x=sDefault∨x=sLet∨x=sFunction∨x=ziz∨x=sPrint∨x=sThrow∨x=sFail∨x=sAs∨x=zbl
theorem ziu {scr:Bool} {x:ByteArray} (h:zhm x):GoodT scr (zn x):=by
 have mk: ∀(c:UInt8) (cs:List UInt8),(letB (ib c) scr&&cs.all fun b=>worB scr (ib b))=true→GoodT scr (zn ⟨(c::cs).toArray⟩):=fun c cs hk=>by
  rw[Bool.and_eq_true,List.all_eq_true] at hk
  exact .name (c:=c) (cs:=cs) rfl hk.1 hk.2
 rcases h with rfl|rfl|rfl|rfl|rfl|rfl|rfl|rfl|rfl|rfl|rfl<;>exact mk _ _ (by cases scr<;>decide)
/-- Pieces, one by one. -/
theorem zfx {scr:Bool} {t:Tn} {l:List Pc} (h:GoodT scr t) (hl:GoodP scr l):GoodP scr (.tok t::l):=by
 intro p hp
 rcases List.mem_cons.1 hp with rfl|hp
 ·exact h
 ·exact hl p hp
theorem zdj {scr:Bool} {x:List UInt8} {l:List Pc} (h:x=sp1∨x=nl1) (hl:GoodP scr l):GoodP scr (.sep x::l):=by
 intro p hp
 rcases List.mem_cons.1 hp with rfl|hp
 ·exact h.elim .inl fun k=>.inr (.inl k)
 ·exact hl p hp
theorem zic {scr:Bool}:GoodP scr []:=fun p hp=>by cases hp
theorem zdx {scr:Bool} {x:ByteArray} {l:List Pc} (h:GoodT scr (zn x)) (hl:GoodP scr l):GoodP scr (kW x++l):=zfx h (zdj (.inl rfl) hl)
theorem zdc {scr:Bool} {x:ByteArray} {l:List Pc} (h:x=cOpen∨x=zbw∨x=cPoint∨x=zw∨x=zfo∨x=zcy∨x=zet∨x=cSemi∨x=cEq∨x=zbj∨x=zcz) (hl:GoodP scr l):GoodP scr (.tok (zh x)::l):=zfx (zok h) hl
theorem zul {scr:Bool} {s:ByteArray} (h:GoodT scr (tStr s)):GoodP scr (zdu s):=zdx (ziu (by simp[zhm])) (zfx h (zdc (by simp) (zdj (.inr rfl) zic)))
theorem zrx {scr:Bool} {a b:ByteArray} {r:List Pc} (ha:FieldG scr a) (hb:FieldG scr b) (hr:GoodP scr r):GoodP scr (zdh a b r):=by
 refine zdc (by simp) (zdj (.inl rfl) (GoodP.app ?_ (zdj (.inl rfl) (zdc (by simp) hr))))
 unfold asPc
 split
 ·exact zfx ha.1 zic
 ·exact zfx ha.1 (zdj (.inl rfl) (zfx (ziu (by simp[zhm])) (zdj (.inl rfl) (zfx hb.1 zic))))
theorem zry (a b:ByteArray) {r:List Pc} (hr:adjE false r):adjE false (zdh a b r):=by
 unfold zdh asPc
 split<;>simp[adjE,zep,zh,zn,hr]
theorem zbgx {scr:Bool} {rq:List ByteArray} {x:Im} (hr: ∀s∈rq,GoodT scr (tStr s)) (h:ImOk scr rq x):GoodP scr (zdi x)∧adjE false (zdi x):=by
 obtain⟨h1,h2,h3⟩:=h
 have hi:GoodT scr (zn sImport):=ziu (by simp[zhm])
 have he:=zul (hr _ h1)
 unfold zdi
 split
 ·exact⟨zdx hi (zdc (by simp) (zdj (.inl rfl) (zdx (ziu (by simp[zhm])) (zdx h2.1 he)))),by simp[adjE,kW,zdu,zep,zh,zn,tStr]⟩
 ·next hn=>
  split
  ·exact⟨zdx hi (zdx h2.1 he),by simp[adjE,kW,zdu,zep,zh,zn,tStr]⟩
  ·have hf:FieldG scr x.first:=h3.elim (fun e=>absurd (by rw[e,Lib.toList_data];rfl) hn) id
   exact⟨zdx hi (zrx hf h2.field (zdj (.inl rfl) he)),zhd (zry _ _ (by simp[adjE,zdu,zep,zh,zn,tStr])) _ (by simp[adjE,kW])⟩
theorem zbgy {scr:Bool} {rq:List ByteArray} {x:Ep} (hr: ∀s∈rq,GoodT scr (tStr s)) (h:EpOk scr rq x):GoodP scr (zdv x)∧adjE false (zdv x):=by
 have hi:GoodT scr (zn sExport):=ziu (by simp[zhm])
 cases h with
 |loc hn hl=>exact⟨zdx hi (zrx hl.field hn (zdc (by simp) (zdj (.inr rfl) zic))),zhd (zry _ _ (by simp[adjE,zep,zh])) _ (by simp[adjE,kW])⟩
 | «from» hn hl hs=>exact⟨zdx hi (zrx hl hn (zdj (.inl rfl) (zul (hr _ hs)))),zhd (zry _ _ (by simp[adjE,zdu,zep,zh,zn,tStr])) _ (by simp[adjE,kW])⟩
 |star hs=>exact⟨zdx hi (zdc (by simp) (zdj (.inl rfl) (zul (hr _ hs)))),by simp[zdv,adjE,kW,zdu,zep,zh,zn,tStr]⟩
theorem zhe {scr:Bool} {t:Tr} (h:TrOk scr t):GoodP scr (t.pcs++zel)∧adjE false (t.pcs++zel):=
 ⟨(zkj t h).1.app (zdc (by simp) (zdj (.inr rfl) zic)),zuk (fun w=>by simp[zel,adjE,zep,zh]) _ (zkj t h).2⟩
theorem zlq (x:ByteArray) {l:List Pc} (h:adjE false l):adjE false (kW x++l):=by simp[kW,adjE,h]
theorem zbgz {scr:Bool} {s:SI} (h:SOk scr s):GoodP scr (zby s)∧adjE false (zby s):=by
 have wg: ∀{x},zhm x→GoodT scr (zn x):=fun h=>ziu h
 cases h with
 | @«let» n t hn ht hd=>
  have e:zby ⟨1,n,t⟩=kW sLet++(kW n++(eqPc++(t.pcs++zel))):=by simp[zby,zef hn.field]
  rw[e]
  exact⟨zdx (wg (by simp[zhm])) (zdx hn.1 (zdc (by simp) (zdj (.inl rfl) (zhe ht).1))),zlq _ (zlq _ (zhd (zhe ht).2 _ (by simp[eqPc,adjE,zep,zh])))⟩
 | @dflt t hs ht hd=>
  have e:zby ⟨1,zde,t⟩=kW sExport++(kW sDefault++(t.pcs++zel)):=by simp[zby,zit]
  rw[e]
  exact⟨zdx (wg (by simp[zhm])) (zdx (wg (by simp[zhm])) (zhe ht).1),zlq _ (zlq _ (zhe ht).2)⟩
 | @fn n t hn ht hd=>
  refine⟨zdx (wg (by simp[zhm])) (zfx hn.1 (zdc (by simp) (zdc (by simp) (zdj (.inl rfl) (zdc (by simp) (zdj (.inl rfl) (zdx (wg (by simp[zhm])) ((zkj t ht).1.app (zdc (by simp) (zdj (.inl rfl) (zdc (by simp) (zdj (.inr rfl) zic)))))))))))),?_⟩
  have:=zuk (a:=t.pcs) (b:=[.tok (zh cSemi),.sep sp1,.tok (zh zcz),.sep nl1]) (fun w=>by simp[adjE,zep,zh]) false (zkj t ht).2
  simp[zby,kW,adjE,zep,zh]
  exact this
 | @set n t hn ht hd=>
  exact⟨zdx hn.1 (zdc (by simp) (zdj (.inl rfl) (zhe ht).1)),zlq _ (zhd (zhe ht).2 _ (by simp[eqPc,adjE,zep,zh]))⟩
 | @prt t ht hd=>
  refine⟨zfx (wg (by simp[zhm])) (zdc (by simp) ((zkj t ht).1.app (zdc (by simp) (zdc (by simp) (zdj (.inr rfl) zic))))),?_⟩
  have:=zuk (a:=t.pcs) (b:=.tok (zh zbw)::zel) (fun w=>by simp[zel,adjE,zep,zh]) false (zkj t ht).2
  simp[zby,adjE,zep,zh]
  exact this
 | @thr t ht hd=>exact⟨zdx (wg (by simp[zhm])) (zhe ht).1,zlq _ (zhe ht).2⟩
 | @fail t hs ht hd=>exact⟨zdx (wg (by simp[zhm])) (zhe ht).1,zlq _ (zhe ht).2⟩
theorem zbmk {scr:Bool} {q:PS} {sts:List SI} (h:PI scr q sts):GoodP scr (zmk q sts)∧adj false (zmk q sts):=by
 have hr: ∀s∈q.rq,GoodT scr (tStr s):=h.rq
 have hq: ∀s∈q.rq,GoodP scr (zeh s)∧adjE false (zeh s):=fun s hs=>⟨zdx (ziu (by simp[zhm])) (zfx (hr s hs) (zdc (by simp) (zdj (.inr rfl) zic))),by simp[zeh,kW,adjE,zep,zh,tStr]⟩
 refine⟨(zoo _ fun s hs=>(hq s hs).1).app ((zoo _ fun x hx=>(zbgx hr (h.im x hx)).1).app ((zoo _ fun x hx=>(zbgy hr (h.ep x hx)).1).app (zoo _ fun s hs=>(zbgz (h.ok s hs)).1))),zbca _ ?_⟩
 exact zhd (zhd (zhd (zon _ fun s hs=>(zbgz (h.ok s hs)).2) _ (zon _ fun x hx=>(zbgy hr (h.ep x hx)).2)) _ (zon _ fun x hx=>(zbgx hr (h.im x hx)).2)) _ (zon _ fun s hs=>(hq s hs).2)
/-- How many tokens there are. -/
theorem zqm {α:Type} {f:α→List Pc} {n:Nat} (hf: ∀x,(tksP (f x)).length≤n) (l:List α):(tksP (l.flatMap f)).length≤n*l.length:=by
 induction l with
 |nil=>simp[tksP]
 |cons x l ih=>
  have:=hf x
  rw[List.flatMap_cons,zck,List.length_append,List.length_cons,Nat.mul_add]
  omega
theorem zqn (a b:ByteArray) (r:List Pc):(tksP (zdh a b r)).length≤5+(tksP r).length:=by
 unfold zdh asPc
 split<;>simp[tksP]<;>omega
theorem zbqc (x:Im):(tksP (zdi x)).length≤9:=by
 have:=zqn x.first x.loc (.sep sp1::zdu x.spec)
 have e:(tksP (.sep sp1::zdu x.spec)).length=3:=rfl
 unfold zdi
 split
 ·simp[tksP,kW,zdu]
 ·split
  ·simp[tksP,kW,zdu]
  ·rw[zck,List.length_append,show (tksP (kW sImport)).length=1 from rfl]
   omega
theorem zbqd (x:Ep):(tksP (zdv x)).length≤9:=by
 have:=zqn x.loc x.name (.sep sp1::zdu x.spec)
 have:=zqn x.loc x.name [.tok (zh cSemi),.sep nl1]
 have e:(tksP (.sep sp1::zdu x.spec)).length=3:=rfl
 have e:(tksP [.tok (zh cSemi),.sep nl1]).length=1:=rfl
 unfold zdv
 split
 ·simp[tksP,kW,zdu]
 ·split
  ·rw[zck,List.length_append,show (tksP (kW sExport)).length=1 from rfl]
   omega
  ·rw[zck,List.length_append,show (tksP (kW sExport)).length=1 from rfl]
   omega
theorem zbqe (s:SI):(tksP (zby s)).length≤8+5*s.t.size:=by
 have:=zbit s.t
 unfold zby
 repeat' split
 all_goals simp[kW,zel,eqPc,tksP,zck]
 all_goals omega
theorem zbml (l:List SI): ∀o,(tksP (l.flatMap zby)).length≤8*l.length+5*(exS l o).length:=by
 induction l with
 |nil=>intro o;simp[tksP]
 |cons s l ih=>
  intro o
  have h1:=zbqe s
  have h2:=ih (o+s.t.size)
  rw[List.flatMap_cons,zck,List.length_append,List.length_cons,exS,List.length_append,Tr.flat_len]
  omega
theorem zbiz {scr:Bool} {q:PS} {sts:List SI} (h:PI scr q sts):(tksP (zmk q sts)).length≤4000:=by
 have h1:=zqm (f:=zeh) (n:=3) (fun s=>by simp[zeh,kW,tksP]) q.rq
 have h2:=zqm zbqc q.im
 have h3:=zqm zbqd q.ep
 have h4:=zbml sts 0
 have l1:=h.nrq
 have l2:=h.nim
 have l3:=h.nep
 have l4:=h.nst
 have l5:=h.nex
 rw[h.st,zbgw] at l4
 rw[h.ex] at l5
 unfold zmk
 simp only[zck,List.length_append]
 omega
/-- A program that was read is read from its text. -/
theorem zbex {scr:Bool} {q:PS} {sts:List SI} (h:PI scr q sts): ∃q2,zct (zje (mdOf q)) scr (.ok q2)∧mdOf q2=mdOf q:=by
 obtain⟨hg,ha⟩:=zbmk h
 obtain⟨ts,hl,ht⟩:=zbbp (zbqb h) hg ha (zbiz h)
 obtain⟨p,hp⟩:=zbpz (C:=⟨ts,(zje (mdOf q)).size,scr⟩) h (by unfold Rem;rw[List.drop_zero];exact ht)
 exact⟨{q with pos:=p},⟨.ok ts,hl,hp.symm⟩,rfl⟩
def OkEp (N:Nat) (x:Ep):Prop:=x.name.size≤N∧x.loc.size≤N∧x.spec.size≤N
def OkEx (N:Nat) (x:Ex):Prop:=x.name.size≤N∧x.field.size≤N∧0≤x.num∧x.num≤1000000
/-- Nothing of it is long. -/
structure BS (N:Nat) (q:PS):Prop where
 rq: ∀x∈q.rq,x.size≤N
 im: ∀x∈q.im,x.spec.size≤N∧x.first.size≤N∧x.loc.size≤N
 ep: ∀x∈q.ep,OkEp N x
 la: ∀x∈q.la,OkEp N x
 st: ∀x∈q.st,x.name.size≤N
 ex: ∀x∈q.ex,OkEx N x
def BT (N:Nat) (ts:List Tk):Prop:=∀t∈ts,t.text.size≤N∧0≤t.num∧t.num≤1000000
theorem zbwm {s:ByteArray} {scr:Bool} {a e:Nat} {t:Tk} (h:Tok s scr a t e):t.text.size≤s.size∧0≤t.num∧t.num≤1000000:=by
 cases h with
 |name _ _=>exact⟨by simp only[ByteArray.size_extract];omega,by simp,by simp⟩
 |num h he=>
  refine⟨Nat.zero_le _,?_,he.2.2.2.2.1⟩
  have:=zoe (s:=s) (a:=a) 0 (e-a) (fun j hj=>by
   have:=he.1.2.2.1 (a+j) (by omega) (by omega)
   rw[zei] at this
   exact this.1) (Nat.zero_le _)
  rw[he.2.2.2.1]
  exact this.2
 |str _ _=>exact⟨by simp only[ByteArray.size_extract];omega,by simp,by simp⟩
 |sign _=>exact⟨by simp only[ByteArray.size_extract];omega,by simp,by simp⟩
theorem zbrw {s:ByteArray} {scr:Bool} {a n:Nat} {r:Except Nat (List Tk)} (h:Lx s scr a n r): ∀ts,r= .ok ts→BT s.size ts:=by
 induction h with
 |done=>intro ts k;cases k;intro t ht;cases ht
 |bad _ _=>intro ts k;cases k
 | @tok a n e b t r h hn ht hs hr ih=>
  intro ts k
  cases r with
  |error p=>cases k
  |ok l=>
   cases k
   intro u hu
   rcases List.mem_cons.1 hu with rfl|hu
   ·exact zbwm ht
   ·exact ih l rfl u hu
theorem zvx {N:Nat} {C:Cx} (hC:BT N C.ts) (i:Nat):(zd C i).text.size≤N∧0≤(zd C i).num∧(zd C i).num≤1000000:=by
 by_cases hi:i<C.ts.length
 ·have e:zd C i=C.ts[i]:=by simp[zd,List.getD,List.getElem?_eq_getElem hi]
  rw[e]
  exact hC _ (List.getElem_mem hi)
 ·rw[zfp (by omega)]
  exact⟨Nat.zero_le _,by simp,by simp⟩
theorem ziv {N:Nat} {q:PS} (h:BS N q):BS N (adv q):=⟨h.rq,h.im,h.ep,h.la,h.st,h.ex⟩
theorem zbu {N:Nat} {C:Cx} {k:Int} {x:ByteArray} {q q':PS} (h:tokP C k x q= .ok q') (hq:BS N q):BS N q':=by
 obtain⟨rfl,_⟩:=zdf h
 exact ziv hq
theorem zid {N:Nat} {C:Cx} (hC:BT N C.ts) {o:Bool} {q:PS} {y:PS×ByteArray} (h:zk C o q= .ok y) (hq:BS N q):BS N y.1∧y.2.size≤N:=by
 obtain⟨rfl,_⟩:=zcj h
 exact⟨ziv hq,(zvx hC _).1⟩
theorem zkb {N:Nat} {C:Cx} {x:Ex} {q q':PS} (h:zbm C x q= .ok q') (hq:BS N q) (hx:OkEx N x):BS N q':=by
 obtain⟨rfl,_⟩:=zdg h
 refine⟨hq.rq,hq.im,hq.ep,hq.la,hq.st,fun y hy=>?_⟩
 rcases List.mem_append.1 hy with hy|hy
 ·exact hq.ex y hy
 ·rw[List.mem_singleton] at hy
  rw[hy]
  exact hx
theorem znj {N:Nat} {k l r:Int} {n f:ByteArray} (hn:n.size≤N) (hf:f.size≤N):OkEx N ⟨k,0,n,f,l,r⟩:=⟨hn,hf,Int.le_refl _,by simp⟩
theorem zbcb {N:Nat} {C:Cx} {n:ByteArray} {q q':PS} (h:zcr C n q= .ok q') (hq:BS N q) (hn:n.size≤N):BS N q':=by
 unfold zcr at h
 split at h
 ·obtain⟨a,h1,h2⟩:=zc h
  obtain⟨b,h3,h4⟩:=zc h1
  exact zkb h2 (zbu h4 (zbu h3 hq)) (znj hn (Nat.zero_le _))
 ·exact zkb h hq (znj hn (Nat.zero_le _))
theorem zbtm {N:Nat} {C:Cx} {n f:ByteArray} {q q':PS} (h:memP C n f q= .ok q') (hq:BS N q) (hn:n.size≤N) (hf:f.size≤N):BS N q':=by
 unfold memP at h
 split at h
 ·obtain⟨a,h1,h2⟩:=zc h
  obtain⟨b,h3,h4⟩:=zc h1
  exact zkb h2 (zbu h4 (zbu h3 hq)) (znj hn hf)
 ·exact zkb h hq (znj hn hf)
theorem zbxp {N:Nat} {C:Cx} (hC:BT N C.ts) (hN:8≤N) (f:Nat): ∀(nt:NT) (d:Nat) (q q':PS),ev C f nt d q= .ok q'→BS N q→BS N q':=by
 induction f with
 |zero=>intro nt d q q' h;cases nt<;>cases h
 |succ f ih=>
  intro nt d q q' h hq
  cases nt with
  |sum=>
   rw[ev] at h
   obtain⟨a,h1,h2⟩:=zc h
   exact ih _ _ _ _ h2 (ih _ _ _ _ h1 hq)
  |prod=>
   rw[ev] at h
   obtain⟨a,h1,h2⟩:=zc h
   exact ih _ _ _ _ h2 (ih _ _ _ _ h1 hq)
  |sumT=>
   rw[ev] at h
   split at h
   ·obtain⟨a,h1,h2⟩:=zc h
    obtain⟨b,h3,h4⟩:=zc h1
    exact ih _ _ _ _ h2 (zkb h4 (ih _ _ _ _ h3 (ziv hq)) (znj (Nat.zero_le _) (Nat.zero_le _)))
   ·cases h
    exact hq
  |prodT=>
   rw[ev] at h
   split at h
   ·obtain⟨a,h1,h2⟩:=zc h
    obtain⟨b,h3,h4⟩:=zc h1
    exact ih _ _ _ _ h2 (zkb h4 (ih _ _ _ _ h3 (ziv hq)) (znj (Nat.zero_le _) (Nat.zero_le _)))
   ·cases h
    exact hq
  |part=>
   rw[ev] at h
   split at h
   ·exact zkb h (ziv hq) ⟨Nat.zero_le _,Nat.zero_le _,(zvx hC _).2⟩
   ·split at h
    ·split at h
     ·cases h
     ·obtain⟨a,h1,h2⟩:=zc h
      exact zbu h2 (ih _ _ _ _ h1 (ziv hq))
    ·split at h
     ·exact zbcb h (ziv hq) (Nat.le_trans (show 5≤8 by omega) hN)
     ·obtain⟨a,h1,h2⟩:=zc h
      obtain⟨b1,b2⟩:=zid hC h1 hq
      split at h2
      ·obtain⟨b,h3,h4⟩:=zc h2
       obtain⟨c1,c2⟩:=zid hC h3 (ziv b1)
       exact zbtm h4 c1 b2 c2
      ·exact zbcb h2 b1 b2
theorem zsz {N:Nat} {C:Cx} (hC:BT N C.ts) (hN:8≤N) {nt:NT} {d:Nat} {q q':PS} (h:pE C nt d q= .ok q') (hq:BS N q):BS N q':=zbxp hC hN _ _ _ _ _ h hq
theorem zbcc {N:Nat} {C:Cx} (hC:BT N C.ts) {q:PS} {a:PS×ByteArray} (h:zbf C q= .ok a) (hq:BS N q):BS N a.1∧a.2.size≤N:=by
 unfold zbf at h
 split at h
 ·split at h
  ·cases h
   exact⟨ziv hq,(zvx hC _).1⟩
  ·split at h
   ·cases h
   ·cases h
    refine⟨⟨fun x hx=>?_,hq.im,hq.ep,hq.la,hq.st,hq.ex⟩,(zvx hC _).1⟩
    rcases List.mem_append.1 hx with hx|hx
    ·exact hq.rq x hx
    ·rw[List.mem_singleton] at hx
     rw[hx]
     exact (zvx hC _).1
 ·cases h
theorem zlr {N:Nat} {C:Cx} {k:Int} {n:ByteArray} {q q':PS} (h:zbi C k n q= .ok q') (hq:BS N q) (hn:n.size≤N):BS N q':=by
 unfold zbi at h
 split at h
 ·cases h
 ·cases h
  refine⟨hq.rq,hq.im,hq.ep,hq.la,fun x hx=>?_,hq.ex⟩
  rcases List.mem_append.1 hx with hx|hx
  ·exact hq.st x hx
  ·rw[List.mem_singleton] at hx
   rw[hx]
   exact hn
theorem zum {N:Nat} {C:Cx} {y:Im} {q q':PS} (h:zbx C y q= .ok q') (hq:BS N q) (hy:y.spec.size≤N∧y.first.size≤N∧y.loc.size≤N):BS N q':=by
 unfold zbx at h
 split at h
 ·cases h
 ·cases h
  refine⟨hq.rq,fun x hx=>?_,hq.ep,hq.la,hq.st,hq.ex⟩
  rcases List.mem_append.1 hx with hx|hx
  ·exact hq.im x hx
  ·rw[List.mem_singleton] at hx
   rw[hx]
   exact hy
theorem zun {α:Type} {P:α→Prop} {l:List α} {y:α} (h: ∀x∈l,P x) (hy:P y): ∀x∈l++[y],P x:=fun x hx=>by
 rcases List.mem_append.1 hx with hx|hx
 ·exact h x hx
 ·rw[List.mem_singleton] at hx
  rw[hx]
  exact hy
theorem zls {N:Nat} {C:Cx} {y:Ep} {q q':PS} (h:zo C y q= .ok q') (hq:BS N q) (hy:OkEp N y):BS N q':=by
 unfold zo at h
 split at h
 ·cases h
 ·split at h
  ·cases h
   exact⟨hq.rq,hq.im,hq.ep,zun hq.la hy,hq.st,hq.ex⟩
  ·cases h
   exact⟨hq.rq,hq.im,zun hq.ep hy,hq.la,hq.st,hq.ex⟩
theorem zbja {α:Type} {f:α→PS→PR} (l:List α): ∀(x:PR) (q':PS),zbb f l x= .ok q'→∃q,x= .ok q∧True:=by
 induction l with
 |nil=>intro x q' h;exact⟨q',h,trivial⟩
 |cons a l ih=>
  intro x q' h
  obtain⟨b,h1,_⟩:=ih _ _ h
  obtain⟨c,h3,_⟩:=zc h1
  exact⟨c,h3,trivial⟩
theorem zrz {α:Type} {N:Nat} {f:α→PS→PR} (l:List α) (hf: ∀a∈l,∀q q',f a q= .ok q'→BS N q→BS N q'): ∀(q q':PS),zbb f l (.ok q)= .ok q'→BS N q→BS N q':=by
 induction l with
 |nil=>intro q q' h hq;cases h;exact hq
 |cons a l ih=>
  intro q q' h hq
  have h':zbb f l (f a q)= .ok q':=h
  cases hfa:f a q with
  |error e=>
   rw[hfa] at h'
   obtain⟨c,h1,_⟩:=zbja l _ _ h'
   cases h1
  |ok b=>
   rw[hfa] at h'
   exact ih (fun x hx=>hf x (List.mem_cons_of_mem _ hx)) b q' h' (hf a (List.mem_cons_self ..) q b hfa hq)
theorem zbwn {N:Nat} {C:Cx} (hC:BT N C.ts) {exp:Bool} {a b:PS×ByteArray} (h:asP C exp a= .ok b) (hq:BS N a.1) (ha:a.2.size≤N):BS N b.1∧b.2.size≤N:=by
 unfold asP at h
 split at h
 ·exact zid hC h (ziv hq)
 ·split at h
  ·cases h
  ·cases h
   exact⟨hq,ha⟩
theorem zbqf {N:Nat} {C:Cx} (hC:BT N C.ts) {exp:Bool} (f:Nat): ∀(q:PS) (acc:List Ep) (a:PS×List Ep),zgw C exp f q acc= .ok a→BS N q→(∀x∈acc,OkEp N x)→BS N a.1∧∀x∈a.2,OkEp N x:=by
 induction f with
 |zero=>intro q acc a h;cases h
 |succ f ih=>
  intro q acc a h hq hacc
  rw[zgw] at h
  obtain⟨b,h1,h2⟩:=zc h
  obtain⟨c,h3,h4⟩:=zc h2
  obtain⟨b1,b2⟩:=zid hC h1 hq
  obtain⟨c1,c2⟩:=zbwn hC h3 b1 b2
  have hm: ∀x∈acc++[(⟨0,c.2,b.2,sNone⟩:Ep)],OkEp N x:=zun hacc ⟨c2,b2,Nat.zero_le _⟩
  split at h4
  ·exact ih _ _ _ h4 (ziv c1) hm
  ·obtain⟨d,h5,h6⟩:=zc h4
   cases h6
   exact⟨zbu h5 c1,hm⟩
theorem zbcd {N:Nat} {C:Cx} (hC:BT N C.ts) {exp:Bool} {q:PS} {a:PS×List Ep} (h:zgl C exp q= .ok a) (hq:BS N q):BS N a.1∧∀x∈a.2,OkEp N x:=by
 obtain⟨b,h1,h2⟩:=zc h
 exact zbqf hC _ _ _ _ h2 (zbu h1 hq) fun x hx=>by cases hx
theorem zph {N:Nat} {C:Cx} (hC:BT N C.ts) {x:PR} {b:PS×ByteArray} (h:zdt C (zcs C x)= .ok b): ∃q,x= .ok q∧(BS N q→BS N b.1∧b.2.size≤N):=by
 obtain⟨a,h1,h2⟩:=zc h
 obtain⟨c,h3,h4⟩:=zc h2
 obtain⟨d,h5,h6⟩:=zc h1
 obtain⟨e,h7,h8⟩:=zc h5
 cases h4
 refine⟨e,h7,fun hq=>?_⟩
 obtain⟨k1,k2⟩:=zbcc hC h6 (zbu h8 hq)
 exact⟨zbu h3 k1,k2⟩
theorem zbjb {N:Nat} {C:Cx} (hC:BT N C.ts) (hN:8≤N) {q q':PS} (h:zcd C q= .ok q') (hq:BS N q):BS N q':=by
 obtain⟨q1,h1,h2⟩:=zc h
 have e1:=zbu h1 hq
 split at h2
 ·obtain⟨a,h3,h4⟩:=zc h2
  obtain⟨b,h5,h6⟩:=zc h4
  obtain⟨l1,l2⟩:=zbcd hC h3 e1
  obtain⟨d,h9,h10⟩:=zph hC h5
  cases h9
  obtain⟨k1,k2⟩:=h10 l1
  exact zrz _ (fun x hx p p' hp hb=>zum hp hb ⟨k2,(l2 x hx).2.1,(l2 x hx).1⟩) _ _ h6 k1
 ·split at h2
  ·obtain⟨a,h3,h4⟩:=zc h2
   obtain⟨b,h5,h6⟩:=zc h4
   obtain⟨c,h7,h8⟩:=zc h3
   obtain⟨d,h9,h10⟩:=zc h7
   obtain⟨n1,n2⟩:=zid hC h8 (zbu h10 (zbu h9 e1))
   obtain⟨f,h11,h12⟩:=zph hC h5
   cases h11
   obtain⟨k1,k2⟩:=h12 n1
   exact zum h6 k1 ⟨k2,Nat.le_trans (show 1≤8 by omega) hN,n2⟩
  ·split at h2
   ·obtain⟨a,h3,h4⟩:=zc h2
    obtain⟨b,h5,h6⟩:=zc h4
    obtain⟨n1,n2⟩:=zid hC h3 e1
    obtain⟨f,h11,h12⟩:=zph hC h5
    cases h11
    obtain⟨k1,k2⟩:=h12 n1
    exact zum h6 k1 ⟨k2,Nat.le_trans (show 7≤8 by omega) hN,n2⟩
   ·obtain⟨a,h3,h4⟩:=zc h2
    exact zbu h4 (zbcc hC h3 e1).1
theorem zbha {N:Nat} {C:Cx} (hC:BT N C.ts) (hN:8≤N) {q:PS} {a:PS×ByteArray} (h:letP C q= .ok a) (hq:BS N q):BS N a.1∧a.2.size≤N:=by
 obtain⟨b,h1,h2⟩:=zc h
 obtain⟨z,h1b,h2b⟩:=zc h2
 cases h2b
 obtain⟨c,h3,h4⟩:=zc h1
 obtain⟨d,h5,h6⟩:=zc h1b
 obtain⟨f,h7,h8⟩:=zc h5
 obtain⟨g,h9,h10⟩:=zc h7
 obtain⟨n1,n2⟩:=zid hC h4 (zbu h3 hq)
 exact⟨zlr h6 (zbu h8 (zsz hC hN h10 (zbu (show tokP C 4 cEq b.1= .ok g from h9) n1))) n2,n2⟩
theorem zbmm {N:Nat} {C:Cx} (hC:BT N C.ts) (hN:8≤N) {q:PS} {a:PS×ByteArray} (h:fnP C q= .ok a) (hq:BS N q):BS N a.1∧a.2.size≤N:=by
 obtain⟨b,h1,h2⟩:=zc h
 obtain⟨z,h1b,h2b⟩:=zc h2
 cases h2b
 obtain⟨c,h3,h4⟩:=zc h1
 obtain⟨d,h5,h6⟩:=zc h1b
 obtain⟨f,h7,h8⟩:=zc h5
 obtain⟨g,h9,h10⟩:=zc h7
 obtain⟨i,h11,h12⟩:=zc h9
 obtain⟨j,h13,h14⟩:=zc h11
 obtain⟨k,h15,h16⟩:=zc h13
 obtain⟨l,h17,h18⟩:=zc h15
 obtain⟨n1,n2⟩:=zid hC h4 (zbu h3 hq)
 exact⟨zlr h6 (zbu h8 (zbu h10 (zsz hC hN h12 (zbu h14 (zbu h16 (zbu h18 (zbu (show tokP C 4 cOpen b.1= .ok l from h17) n1))))))) n2,n2⟩
theorem zbjc {N:Nat} {C:Cx} (hC:BT N C.ts) (hN:8≤N) {q q':PS} (h:zbc C q= .ok q') (hq:BS N q):BS N q':=by
 obtain⟨q1,h1,h2⟩:=zc h
 have e1:=zbu h1 hq
 split at h2
 ·obtain⟨a,h3,h4⟩:=zc h2
  obtain⟨l1,l2⟩:=zbcd hC h3 e1
  split at h4
  ·obtain⟨b,h5,h6⟩:=zc h4
   exact zrz (f:=fun e=>zo C (zy e)) _ (fun x hx p p' hp hb=>zls (y:=zy x) hp hb ⟨(l2 x hx).1,(l2 x hx).2.1,Nat.zero_le _⟩) _ _ h6 (zbu h5 l1)
  ·obtain⟨b,h5,h6⟩:=zc h4
   obtain⟨d,h9,h10⟩:=zph hC h5
   cases h9
   obtain⟨k1,k2⟩:=h10 l1
   exact zrz (f:=fun e=>zo C (zbp b.2 e)) _ (fun x hx p p' hp hb=>zls (y:=zbp b.2 x) hp hb ⟨(l2 x hx).1,(l2 x hx).2.1,k2⟩) _ _ h6 k1
 ·split at h2
  ·obtain⟨b,h5,h6⟩:=zc h2
   obtain⟨d,h9,h10⟩:=zph hC h5
   obtain⟨k1,k2⟩:=h10 (zbu h9 e1)
   exact zls h6 k1 ⟨Nat.zero_le _,Nat.zero_le _,k2⟩
  ·split at h2
   ·obtain⟨a,h3,h4⟩:=zc h2
    obtain⟨b,h5,h6⟩:=zc h3
    obtain⟨c,h7,h8⟩:=zc h5
    obtain⟨d,h9,h10⟩:=zc h7
    exact zls h4 (zlr h6 (zbu h8 (zsz hC hN h10 (zbu h9 e1))) hN) ⟨Nat.le_trans (show 7≤8 by omega) hN,hN,Nat.zero_le _⟩
   ·split at h2
    ·obtain⟨a,h3,h4⟩:=zc h2
     obtain⟨k1,k2⟩:=zbha hC hN h3 e1
     exact zls h4 k1 ⟨k2,k2,Nat.zero_le _⟩
    ·split at h2
     ·obtain⟨a,h3,h4⟩:=zc h2
      obtain⟨k1,k2⟩:=zbmm hC hN h3 e1
      exact zls h4 k1 ⟨k2,k2,Nat.zero_le _⟩
     ·cases h2
theorem zbhb {N:Nat} {C:Cx} (hC:BT N C.ts) (hN:8≤N) {s:ByteArray} {k:Int} {q q':PS} (h:bd (bd (bd (tokP C 1 s q) (pE C .sum 0)) (tokP C 4 cSemi)) (zbi C k sNone)= .ok q') (hq:BS N q):BS N q':=by
 obtain⟨a,h1,h2⟩:=zc h
 obtain⟨b,h3,h4⟩:=zc h1
 obtain⟨c,h5,h6⟩:=zc h3
 exact zlr h2 (zbu h4 (zsz hC hN h6 (zbu h5 hq))) (Nat.zero_le _)
theorem zbqg {N:Nat} {C:Cx} (hC:BT N C.ts) (hN:8≤N) {q q':PS} (h:zu C q= .ok q') (hq:BS N q):BS N q':=by
 unfold zu at h
 split at h
 ·exact zbjb hC hN h hq
 ·split at h
  ·exact zbjc hC hN h hq
  ·split at h
   ·obtain⟨a,h1,h2⟩:=zc h
    cases h2
    exact (zbha hC hN h1 hq).1
   ·split at h
    ·obtain⟨a,h1,h2⟩:=zc h
     cases h2
     exact (zbmm hC hN h1 hq).1
    ·split at h
     ·obtain⟨a,h1,h2⟩:=zc h
      obtain⟨b,h3,h4⟩:=zc h1
      obtain⟨c,h5,h6⟩:=zc h3
      obtain⟨d,h7,h8⟩:=zc h5
      obtain⟨e,h9,h10⟩:=zc h7
      exact zlr h2 (zbu h4 (zbu h6 (zsz hC hN h8 (zbu h10 (zbu h9 hq))))) (Nat.zero_le _)
     ·split at h
      ·exact zbhb hC hN h hq
      ·split at h
       ·exact zbhb hC hN h hq
       ·obtain⟨a,h1,h2⟩:=zc h
        obtain⟨b,h3,h4⟩:=zc h2
        obtain⟨c,h5,h6⟩:=zc h3
        obtain⟨d,h7,h8⟩:=zc h5
        obtain⟨n1,n2⟩:=zid hC h1 hq
        exact zlr h4 (zbu h6 (zsz hC hN h8 (zbu h7 n1))) n2
theorem zbmn {N:Nat} {C:Cx} (hC:BT N C.ts) (hN:8≤N) (f:Nat): ∀(q q':PS),zfh C f q= .ok q'→BS N q→BS N q':=by
 induction f with
 |zero=>intro q q' h;cases h
 |succ f ih=>
  intro q q' h hq
  rw[zfh] at h
  split at h
  ·obtain⟨a,h1,h2⟩:=zc h
   exact ih _ _ h2 (zbqg hC hN h1 hq)
  ·cases h
   exact hq
/-- What was read is not long. -/
theorem zbqh {s:ByteArray} {scr:Bool} {q:PS} {N:Nat} (h:zct s scr (.ok q)) (hs:s.size≤N) (hN:8≤N):BS N q:=by
 obtain⟨r,⟨a,_,hl⟩,e⟩:=h
 cases r with
 |error p=>cases e
 |ok ts=>
  refine zbmn (C:=⟨ts,s.size,scr⟩) (fun t ht=>?_) hN _ _ _ e.symm ⟨?_,?_,?_,?_,?_,?_⟩
  ·have:=zbrw hl ts rfl t ht
   exact⟨Nat.le_trans this.1 hs,this.2⟩
  all_goals (intro x hx;cases hx)
def bn {α:Type} (B:Nat) (x:Except Nat α):Prop:=∀p,x= .error p→p≤B
theorem zeg {α:Type} {B:Nat} (a:α):bn B (.ok a):=fun p h=>by cases h
theorem zio {α:Type} {B p:Nat} (h:p≤B):bn B (.error p:Except Nat α):=fun q k=>by cases k;exact h
theorem zz {α β:Type} {B:Nat} {x:Except Nat α} {f:α→Except Nat β} (hx:bn B x) (hf: ∀a,bn B (f a)):bn B (bd x f):=by
 cases x with
 |ok a=>exact hf a
 |error e=>intro p h;cases h;exact hx e rfl
def InC (C:Cx):Prop:=∀t∈C.ts,t.pos≤C.fin
theorem zim {C:Cx} (h:InC C) (i:Nat):here C i≤C.fin:=by
 unfold here zd
 simp only[List.getD]
 cases hx:C.ts[i]? with
 |none=>exact Nat.le_refl _
 |some t=>exact h t (List.mem_of_getElem? hx)
theorem zbs {C:Cx} (h:InC C) (k:Int) (x:ByteArray) (q:PS):bn C.fin (tokP C k x q):=by
 unfold tokP
 split
 ·exact zeg _
 ·exact zio (zim h _)
theorem zie {C:Cx} (h:InC C) (o:Bool) (q:PS):bn C.fin (zk C o q):=by
 unfold zk
 split
 ·exact zeg _
 ·exact zio (zim h _)
theorem zbce {C:Cx} (h:InC C) (q:PS):bn C.fin (zbf C q):=by
 unfold zbf
 repeat' split
 all_goals first|exact zeg _|exact zio (zim h _)
theorem zuo {C:Cx} (h:InC C) (x:Im) (q:PS):bn C.fin (zbx C x q):=by
 unfold zbx
 split
 ·exact zio (zim h _)
 ·exact zeg _
theorem zlt {C:Cx} (h:InC C) (x:Ep) (q:PS):bn C.fin (zo C x q):=by
 unfold zo
 repeat' split
 all_goals first|exact zeg _|exact zio (zim h _)
theorem zkc {C:Cx} (h:InC C) (k:Int) (n:ByteArray) (q:PS):bn C.fin (zbi C k n q):=by
 unfold zbi
 split
 ·exact zio (zim h _)
 ·exact zeg _
theorem zkd {C:Cx} (h:InC C) (x:Ex) (q:PS):bn C.fin (zbm C x q):=by
 unfold zbm
 split
 ·exact zio (zim h _)
 ·exact zeg _
theorem zbcf {C:Cx} (h:InC C) (n:ByteArray) (q:PS):bn C.fin (zcr C n q):=by
 unfold zcr
 split
 ·exact zz (zz (zbs h _ _ _) fun _=>zbs h _ _ _) fun _=>zkd h _ _
 ·exact zkd h _ _
theorem zbtn {C:Cx} (h:InC C) (n f:ByteArray) (q:PS):bn C.fin (memP C n f q):=by
 unfold memP
 split
 ·exact zz (zz (zbs h _ _ _) fun _=>zbs h _ _ _) fun _=>zkd h _ _
 ·exact zkd h _ _
theorem zbxq {C:Cx} (h:InC C) (f:Nat): ∀nt d q,bn C.fin (ev C f nt d q):=by
 induction f with
 |zero=>intro nt d q;cases nt<;>exact zio (Nat.zero_le _)
 |succ f ih=>
  intro nt d q
  cases nt with
  |sum=>rw[ev];exact zz (ih _ _ _) fun _=>ih _ _ _
  |prod=>rw[ev];exact zz (ih _ _ _) fun _=>ih _ _ _
  |sumT=>
   rw[ev]
   split
   ·exact zz (zz (ih _ _ _) fun _=>zkd h _ _) fun _=>ih _ _ _
   ·exact zeg _
  |prodT=>
   rw[ev]
   split
   ·exact zz (zz (ih _ _ _) fun _=>zkd h _ _) fun _=>ih _ _ _
   ·exact zeg _
  |part=>
   rw[ev]
   split
   ·exact zkd h _ _
   ·split
    ·split
     ·exact zio (zim h _)
     ·exact zz (ih _ _ _) fun _=>zbs h _ _ _
    ·split
     ·exact zbcf h _ _
     ·refine zz (zie h _ _) fun x=>?_
      split
      ·exact zz (zie h _ _) fun _=>zbtn h _ _ _
      ·exact zbcf h _ _
theorem zqo {C:Cx} (h:InC C) (nt:NT) (d:Nat) (q:PS):bn C.fin (pE C nt d q):=zbxq h _ _ _ _
theorem zbwo {C:Cx} (h:InC C) (exp:Bool) (a:PS×ByteArray):bn C.fin (asP C exp a):=by
 unfold asP
 split
 ·exact zie h _ _
 ·split
  ·exact zio (zim h _)
  ·exact zeg _
theorem zbqi {C:Cx} (h:InC C) (exp:Bool) (f:Nat): ∀q acc,bn C.fin (zgw C exp f q acc):=by
 induction f with
 |zero=>intro q acc;exact zio (Nat.zero_le _)
 |succ f ih=>
  intro q acc
  rw[zgw]
  refine zz (zie h _ _) fun a=>zz (zbwo h _ _) fun b=>?_
  split
  ·exact ih _ _
  ·exact zz (zbs h _ _ _) fun _=>zeg _
theorem zbcg {C:Cx} (h:InC C) (exp:Bool) (q:PS):bn C.fin (zgl C exp q):=zz (zbs h _ _ _) fun _=>zbqi h _ _ _ _
theorem zpi {C:Cx} (h:InC C) {x:PR} (hx:bn C.fin x):bn C.fin (zdt C (zcs C x)):=zz (zz (zz hx fun _=>zbs h _ _ _) fun _=>zbce h _) fun _=>zz (zbs h _ _ _) fun _=>zeg _
theorem zsa {α:Type} {B:Nat} {f:α→PS→PR} (hf: ∀a q,bn B (f a q)) (l:List α): ∀x,bn B x→bn B (zbb f l x):=by
 induction l with
 |nil=>intro x hx;exact hx
 |cons a l ih=>intro x hx;exact ih _ (zz hx fun _=>hf _ _)
theorem zbjd {C:Cx} (h:InC C) (q:PS):bn C.fin (zcd C q):=by
 refine zz (zbs h _ _ _) fun q1=>?_
 split
 ·exact zz (zbcg h _ _) fun _=>zz (zpi h (zeg _)) fun _=>zsa (fun _ _=>zuo h _ _) _ _ (zeg _)
 ·split
  ·exact zz (zz (zz (zbs h _ _ _) fun _=>zbs h _ _ _) fun _=>zie h _ _) fun _=>zz (zpi h (zeg _)) fun _=>zuo h _ _
  ·split
   ·exact zz (zie h _ _) fun _=>zz (zpi h (zeg _)) fun _=>zuo h _ _
   ·exact zz (zbce h _) fun _=>zbs h _ _ _
theorem zbch {B:Nat} {y:PRN} {F:PR→ByteArray→PR} (hy:bn B y) (hF: ∀q n,bn B (F (.ok q) n)):bn B (withN y F):=zz hy fun _=>zz (hF _ _) fun _=>zeg _
theorem zbhc {C:Cx} (h:InC C) (q:PS):bn C.fin (letP C q):=zbch (zz (zbs h _ _ _) fun _=>zie h _ _) fun _ _=>zz (zz (zz (zz (zeg _) fun _=>zbs h _ _ _) fun _=>zqo h _ _ _) fun _=>zbs h _ _ _) fun _=>zkc h _ _ _
theorem zbmo {C:Cx} (h:InC C) (q:PS):bn C.fin (fnP C q):=zbch (zz (zbs h _ _ _) fun _=>zie h _ _) fun _ _=>zz (zz (zz (zz (zz (zz (zz (zz (zeg _) fun _=>zbs h _ _ _) fun _=>zbs h _ _ _) fun _=>zbs h _ _ _) fun _=>zbs h _ _ _) fun _=>zqo h _ _ _) fun _=>zbs h _ _ _) fun _=>zbs h _ _ _) fun _=>zkc h _ _ _
theorem zbje {C:Cx} (h:InC C) (q:PS):bn C.fin (zbc C q):=by
 refine zz (zbs h _ _ _) fun q1=>?_
 split
 ·refine zz (zbcg h _ _) fun a=>?_
  split
  ·exact zz (zbs h _ _ _) fun _=>zsa (fun _ _=>zlt h _ _) _ _ (zeg _)
  ·exact zz (zpi h (zeg _)) fun _=>zsa (fun _ _=>zlt h _ _) _ _ (zeg _)
 ·split
  ·exact zz (zpi h (zbs h _ _ _)) fun _=>zlt h _ _
  ·split
   ·exact zz (zz (zz (zz (zbs h _ _ _) fun _=>zqo h _ _ _) fun _=>zbs h _ _ _) fun _=>zkc h _ _ _) fun _=>zlt h _ _
   ·split
    ·exact zz (zbhc h _) fun _=>zlt h _ _
    ·split
     ·exact zz (zbmo h _) fun _=>zlt h _ _
     ·exact zio (zim h _)
theorem zbqj {C:Cx} (h:InC C) (q:PS):bn C.fin (zu C q):=by
 unfold zu
 split
 ·exact zbjd h q
 ·split
  ·exact zbje h q
  ·split
   ·exact zz (zbhc h _) fun _=>zeg _
   ·split
    ·exact zz (zbmo h _) fun _=>zeg _
    ·split
     ·exact zz (zz (zz (zz (zz (zbs h _ _ _) fun _=>zbs h _ _ _) fun _=>zqo h _ _ _) fun _=>zbs h _ _ _) fun _=>zbs h _ _ _) fun _=>zkc h _ _ _
     ·split
      ·exact zz (zz (zz (zbs h _ _ _) fun _=>zqo h _ _ _) fun _=>zbs h _ _ _) fun _=>zkc h _ _ _
      ·split
       ·exact zz (zz (zz (zbs h _ _ _) fun _=>zqo h _ _ _) fun _=>zbs h _ _ _) fun _=>zkc h _ _ _
       ·exact zz (zie h _ _) fun _=>zz (zz (zz (zbs h _ _ _) fun _=>zqo h _ _ _) fun _=>zbs h _ _ _) fun _=>zkc h _ _ _
theorem zbmp {C:Cx} (h:InC C) (f:Nat): ∀q,bn C.fin (zfh C f q):=by
 induction f with
 |zero=>intro q;exact zio (Nat.zero_le _)
 |succ f ih=>
  intro q
  rw[zfh]
  split
  ·exact zz (zbqj h _) fun _=>ih _
  ·exact zeg _
theorem zbxr {s:ByteArray} {scr:Bool} {a n:Nat} {r:Except Nat (List Tk)} (h:Lx s scr a n r):bn s.size r∧∀ts,r= .ok ts→∀t∈ts,t.pos≤s.size:=by
 induction h with
 |done=>exact⟨zeg _,fun ts hr t ht=>by cases hr;cases ht⟩
 |bad h _=>exact⟨zio (Nat.le_of_lt h),fun ts hr=>by cases hr⟩
 | @tok a n e b t r h hn ht hs hr ih=>
  cases r with
  |error p=>exact⟨fun q k=>by cases k;exact ih.1 p rfl,fun ts k=>by simp[Except.map] at k⟩
  |ok l=>
   refine⟨zeg _,fun ts k=>?_⟩
   simp only[Except.map,Except.ok.injEq] at k
   subst k
   intro u hu
   rcases List.mem_cons.1 hu with rfl|hu
   ·rw[(zkg h ht).2.2];exact Nat.le_of_lt h
   ·exact ih.2 l rfl u hu
theorem zbmq {s:ByteArray} {scr:Bool} {p:Nat} (h:zct s scr (.error p)):p≤s.size:=by
 obtain⟨r,⟨a,_,hl⟩,e⟩:=h
 obtain⟨h1,h2⟩:=zbxr hl
 cases r with
 |error p'=>cases e;exact h1 _ rfl
 |ok ts=>exact zbmp (C:=⟨ts,s.size,scr⟩) (h2 ts rfl) _ _ p e.symm
/-- A text of these tokens, with something passed over behind each. -/
def zvy (scr:Bool) (l:List Tk) (T:ByteArray):Prop:=∃P,T.data.toList=txtP P∧tksP P=l.map stpT∧GoodP scr P∧adjE false P
theorem zbmr (scr:Bool):zvy scr [] sNone:=⟨[],rfl,rfl,zic,rfl⟩
theorem zmz {scr:Bool} {l:List Tk} {t:Tk} {T r x:ByteArray} (h:zvy scr l T) (ht:GoodT scr (stpT t)) (hr:r.data.toList=renT (stpT t)) (hx:zsv x.data.toList):zvy scr (l++[t]) (T++r++x):=by
 obtain⟨P,h1,h2,h3,h4⟩:=h
 refine⟨P++[.tok (stpT t),.sep x.data.toList],?_,?_,h3.app (zfx ht fun p hp=>?_),zhd ?_ _ h4⟩
 ·rw[zis,zis,h1,hr,zej]
  simp[txtP]
 ·rw[zck,h2]
  simp[tksP]
 ·rw[List.mem_singleton] at hp
  rw[hp]
  exact hx
 ·exact⟨(fun k=>by cases k),rfl⟩
theorem zbey {s T:ByteArray} {scr:Bool} {ts:List Tk} {q:PS} (hs:LexR s scr (.ok ts)) (hb:zvy scr ts T) (h:zct s scr (.ok q)):zct T scr (.ok q):=by
 obtain⟨P,h1,h2,h3,h4⟩:=hb
 obtain⟨us,hu,he⟩:=zbbp h1 h3 (zbca _ h4) (by rw[h2,List.length_map];exact zpv hs)
 exact zbeu hs hu (he.trans h2) h
theorem zbms {s:ByteArray} {scr:Bool} {ts:List Tk} (h:LexR s scr (.ok ts)):(∀t∈ts,GoodT scr (stpT t))∧BT s.size ts:=by
 obtain⟨a,_,hl⟩:=h
 exact⟨zbgn hl ts rfl,zbrw hl ts rfl⟩
theorem zbmt {s:ByteArray} {scr:Bool} {q:PS} (h:zct s scr (.ok q)): ∃ts,LexR s scr (.ok ts):=by
 obtain⟨r,hr,e⟩:=h
 cases r with
 |error p=>cases e
 |ok ts=>exact⟨ts,hr⟩
def zsb (l:List Ex) (o:Nat):Prop:=∀(i:Nat) (x:Ex),l[i]? =some x→twoK x.kind=true→0≤x.l∧x.l<((o+i:Nat):Int)∧0≤x.r∧x.r<((o+i:Nat):Int)
theorem zqp {a b:List Ex} {o:Nat} (ha:zsb a o) (hb:zsb b (o+a.length)):zsb (a++b) o:=by
 intro i x h k
 rcases Nat.lt_or_ge i a.length with hi|hi
 ·rw[List.getElem?_append_left hi] at h
  exact ha i x h k
 ·rw[List.getElem?_append_right hi] at h
  have:=hb (i-a.length) x h k
  omega
theorem zbjf {scr:Bool} (t:Tr):TrOk scr t→∀o,zsb (t.flat o) o:=by
 induction t with
 |leaf x=>
  intro h o i y hy k
  match i,hy with
  |0,hy=>
   cases hy
   rw[zuh h] at k
   cases k
  |i+1,hy=>cases hy
 |two k l r ihl ihr=>
  rintro⟨_,hl,hr⟩ o
  refine zqp (ihl hl o) (zqp ?_ ?_)
  ·rw[Tr.flat_len];exact ihr hr _
  ·rw[Tr.flat_len,Tr.flat_len]
   intro i y hy _
   have p1:=l.pos
   have p2:=r.pos
   match i,hy with
   |0,hy=>cases hy;simp only;omega
   |i+1,hy=>cases hy
theorem zbmu {scr:Bool} (l:List SI): ∀o,(∀s∈l,SOk scr s)→zsb (exS l o) o:=by
 induction l with
 |nil=>intro o _ i x h;cases h
 |cons s l ih=>
  intro o h
  refine zqp (zbjf _ (h s (by simp)).tree.1 o) ?_
  rw[Tr.flat_len]
  exact ih _ fun x hx=>h x (by simp[hx])
theorem zqq (a b:List Ex) (k:Int):zca (a++b) k=zca a k+zca b k:=by simp[zca]
theorem zbjg (s:Sm) (l:List Sm) (k:Int):zdn (s::l) k=(if s.expr==k then 1 else 0)+zdn l k:=by simp[zdn]
def inR (a k b:Nat):Nat:=if a≤k∧k<b then 1 else 0
theorem beqI {a:Int} {k:Nat}:(if a==(k:Int) then 1 else 0:Nat)=if a=(k:Int) then 1 else 0:=by
 by_cases h:a=(k:Int)
 ·rw[if_pos (by rw[beq_iff_eq];exact h),if_pos h]
 ·rw[if_neg (by rw[beq_iff_eq];exact h),if_neg h]
theorem zbmv {scr:Bool} (t:Tr):TrOk scr t→∀o k,zca (t.flat o) ((k:Nat):Int)=inR o k (o+t.size-1):=by
 induction t with
 |leaf x=>
  intro h o k
  have:zca [x] ((k:Nat):Int)=0:=by simp[zca,zuh h]
  rw[Tr.flat,this,show (Tr.leaf x).size=1 from rfl]
  unfold inR
  rw[if_neg (by omega)]
 |two m l r ihl ihr=>
  rintro⟨hm,hl,hr⟩ o k
  have p1:=l.pos
  have p2:=r.pos
  have h2:twoK m=true:=by rcases hm with rfl|rfl|rfl<;>rfl
  have e:zca [⟨m,0,sNone,sNone,((o+l.size:Nat):Int)-1,((o+l.size+r.size:Nat):Int)-1⟩] ((k:Nat):Int)=(if (((o+l.size:Nat):Int)-1)=(k:Int) then 1 else 0)+(if (((o+l.size+r.size:Nat):Int)-1)=(k:Int) then 1 else 0):=by
   rw[←beqI,←beqI]
   simp[zca,h2]
  rw[Tr.flat,zqq,zqq,ihl hl,ihr hr,e,show (Tr.two m l r).size=l.size+r.size+1 from rfl]
  unfold inR
  split<;>split<;>split<;>split<;>split<;>omega
theorem zbqk {scr:Bool} (l:List SI): ∀o k,(∀s∈l,SOk scr s)→zca (exS l o) ((k:Nat):Int)+zdn (stS l o) ((k:Nat):Int)=inR o k (o+(exS l o).length):=by
 induction l with
 |nil=>
  intro o k _
  show 0+0=inR o k (o+0)
  unfold inR
  rw[if_neg (by omega)]
 |cons s l ih=>
  intro o k h
  have p:=s.t.pos
  have h1:=ih (o+s.t.size) k fun x hx=>h x (by simp[hx])
  rw[exS,stS,zqq,zbjg,zbmv s.t (h s (by simp)).tree.1,beqI,List.length_append,Tr.flat_len]
  simp only
  have e:inR o k (o+s.t.size-1)+(if (((o+s.t.size:Nat):Int)-1)=(k:Int) then 1 else 0)+inR (o+s.t.size) k (o+s.t.size+(exS l (o+s.t.size)).length)=inR o k (o+(s.t.size+(exS l (o+s.t.size)).length)):=by
   unfold inR
   split<;>split<;>split<;>split<;>omega
  rw[←e,←h1]
  omega
theorem zbwp (l:List SI): ∀o s,s∈stS l o→0≤s.expr∧s.expr<((o+(exS l o).length:Nat):Int):=by
 induction l with
 |nil=>intro o s h;cases h
 |cons x l ih=>
  intro o s h
  have p:=x.t.pos
  rw[exS,List.length_append,Tr.flat_len]
  rcases List.mem_cons.1 h with rfl|h
  ·simp only;omega
  ·have:=ih _ s h
   omega
theorem zbci {scr:Bool} {q:PS} {sts:List SI} (h:PI scr q sts):Tree (mdOf q):=by
 refine⟨fun i x hx k=>?_,fun s hs=>?_,fun k hk=>?_⟩
 ·have:=zbmu sts 0 h.ok i x (by rw[←h.ex];exact hx) k
  rw[Nat.zero_add] at this
  exact this
 ·have:=zbwp sts 0 s (by rw[←h.st];exact hs)
  rw[Nat.zero_add,←h.ex] at this
  exact this
 ·have:=zbqk sts 0 k h.ok
  rw[←h.ex,←h.st,Nat.zero_add] at this
  show zca q.ex _+zdn q.st _=1
  rw[this]
  unfold inR
  rw[if_pos ⟨Nat.zero_le _,hk⟩]
def zcq {α:Type} (c:α→Nat) (l:List α):Nat:=(l.map c).sum
def zlu (x:ByteArray):Nat:=x.size
def zkz (x:Im):Nat:=x.spec.size+x.first.size+x.loc.size
def zla (x:Ep):Nat:=x.name.size+x.loc.size+x.spec.size
def zpj (x:Sm):Nat:=x.name.size
def znr (x:Ex):Nat:=x.name.size+x.field.size
def zbai (m:Md):Nat:=(m.rq.length+zcq zlu m.rq)+(m.im.length+zcq zkz m.im)+(m.ep.length+zcq zla m.ep)+(m.st.length+zcq zpj m.st)+(m.ex.length+zcq znr m.ex)
theorem zml {α:Type} (f:α→ByteArray) (l:List α): ∀t:ByteArray,(acc f l t).size=t.size+(l.map fun x=>(f x).size).sum:=by
 induction l with
 |nil=>intro t;rfl
 |cons x l ih=>
  intro t
  show (acc f l (t++f x)).size=_
  rw[ih,ByteArray.size_append,List.map_cons,List.sum_cons,Nat.add_assoc]
theorem zta {α:Type} {f c:α→Nat} (l:List α) (h: ∀x∈l,f x≤40+c x):(l.map f).sum≤40*l.length+zcq c l:=by
 induction l with
 |nil=>exact Nat.le_refl _
 |cons x l ih=>
  have h1:=h x (List.mem_cons_self ..)
  have h2:=ih fun y hy=>h y (List.mem_cons_of_mem _ hy)
  unfold zcq at*
  rw[List.map_cons,List.sum_cons,List.map_cons,List.sum_cons,List.length_cons]
  omega
theorem zbcj {α:Type} {f c g:α→Nat} (l:List α) (h: ∀x∈l,f x≤40+c x+g x):(l.map f).sum≤40*l.length+zcq c l+(l.map g).sum:=by
 induction l with
 |nil=>exact Nat.le_refl _
 |cons x l ih=>
  have h1:=h x (List.mem_cons_self ..)
  have h2:=ih fun y hy=>h y (List.mem_cons_of_mem _ hy)
  unfold zcq at*
  rw[List.map_cons,List.sum_cons,List.map_cons,List.sum_cons,List.map_cons,List.sum_cons,List.length_cons]
  omega
theorem zfy (a:Array UInt8):(⟨a⟩:ByteArray).size=a.size:=rfl
theorem zin (s:ByteArray):(zda s).size=s.size+2:=by
 rw[zda,ByteArray.size_append,ByteArray.size_append,zfy]
 show 1+s.size+1=_
 omega
theorem zbck (a b:ByteArray):(asT a b).size≤a.size+b.size+4:=by
 unfold asT
 split
 ·omega
 ·have z:(({data:=#[32,97,115,32]}:ByteArray)).size=4:=rfl
  rw[ByteArray.size_append,ByteArray.size_append,z]
  omega
theorem zbql (s:ByteArray):(rqT s).size≤40+zlu s:=by
 rw[rqT,ByteArray.size_append,ByteArray.size_append,zin,zfy,zfy]
 show 7+(s.size+2)+2≤40+s.size
 omega
theorem zbqm (x:Im):(impT x).size≤40+zkz x:=by
 have ha:=zbck x.first x.loc
 unfold impT zkz
 split
 ·simp only[ByteArray.size_append,zin,zfy]
  simp only[List.size_toArray,List.length_cons,List.length_nil]
  omega
 ·split
  ·simp only[ByteArray.size_append,zin,zfy]
   simp only[List.size_toArray,List.length_cons,List.length_nil]
   omega
  ·simp only[ByteArray.size_append,zin,zfy]
   simp only[List.size_toArray,List.length_cons,List.length_nil]
   omega
theorem zbqn (x:Ep):(epF x).size≤40+zla x:=by
 have ha:=zbck x.loc x.name
 unfold epF
 split
 ·exact Nat.zero_le _
 ·unfold expT zla
  split
  ·simp only[ByteArray.size_append,zin,zfy]
   simp only[List.size_toArray,List.length_cons,List.length_nil]
   omega
  ·split
   ·simp only[ByteArray.size_append,zin,zfy]
    simp only[List.size_toArray,List.length_cons,List.length_nil]
    omega
   ·simp only[ByteArray.size_append,zfy]
    simp only[List.size_toArray,List.length_cons,List.length_nil]
    omega
theorem zvz (k:Int) (n e:ByteArray):(zmx k n e).size≤40+n.size+e.size:=by
 unfold zmx
 repeat' split
 all_goals
  simp only[ByteArray.size_append,zfy]
  simp only[List.size_toArray,List.length_cons,List.length_nil]
  omega
theorem zbez (k:Int) (n e:ByteArray):(zjn k n e).size≤40+n.size+e.size:=by
 unfold zjn
 split
 ·simp only[ByteArray.size_append,zfy]
  simp only[List.size_toArray,List.length_cons,List.length_nil]
  omega
 ·exact zvz k n e
theorem zbqo (l:List Ex):(l.map cost).sum≤40*l.length+zcq znr l:=zta l fun x _=>by unfold cost znr;omega
theorem zbfa (m:Md):(zme m).size≤40*m.rq.length+zcq zlu m.rq+(40*m.im.length+zcq zkz m.im)+(40*m.ep.length+zcq zla m.ep):=by
 have h1:=zta (c:=zlu) m.rq fun x _=>zbql x
 have h2:=zta (c:=zkz) m.im fun x _=>zbqm x
 have h3:=zta (c:=zla) m.ep fun x _=>zbqn x
 rw[zme,zml,zml,zml]
 have:sNone.size=0:=rfl
 omega
theorem zbjh {m:Md} (t:Tree m) (hn:Nums m.ex):(zje m).size≤40*zbai m∧(zhl m).size≤40*zbai m:=by
 have h3:=zbfa m
 have ht:=zbib t hn
 have hx:=zbqo m.ex
 have hS:=zbcj (c:=zpj) (g:=fun s=>wt m.ex s.expr.toNat) (f:=fun s=>(stF m.ex s).size) m.st fun s _=>zvz s.kind s.name _
 have hI:=zbcj (c:=zpj) (g:=fun s=>wt m.ex s.expr.toNat) (f:=fun s=>(stFI m.ex s).size) m.st fun s _=>zbez s.kind s.name _
 have hc:zbai m=(m.rq.length+zcq zlu m.rq)+(m.im.length+zcq zkz m.im)+(m.ep.length+zcq zla m.ep)+(m.st.length+zcq zpj m.st)+(m.ex.length+zcq znr m.ex):=rfl
 constructor
 ·rw[zje,zml]
  omega
 ·rw[zhl,zml]
  omega
end Go.Proofs.YtlnohpdiiileeaaGreat
