/-
  A tree's text,out of the row that it stands in; how often each expression of a tree is used. No program is spoken of.
  What was read: each statement a tree,each name and each request as it may stand. No program is spoken of.
  The lines of a program's text,as tokens,and that each is read as what it is of. No program is spoken of.
  Lines one behind the other are read. No program is spoken of.
  The text of a program that was read,as tokens; it is read from it. No program is spoken of.
  A program that was read has no name longer than its text,and no number that is great. No program is spoken of.
  Where a text is refused lies in it; a text put together of a text's tokens again. No program is spoken of.
  In what was read each expression is used once. No program is spoken of.
  What the laws count of a program,as plain functions. No program is spoken of.
  A program that is small has a text that is small. No program is spoken of.
-/
import Derived.Test.YthfeoomfiafldaaGreatCdDrawProgAToPrintText
namespace Go.Proofs.YthfeoomfiafldaaGreat
open Go.RowKit Go.PlainAid
def Tr.root:Tr→Nat→Ex:=Tr.para (fun x _=>x) fun k l r _ _ o=>⟨k,0,sNone,sNone,((o+l.size:Nat):Int)-1,((o+l.size+r.size:Nat):Int)-1⟩
theorem Tr.root_two (k:Int) (l r:Tr) (o:Nat):(Tr.two k l r).root o=⟨k,0,sNone,sNone,((o+l.size:Nat):Int)-1,((o+l.size+r.size:Nat):Int)-1⟩:=congrFun (Tr.para_two ..) o
theorem Tr.flat_last (t:Tr) (o:Nat): ∃i,t.flat o=i++[t.root o]∧i.length+1=t.size:=by
 cases t using Tr.elim with
 |leaf x=>exact⟨[],rfl,rfl⟩
 |two k l r=>exact⟨l.flat o++r.flat (o+l.size),by simp[flat_two,root_two],by simp only[List.length_append,flat_len,size_two]⟩
theorem Tr.root_kind (t:Tr) (o:Nat):(t.root o).kind=t.kind:=by
 cases t using Tr.elim with
 |leaf x=>rfl
 |two k l r=>rw[root_two,kind_two]
theorem zgO (A B:List Ex) (t:Tr):(A++(t.flat A.length++B)).getD (A.length+t.size-1) zn=t.root A.length:=by
 obtain⟨i,j,o⟩:=t.flat_last A.length
 rw[j]
 simp only[List.getD]
 rw[show A.length+t.size-1=A.length+i.length from by omega,List.getElem?_append_right (by omega),Nat.add_sub_cancel_left,List.append_assoc,List.getElem?_append_right (by omega),Nat.sub_self]
 rfl
theorem zfN (a b:ByteArray):(a++b).data.toList=a.data.toList++b.data.toList:=by
 rw[ByteArray.data_append,Array.toList_append]
theorem zk5 (b:Bool) (t:ByteArray) (l:List Pc) (h:t.data.toList=zL l):(zai b t).data.toList=zL (zaG b l):=by
 unfold zai zaG
 split
 ·simp[h,zL,zbY,zaw,zi]
 ·exact h
theorem zp5 {k:Int} (h:k=6∨k=7∨k=8) (a c:ByteArray) (P Q:List Pc) (j:a.data.toList=zL P) (o:c.data.toList=zL Q):
  (a++(if k==6 then tPlus else if k==7 then tMinus else tStar)++c).data.toList=zL (P++(.inr sp1:: .inl (zi (opP k)):: .inr sp1::Q)):=by
 rcases h with rfl|rfl|rfl<;>simp[j,o,zL,zbY,zaw,zi,opP]
theorem zp6 {scr:Bool} (t:Tr):TrOk scr t→∀(A B:List Ex) (f:Nat),t.size≤f→(prE (A++(t.flat A.length++B)) f (A.length+t.size-1)).data.toList=zL t.pcs:=by
 induction t using Tr.ind with
 |leaf x=>
  intro o A B f D
  obtain⟨f,rfl⟩: ∃g,f=g+1:=⟨f-1,by simp only[Tr.size_leaf] at D;omega⟩
  rw[prE]
  simp only[zgO]
  rw[show (Tr.leaf x).root A.length=x from rfl,show (Tr.leaf x).pcs=zbi x from rfl]
  cases o using LeafOk.elim with
  |num X U=>simp[zbi,zL,zaw]
  |name h=>simp[zbi,zL,zaw,zl]
  |call h=>simp[zbi,zL,zaw,zl,zi]
  |mem h D=>simp[zbi,zL,zaw,zl,zi]
  |memCall h D=>simp[zbi,zL,zaw,zl,zi]
 |two k l r I H=>
  intro o A B f D
  rw[TrOk.two] at o
  obtain⟨J,Q,N⟩:=o
  obtain⟨f,rfl⟩: ∃g,f=g+1:=⟨f-1,by simp only[Tr.size_two] at D;omega⟩
  simp only[Tr.size_two] at D
  have K:A++((Tr.two k l r).flat A.length++B)=A++(l.flat A.length++(r.flat (A.length+l.size)++((Tr.two k l r).root A.length::B))):=by simp[Tr.flat_two,Tr.root_two]
  have O:A++((Tr.two k l r).flat A.length++B)=(A++l.flat A.length)++(r.flat (A++l.flat A.length).length++((Tr.two k l r).root A.length::B)):=by rw[K,List.length_append,Tr.flat_len];simp
  have Y:=l.pos
  have V:=r.pos
  have z:=I Q A (r.flat (A.length+l.size)++((Tr.two k l r).root A.length::B)) f (by omega)
  have j:=H N (A++l.flat A.length) ((Tr.two k l r).root A.length::B) f (by omega)
  have L:=zgO A (r.flat (A.length+l.size)++((Tr.two k l r).root A.length::B)) l
  have E:=zgO (A++l.flat A.length) ((Tr.two k l r).root A.length::B) r
  rw[←K] at z L
  rw[←O] at j E
  rw[List.length_append,Tr.flat_len] at j E
  rw[prE]
  simp only[zgO]
  have M:((Tr.two k l r).root A.length).l.toNat=A.length+l.size-1:=by rw[Tr.root_two];show (((A.length+l.size:Nat):Int)-1).toNat=_;omega
  have er:((Tr.two k l r).root A.length).r.toNat=A.length+l.size+r.size-1:=by rw[Tr.root_two];show (((A.length+l.size+r.size:Nat):Int)-1).toNat=_;omega
  rw[M,er,L,E,Tr.root_kind l,Tr.root_kind r,Tr.root_kind,Tr.kind_two,Tr.pcs_two]
  generalize prE (A++((Tr.two k l r).flat A.length++B)) f (A.length+l.size-1)=tl at z ⊢
  generalize prE (A++((Tr.two k l r).flat A.length++B)) f (A.length+l.size+r.size-1)=tr at j ⊢
  have:=zp5 J (zai (k==8&&zA l.kind) tl) (zai (if k==8 then zO r.kind else zA r.kind) tr) _ _ (zk5 _ tl _ z) (zk5 _ tr _ j)
  rw[←this]
  rcases J with rfl|rfl|rfl<;>rfl
theorem zp7 {scr:Bool} {t:Tr} (h:TrOk scr t) (A B:List Ex):(prX (A++(t.flat A.length++B)) (A.length+t.size-1)).data.toList=zL t.pcs:=zp6 t h A B _ (by have:=t.pos;omega)
theorem zp8 {scr:Bool} {x:Ex} (h:LeafOk scr x):GoodP scr (zbi x)∧adj false (zbi x):=by
 have o: ∀c:UInt8,zaM (ib c)→GoodT scr ⟨4,{data:=#[c]},0⟩:=fun c K=>.sign (c:=c) rfl K
 have I:GoodT scr (zi cOpen):=o 40 (by decide)
 have D:GoodT scr (zi zU):=o 41 (by decide)
 have E:GoodT scr (zi cPoint):=o 46 (by decide)
 have H: ∀x,zdO scr x→GoodT scr (zl x):=by
  rintro x (h|⟨hs,rfl⟩)
  ·exact h.1
  ·exact .name (c:=117) (cs:=[110,100,101,102]) rfl (by rw[hs];decide) (by rw[hs];decide)
 cases h using LeafOk.elim with
 |num L J=>exact⟨fun p j=>by simp[zbi] at j;subst j;exact .num L J,by simp[zbi,adj]⟩
 |name h=>exact⟨fun p j=>by simp[zbi] at j;subst j;exact H _ h,by simp[zbi,adj]⟩
 |call h=>exact⟨fun p j=>by simp[zbi] at j;rcases j with rfl|rfl|rfl<;>first|exact H _ h|exact I|exact D,by simp[zbi,adj,zaZ,zi]⟩
 |mem h z=>exact⟨fun p j=>by simp[zbi] at j;rcases j with rfl|rfl|rfl<;>first|exact h.1|exact E|exact z.1,by simp[zbi,adj,zaZ,zi]⟩
 |memCall h z=>exact⟨fun p j=>by simp[zbi] at j;rcases j with rfl|rfl|rfl|rfl|rfl<;>first|exact h.1|exact E|exact z.1|exact I|exact D,by simp[zbi,adj,zaZ,zi]⟩
theorem zgP {scr:Bool} {x:ByteArray} (h:x=cOpen∨x=zU∨x=cPoint∨x=zp∨x=zbq∨x=zaI∨x=zbv∨x=cSemi∨x=cEq∨x=zF∨x=zaJ):GoodT scr (zi x):=by
 have o: ∀c:UInt8,zaM (ib c)→GoodT scr ⟨4,{data:=#[c]},0⟩:=fun c j=>.sign (c:=c) rfl j
 rcases h with rfl|rfl|rfl|rfl|rfl|rfl|rfl|rfl|rfl|rfl|rfl<;>exact o _ (by decide)
theorem zk6 {scr b:Bool} {l:List Pc} (h:GoodP scr l∧adj false l):GoodP scr (zaG b l)∧adj false (zaG b l):=by
 unfold zaG
 split
 ·refine⟨fun p j=>?_,⟨(fun k=>by cases k),zkc (zkd (b:=[]) rfl trivial) _ h.2⟩⟩
  simp only[List.mem_cons,List.mem_append,List.not_mem_nil,or_false] at j
  rcases j with rfl|j|rfl
  ·exact zgP (by simp)
  ·exact h.1 p j
  ·exact zgP (by simp)
 ·exact h
theorem zfd {scr:Bool} (t:Tr):TrOk scr t→GoodP scr t.pcs∧adj false t.pcs:=by
 induction t using Tr.ind with
 |leaf x=>exact zp8
 |two k l r z o=>
  rw[TrOk.two,Tr.pcs_two]
  rintro⟨E,H,D⟩
  have a:=zk6 (b:=k==8&&zA l.kind) (z H)
  have c:=zk6 (b:=if k==8 then zO r.kind else zA r.kind) (o D)
  have I:GoodT scr (zi (opP k)):=by rcases E with rfl|rfl|rfl<;>exact zgP (by simp[opP])
  refine⟨a.1.app fun p j=>?_,zkc (zke ?_) _ a.2⟩
  ·simp only[List.mem_cons] at j
   rcases j with rfl|rfl|rfl|j
   ·exact .inl rfl
   ·exact I
   ·exact .inl rfl
   ·exact c.1 p j
  ·exact zkd rfl (zke c.2 _) _
theorem zk7 (b:Bool) (l:List Pc):(zg (zaG b l)).length≤(zg l).length+2:=by
 rw[zkx]
 split
 ·simp
 ·omega
theorem zp9 (t:Tr):(zg t.pcs).length≤5*t.size:=by
 induction t using Tr.ind with
 |leaf x=>
  simp only[Tr.pcs_leaf,zbi,Tr.size_leaf]
  repeat' split
  all_goals simp[zg]
 |two k l r j o=>
  rw[zig,List.length_append,List.length_cons]
  have z:=zk7 (k==8&&zA l.kind) l.pcs
  have D:=zk7 (if k==8 then zO r.kind else zA r.kind) r.pcs
  simp only[Tr.size_two]
  omega
structure SI where
 kind:Int
 name:ByteArray
 t:Tr
def exS:List SI→Nat→List Ex
 |[],_=>[]
 |s::l,o=>s.t.flat o++exS l (o+s.t.size)
def stS:List SI→Nat→List Sm
 |[],_=>[]
 |s::l,o=>⟨s.kind,s.name,((o+s.t.size:Nat):Int)-1⟩::stS l (o+s.t.size)
abbrev dEp:Ep:=⟨1,sDefault,zbp,sNone⟩
def isD (n:ByteArray):Bool:=n.toList==[42,100,101,102,97,117,108,116]
def laS:List SI→List Ep
 |[]=>[]
 |s::l=>(if isD s.name then [dEp] else [])++laS l
theorem zpA (l m:List SI): ∀o,exS (l++m) o=exS l o++exS m (o+(exS l o).length):=by
 induction l with
 |nil=>intro o;rfl
 |cons s l j=>intro o;simp only[List.cons_append,exS,j,List.append_assoc,List.length_append,Tr.flat_len,Nat.add_assoc]
theorem zpB (l m:List SI): ∀o,stS (l++m) o=stS l o++stS m (o+(exS l o).length):=by
 induction l with
 |nil=>intro o;rfl
 |cons s l j=>intro o;simp only[List.cons_append,stS,exS,j,List.length_append,Tr.flat_len,Nat.add_assoc]
theorem zpC (l m:List SI):laS (l++m)=laS l++laS m:=by
 induction l with
 |nil=>rfl
 |cons s l j=>simp only[List.cons_append,laS,j,List.append_assoc]
def SOk (scr:Bool) (s:SI):Prop:=(TrOk scr s.t∧s.t.dp≤20)∧((NameG scr s.name∧(s.kind=1∨s.kind=2∨s.kind=3))∨(scr=false∧s.kind=1∧s.name=zbp)∨(s.name=sNone∧(s.kind=4∨s.kind=5∨(scr=true∧s.kind=6))))
theorem SOk.lt {scr:Bool} {n:ByteArray} {t:Tr} (j:NameG scr n) (o:TrOk scr t) (hd:t.dp≤20):SOk scr ⟨1,n,t⟩:=⟨⟨o,hd⟩,.inl ⟨j,.inl rfl⟩⟩
theorem SOk.dflt {scr:Bool} {t:Tr} (j:scr=false) (o:TrOk scr t) (hd:t.dp≤20):SOk scr ⟨1,zbp,t⟩:=⟨⟨o,hd⟩,.inr (.inl ⟨j,rfl,rfl⟩)⟩
theorem SOk.fn {scr:Bool} {n:ByteArray} {t:Tr} (j:NameG scr n) (o:TrOk scr t) (hd:t.dp≤20):SOk scr ⟨2,n,t⟩:=⟨⟨o,hd⟩,.inl ⟨j,.inr (.inl rfl)⟩⟩
theorem SOk.set {scr:Bool} {n:ByteArray} {t:Tr} (j:NameG scr n) (o:TrOk scr t) (hd:t.dp≤20):SOk scr ⟨3,n,t⟩:=⟨⟨o,hd⟩,.inl ⟨j,.inr (.inr rfl)⟩⟩
theorem SOk.prt {scr:Bool} {t:Tr} (j:TrOk scr t) (hd:t.dp≤20):SOk scr ⟨4,sNone,t⟩:=⟨⟨j,hd⟩,.inr (.inr ⟨rfl,.inl rfl⟩)⟩
theorem SOk.thr {scr:Bool} {t:Tr} (j:TrOk scr t) (hd:t.dp≤20):SOk scr ⟨5,sNone,t⟩:=⟨⟨j,hd⟩,.inr (.inr ⟨rfl,.inr (.inl rfl)⟩)⟩
theorem SOk.fail {scr:Bool} {t:Tr} (j:scr=true) (o:TrOk scr t) (hd:t.dp≤20):SOk scr ⟨6,sNone,t⟩:=⟨⟨o,hd⟩,.inr (.inr ⟨rfl,.inr (.inr ⟨j,rfl⟩)⟩)⟩
theorem SOk.elim {scr:Bool} {motive:(s:SI)→SOk scr s→Prop} {s:SI} (h:SOk scr s) (lt: ∀{n:ByteArray} {t:Tr} (hn:NameG scr n) (ht:TrOk scr t) (hd:t.dp≤20),motive _ (.lt hn ht hd)) (dflt: ∀{t:Tr} (hs:scr=false) (ht:TrOk scr t) (hd:t.dp≤20),motive _ (.dflt hs ht hd)) (fn: ∀{n:ByteArray} {t:Tr} (hn:NameG scr n) (ht:TrOk scr t) (hd:t.dp≤20),motive _ (.fn hn ht hd)) (set: ∀{n:ByteArray} {t:Tr} (hn:NameG scr n) (ht:TrOk scr t) (hd:t.dp≤20),motive _ (.set hn ht hd)) (prt: ∀{t:Tr} (ht:TrOk scr t) (hd:t.dp≤20),motive _ (.prt ht hd)) (thr: ∀{t:Tr} (ht:TrOk scr t) (hd:t.dp≤20),motive _ (.thr ht hd)) (fail: ∀{t:Tr} (hs:scr=true) (ht:TrOk scr t) (hd:t.dp≤20),motive _ (.fail hs ht hd)):motive s h:=by
 obtain⟨k,n,t⟩:=s
 obtain⟨⟨ht,hd⟩,h⟩:=h
 simp only at h ht hd
 rcases h with ⟨hn,rfl|rfl|rfl⟩|⟨hs,rfl,rfl⟩|⟨rfl,rfl|rfl|⟨hs,rfl⟩⟩
 ·exact lt hn ht hd
 ·exact fn hn ht hd
 ·exact set hn ht hd
 ·exact dflt hs ht hd
 ·exact prt ht hd
 ·exact thr ht hd
 ·exact fail hs ht hd
theorem SOk.tree {scr:Bool} {s:SI} (h:SOk scr s):TrOk scr s.t∧s.t.dp≤20:=h.1
structure ImOk (scr:Bool) (rq:List ByteArray) (x:Im):Prop where
 spec:x.spec∈rq
 loc:NameG scr x.loc
 first:x.first=zp∨FieldG scr x.first
def EpOk (scr:Bool) (rq:List ByteArray) (e:Ep):Prop:=(∃n l,FieldG scr n∧NameG scr l∧e=⟨1,n,l,sNone⟩)∨(∃n l s,FieldG scr n∧FieldG scr l∧s∈rq∧e=⟨2,n,l,s⟩)∨(∃s,s∈rq∧e=⟨3,sNone,sNone,s⟩)
theorem EpOk.loc {scr:Bool} {rq:List ByteArray} {n l:ByteArray} (j:FieldG scr n) (o:NameG scr l):EpOk scr rq ⟨1,n,l,sNone⟩:=.inl ⟨n,l,j,o,rfl⟩
theorem EpOk.frm {scr:Bool} {rq:List ByteArray} {n l s:ByteArray} (j:FieldG scr n) (z:FieldG scr l) (o:s∈rq):EpOk scr rq ⟨2,n,l,s⟩:=.inr (.inl ⟨n,l,s,j,z,o,rfl⟩)
theorem EpOk.star {scr:Bool} {rq:List ByteArray} {s:ByteArray} (j:s∈rq):EpOk scr rq ⟨3,sNone,sNone,s⟩:=.inr (.inr ⟨s,j,rfl⟩)
theorem EpOk.elim {scr:Bool} {rq:List ByteArray} {motive:(e:Ep)→EpOk scr rq e→Prop} {e:Ep} (h:EpOk scr rq e) (loc: ∀{n l:ByteArray} (hn:FieldG scr n) (hl:NameG scr l),motive _ (.loc hn hl)) (frm: ∀{n l s:ByteArray} (hn:FieldG scr n) (hl:FieldG scr l) (hs:s∈rq),motive _ (.frm hn hl hs)) (star: ∀{s:ByteArray} (hs:s∈rq),motive _ (.star hs)):motive e h:=by
 rcases h with ⟨n,l,hn,hl,rfl⟩|⟨n,l,s,hn,hl,hs,rfl⟩|⟨s,hs,rfl⟩
 ·exact loc hn hl
 ·exact frm hn hl hs
 ·exact star hs
structure PI (scr:Bool) (q:PS) (sts:List SI):Prop where
 ex:q.ex=exS sts 0
 st:q.st=stS sts 0
 la:q.la=laS sts
 ok: ∀s∈sts,SOk scr s
 rq: ∀x∈q.rq,GoodT scr ⟨3,x,0⟩
 nd:q.rq.Nodup
 im: ∀x∈q.im,ImOk scr q.rq x
 ep: ∀x∈q.ep,EpOk scr q.rq x
 nrq:q.rq.length≤40
 nim:q.im.length≤40
 nep:q.ep.length+q.la.length≤40
 nst:q.st.length≤80
 nex:q.ex.length≤300
 scrr:scr=true→q.rq=[]∧q.im=[]∧q.ep=[]
structure Sm6 (q q':PS):Prop where
 five:Sm5 q q'
 ex:q'.ex=q.ex
theorem Sm6.refl (q:PS):Sm6 q q:=⟨Sm5.refl q,rfl⟩
theorem Sm6.trans {a b c:PS} (h:Sm6 a b) (k:Sm6 b c):Sm6 a c:=⟨h.five.trans k.five,k.ex.trans h.ex⟩
theorem Sm6.adv (q:PS):Sm6 q (adv q):=⟨Sm5.adv q,rfl⟩
theorem zaz {C:Cx} {k:Int} {x:ByteArray} {q q':PS} (h:zd C k x q= .ok q'):Sm6 q q':=by
 obtain⟨rfl,_⟩:=zbh h
 exact Sm6.adv q
theorem zey {C:Cx} {o:Bool} {q:PS} {y:PS×ByteArray} (h:zk C o q= .ok y):Sm6 q y.1:=by
 obtain⟨rfl,_⟩:=zaX h
 exact Sm6.adv q
theorem zfe {C:Cx} (o:zb2 C) {q:PS} {y:PS×ByteArray} (h:zk C false q= .ok y):NameG C.scr y.2:=by
 obtain⟨rfl,j⟩:=zaX h
 exact zib o j
theorem zk8 {C:Cx} (z:zb2 C) {o:Bool} {q:PS} {y:PS×ByteArray} (h:zk C o q= .ok y):FieldG C.scr y.2:=by
 obtain⟨rfl,j⟩:=zaX h
 exact zko z j
theorem NameG.field {scr:Bool} {x:ByteArray} (h:NameG scr x):FieldG scr x:=⟨h.1,.inl h.2⟩
theorem FieldG.name {scr:Bool} {x:ByteArray} (h:FieldG scr x) (j:(x.toList==[100,101,102,97,117,108,116])=false):NameG scr x:=by
 refine⟨h.1,h.2.elim id fun k=>?_⟩
 rw[k] at j
 cases j
theorem zcy {scr:Bool} {x:ByteArray} (h:FieldG scr x):isD x=false:=by
 unfold isD
 rw[Lib.toList_data]
 generalize j:(⟨1,x,0⟩:Tn)=T at h
 have o:=h.1
 rw[j] at o
 cases o using GoodT.elim with
 | @name y c E D z _=>
  cases j
  rw[D]
  refine beq_eq_false_iff_ne.2 fun e=>?_
  injection e with e1 _
  rw[e1] at z
  revert z
  cases scr<;>decide
 |num _ _=>cases j
 |str _ _=>cases j
 |sign _ _=>cases j
theorem PI.same {scr:Bool} {q q':PS} {D:List SI} (h:PI scr q D) (s:Sm6 q q'):PI scr q' D:=by
 obtain⟨⟨U,Z,s3,s4,X⟩,Y⟩:=s
 obtain⟨N,K,Q,V,L,O,I,J,M,H,o,E,z,j⟩:=h
 rw[←Y] at N z
 rw[←s4] at K E
 rw[←X] at Q o
 rw[←U] at L O I J M j
 rw[←Z] at I H j
 rw[←s3] at J o j
 exact⟨N,K,Q,V,L,O,I,J,M,H,o,E,z,j⟩
theorem PI.stmt {scr:Bool} {q q1 q':PS} {z:List SI} {k:Int} {n:ByteArray} {t:Tr} (h:PI scr q z) (s:Sm5 q q1) (N:q1.ex=q.ex++t.flat q.ex.length) (hl:q1.ex.length≤300) (M:q'.ex=q1.ex) (J:q'.st=q1.st++[⟨k,n,(q1.ex.length:Int)-1⟩]) (j:q1.st.length<80)
  (o:q'.rq=q1.rq) (E:q'.im=q1.im) (K:q'.ep=q1.ep) (L:q'.la=q1.la++if isD n then [dEp] else []) (hn:q'.ep.length+q'.la.length≤40) (ok:SOk scr ⟨k,n,t⟩):PI scr q' (z++[⟨k,n,t⟩]):=by
 obtain⟨X,s2,s3,s4,s5⟩:=s
 obtain⟨O,Y,a3,a4,a5,a6,U,Z,a9,I,V,aa,Q,H⟩:=h
 rw[X] at o
 rw[s2] at E
 rw[s3] at K
 rw[s4] at J j
 rw[s5] at L
 have D:q1.ex.length=q.ex.length+t.size:=by rw[N,List.length_append,Tr.flat_len]
 refine⟨?_,?_,?_,?_,by rw[o];exact a5,by rw[o];exact a6,by rw[o,E];exact U,by rw[o,K];exact Z,by rw[o];exact a9,by rw[E];exact I,hn,?_,by rw[M];exact hl,by rw[o,E,K];exact H⟩
 ·rw[M,N,zpA,Nat.zero_add,←O]
  simp[exS]
 ·rw[J,zpB,Nat.zero_add,←O,←Y,D]
  rfl
 ·rw[L,zpC,←a3]
  simp[laS]
 ·intro s j
  rcases List.mem_append.1 j with j|j
  ·exact a4 s j
  ·rw[List.mem_singleton] at j
   rw[j]
   exact ok
 ·rw[J,List.length_append,List.length_cons,List.length_nil]
  omega
theorem zk9 {C:Cx} {k:Int} {n:ByteArray} {q q':PS} (h:zE C k n q= .ok q'):q'={q with st:=q.st++[⟨k,n,(q.ex.length:Int)-1⟩]}∧q.st.length<80:=by
 unfold zE at h
 split at h
 ·cases h
 ·cases h;exact⟨rfl,by omega⟩
theorem zpD {C:Cx} {x:Im} {q q':PS} (h:zW C x q= .ok q'):q'={q with im:=q.im++[x]}∧q.im.length<40:=by
 unfold zW at h
 split at h
 ·cases h
 ·cases h;exact⟨rfl,by omega⟩
theorem zpE {C:Cx} {x:Ep} {q q':PS} (h:zm C x q= .ok q') (j:isD x.loc=false):q'={q with ep:=q.ep++[x]}∧q.ep.length+q.la.length<40:=by
 unfold zm at h
 split at h
 ·cases h
 ·rw[if_neg (by unfold isD at j;rw[j];decide)] at h
  cases h;exact⟨rfl,by omega⟩
theorem zdQ:isD zbp=true:=by unfold isD;rw[Lib.toList_data];rfl
theorem zpF {C:Cx} {q q':PS} (h:zm C dEp q= .ok q'):q'={q with la:=q.la++[dEp]}∧q.ep.length+q.la.length<40:=by
 unfold zm at h
 split at h
 ·cases h
 ·rw[if_pos (by have:=zdQ;unfold isD at this;exact this)] at h
  cases h;exact⟨rfl,by omega⟩
theorem zff {C:Cx} (N:zb2 C) {q I q1 o H:PS} {D:List SI} {k:Int} {n:ByteArray} (h:PI C.scr q D) (J:Sm6 q I) (L:pE C .sum 0 I= .ok q1) (z:Sm6 q1 o) (V:zE C k n o= .ok H) (X:isD n=false) (Q: ∀t,TrOk C.scr t→t.dp≤20→SOk C.scr ⟨k,n,t⟩): ∃j,PI C.scr H j:=by
 obtain⟨t,K,Y,M,U,Z⟩:=zkq N L
 obtain⟨rfl,O⟩:=zk9 V
 have E:=(J.five.trans U).trans z.five
 refine⟨_,h.stmt (q1:=o) (t:=t) E (by rw[z.ex,Y,J.ex]) (by rw[z.ex];exact Z) rfl rfl O rfl rfl rfl (by rw[X];simp) ?_ (Q t K M)⟩
 show o.ep.length+o.la.length≤40
 rw[E.ep,E.la]
 exact h.nep
theorem zpG {C:Cx} (O:zb2 C) {q J q1 j I H:PS} {E:List SI} (h:PI C.scr q E) (K:Sm6 q J) (M:pE C .sum 0 J= .ok q1) (D:Sm6 q1 j) (X:zE C 1 zbp j= .ok I) (hb:zm C dEp I= .ok H) (hs:C.scr=false): ∃o,PI C.scr H o:=by
 obtain⟨t,L,Y,N,V,Z⟩:=zkq O M
 obtain⟨rfl,Q⟩:=zk9 X
 obtain⟨rfl,z⟩:=zpF hb
 have U:=(K.five.trans V).trans D.five
 refine⟨_,h.stmt (q1:=j) (t:=t) U (by rw[D.ex,Y,K.ex]) (by rw[D.ex];exact Z) rfl rfl Q rfl rfl rfl (by rw[zdQ];rfl) ?_ (.dflt hs L N)⟩
 show j.ep.length+(j.la++[dEp]).length≤40
 rw[List.length_append,List.length_cons,List.length_nil]
 have aa:j.ep.length+j.la.length<40:=z
 omega
theorem zgQ {l:List ByteArray} {x:ByteArray}:zbe l x=true↔x∈l:=by
 unfold zbe
 rw[List.any_eq_true]
 constructor
 ·rintro⟨y,j,o⟩
  rw[←(zeF _ _).1 o]
  exact j
 ·intro h
  exact⟨x,h,beq_self_eq_true _⟩
structure MoreR (scr:Bool) (q q':PS):Prop where
 old: ∀x∈q.rq,x∈q'.rq
 good: ∀x∈q'.rq,GoodT scr ⟨3,x,0⟩
 nd:q'.rq.Nodup
 few:q'.rq.length≤40
 im:q'.im=q.im
 ep:q'.ep=q.ep
 st:q'.st=q.st
 ex:q'.ex=q.ex
 la:q'.la=q.la
theorem PI.more {scr:Bool} {q q':PS} {o:List SI} (h:PI scr q o) (m:MoreR scr q q') (hs:scr=false):PI scr q' o:=by
 obtain⟨a1,Z,a3,a4,a5,a6,E,a8,a9,L,H,I,z,aa⟩:=h
 obtain⟨D,m2,Y,X,V,O,U,N,Q⟩:=m
 exact⟨by rw[N];exact a1,by rw[U];exact Z,by rw[Q];exact a3,a4,m2,Y,by rw[V];exact fun x j=>⟨D _ (E x j).spec,(E x j).loc,(E x j).first⟩,
  by
   rw[O]
   intro x j
   cases a8 x j using EpOk.elim with
   |loc M K=>exact .loc M K
   |frm M K J=>exact .frm M K (D _ J)
   |star J=>exact .star (D _ J),
  X,by rw[V];exact L,by rw[O,Q];exact H,by rw[U];exact I,by rw[N];exact z,fun k=>by rw[hs] at k;cases k⟩
theorem zpH {scr:Bool} {t:Tn} (h:GoodT scr t) (j:t.kind=3):GoodT scr ⟨3,t.text,0⟩:=by
 cases h using GoodT.elim with
 |name D h o=>cases j
 |num _ _=>cases j
 |str z o=>exact .str z o
 |sign _ _=>cases j
theorem zkA {C:Cx} (L:zb2 C) {q:PS} {a:PS×ByteArray} (h:zy C q= .ok a) (D: ∀x∈q.rq,GoodT C.scr ⟨3,x,0⟩) (E:q.rq.Nodup) (M:q.rq.length≤40):MoreR C.scr q a.1∧a.2∈a.1.rq:=by
 unfold zy at h
 split at h
 ·next z=>
  have K:=zpH (zgF L (zeJ z (by decide))) (by rw[beq_iff_eq] at z;exact z)
  split at h
  ·next o=>
   cases h
   exact⟨⟨fun _ j=>j,D,E,M,rfl,rfl,rfl,rfl,rfl⟩,zgQ.1 o⟩
  ·next o=>
   split at h
   ·cases h
   ·next N=>
    cases h
    have I:(zf C q.pos).text∉q.rq:=fun k=>o (zgQ.2 k)
    refine⟨⟨fun x j=>List.mem_append_left _ j,fun x j=>?_,?_,?_,rfl,rfl,rfl,rfl,rfl⟩,by simp⟩
    ·rcases List.mem_append.1 j with j|j
     ·exact D x j
     ·rw[List.mem_singleton] at j
      rw[j]
      exact K
    ·show (q.rq++[(zf C q.pos).text]).Nodup
     rw[List.nodup_append]
     refine⟨E,by simp,fun a J b H=>?_⟩
     rw[List.mem_singleton] at H
     rw[H]
     exact fun e=>I (e▸J)
    ·show (q.rq++[(zf C q.pos).text]).length≤40
     simp
     omega
 ·cases h
theorem zfO {C:Cx} (J:zb2 C) {E q:PS} {j:List SI} {b:PS×ByteArray} (h:zaD C (zav C (.ok q))= .ok b) (M:PI C.scr E j) (U:Sm6 E q) (o:C.scr=false):PI C.scr b.1 j∧b.2∈b.1.rq:=by
 obtain⟨a,H,L⟩:=ze h
 obtain⟨c,K,O⟩:=ze L
 obtain⟨d,Q,V⟩:=ze H
 cases O
 have N:Sm6 q d:=zaz (show zd C 1 zH q= .ok d from Q)
 have z:=M.same (U.trans N)
 obtain⟨m,I⟩:=zkA J V z.rq z.nd z.nrq
 have D:=zaz K
 exact⟨(z.more m o).same D,by show a.2∈c.rq;rw[D.five.rq];exact I⟩
def zgR (scr exp:Bool) (e:Ep):Prop:=FieldG scr e.loc∧FieldG scr e.name∧(exp=false→NameG scr e.name)
theorem zpI {C:Cx} (z:zb2 C) {j:Bool} {a b:PS×ByteArray} (h:asP C j a= .ok b) (o:FieldG C.scr a.2):Sm6 a.1 b.1∧FieldG C.scr b.2∧(j=false→NameG C.scr b.2):=by
 unfold asP at h
 split at h
 ·refine⟨(Sm6.adv a.1).trans (zey h),zk8 z h,fun e=>?_⟩
  subst e
  exact zfe z h
 ·split at h
  ·cases h
  ·next D=>
   cases h
   refine⟨Sm6.refl _,o,fun e=>o.name ?_⟩
   subst e
   simpa using D
theorem zpJ {C:Cx} (J:zb2 C) {o:Bool} (f:Nat): ∀(q:PS) (acc:List Ep) (a:PS×List Ep),zbK C o f q acc= .ok a→(∀e∈acc,zgR C.scr o e)→Sm6 q a.1∧∀e∈a.2,zgR C.scr o e:=by
 induction f with
 |zero=>intro q acc a h;cases h
 |succ f M=>
  intro q acc a h D
  rw[zbK] at h
  obtain⟨b,K,V⟩:=ze h
  obtain⟨c,N,E⟩:=ze V
  have H:=zey K
  have I:=zk8 J K
  obtain⟨L,O,U⟩:=zpI J N I
  have j: ∀e∈acc++[(⟨0,c.2,b.2,sNone⟩:Ep)],zgR C.scr o e:=by
   intro e z
   rcases List.mem_append.1 z with z|z
   ·exact D e z
   ·rw[List.mem_singleton] at z
    rw[z]
    exact⟨I,O,U⟩
  split at E
  ·obtain⟨Y,Z⟩:=M _ _ _ E j
   exact⟨(H.trans L).trans ((Sm6.adv _).trans Y),Z⟩
  ·obtain⟨d,X,Q⟩:=ze E
   cases Q
   exact⟨(H.trans L).trans (zaz X),j⟩
theorem zkB {C:Cx} (D:zb2 C) {j:Bool} {q:PS} {a:PS×List Ep} (h:zbB C j q= .ok a):Sm6 q a.1∧∀e∈a.2,zgR C.scr j e:=by
 obtain⟨b,o,H⟩:=ze h
 obtain⟨z,I⟩:=zpJ D _ _ _ _ H (fun e E=>by cases E)
 exact⟨(zaz o).trans z,I⟩
theorem zik {C:Cx} {q q':PS} {o:List SI} {x:Im} (h:PI C.scr q o) (z:zW C x q= .ok q') (D:ImOk C.scr q.rq x) (E:C.scr=false):PI C.scr q' o∧q'.rq=q.rq:=by
 obtain⟨rfl,H⟩:=zpD z
 refine⟨⟨h.ex,h.st,h.la,h.ok,h.rq,h.nd,fun y j=>?_,h.ep,h.nrq,by show (q.im++[x]).length≤40;simp;omega,h.nep,h.nst,h.nex,fun k=>by rw[E] at k;cases k⟩,rfl⟩
 rcases List.mem_append.1 j with j|j
 ·exact h.im y j
 ·rw[List.mem_singleton] at j
  rw[j]
  exact D
theorem zfP {C:Cx} {q q':PS} {o:List SI} {x:Ep} (h:PI C.scr q o) (E:zm C x q= .ok q') (D:EpOk C.scr q.rq x) (J:C.scr=false):PI C.scr q' o∧q'.rq=q.rq:=by
 have hd:isD x.loc=false:=by
  cases D using EpOk.elim with
  |loc H z=>exact zcy z.field
  |frm H z I=>exact zcy z
  |star I=>show isD sNone=false;unfold isD;rw[Lib.toList_data];rfl
 obtain⟨rfl,z⟩:=zpE E hd
 refine⟨⟨h.ex,h.st,h.la,h.ok,h.rq,h.nd,h.im,fun y j=>?_,h.nrq,h.nim,by show (q.ep++[x]).length+q.la.length≤40;simp;omega,h.nst,h.nex,fun k=>by rw[J] at k;cases k⟩,rfl⟩
 rcases List.mem_append.1 j with j|j
 ·exact h.ep y j
 ·rw[List.mem_singleton] at j
  rw[j]
  exact D
theorem zpK {α:Type} {f:α→PS→PR} {e:Nat} (l:List α):zK f l (.error e)= .error e:=by
 induction l with
 |nil=>rfl
 |cons b l j=>simp only[zK,zec];exact j
theorem zil {C:Cx} {α:Type} {f:α→PS→PR} {j:List SI} {R:List ByteArray} (l:List α):(∀a∈l,∀q q',PI C.scr q j→q.rq=R→f a q= .ok q'→PI C.scr q' j∧q'.rq=q.rq)→∀(q q':PS),PI C.scr q j→q.rq=R→zK f l (.ok q)= .ok q'→PI C.scr q' j:=by
 induction l with
 |nil=>intro _ q q' h _ o;cases o;exact h
 |cons a l J=>
  intro H q q' h D o
  simp only[zK,zh] at o
  cases z:f a q with
  |error e=>
   rw[z,zpK] at o
   cases o
  |ok E=>
   rw[z] at o
   obtain⟨I,K⟩:=H a (List.mem_cons_self ..) q E h D z
   exact J (fun b L=>H b (List.mem_cons_of_mem _ L)) E q' I (K.trans D) o
theorem zpL {C:Cx} (H:zb2 C) {q q':PS} {J:List SI} (hp:PI C.scr q J) (j:C.scr=false) (h:za3 C q= .ok q'):PI C.scr q' J:=by
 obtain⟨q1,h1,E⟩:=ze h
 have z:=hp.same (zaz h1)
 split at E
 ·obtain⟨a,o,D⟩:=ze E
  obtain⟨b,K,I⟩:=ze D
  obtain⟨V,hl⟩:=zkB H o
  obtain⟨L,M⟩:=zfO H K z V j
  refine zil (C:=C) (R:=b.1.rq) a.2 (fun e Y r r' X hr U=>?_) b.1 q' L rfl I
  have Q:=hl e Y
  exact zik X U ⟨by rw[hr];exact M,Q.2.2 rfl,.inr Q.1⟩ j
 ·split at E
  ·obtain⟨a,o,D⟩:=ze E
   obtain⟨b,K,I⟩:=ze D
   obtain⟨c,h7,O⟩:=ze o
   obtain⟨d,Z,N⟩:=ze h7
   obtain⟨L,M⟩:=zfO H K z ((zaz Z).trans ((zaz N).trans (zey O))) j
   exact (zik L I ⟨M,zfe H O,.inl rfl⟩ j).1
  ·split at E
   ·obtain⟨a,o,D⟩:=ze E
    obtain⟨b,K,I⟩:=ze D
    obtain⟨L,M⟩:=zfO H K z (zey o) j
    refine (zik L I ⟨M,zfe H o,.inr ⟨?_,.inr (Lib.toList_data _)⟩⟩ j).1
    exact .name (c:=100) (cs:=[101,102,97,117,108,116]) rfl (by rw[j];decide) (by rw[j];decide)
   ·obtain⟨a,o,D⟩:=ze E
    exact (z.more (zkA H o z.rq z.nd z.nrq).1 j).same (zaz D)
theorem zkC {C:Cx} (K:zb2 C) {q:PS} {a:PS×ByteArray} {D:List SI} (O:PI C.scr q D) (h:zbA C q= .ok a):(∃j,PI C.scr a.1 j)∧NameG C.scr a.2:=by
 obtain⟨b,o,H⟩:=ze h
 obtain⟨e,E,I⟩:=ze H
 cases I
 obtain⟨c,M,L⟩:=ze o
 obtain⟨d,Q,X⟩:=ze E
 obtain⟨f,V,N⟩:=ze Q
 obtain⟨g,U,J⟩:=ze V
 have z:=zfe K L
 exact⟨zff K O ((zaz M).trans ((zey L).trans (zaz (show zd C 4 cEq b.1= .ok g from U)))) J (zaz N) X (zcy z.field) (fun t o H=>.lt z o H),z⟩
theorem zkD {C:Cx} (Z:zb2 C) {q:PS} {a:PS×ByteArray} {D:List SI} (hp:PI C.scr q D) (h:fnP C q= .ok a):(∃o,PI C.scr a.1 o)∧NameG C.scr a.2:=by
 obtain⟨b,N,H⟩:=ze h
 obtain⟨e,V,E⟩:=ze H
 cases E
 obtain⟨c,h3,Y⟩:=ze N
 obtain⟨d,h5,h6⟩:=ze V
 obtain⟨f,h7,h8⟩:=ze h5
 obtain⟨g,h9,I⟩:=ze h7
 obtain⟨i,Q,U⟩:=ze h9
 obtain⟨j,L,M⟩:=ze Q
 obtain⟨k,z,K⟩:=ze L
 obtain⟨l,X,J⟩:=ze z
 have O:=zfe Z Y
 exact⟨zff Z hp ((zaz h3).trans ((zey Y).trans ((zaz (show zd C 4 cOpen b.1= .ok l from X)).trans ((zaz J).trans ((zaz K).trans (zaz M)))))) U ((zaz I).trans (zaz h8)) h6 (zcy O.field) (fun t N H=>.fn O N H),O⟩
theorem zpM {C:Cx} (M:zb2 C) {q q':PS} {E:List SI} (hp:PI C.scr q E) (I:C.scr=false) (h:zV C q= .ok q'): ∃j,PI C.scr q' j:=by
 obtain⟨q1,h1,o⟩:=ze h
 have L:=hp.same (zaz h1)
 split at o
 ·obtain⟨a,J,D⟩:=ze o
  obtain⟨s1,hl⟩:=zkB M J
  split at D
  ·next hg=>
   obtain⟨b,z,K⟩:=ze D
   have H:=L.same (s1.trans (zaz z))
   refine⟨E,zil (C:=C) (R:=b.rq) a.2 (fun e U r r' X hr V=>?_) b q' H rfl K⟩
   have O:=hl e U
   rw[Bool.and_eq_true] at hg
   have hd:(e.loc.toList==[100,101,102,97,117,108,116])=false:=by
    have:=hg.1
    unfold za2 at this
    rw[Bool.not_eq_true',List.any_eq_false] at this
    simpa using this e U
   exact zfP X V (.loc O.2.1 (O.1.name hd)) I
  ·obtain⟨b,z,K⟩:=ze D
   obtain⟨H,Z⟩:=zfO M z L s1 I
   refine⟨E,zil (C:=C) (R:=b.1.rq) a.2 (fun e U r r' X hr V=>?_) b.1 q' H rfl K⟩
   have O:=hl e U
   exact zfP X V (.frm O.2.1 O.1 (by rw[hr];exact Z)) I
 ·split at o
  ·obtain⟨b,z,K⟩:=ze o
   cases N:zd C 4 zp q1 with
   |error e=>rw[N] at z;cases z
   |ok q2=>
    rw[N] at z
    obtain⟨H,Z⟩:=zfO M z L (zaz N) I
    exact⟨E,(zfP H K (.star Z) I).1⟩
  ·split at o
   ·obtain⟨a,J,D⟩:=ze o
    obtain⟨b,z,K⟩:=ze J
    obtain⟨c,N,h8⟩:=ze z
    obtain⟨d,h9,Y⟩:=ze N
    exact zpG M L (zaz h9) Y (zaz h8) K D I
   ·split at o
    ·obtain⟨a,J,D⟩:=ze o
     obtain⟨⟨j,H⟩,Q⟩:=zkC M L J
     exact⟨j,(zfP H D (.loc Q.field Q) I).1⟩
    ·split at o
     ·obtain⟨a,J,D⟩:=ze o
      obtain⟨⟨j,H⟩,Q⟩:=zkD M L J
      exact⟨j,(zfP H D (.loc Q.field Q) I).1⟩
     ·cases o
theorem zdR:isD sNone=false:=by unfold isD;rw[Lib.toList_data];rfl
theorem zpN {C:Cx} (z:zb2 C) {q q':PS} {L:List SI} (D:PI C.scr q L) (h:zo C q= .ok q'): ∃M,PI C.scr q' M:=by
 unfold zo at h
 split at h
 ·next E=>rw[Bool.and_eq_true,Bool.not_eq_true'] at E;exact⟨L,zpL z D E.1 h⟩
 ·split at h
  ·next E=>rw[Bool.and_eq_true,Bool.not_eq_true'] at E;exact zpM z D E.1 h
  ·split at h
   ·obtain⟨a,j,o⟩:=ze h
    cases o
    exact (zkC z D j).1
   ·split at h
    ·obtain⟨a,j,o⟩:=ze h
     cases o
     exact (zkD z D j).1
    ·split at h
     ·obtain⟨a,j,o⟩:=ze h
      obtain⟨b,H,I⟩:=ze j
      obtain⟨c,J,K⟩:=ze H
      obtain⟨d,Q,N⟩:=ze J
      obtain⟨e,V,O⟩:=ze Q
      exact zff z D ((zaz V).trans (zaz O)) N ((zaz K).trans (zaz I)) o zdR (fun t j o=>.prt j o)
     ·split at h
      ·obtain⟨a,j,o⟩:=ze h
       obtain⟨b,H,I⟩:=ze j
       obtain⟨c,J,K⟩:=ze H
       exact zff z D (zaz J) K (zaz I) o zdR (fun t j o=>.thr j o)
      ·split at h
       ·next E=>
        rw[Bool.and_eq_true] at E
        obtain⟨a,j,o⟩:=ze h
        obtain⟨b,H,I⟩:=ze j
        obtain⟨c,J,K⟩:=ze H
        exact zff z D (zaz J) K (zaz I) o zdR (fun t j o=>.fail E.1 j o)
       ·obtain⟨a,j,o⟩:=ze h
        obtain⟨b,H,I⟩:=ze o
        obtain⟨c,J,K⟩:=ze H
        obtain⟨d,Q,N⟩:=ze J
        have U:=zfe z j
        exact zff z D ((zey j).trans (zaz Q)) N (zaz K) I (zcy U.field) (fun t j o=>.set U j o)
theorem zpO {C:Cx} (I:zb2 C) (f:Nat): ∀(q q':PS) (j:List SI),zbL C f q= .ok q'→PI C.scr q j→∃o,PI C.scr q' o:=by
 induction f with
 |zero=>intro q q' j h;cases h
 |succ f H=>
  intro q q' j h D
  rw[zbL] at h
  split at h
  ·obtain⟨a,E,J⟩:=ze h
   obtain⟨z,K⟩:=zpN I D E
   exact H _ _ _ J K
  ·cases h
   exact⟨j,D⟩
theorem zpP (scr:Bool):PI scr startP []:=
 ⟨rfl,rfl,rfl,(fun s j=>by cases j),(fun s j=>by cases j),List.nodup_nil,(fun s j=>by cases j),(fun s j=>by cases j),by simp[startP],by simp[startP],by simp[startP],by simp[startP],by simp[startP],fun _=>⟨rfl,rfl,rfl⟩⟩
theorem zkE {s:ByteArray} {scr:Bool} {q:PS} (h:za8 s scr (.ok q)): ∃j,PI scr q j:=by
 obtain⟨r,⟨a,_,z⟩,e⟩:=h
 cases r with
 |error p=>cases e
 |ok o=>exact zpO (C:=⟨o,s.size,scr⟩) (zkj z o rfl) _ _ _ _ e.symm (zpP scr)
def za0 (s:ByteArray):Tn:=⟨3,s,0⟩
def kW (x:ByteArray):List Pc:=[.inl (zl x),.inr sp1]
def zdb (a b:ByteArray):List Pc:=if a.toList==b.toList then [.inl (zl a)] else [.inl (zl a),.inr sp1,.inl (zl sAs),.inr sp1,.inl (zl b)]
def zaH (s:ByteArray):List Pc:=[.inl (zl zH),.inr sp1,.inl (za0 s),.inl (zi cSemi),.inr nl1]
def zaP (a b:ByteArray) (r:List Pc):List Pc:=.inl (zi zF):: .inr sp1::(zdb a b++(.inr sp1:: .inl (zi zaJ)::r))
def zbk (s:ByteArray):List Pc:=kW sImport++[.inl (za0 s),.inl (zi cSemi),.inr nl1]
def zaQ (x:Im):List Pc:=
 if x.first.toList==[42] then kW sImport++(.inl (zi zp):: .inr sp1::(kW sAs++(kW x.loc++zaH x.spec)))
 else if x.first.toList==[100,101,102,97,117,108,116] then kW sImport++(kW x.loc++zaH x.spec)
 else kW sImport++zaP x.first x.loc (.inr sp1::zaH x.spec)
def zbg (x:Ep):List Pc:=
 if x.kind==3 then kW sExport++(.inl (zi zp):: .inr sp1::zaH x.spec)
 else if x.kind==2 then kW sExport++zaP x.loc x.name (.inr sp1::zaH x.spec)
 else kW sExport++zaP x.loc x.name [.inl (zi cSemi),.inr nl1]
def zaU:List Pc:=[.inl (zi cSemi),.inr nl1]
def zdc:List Pc:=[.inl (zi cEq),.inr sp1]
def zak (s:SI):List Pc:=
 if s.kind==1 then (if isD s.name then kW sExport++(kW sDefault++(s.t.pcs++zaU)) else kW sLet++(kW s.name++(zdc++(s.t.pcs++zaU))))
 else if s.kind==2 then kW sFunction++(.inl (zl s.name):: .inl (zi cOpen):: .inl (zi zU):: .inr sp1:: .inl (zi zF):: .inr sp1::(kW zdw++(s.t.pcs++[.inl (zi cSemi),.inr sp1,.inl (zi zaJ),.inr nl1])))
 else if s.kind==3 then kW s.name++(zdc++(s.t.pcs++zaU))
 else if s.kind==4 then .inl (zl sPrint):: .inl (zi cOpen)::(s.t.pcs++(.inl (zi zU)::zaU))
 else if s.kind==5 then kW sThrow++(s.t.pcs++zaU)
 else kW sFail++(s.t.pcs++zaU)
theorem neB {x y:ByteArray} (h:x.data.toList≠y.data.toList):(x.toList==y.toList)=false:=by
 rw[Lib.toList_data,Lib.toList_data]
 exact beq_eq_false_iff_ne.2 h
theorem zdd {C:Cx} {p:Nat} {y:ByteArray} {l:List Tn} (h:Rem C p (zl y::l)) (x:ByteArray):isT C p 1 x=(y.toList==x.toList):=by
 rw[h.is (by decide)]
 unfold hd zl
 simp
theorem zgS {C:Cx} {p:Nat} {y:ByteArray} {l:List Tn} (h:Rem C p (zl y::l)) (x:ByteArray):isT C p 4 x=false:=by
 rw[h.is (by decide)]
 exact zfK (show (1:Int)≠4 by decide)
theorem zd6 {C:Cx} {p:Nat} {y:ByteArray} {l:List Tn} (h:Rem C p (zi y::l)) (x:ByteArray):isT C p 4 x=(y.toList==x.toList):=by
 rw[h.is (by decide)]
 unfold hd zi
 simp
theorem zkF {C:Cx} {p:Nat} {y:ByteArray} {l:List Tn} (h:Rem C p (zi y::l)) (x:ByteArray):isT C p 1 x=false:=by
 rw[h.is (by decide)]
 exact zfK (show (4:Int)≠1 by decide)
theorem zkG {C:Cx} {p:Nat} {y:ByteArray} {l:List Tn} (h:Rem C p (za0 y::l)) (x:ByteArray):isT C p 4 x=false∧isT C p 1 x=false:=by
 rw[h.is (by decide),h.is (by decide)]
 exact⟨zfK (show (3:Int)≠4 by decide),zfK (show (3:Int)≠1 by decide)⟩
theorem zpQ {C:Cx} {p:Nat} {t:Tn} {l:List Tn} (h:Rem C p (t::l)) (j:t.kind≠1) (o:Bool):plainB C p o=false:=by
 unfold plainB
 rw[h.kind.1,beq_eq_false_iff_ne.2 j]
 rfl
theorem zbT {C:Cx} {x:ByteArray} {l:List Tn} {q:PS} (h:Rem C q.pos (zl x::l)):zd C 1 x q= .ok (adv q):=zes h (by decide) (zks _ _)
theorem zbt {C:Cx} {x:ByteArray} {l:List Tn} {q:PS} (h:Rem C q.pos (zi x::l)):zd C 4 x q= .ok (adv q):=zes h (by decide) (zcf _ _)
theorem zkH {scr:Bool} {n:ByteArray} (h:NameG scr n):(n.toList==sImport.toList)=false∧(n.toList==sExport.toList)=false∧(n.toList==sDefault.toList)=false∧(n.toList==sLet.toList)=false∧(n.toList==sFunction.toList)=false∧(n.toList==sPrint.toList)=false∧(n.toList==sThrow.toList)=false∧(scr&&(n.toList==sFail.toList))=false:=by
 have j:=h.2
 unfold zr at j
 simp only[Bool.or_eq_false_iff] at j
 obtain⟨⟨⟨⟨⟨⟨⟨⟨H,z⟩,j⟩,D⟩,E⟩,K⟩,J⟩,I⟩,o⟩:=j
 rw[Lib.toList_data sImport,Lib.toList_data sExport,Lib.toList_data sDefault,Lib.toList_data sLet,Lib.toList_data sFunction,Lib.toList_data sPrint,Lib.toList_data sThrow,Lib.toList_data sFail]
 refine⟨H,z,j,D,E,J,I,?_⟩
 cases scr with
 |false=>rfl
 |true=>
  rw[Bool.and_true,Bool.or_eq_false_iff] at o
  rw[Bool.true_and]
  exact o.1
theorem zpR {C:Cx} {s:ByteArray} {l:List Tn} {q:PS} (h:Rem C q.pos (za0 s::l)) (j:s∈q.rq):zy C q= .ok (adv q,s):=by
 unfold zy
 rw[h.kind.1,h.kind.2.1,show (za0 s).kind=3 from rfl,show (za0 s).text=s from rfl,if_pos (show ((3:Int)==3)=true from rfl),if_pos (zgQ.2 j)]
theorem zfQ {C:Cx} {s:ByteArray} {l:List Tn} {q:PS} (h:Rem C q.pos (zl zH::za0 s::zi cSemi::l)) (o:s∈q.rq):zaD C (zav C (.ok q))= .ok ({q with pos:=q.pos+3},s):=by
 have j:=h.next.2.1
 have z:=j.next.2.1
 unfold zaD zav
 rw[zh,zbT h,zh,zpR (q:=adv q) j o,zh]
 simp only
 rw[zbt (q:=adv (adv q)) z,zh]
 rfl
theorem zim {C:Cx} {a b:ByteArray} {l:List Tn} {q:PS} {j:Bool} (h:Rem C q.pos (zg (zaP a b [])++l)) (J:FieldG C.scr a) (M:FieldG C.scr b) (L:j=false→NameG C.scr b) (hd:j=false→(a.toList==[100,101,102,97,117,108,116])=true→(a.toList==b.toList)=false):
  zbB C j q= .ok ({q with pos:=q.pos+(zg (zaP a b [])).length},[⟨0,b,a,sNone⟩]):=by
 unfold zaP zdb at h ⊢
 cases o:a.toList==b.toList with
 |true=>
  have e:=(zeF _ _).1 o
  subst e
  simp only[o,if_true,zg,List.cons_append,List.nil_append] at h ⊢
  have z:=h.next.2.1
  have D:=z.next.2.1
  unfold zbB
  rw[zbt h,zh,zeM,zcH (q:=adv q) z (zfL z J),zh]
  have I:asP C j (adv (adv q),a)= .ok (adv (adv q),a):=by
   unfold asP
   rw[if_neg (by rw[zkF (p:=(adv (adv q)).pos) D];decide),if_neg]
   intro H
   rw[Bool.and_eq_true,Bool.not_eq_true'] at H
   have:=hd H.2 H.1
   rw[o] at this
   cases this
  rw[I,zh]
  simp only
  rw[if_neg (by rw[zd6 (p:=(adv (adv q)).pos) D,neB (by decide)];decide),zbt (q:=adv (adv q)) D,zh]
  rfl
 |false=>
  simp only[o,Bool.false_eq_true,if_false,zg,List.cons_append,List.nil_append] at h ⊢
  have z:=h.next.2.1
  have D:=z.next.2.1
  have E:=D.next.2.1
  have K:=E.next.2.1
  unfold zbB
  rw[zbt h,zh,zeM,zcH (q:=adv q) z (zfL z J),zh]
  have I:asP C j (adv (adv q),a)= .ok (adv (adv (adv (adv q))),b):=by
   unfold asP
   rw[if_pos (by rw[zdd (p:=(adv (adv q)).pos) D];simp),zcH (q:=adv (adv (adv q))) E]
   cases j with
   |true=>exact zfL E M
   |false=>exact zdP E (L rfl) false
  rw[I,zh]
  simp only
  rw[if_neg (by rw[zd6 (p:=(adv (adv (adv (adv q)))).pos) K,neB (by decide)];decide),zbt (q:=adv (adv (adv (adv q)))) K,zh]
  rfl
theorem zpS {C:Cx} {s:ByteArray} {l:List Tn} {q:PS} (H:C.scr=false) (h:Rem C q.pos (zg (zbk s)++l)) (z:s∉q.rq) (I:q.rq.length<40):zo C q= .ok {q with pos:=q.pos+(zg (zbk s)).length,rq:=q.rq++[s]}:=by
 have o:Rem C q.pos (zl sImport::za0 s::zi cSemi::l):=h
 have j:=o.next.2.1
 have D:=j.next.2.1
 unfold zo
 rw[if_pos (by rw[H,zdd o];simp)]
 unfold za3
 rw[zbT o,zh,if_neg (by rw[(zkG (p:=(adv q).pos) j _).1];decide),if_neg (by rw[(zkG (p:=(adv q).pos) j _).1];decide),if_neg (by rw[zpQ (p:=(adv q).pos) j (show (3:Int)≠1 by decide)];decide)]
 have E:zy C (adv q)= .ok ({adv (adv q) with rq:=q.rq++[s]},s):=by
  unfold zy
  rw[(Rem.kind (p:=(adv q).pos) j).1,(Rem.kind (p:=(adv q).pos) j).2.1,show (za0 s).kind=3 from rfl,show (za0 s).text=s from rfl,if_pos (show ((3:Int)==3)=true from rfl),if_neg (show ¬zbe (adv q).rq s=true from fun k=>z (zgQ.1 k)),if_neg (show ¬40≤(adv q).rq.length from by show ¬40≤q.rq.length;omega)]
  rfl
 rw[E,zh,zbt (q:={adv (adv q) with rq:=q.rq++[s]}) D]
 rfl
theorem zin {C:Cx} {x:Im} {q:PS} (h:q.im.length<40):zW C x q= .ok {q with im:=q.im++[x]}:=by unfold zW;rw[if_neg (by omega)]
theorem zpT {C:Cx} {x:Im} {l:List Tn} {q:PS} (Q:C.scr=false) (h:Rem C q.pos (zg (zaQ x)++l)) (Y:ImOk C.scr q.rq x) (V:q.im.length<40):zo C q= .ok {q with pos:=q.pos+(zg (zaQ x)).length,im:=q.im++[x]}:=by
 obtain⟨j,first,o⟩:=x
 obtain⟨L,E,X⟩:=Y
 simp only at L E X
 have M:(first.toList==[42])=true→first=zp:=fun k=>(zeF _ _).1 (by rw[Lib.toList_data zp];exact k)
 have O:(first.toList==[100,101,102,97,117,108,116])=true→first=sDefault:=fun k=>(zeF _ _).1 (by rw[Lib.toList_data sDefault];exact k)
 by_cases J:(first.toList==[42])=true
 ·have I:zaQ ⟨j,first,o⟩=kW sImport++(.inl (zi zp):: .inr sp1::(kW sAs++(kW o++zaH j))):=by unfold zaQ;rw[if_pos J]
  rw[I] at h ⊢
  obtain rfl:=M J
  have D:Rem C q.pos (zl sImport::zi zp::zl sAs::zl o::zl zH::za0 j::zi cSemi::l):=h
  have z:=D.next.2.1
  have H:=z.next.2.1
  have N:=H.next.2.1
  have Z:=N.next.2.1
  unfold zo
  rw[if_pos (by rw[Q,zdd D];simp)]
  unfold za3
  rw[zbT D,zh,if_neg (by rw[zd6 (p:=(adv q).pos) z,neB (by decide)];decide),if_pos (by rw[zd6 (p:=(adv q).pos) z];simp),zbt (q:=adv q) z,zh,zbT (q:=adv (adv q)) H,zh,zcH (q:=adv (adv (adv q))) N (zdP N E false),zh]
  simp only
  rw[zfQ (q:=adv (adv (adv (adv q)))) Z L,zh]
  exact zin V
 ·by_cases K:(first.toList==[100,101,102,97,117,108,116])=true
  ·have I:zaQ ⟨j,first,o⟩=kW sImport++(kW o++zaH j):=by unfold zaQ;rw[if_neg J,if_pos K]
   rw[I] at h ⊢
   obtain rfl:=O K
   have D:Rem C q.pos (zl sImport::zl o::zl zH::za0 j::zi cSemi::l):=h
   have z:=D.next.2.1
   have H:=z.next.2.1
   unfold zo
   rw[if_pos (by rw[Q,zdd D];simp)]
   unfold za3
   rw[zbT D,zh,if_neg (by rw[zgS (p:=(adv q).pos) z];decide),if_neg (by rw[zgS (p:=(adv q).pos) z];decide),if_pos (zdP (p:=(adv q).pos) z E false),zcH (q:=adv q) z (zdP z E false),zh]
   simp only
   rw[zfQ (q:=adv (adv q)) H L,zh]
   exact zin V
  ·have I:zaQ ⟨j,first,o⟩=kW sImport++zaP first o (.inr sp1::zaH j):=by unfold zaQ;rw[if_neg J,if_neg K]
   rw[I] at h ⊢
   have hf:FieldG C.scr first:=X.elim (fun e=>absurd (by rw[e,Lib.toList_data];rfl) J) id
   have ht:zg (kW sImport++zaP first o (.inr sp1::zaH j))=zl sImport::(zg (zaP first o [])++[zl zH,za0 j,zi cSemi]):=by simp[kW,zaP,zg,zba,zaH]
   rw[ht] at h ⊢
   rw[List.cons_append,List.append_assoc] at h
   have z:=h.next.2.1
   have H:=z.app
   unfold zo
   rw[if_pos (by rw[Q,zdd h];simp)]
   unfold za3
   have U:Rem C (adv q).pos (zi zF::(zg (zdb first o++[.inr sp1,.inl (zi zaJ)])++[zl zH,za0 j,zi cSemi]++l)):=by
    rw[List.append_assoc]
    exact z
   rw[zbT h,zh,if_pos (by rw[zd6 U];simp),zim (q:=adv q) z hf E.field (fun _=>E) (fun _ k=>absurd k K),zh]
   simp only
   rw[zfQ (q:={adv q with pos:=(adv q).pos+(zg (zaP first o [])).length}) H L,zh]
   simp only[zK,zh]
   rw[zin (by exact V)]
   simp only[adv,zbW,List.length_cons,List.length_append,List.length_nil]
   congr 2
   omega
theorem zio {C:Cx} {x:Ep} {q:PS} (h:q.ep.length+q.la.length<40) (j:isD x.loc=false):zm C x q= .ok {q with ep:=q.ep++[x]}:=by
 unfold zm
 unfold isD at j
 rw[if_neg (by omega),if_neg (by rw[j];decide)]
theorem zgT {C:Cx} {l:List Tn} {q:PS} (j:C.scr=false) (h:Rem C q.pos (zl sExport::l)):zo C q=zV C q:=by
 unfold zo
 rw[if_neg (by rw[zdd h,neB (by decide)];simp),if_pos (by rw[j,zdd h];simp)]
theorem zpU {C:Cx} {x:Ep} {l:List Tn} {q:PS} (M:C.scr=false) (h:Rem C q.pos (zg (zbg x)++l)) (O:EpOk C.scr q.rq x) (J:q.ep.length+q.la.length<40):zo C q= .ok {q with pos:=q.pos+(zg (zbg x)).length,ep:=q.ep++[x]}:=by
 cases O using EpOk.elim with
 | @loc n z I j=>
  have L:zg (zbg ⟨1,n,z,sNone⟩)=zl sExport::(zg (zaP z n [])++[zi cSemi]):=by simp[zbg,kW,zaP,zg,zba]
  rw[L] at h ⊢
  rw[List.cons_append,List.append_assoc] at h
  have o:=h.next.2.1
  have H:=o.app
  have E:Rem C (adv q).pos (zi zF::(zg (zdb z n++[.inr sp1,.inl (zi zaJ)])++[zi cSemi]++l)):=by
   rw[List.append_assoc]
   exact o
  rw[zgT M h]
  unfold zV
  rw[zbT h,zh,if_pos (by rw[zd6 E];simp),zim (q:=adv q) o j.field I (fun k=>by cases k) (fun k=>by cases k),zh]
  simp only
  have N:za2 [⟨0,n,z,sNone⟩]=false:=by
   have:=(zkH j).2.2.1
   rw[Lib.toList_data sDefault] at this
   unfold za2
   simp only[List.any_cons,List.any_nil,Bool.or_false]
   exact this
  rw[if_pos (by rw[N,zkF (p:=(adv q).pos+(zg (zaP z n [])).length) H];decide),zbt (q:={adv q with pos:=(adv q).pos+(zg (zaP z n [])).length}) H,zh]
  simp only[zK,zh]
  rw[zio (by exact J) (by exact zcy j.field)]
  simp only[adv,zD,List.length_cons,List.length_append,List.length_nil]
  congr 2
  omega
 | @frm n z s I j D=>
  have L:zg (zbg ⟨2,n,z,s⟩)=zl sExport::(zg (zaP z n [])++[zl zH,za0 s,zi cSemi]):=by simp[zbg,kW,zaP,zg,zba,zaH]
  rw[L] at h ⊢
  rw[List.cons_append,List.append_assoc] at h
  have o:=h.next.2.1
  have H:=o.app
  have E:Rem C (adv q).pos (zi zF::(zg (zdb z n++[.inr sp1,.inl (zi zaJ)])++[zl zH,za0 s,zi cSemi]++l)):=by
   rw[List.append_assoc]
   exact o
  rw[zgT M h]
  unfold zV
  rw[zbT h,zh,if_pos (by rw[zd6 E];simp),zim (q:=adv q) o j I (fun k=>by cases k) (fun k=>by cases k),zh]
  simp only
  rw[if_neg (by rw[zdd (p:=(adv q).pos+(zg (zaP z n [])).length) H];simp),zfQ (q:={adv q with pos:=(adv q).pos+(zg (zaP z n [])).length}) H D,zh]
  simp only[zK,zh]
  rw[zio (by exact J) (by exact zcy j)]
  simp only[adv,zaj,List.length_cons,List.length_append,List.length_nil]
  congr 2
  omega
 | @star s D=>
  have K:Rem C q.pos (zl sExport::zi zp::zl zH::za0 s::zi cSemi::l):=h
  have o:=K.next.2.1
  have H:=o.next.2.1
  rw[zgT M K]
  unfold zV
  rw[zbT K,zh,if_neg (by rw[zd6 (p:=(adv q).pos) o,neB (by decide)];decide),if_pos (by rw[zd6 (p:=(adv q).pos) o];simp),zbt (q:=adv q) o,zfQ (q:=adv (adv q)) H D,zh]
  rw[zio (by exact J) (by exact zdR)]
  rfl
theorem zgU {C:Cx} {k:Int} {n:ByteArray} {q:PS} (h:q.st.length<80):zE C k n q= .ok {q with st:=q.st++[⟨k,n,(q.ex.length:Int)-1⟩]}:=by unfold zE;rw[if_neg (by omega)]
theorem zpV {C:Cx} {q:PS} (h:q.ep.length+q.la.length<40):zm C dEp q= .ok {q with la:=q.la++[dEp]}:=by
 unfold zm
 rw[if_neg (by omega),if_pos (by have:=zdQ;unfold isD at this;exact this)]
def zcg (q:PS) (n:Nat) (s:SI):PS:=⟨q.pos+n,q.rq,q.im,q.ep,q.st++[⟨s.kind,s.name,((q.ex.length+s.t.size:Nat):Int)-1⟩],q.ex++s.t.flat q.ex.length,q.la++if isD s.name then [dEp] else []⟩
theorem zgV {C:Cx} {l:List Tn} {q:PS} {k:Int} {m:ByteArray} {t:Tr} (n:Nat) (o:TrOk C.scr t) (j:t.dp≤20) (h:Rem C (q.pos+n) (zg t.pcs++zi cSemi::l)) (z:isD m=false) (D:q.ex.length+t.size≤300) (E:q.st.length<80):
  bd (bd (pE C .sum 0 {q with pos:=q.pos+n}) (zd C 4 cSemi)) (zE C k m)= .ok (zcg q (n+(zg t.pcs).length+1) ⟨k,m,t⟩):=by
 rw[zgL (q:={q with pos:=q.pos+n}) o j (.inl rfl) h D,zh,zbt (q:=aft {q with pos:=q.pos+n} _ t) h.app,zh]
 rw[zgU (by exact E)]
 simp only[zcg,adv,aft,z,List.length_append,Tr.flat_len,Bool.false_eq_true,if_false,List.append_nil]
 congr 2
 omega
theorem zfg {C:Cx} {x:ByteArray} {l:List Tn} {q:PS} (h:Rem C q.pos (zl x::l)) (o:(x.toList==sImport.toList)=false) (j:(x.toList==sExport.toList)=false):zo C q=
  if (x.toList==sLet.toList) then za7 (zbA C q)
  else if (x.toList==sFunction.toList) then za7 (fnP C q)
  else if (x.toList==sPrint.toList) then bd (bd (bd (bd (bd (zd C 1 sPrint q) (zd C 4 cOpen)) (pE C .sum 0)) (zd C 4 zU)) (zd C 4 cSemi)) (zE C 4 sNone)
  else if (x.toList==sThrow.toList) then bd (bd (bd (zd C 1 sThrow q) (pE C .sum 0)) (zd C 4 cSemi)) (zE C 5 sNone)
  else if C.scr&&(x.toList==sFail.toList) then bd (bd (bd (zd C 1 sFail q) (pE C .sum 0)) (zd C 4 cSemi)) (zE C 6 sNone)
  else bd (zk C false q) fun a=>bd (bd (bd (zd C 4 cEq a.1) (pE C .sum 0)) (zd C 4 cSemi)) (zE C 3 a.2):=by
 unfold zo
 simp only[zdd h,o,j,Bool.and_false,Bool.false_eq_true,if_false]
theorem zpW {C:Cx} {s:SI} {l:List Tn} {q:PS} (L:SOk C.scr s) (h:Rem C q.pos (zg (zak s)++l)) (J:q.ex.length+s.t.size≤300) (o:q.st.length<80) (hl:isD s.name=true→q.ep.length+q.la.length<40):zo C q= .ok (zcg q (zg (zak s)).length s):=by
 cases L using SOk.elim with
 | @lt n t H E hd=>
  have K:=zcy H.field
  have z:zg (zak ⟨1,n,t⟩)=zl sLet::zl n::zi cEq::(zg t.pcs++[zi cSemi]):=by simp[zak,K,kW,zdc,zaU,zg,zba]
  rw[z] at h ⊢
  simp only[List.cons_append,List.append_assoc,List.nil_append] at h
  have j:=h.next.2.1
  have D:=j.next.2.1
  have I:=D.next.2.1
  rw[zfg h (neB (by decide)) (neB (by decide)),if_pos (by simp)]
  unfold zbA withN za7
  rw[zbT h,zh,zcH (q:=adv q) j (zdP j H false),zh]
  simp only[zh]
  rw[zbt (q:=adv (adv q)) D,zh]
  rw[show adv (adv (adv q))={q with pos:=q.pos+3} from rfl,zgV (q:=q) 3 E hd I K J o,zh,zh]
  simp only[List.length_cons,List.length_append,List.length_nil]
  congr 2
  omega
 | @dflt t L E hd=>
  have z:zg (zak ⟨1,zbp,t⟩)=zl sExport::zl sDefault::(zg t.pcs++[zi cSemi]):=by simp[zak,zdQ,kW,zaU,zg,zba]
  rw[z] at h ⊢
  simp only[List.cons_append,List.append_assoc,List.nil_append] at h
  have j:=h.next.2.1
  have D:=j.next.2.1
  rw[zgT L h]
  unfold zV
  rw[zbT h,zh,if_neg (by rw[zgS (p:=(adv q).pos) j];decide),if_neg (by rw[zgS (p:=(adv q).pos) j];decide),if_pos (by rw[zdd (p:=(adv q).pos) j];simp),zbT (q:=adv q) j,zh]
  rw[zgL (q:=adv (adv q)) E hd (.inl rfl) D J,zh,zbt (q:=aft (adv (adv q)) _ t) D.app,zh,zgU (by exact o),zh]
  rw[zpV (by exact hl zdQ)]
  simp only[zcg,adv,aft,zdQ,List.length_append,List.length_cons,List.length_nil,Tr.flat_len,if_true]
  congr 2
  omega
 | @fn n t H E hd=>
  have K:=zcy H.field
  have z:zg (zak ⟨2,n,t⟩)=zl sFunction::zl n::zi cOpen::zi zU::zi zF::zl zdw::(zg t.pcs++[zi cSemi,zi zaJ]):=by simp[zak,kW,zg,zba]
  rw[z] at h ⊢
  simp only[List.cons_append,List.append_assoc,List.nil_append] at h
  have j:=h.next.2.1
  have D:=j.next.2.1
  have I:=D.next.2.1
  have M:=I.next.2.1
  have O:=M.next.2.1
  have N:=O.next.2.1
  have Q:=N.app
  rw[zfg h (neB (by decide)) (neB (by decide)),if_neg (by rw[neB (by decide)];decide),if_pos (by simp)]
  unfold fnP withN za7
  rw[zbT h,zh,zcH (q:=adv q) j (zdP j H false),zh]
  simp only[zh]
  rw[zbt (q:=adv (adv q)) D,zh,zbt (q:=adv (adv (adv q))) I,zh,zbt (q:=adv (adv (adv (adv q)))) M,zh,zbT (q:=adv (adv (adv (adv (adv q))))) O,zh]
  rw[zgL (q:=adv (adv (adv (adv (adv (adv q)))))) E hd (.inl rfl) N J,zh,zbt (q:=aft (adv (adv (adv (adv (adv (adv q)))))) _ t) Q,zh,zbt (q:=adv (aft (adv (adv (adv (adv (adv (adv q)))))) _ t)) Q.next.2.1,zh,zgU (by exact o),zh,zh]
  simp only[zcg,adv,aft,K,List.length_append,List.length_cons,List.length_nil,Tr.flat_len,Bool.false_eq_true,if_false,List.append_nil]
  congr 2
  omega
 | @set n t H E hd=>
  have K:=zcy H.field
  have z:zg (zak ⟨3,n,t⟩)=zl n::zi cEq::(zg t.pcs++[zi cSemi]):=by simp[zak,kW,zdc,zaU,zg,zba]
  rw[z] at h ⊢
  simp only[List.cons_append,List.append_assoc,List.nil_append] at h
  have j:=h.next.2.1
  have D:=j.next.2.1
  obtain⟨Z,Y,a2,a3,X,V,a6,U⟩:=zkH H
  rw[zfg h Z Y,if_neg (by rw[a3];decide),if_neg (by rw[X];decide),if_neg (by rw[V];decide),if_neg (by rw[a6];decide),if_neg (by rw[U];decide),zcH h (zdP h H false),zh]
  simp only
  rw[zbt (q:=adv q) j,zh]
  rw[show adv (adv q)={q with pos:=q.pos+2} from rfl,zgV (q:=q) 2 E hd D K J o]
  simp only[List.length_cons,List.length_append,List.length_nil]
  congr 2
  omega
 | @prt t E hd=>
  have z:zg (zak ⟨4,sNone,t⟩)=zl sPrint::zi cOpen::(zg t.pcs++[zi zU,zi cSemi]):=by simp[zak,zaU,zg,zba]
  rw[z] at h ⊢
  simp only[List.cons_append,List.append_assoc,List.nil_append] at h
  have j:=h.next.2.1
  have D:=j.next.2.1
  have I:=D.app
  rw[zfg h (neB (by decide)) (neB (by decide)),if_neg (by rw[neB (by decide)];decide),if_neg (by rw[neB (by decide)];decide),if_pos (by simp)]
  rw[zbT h,zh,zbt (q:=adv q) j,zh]
  rw[zgL (q:=adv (adv q)) E hd (.inr rfl) D J,zh,zbt (q:=aft (adv (adv q)) _ t) I,zh,zbt (q:=adv (aft (adv (adv q)) _ t)) I.next.2.1,zh,zgU (by exact o)]
  simp only[zcg,adv,aft,zdR,List.length_append,List.length_cons,List.length_nil,Tr.flat_len,Bool.false_eq_true,if_false,List.append_nil]
  congr 2
  omega
 | @thr t E hd=>
  have z:zg (zak ⟨5,sNone,t⟩)=zl sThrow::(zg t.pcs++[zi cSemi]):=by simp[zak,kW,zaU,zg,zba]
  rw[z] at h ⊢
  simp only[List.cons_append,List.append_assoc,List.nil_append] at h
  have j:=h.next.2.1
  rw[zfg h (neB (by decide)) (neB (by decide)),if_neg (by rw[neB (by decide)];decide),if_neg (by rw[neB (by decide)];decide),if_neg (by rw[neB (by decide)];decide),if_pos (by simp),zbT h,zh]
  rw[show adv q={q with pos:=q.pos+1} from rfl,zgV (q:=q) 1 E hd j zdR J o]
  simp only[List.length_cons,List.length_append,List.length_nil]
  congr 2
  omega
 | @fail t L E hd=>
  have z:zg (zak ⟨6,sNone,t⟩)=zl sFail::(zg t.pcs++[zi cSemi]):=by simp[zak,kW,zaU,zg,zba]
  rw[z] at h ⊢
  simp only[List.cons_append,List.append_assoc,List.nil_append] at h
  have j:=h.next.2.1
  rw[zfg h (neB (by decide)) (neB (by decide)),if_neg (by rw[neB (by decide)];decide),if_neg (by rw[neB (by decide)];decide),if_neg (by rw[neB (by decide)];decide),if_neg (by rw[neB (by decide)];decide),if_pos (by rw[L];simp),zbT h,zh]
  rw[show adv q={q with pos:=q.pos+1} from rfl,zgV (q:=q) 1 E hd j zdR J o]
  simp only[List.length_cons,List.length_append,List.length_nil]
  congr 2
  omega
theorem zgW {C:Cx} {q q':PS} {a l:List Tn} (o:Rem C q.pos (a++l)) (j:a≠[]) (h:zo C q= .ok q'):zM C q=zM C q':=by
 cases a with
 |nil=>exact absurd rfl j
 |cons t a=>rw[zeQ,if_pos o.next.2.2,h,zh]
theorem zd7 {a b:PS} (j:a.pos=b.pos) (z:a.rq=b.rq) (o:a.im=b.im) (E:a.ep=b.ep) (D:a.st=b.st) (I:a.ex=b.ex) (H:a.la=b.la):a=b:=by
 cases a;cases b;simp_all
theorem zpX {C:Cx} (l:List ByteArray): ∀(q:PS) (r:List Tn),(l≠[]→C.scr=false)→Rem C q.pos (zg (l.flatMap zbk)++r)→(q.rq++l).Nodup→(q.rq++l).length≤40→
  zM C q=zM C {q with pos:=q.pos+(zg (l.flatMap zbk)).length,rq:=q.rq++l}:=by
 induction l with
 |nil=>intro q r _ _ _ _;congr 1;exact zd7 rfl (by simp) rfl rfl rfl rfl rfl
 |cons s l H=>
  intro q r I h z E
  have j:=I (by simp)
  rw[List.flatMap_cons,zba] at h ⊢
  rw[List.append_assoc] at h
  have o:s∉q.rq:=by
   rw[List.nodup_append] at z
   exact fun k=>z.2.2 s k s (by simp) rfl
  have D:q.rq.length<40:=by simp at E;omega
  rw[zgW h (by simp[zbk,kW,zg]) (zpS j h o D)]
  rw[H {q with pos:=q.pos+(zg (zbk s)).length,rq:=q.rq++[s]} r (fun _=>j) h.app (by simpa using z) (by simpa using E)]
  congr 1
  exact zd7 (by simp;omega) (by simp) rfl rfl rfl rfl rfl
theorem zpY (x:Im):zg (zaQ x)≠[]:=by
 unfold zaQ
 split
 ·simp[kW,zg]
 ·split<;>simp[kW,zg]
theorem zpZ (x:Ep):zg (zbg x)≠[]:=by
 unfold zbg
 split
 ·simp[kW,zg]
 ·split<;>simp[kW,zg]
theorem zqa (s:SI):zg (zak s)≠[]:=by
 unfold zak
 repeat' split
 all_goals simp[kW,zg]
theorem zqb {C:Cx} (l:List Im): ∀(q:PS) (r:List Tn),(l≠[]→C.scr=false)→Rem C q.pos (zg (l.flatMap zaQ)++r)→(∀x∈l,ImOk C.scr q.rq x)→q.im.length+l.length≤40→
  zM C q=zM C {q with pos:=q.pos+(zg (l.flatMap zaQ)).length,im:=q.im++l}:=by
 induction l with
 |nil=>intro q r _ _ _ _;congr 1;exact zd7 rfl rfl (by simp) rfl rfl rfl rfl
 |cons s l z=>
  intro q r H h o E
  have j:=H (by simp)
  rw[List.flatMap_cons,zba] at h ⊢
  rw[List.append_assoc] at h
  rw[List.length_cons] at E
  rw[zgW h (zpY s) (zpT j h (o s (by simp)) (by omega))]
  rw[z {q with pos:=q.pos+(zg (zaQ s)).length,im:=q.im++[s]} r (fun _=>j) h.app (fun x D=>o x (by simp[D])) (by simp;omega)]
  congr 1
  exact zd7 (by simp;omega) rfl (by simp) rfl rfl rfl rfl
theorem zqc {C:Cx} (l:List Ep): ∀(q:PS) (r:List Tn),(l≠[]→C.scr=false)→Rem C q.pos (zg (l.flatMap zbg)++r)→(∀x∈l,EpOk C.scr q.rq x)→q.ep.length+l.length+q.la.length≤40→
  zM C q=zM C {q with pos:=q.pos+(zg (l.flatMap zbg)).length,ep:=q.ep++l}:=by
 induction l with
 |nil=>intro q r _ _ _ _;congr 1;exact zd7 rfl rfl rfl (by simp) rfl rfl rfl
 |cons s l z=>
  intro q r H h o E
  have j:=H (by simp)
  rw[List.flatMap_cons,zba] at h ⊢
  rw[List.append_assoc] at h
  rw[List.length_cons] at E
  rw[zgW h (zpZ s) (zpU j h (o s (by simp)) (by omega))]
  rw[z {q with pos:=q.pos+(zg (zbg s)).length,ep:=q.ep++[s]} r (fun _=>j) h.app (fun x D=>o x (by simp[D])) (by simp;omega)]
  congr 1
  exact zd7 (by simp;omega) rfl rfl (by simp) rfl rfl rfl
theorem zkI (l:List SI): ∀o,(stS l o).length=l.length:=by
 induction l with
 |nil=>intro o;rfl
 |cons s l j=>intro o;simp[stS,j]
theorem zqd {C:Cx} (l:List SI): ∀(q:PS) (r:List Tn),Rem C q.pos (zg (l.flatMap zak)++r)→(∀s∈l,SOk C.scr s)→q.st.length+l.length≤80→q.ex.length+(exS l q.ex.length).length≤300→q.ep.length+q.la.length+(laS l).length≤40→
  zM C q=zM C ⟨q.pos+(zg (l.flatMap zak)).length,q.rq,q.im,q.ep,q.st++stS l q.ex.length,q.ex++exS l q.ex.length,q.la++laS l⟩:=by
 induction l with
 |nil=>intro q r _ _ _ _ _;congr 1;exact zd7 rfl rfl rfl rfl (by simp[stS]) (by simp[exS]) (by simp[laS])
 |cons s l H=>
  intro q r h D E I o
  rw[List.flatMap_cons,zba] at h ⊢
  rw[List.append_assoc] at h
  rw[List.length_cons] at E
  simp only[exS,laS,List.length_append,Tr.flat_len] at I o
  have z:=zpW (D s (by simp)) h (by omega) (by omega) (fun k=>by rw[k] at o;simp at o;omega)
  have j:(zcg q (zg (zak s)).length s).ex.length=q.ex.length+s.t.size:=by simp[zcg,Tr.flat_len]
  rw[zgW h (zqa s) z,H (zcg q (zg (zak s)).length s) r h.app (fun x j=>D x (by simp[j])) (by simp[zcg];omega) (by rw[j];omega) (by simp only[zcg,List.length_append];omega),j]
  congr 1
  exact zd7 (by simp[zcg];omega) rfl rfl rfl (by simp[zcg,stS]) (by simp[zcg,exS]) (by simp[zcg,laS])
def zdS (q:PS) (sts:List SI):List Pc:=q.rq.flatMap zbk++(q.im.flatMap zaQ++(q.ep.flatMap zbg++sts.flatMap zak))
theorem zqe {C:Cx} {q:PS} {j:List SI} (h:PI C.scr q j) (E:Rem C 0 (zg (zdS q j))): ∃p,zM C startP= .ok {q with pos:=p}:=by
 have H: ∀{α:Type} (l:List α),(C.scr=true→l=[])→l≠[]→C.scr=false:=fun l k L=>by
  cases O:C.scr with
  |false=>rfl
  |true=>exact absurd (k O) L
 unfold zdS at E
 simp only[zba] at E
 have N:=h.nrq
 have Y:=h.nim
 have M:=h.nep
 have X:=h.nst
 have K:=h.nex
 rw[h.la] at M
 rw[h.st,zkI] at X
 rw[h.ex] at K
 have U:zM C startP=zM C ⟨0+(zg (q.rq.flatMap zbk)).length,q.rq,[],[],[],[],[]⟩:=zpX q.rq startP _ (H _ fun k=>(h.scrr k).1) E h.nd N
 have z:=E.app
 have Q:_=zM C ⟨0+(zg (q.rq.flatMap zbk)).length+(zg (q.im.flatMap zaQ)).length,q.rq,q.im,[],[],[],[]⟩:=zqb q.im ⟨0+(zg (q.rq.flatMap zbk)).length,q.rq,[],[],[],[],[]⟩ _ (H _ fun k=>(h.scrr k).2.1) z h.im (by show 0+q.im.length≤40;omega)
 have D:=z.app
 have V:_=zM C ⟨0+(zg (q.rq.flatMap zbk)).length+(zg (q.im.flatMap zaQ)).length+(zg (q.ep.flatMap zbg)).length,q.rq,q.im,q.ep,[],[],[]⟩:=zqc q.ep ⟨0+(zg (q.rq.flatMap zbk)).length+(zg (q.im.flatMap zaQ)).length,q.rq,q.im,[],[],[],[]⟩ _ (H _ fun k=>(h.scrr k).2.2) D h.ep (by show 0+q.ep.length+0≤40;omega)
 have o:=D.app
 rw[←List.append_nil (zg (j.flatMap zak))] at o
 have J:_=zM C ⟨0+(zg (q.rq.flatMap zbk)).length+(zg (q.im.flatMap zaQ)).length+(zg (q.ep.flatMap zbg)).length+(zg (j.flatMap zak)).length,q.rq,q.im,q.ep,stS j 0,exS j 0,laS j⟩:=zqd j ⟨0+(zg (q.rq.flatMap zbk)).length+(zg (q.im.flatMap zaQ)).length+(zg (q.ep.flatMap zbg)).length,q.rq,q.im,q.ep,[],[],[]⟩ _ o h.ok (by show 0+j.length≤80;omega) (by show 0+(exS j 0).length≤300;omega) (by show q.ep.length+0+(laS j).length≤40;omega)
 have I:=o.app.none
 rw[U,Q,V,J,zeQ,if_neg (Nat.not_lt.2 I)]
 refine⟨_,congrArg Except.ok (zd7 (b:={q with pos:=_}) rfl rfl rfl rfl h.st.symm h.ex.symm h.la.symm)⟩
theorem zqf {α:Type} (f:α→ByteArray) (l:List α): ∀t,(acc f l t).data.toList=t.data.toList++l.flatMap fun x=>(f x).data.toList:=by
 induction l with
 |nil=>intro t;simp[acc]
 |cons x l j=>
  intro t
  show (acc f l (t++f x)).data.toList=_
  rw[j,zfN,List.flatMap_cons,List.append_assoc]
theorem zip {α:Type} (f:α→List Pc) (l:List α):zL (l.flatMap f)=l.flatMap fun x=>zL (f x):=by
 induction l with
 |nil=>rfl
 |cons x l j=>rw[List.flatMap_cons,List.flatMap_cons,zbY,j]
theorem zqg (s:ByteArray):(rqT s).data.toList=zL (zbk s):=by simp[rqT,zaL,zbk,kW,zL,zaw,zl,za0,zi]
theorem ziq (a b:ByteArray):(asT a b).data.toList=zL (zdb a b):=by
 unfold asT zdb
 split
 ·simp[zL,zaw,zl]
 ·simp[zL,zaw,zl]
theorem zqh (x:Im):(zaO x).data.toList=zL (zaQ x):=by
 unfold zaO zaQ
 split
 ·simp[zaL,kW,zaH,zL,zaw,zl,za0,zi]
 ·split
  ·simp[zaL,kW,zaH,zL,zaw,zl,za0,zi]
  ·simp[zaL,kW,zaH,zaP,ziq,zbY,zL,zaw,zl,za0,zi]
theorem zqi (x:Ep):(zc7 x).data.toList=zL (zbg x):=by
 unfold zc7 zbg
 split
 ·simp[zaL,kW,zaH,zL,zaw,zl,za0,zi]
 ·split
  ·simp[zaL,kW,zaH,zaP,ziq,zbY,zL,zaw,zl,za0,zi]
  ·simp[kW,zaP,ziq,zbY,zL,zaw,zl,zi]
theorem zqj (k:Int) (n e:ByteArray) (t:Tr) (j:e.data.toList=zL t.pcs):(zd4 k n e).data.toList=zL (zak ⟨k,n,t⟩):=by
 unfold zd4 zak
 split
 ·show _=zL (if isD n then _ else _)
  unfold isD
  split
  ·simp[j,kW,zaU,zbY,zL,zaw,zl,zi]
  ·simp[j,kW,zaU,zdc,zbY,zL,zaw,zl,zi]
 ·split
  ·simp[j,kW,zbY,zL,zaw,zl,zi]
  ·split
   ·simp[j,kW,zaU,zdc,zbY,zL,zaw,zl,zi]
   ·split
    ·simp[j,zaU,zbY,zL,zaw,zl,zi]
    ·split
     ·simp[j,kW,zaU,zbY,zL,zaw,zl,zi]
     ·simp[j,kW,zaU,zbY,zL,zaw,zl,zi]
theorem zqk {scr:Bool} (l:List SI): ∀A:List Ex,(∀s∈l,SOk scr s)→(stS l A.length).flatMap (fun s=>(stF (A++exS l A.length) s).data.toList)=zL (l.flatMap zak):=by
 induction l with
 |nil=>intro A _;rfl
 |cons s l o=>
  intro A h
  have E:=s.t.pos
  have j:=o (A++s.t.flat A.length) fun x D=>h x (by simp[D])
  rw[List.length_append,Tr.flat_len] at j
  have e:A++exS (s::l) A.length=A++s.t.flat A.length++exS l (A.length+s.t.size):=by simp[exS]
  rw[List.flatMap_cons,zbY,stS,List.flatMap_cons,e,j]
  congr 1
  refine zqj s.kind s.name _ s.t ?_
  have z:(((A.length+s.t.size:Nat):Int)-1).toNat=A.length+s.t.size-1:=by omega
  simp only[z,List.append_assoc]
  exact zp7 (h s (by simp)).tree.1 A _
theorem zql (l:List SI):(laS l).flatMap (fun x=>(epF x).data.toList)=[]:=by
 induction l with
 |nil=>rfl
 |cons s l j=>
  rw[laS,List.flatMap_append,j,List.append_nil]
  split
  ·have:epF dEp=sNone:=by unfold epF;rw[if_pos (by have:=zdQ;unfold isD at this;exact this)]
   simp[this]
  ·rfl
theorem zqm {scr:Bool} {rq:List ByteArray} (l:List Ep) (h: ∀x∈l,EpOk scr rq x):l.flatMap (fun x=>(epF x).data.toList)=zL (l.flatMap zbg):=by
 rw[zip]
 have: ∀x∈l,(epF x).data.toList=zL (zbg x):=fun x E=>by
  have hd:isD x.loc=false:=by
   cases h x E using EpOk.elim with
   |loc o j=>exact zcy j.field
   |frm o j z=>exact zcy j
   |star z=>exact zdR
  unfold epF
  unfold isD at hd
  rw[if_neg (by rw[hd];decide)]
  exact zqi x
 clear h
 induction l with
 |nil=>rfl
 |cons x l D=>rw[List.flatMap_cons,List.flatMap_cons,this x (by simp),D fun y H=>this y (by simp[H])]
theorem zqn {scr:Bool} {q:PS} {j:List SI} (h:PI scr q j):(zcx (zaS q)).data.toList=zL (zdS q j):=by
 unfold zcx zda zaS zdS
 simp only[zqf,List.flatMap_append,zbY,h.la,zql,List.append_nil,zqm q.ep h.ep,h.ex,h.st]
 have:=zqk j [] h.ok
 simp only[List.length_nil,List.nil_append] at this
 rw[this,zip zbk,zip zaQ]
 simp only[zqg,zqh,List.append_assoc]
 rfl
def zal (w:Bool):List Pc→Prop
 |[]=>w=false
 | .inr _::l=>zal false l
 | .inl t::l=>(w=true→zaZ t=false)∧zal (zaZ t) l
theorem zde {a b:List Pc} (o:zal false b): ∀w,zal w a→zal w (a++b):=by
 induction a with
 |nil=>intro w h;rw[show w=false from h];exact o
 |cons p l j=>
  intro w h
  cases p with
  |inl t=>exact⟨h.1,j _ h.2⟩
  |inr x=>exact j _ h
theorem zir {a b:List Pc} (o: ∀w,zal w b): ∀w,adj w a→zal w (a++b):=by
 induction a with
 |nil=>intro w _;exact o w
 |cons p l j=>
  intro w h
  cases p with
  |inl t=>exact⟨h.1,j _ h.2⟩
  |inr x=>exact j _ h
theorem zkJ {a:List Pc}: ∀w,zal w a→adj w a:=by
 induction a with
 |nil=>intro w _;trivial
 |cons p l j=>
  intro w h
  cases p with
  |inl t=>exact⟨h.1,j _ h.2⟩
  |inr x=>exact j _ h
theorem zgX {α:Type} {f:α→List Pc} (l:List α) (h: ∀x∈l,zal false (f x)):zal false (l.flatMap f):=by
 induction l with
 |nil=>rfl
 |cons x l o=>rw[List.flatMap_cons];exact zde (o fun y j=>h y (by simp[j])) _ (h x (by simp))
theorem zgY {scr:Bool} {α:Type} {f:α→List Pc} (l:List α) (h: ∀x∈l,GoodP scr (f x)):GoodP scr (l.flatMap f):=by
 intro p o
 obtain⟨x,j,z⟩:=List.mem_flatMap.1 o
 exact h x j p z
def zca (x:ByteArray):Prop:=x=sImport∨x=sExport∨x=sDefault∨x=sLet∨x=sFunction∨x=zdw∨x=sPrint∨x=sThrow∨x=sFail∨x=sAs∨x=zH
theorem zez {scr:Bool} {x:ByteArray} (h:zca x):GoodT scr (zl x):=by
 have z: ∀(c:UInt8) (j:List UInt8),(zam (ib c) scr&&j.all fun b=>zB scr (ib b))=true→GoodT scr (zl ⟨(c::j).toArray⟩):=fun c j o=>by
  rw[Bool.and_eq_true,List.all_eq_true] at o
  exact .name (c:=c) (cs:=j) rfl o.1 o.2
 rcases h with rfl|rfl|rfl|rfl|rfl|rfl|rfl|rfl|rfl|rfl|rfl<;>exact z _ _ (by cases scr<;>decide)
theorem zcI {scr:Bool} {t:Tn} {l:List Pc} (h:GoodT scr t) (o:GoodP scr l):GoodP scr (.inl t::l):=by
 intro p j
 rcases List.mem_cons.1 j with rfl|j
 ·exact h
 ·exact o p j
theorem zb3 {scr:Bool} {x:List UInt8} {l:List Pc} (h:x=sp1∨x=nl1) (o:GoodP scr l):GoodP scr (.inr x::l):=by
 intro p j
 rcases List.mem_cons.1 j with rfl|j
 ·exact h.elim .inl fun k=>.inr (.inl k)
 ·exact o p j
theorem zd8 {scr:Bool}:GoodP scr []:=fun p j=>by cases j
theorem zb4 {scr:Bool} {x:ByteArray} {l:List Pc} (h:GoodT scr (zl x)) (j:GoodP scr l):GoodP scr (kW x++l):=zcI h (zb3 (.inl rfl) j)
theorem zbN {scr:Bool} {x:ByteArray} {l:List Pc} (h:x=cOpen∨x=zU∨x=cPoint∨x=zp∨x=zbq∨x=zaI∨x=zbv∨x=cSemi∨x=cEq∨x=zF∨x=zaJ) (j:GoodP scr l):GoodP scr (.inl (zi x)::l):=zcI (zgP h) j
theorem zis {scr:Bool} {s:ByteArray} (h:GoodT scr (za0 s)):GoodP scr (zaH s):=zb4 (zez (by simp[zca])) (zcI h (zbN (by simp) (zb3 (.inr rfl) zd8)))
theorem zit {scr:Bool} {a b:ByteArray} {r:List Pc} (j:FieldG scr a) (z:FieldG scr b) (o:GoodP scr r):GoodP scr (zaP a b r):=by
 refine zbN (by simp) (zb3 (.inl rfl) (GoodP.app ?_ (zb3 (.inl rfl) (zbN (by simp) o))))
 unfold zdb
 split
 ·exact zcI j.1 zd8
 ·exact zcI j.1 (zb3 (.inl rfl) (zcI (zez (by simp[zca])) (zb3 (.inl rfl) (zcI z.1 zd8))))
theorem ziu (a b:ByteArray) {r:List Pc} (j:zal false r):zal false (zaP a b r):=by
 unfold zaP zdb
 split<;>simp[zal,zaZ,zi,zl,j]
theorem zkK {scr:Bool} {rq:List ByteArray} {x:Im} (H: ∀s∈rq,GoodT scr (za0 s)) (h:ImOk scr rq x):GoodP scr (zaQ x)∧zal false (zaQ x):=by
 obtain⟨D,o,I⟩:=h
 have z:GoodT scr (zl sImport):=zez (by simp[zca])
 have j:=zis (H _ D)
 unfold zaQ
 split
 ·exact⟨zb4 z (zbN (by simp) (zb3 (.inl rfl) (zb4 (zez (by simp[zca])) (zb4 o.1 j)))),by simp[zal,kW,zaH,zaZ,zi,zl,za0]⟩
 ·next E=>
  split
  ·exact⟨zb4 z (zb4 o.1 j),by simp[zal,kW,zaH,zaZ,zi,zl,za0]⟩
  ·have J:FieldG scr x.first:=I.elim (fun e=>absurd (by rw[e,Lib.toList_data];rfl) E) id
   exact⟨zb4 z (zit J o.field (zb3 (.inl rfl) j)),zde (ziu _ _ (by simp[zal,zaH,zaZ,zi,zl,za0])) _ (by simp[zal,kW])⟩
theorem zkL {scr:Bool} {rq:List ByteArray} {x:Ep} (E: ∀s∈rq,GoodT scr (za0 s)) (h:EpOk scr rq x):GoodP scr (zbg x)∧zal false (zbg x):=by
 have z:GoodT scr (zl sExport):=zez (by simp[zca])
 cases h using EpOk.elim with
 |loc j o=>exact⟨zb4 z (zit o.field j (zbN (by simp) (zb3 (.inr rfl) zd8))),zde (ziu _ _ (by simp[zal,zaZ,zi])) _ (by simp[zal,kW])⟩
 |frm j o D=>exact⟨zb4 z (zit o j (zb3 (.inl rfl) (zis (E _ D)))),zde (ziu _ _ (by simp[zal,zaH,zaZ,zi,zl,za0])) _ (by simp[zal,kW])⟩
 |star D=>exact⟨zb4 z (zbN (by simp) (zb3 (.inl rfl) (zis (E _ D)))),by simp[zbg,zal,kW,zaH,zaZ,zi,zl,za0]⟩
theorem zdf {scr:Bool} {t:Tr} (h:TrOk scr t):GoodP scr (t.pcs++zaU)∧zal false (t.pcs++zaU):=
 ⟨(zfd t h).1.app (zbN (by simp) (zb3 (.inr rfl) zd8)),zir (fun w=>by simp[zaU,zal,zaZ,zi]) _ (zfd t h).2⟩
theorem ze0 (x:ByteArray) {l:List Pc} (h:zal false l):zal false (kW x++l):=by simp[kW,zal,h]
theorem zkM {scr:Bool} {s:SI} (h:SOk scr s):GoodP scr (zak s)∧zal false (zak s):=by
 have o: ∀{x},zca x→GoodT scr (zl x):=fun h=>zez h
 cases h using SOk.elim with
 | @lt n t z j hd=>
  have e:zak ⟨1,n,t⟩=kW sLet++(kW n++(zdc++(t.pcs++zaU))):=by simp[zak,zcy z.field]
  rw[e]
  exact⟨zb4 (o (by simp[zca])) (zb4 z.1 (zbN (by simp) (zb3 (.inl rfl) (zdf j).1))),ze0 _ (ze0 _ (zde (zdf j).2 _ (by simp[zdc,zal,zaZ,zi])))⟩
 | @dflt t D j hd=>
  have e:zak ⟨1,zbp,t⟩=kW sExport++(kW sDefault++(t.pcs++zaU)):=by simp[zak,zdQ]
  rw[e]
  exact⟨zb4 (o (by simp[zca])) (zb4 (o (by simp[zca])) (zdf j).1),ze0 _ (ze0 _ (zdf j).2)⟩
 | @fn n t z j hd=>
  refine⟨zb4 (o (by simp[zca])) (zcI z.1 (zbN (by simp) (zbN (by simp) (zb3 (.inl rfl) (zbN (by simp) (zb3 (.inl rfl) (zb4 (o (by simp[zca])) ((zfd t j).1.app (zbN (by simp) (zb3 (.inl rfl) (zbN (by simp) (zb3 (.inr rfl) zd8)))))))))))),?_⟩
  have:=zir (a:=t.pcs) (b:=[.inl (zi cSemi),.inr sp1,.inl (zi zaJ),.inr nl1]) (fun w=>by simp[zal,zaZ,zi]) false (zfd t j).2
  simp[zak,kW,zal,zaZ,zi]
  exact this
 | @set n t z j hd=>
  exact⟨zb4 z.1 (zbN (by simp) (zb3 (.inl rfl) (zdf j).1)),ze0 _ (zde (zdf j).2 _ (by simp[zdc,zal,zaZ,zi]))⟩
 | @prt t j hd=>
  refine⟨zcI (o (by simp[zca])) (zbN (by simp) ((zfd t j).1.app (zbN (by simp) (zbN (by simp) (zb3 (.inr rfl) zd8))))),?_⟩
  have:=zir (a:=t.pcs) (b:=.inl (zi zU)::zaU) (fun w=>by simp[zaU,zal,zaZ,zi]) false (zfd t j).2
  simp[zak,zal,zaZ,zi]
  exact this
 | @thr t j hd=>exact⟨zb4 (o (by simp[zca])) (zdf j).1,ze0 _ (zdf j).2⟩
 | @fail t D j hd=>exact⟨zb4 (o (by simp[zca])) (zdf j).1,ze0 _ (zdf j).2⟩
theorem zqo {scr:Bool} {q:PS} {o:List SI} (h:PI scr q o):GoodP scr (zdS q o)∧adj false (zdS q o):=by
 have D: ∀s∈q.rq,GoodT scr (za0 s):=h.rq
 have E: ∀s∈q.rq,GoodP scr (zbk s)∧zal false (zbk s):=fun s j=>⟨zb4 (zez (by simp[zca])) (zcI (D s j) (zbN (by simp) (zb3 (.inr rfl) zd8))),by simp[zbk,kW,zal,zaZ,zi,za0]⟩
 refine⟨(zgY _ fun s j=>(E s j).1).app ((zgY _ fun x z=>(zkK D (h.im x z)).1).app ((zgY _ fun x z=>(zkL D (h.ep x z)).1).app (zgY _ fun s j=>(zkM (h.ok s j)).1))),zkJ _ ?_⟩
 exact zde (zde (zde (zgX _ fun s j=>(zkM (h.ok s j)).2) _ (zgX _ fun x z=>(zkL D (h.ep x z)).2)) _ (zgX _ fun x z=>(zkK D (h.im x z)).2)) _ (zgX _ fun s j=>(E s j).2)
theorem ziv {α:Type} {f:α→List Pc} {n:Nat} (j: ∀x,(zg (f x)).length≤n) (l:List α):(zg (l.flatMap f)).length≤n*l.length:=by
 induction l with
 |nil=>simp[zg]
 |cons x l o=>
  have:=j x
  rw[List.flatMap_cons,zba,List.length_append,List.length_cons,Nat.mul_add]
  omega
theorem ziw (a b:ByteArray) (r:List Pc):(zg (zaP a b r)).length≤5+(zg r).length:=by
 unfold zaP zdb
 split<;>simp[zg]<;>omega
theorem zqp (x:Im):(zg (zaQ x)).length≤9:=by
 have:=ziw x.first x.loc (.inr sp1::zaH x.spec)
 have e:(zg (.inr sp1::zaH x.spec)).length=3:=rfl
 unfold zaQ
 split
 ·simp[zg,kW,zaH]
 ·split
  ·simp[zg,kW,zaH]
  ·rw[zba,List.length_append,show (zg (kW sImport)).length=1 from rfl]
   omega
theorem zqq (x:Ep):(zg (zbg x)).length≤9:=by
 have:=ziw x.loc x.name (.inr sp1::zaH x.spec)
 have:=ziw x.loc x.name [.inl (zi cSemi),.inr nl1]
 have e:(zg (.inr sp1::zaH x.spec)).length=3:=rfl
 have e:(zg [.inl (zi cSemi),.inr nl1]).length=1:=rfl
 unfold zbg
 split
 ·simp[zg,kW,zaH]
 ·split
  ·rw[zba,List.length_append,show (zg (kW sExport)).length=1 from rfl]
   omega
  ·rw[zba,List.length_append,show (zg (kW sExport)).length=1 from rfl]
   omega
theorem zqr (s:SI):(zg (zak s)).length≤8+5*s.t.size:=by
 have:=zp9 s.t
 unfold zak
 repeat' split
 all_goals simp[kW,zaU,zdc,zg,zba]
 all_goals omega
theorem zqs (l:List SI): ∀o,(zg (l.flatMap zak)).length≤8*l.length+5*(exS l o).length:=by
 induction l with
 |nil=>intro o;simp[zg]
 |cons s l j=>
  intro o
  have z:=zqr s
  have D:=j (o+s.t.size)
  rw[List.flatMap_cons,zba,List.length_append,List.length_cons,exS,List.length_append,Tr.flat_len]
  omega
theorem zqt {scr:Bool} {q:PS} {j:List SI} (h:PI scr q j):(zg (zdS q j)).length≤4000:=by
 have D:=ziv (f:=zbk) (n:=3) (fun s=>by simp[zbk,kW,zg]) q.rq
 have K:=ziv zqp q.im
 have J:=ziv zqq q.ep
 have L:=zqs j 0
 have H:=h.nrq
 have E:=h.nim
 have I:=h.nep
 have z:=h.nst
 have o:=h.nex
 rw[h.st,zkI] at z
 rw[h.ex] at o
 unfold zdS
 simp only[zba,List.length_append]
 omega
theorem zqu {scr:Bool} {q:PS} {j:List SI} (h:PI scr q j): ∃z,za8 (zcx (zaS q)) scr (.ok z)∧zaS z=zaS q:=by
 obtain⟨E,D⟩:=zqo h
 obtain⟨o,J,I⟩:=zki (zqn h) E D (zqt h)
 obtain⟨p,H⟩:=zqe (C:=⟨o,(zcx (zaS q)).size,scr⟩) h (by unfold Rem;rw[List.drop_zero];exact I)
 exact⟨{q with pos:=p},⟨.ok o,J,H.symm⟩,rfl⟩
def zdg (N:Nat) (x:Ep):Prop:=x.name.size≤N∧x.loc.size≤N∧x.spec.size≤N
def zfR (N:Nat) (x:Ex):Prop:=x.name.size≤N∧x.field.size≤N∧0≤x.num∧x.num≤1000000
structure BS (N:Nat) (q:PS):Prop where
 rq: ∀x∈q.rq,x.size≤N
 im: ∀x∈q.im,x.spec.size≤N∧x.first.size≤N∧x.loc.size≤N
 ep: ∀x∈q.ep,zdg N x
 la: ∀x∈q.la,zdg N x
 st: ∀x∈q.st,x.name.size≤N
 ex: ∀x∈q.ex,zfR N x
def BT (N:Nat) (ts:List Tk):Prop:=∀t∈ts,t.text.size≤N∧0≤t.num∧t.num≤1000000
theorem zqv {s:ByteArray} {scr:Bool} {a e:Nat} {t:Tk} (h:Tok s scr a t e):t.text.size≤s.size∧0≤t.num∧t.num≤1000000:=by
 cases h using Tok.elim with
 |name _ _=>exact⟨by simp only[ByteArray.size_extract];omega,by simp,by simp⟩
 |num h o=>
  refine⟨Nat.zero_le _,?_,o.2.2.2.2.1⟩
  have:=zgt (s:=s) (a:=a) 0 (e-a) (fun j z=>by
   have:=o.1.2.2.1 (a+j) (by omega) (by omega)
   rw[zbV] at this
   exact this.1) (Nat.zero_le _)
  rw[o.2.2.2.1]
  exact this.2
 |str _ _=>exact⟨by simp only[ByteArray.size_extract];omega,by simp,by simp⟩
 |sign _=>exact⟨by simp only[ByteArray.size_extract];omega,by simp,by simp⟩
theorem zkN {s:ByteArray} {scr:Bool} {a n:Nat} {r:Except Nat (List Tk)} (h:Lx s scr a n r): ∀j,r= .ok j→BT s.size j:=by
 induction h using Lx.ind with
 |done=>intro j k;cases k;intro t o;cases o
 |bad _ _=>intro j k;cases k
 | @tok a n e b t r h E o I H D=>
  intro j k
  cases r with
  |error p=>cases k
  |ok l=>
   cases k
   intro u z
   rcases List.mem_cons.1 z with rfl|z
   ·exact zqv o
   ·exact D l rfl u z
theorem zfS {N:Nat} {C:Cx} (o:BT N C.ts) (i:Nat):(zf C i).text.size≤N∧0≤(zf C i).num∧(zf C i).num≤1000000:=by
 by_cases j:i<C.ts.length
 ·have e:zf C i=C.ts[i]:=by simp[zf,List.getD,List.getElem?_eq_getElem j]
  rw[e]
  exact o _ (List.getElem_mem j)
 ·rw[zcT (by omega)]
  exact⟨Nat.zero_le _,by simp,by simp⟩
theorem zcJ {N:Nat} {q:PS} (h:BS N q):BS N (adv q):=⟨h.rq,h.im,h.ep,h.la,h.st,h.ex⟩
theorem zar {N:Nat} {C:Cx} {k:Int} {x:ByteArray} {q q':PS} (h:zd C k x q= .ok q') (j:BS N q):BS N q':=by
 obtain⟨rfl,_⟩:=zbh h
 exact zcJ j
theorem zd9 {N:Nat} {C:Cx} (z:BT N C.ts) {o:Bool} {q:PS} {y:PS×ByteArray} (h:zk C o q= .ok y) (j:BS N q):BS N y.1∧y.2.size≤N:=by
 obtain⟨rfl,_⟩:=zaX h
 exact⟨zcJ j,(zfS z _).1⟩
theorem ze1 {N:Nat} {C:Cx} {x:Ex} {q q':PS} (h:zJ C x q= .ok q') (j:BS N q) (z:zfR N x):BS N q':=by
 obtain⟨rfl,_⟩:=zbx h
 refine⟨j.rq,j.im,j.ep,j.la,j.st,fun y o=>?_⟩
 rcases List.mem_append.1 o with o|o
 ·exact j.ex y o
 ·rw[List.mem_singleton] at o
  rw[o]
  exact z
theorem zfh {N:Nat} {k l r:Int} {n f:ByteArray} (j:n.size≤N) (o:f.size≤N):zfR N ⟨k,0,n,f,l,r⟩:=⟨j,o,Int.le_refl _,by simp⟩
theorem zkO {N:Nat} {C:Cx} {n:ByteArray} {q q':PS} (h:zau C n q= .ok q') (o:BS N q) (j:n.size≤N):BS N q':=by
 unfold zau at h
 split at h
 ·obtain⟨a,z,E⟩:=ze h
  obtain⟨b,D,H⟩:=ze z
  exact ze1 E (zar H (zar D o)) (zfh j (Nat.zero_le _))
 ·exact ze1 h o (zfh j (Nat.zero_le _))
theorem zqw {N:Nat} {C:Cx} {n f:ByteArray} {q q':PS} (h:za5 C n f q= .ok q') (o:BS N q) (j:n.size≤N) (z:f.size≤N):BS N q':=by
 unfold za5 at h
 split at h
 ·obtain⟨a,D,H⟩:=ze h
  obtain⟨b,E,I⟩:=ze D
  exact ze1 H (zar I (zar E o)) (zfh j z)
 ·exact ze1 h o (zfh j z)
theorem zqx {N:Nat} {C:Cx} (J:BT N C.ts) (Q:8≤N) (f:Nat): ∀(E:NT) (d:Nat) (q q':PS),ev C f E d q= .ok q'→BS N q→BS N q':=by
 induction f with
 |zero=>intro E d q q' h;cases E using NT.elim<;>cases h
 |succ f D=>
  intro E d q q' h z
  cases E using NT.elim with
  |sum=>
   rw[ev] at h
   obtain⟨a,o,j⟩:=ze h
   exact D _ _ _ _ j (D _ _ _ _ o z)
  |prod=>
   rw[ev] at h
   obtain⟨a,o,j⟩:=ze h
   exact D _ _ _ _ j (D _ _ _ _ o z)
  |sumT=>
   rw[ev] at h
   split at h
   ·obtain⟨a,o,j⟩:=ze h
    obtain⟨b,H,I⟩:=ze o
    exact D _ _ _ _ j (ze1 I (D _ _ _ _ H (zcJ z)) (zfh (Nat.zero_le _) (Nat.zero_le _)))
   ·cases h
    exact z
  |prodT=>
   rw[ev] at h
   split at h
   ·obtain⟨a,o,j⟩:=ze h
    obtain⟨b,H,I⟩:=ze o
    exact D _ _ _ _ j (ze1 I (D _ _ _ _ H (zcJ z)) (zfh (Nat.zero_le _) (Nat.zero_le _)))
   ·cases h
    exact z
  |part=>
   rw[ev] at h
   split at h
   ·exact ze1 h (zcJ z) ⟨Nat.zero_le _,Nat.zero_le _,(zfS J _).2⟩
   ·split at h
    ·split at h
     ·cases h
     ·obtain⟨a,o,j⟩:=ze h
      exact zar j (D _ _ _ _ o (zcJ z))
    ·split at h
     ·exact zkO h (zcJ z) (Nat.le_trans (show 5≤8 by omega) Q)
     ·obtain⟨a,o,j⟩:=ze h
      obtain⟨L,K⟩:=zd9 J o z
      split at j
      ·obtain⟨b,H,I⟩:=ze j
       obtain⟨O,M⟩:=zd9 J H (zcJ L)
       exact zqw I O K M
      ·exact zkO j L K
theorem zfi {N:Nat} {C:Cx} (z:BT N C.ts) (j:8≤N) {D:NT} {d:Nat} {q q':PS} (h:pE C D d q= .ok q') (o:BS N q):BS N q':=zqx z j _ _ _ _ _ h o
theorem zkP {N:Nat} {C:Cx} (z:BT N C.ts) {q:PS} {a:PS×ByteArray} (h:zy C q= .ok a) (j:BS N q):BS N a.1∧a.2.size≤N:=by
 unfold zy at h
 split at h
 ·split at h
  ·cases h
   exact⟨zcJ j,(zfS z _).1⟩
  ·split at h
   ·cases h
   ·cases h
    refine⟨⟨fun x o=>?_,j.im,j.ep,j.la,j.st,j.ex⟩,(zfS z _).1⟩
    rcases List.mem_append.1 o with o|o
    ·exact j.rq x o
    ·rw[List.mem_singleton] at o
     rw[o]
     exact (zfS z _).1
 ·cases h
theorem zfj {N:Nat} {C:Cx} {k:Int} {n:ByteArray} {q q':PS} (h:zE C k n q= .ok q') (o:BS N q) (z:n.size≤N):BS N q':=by
 unfold zE at h
 split at h
 ·cases h
 ·cases h
  refine⟨o.rq,o.im,o.ep,o.la,fun x j=>?_,o.ex⟩
  rcases List.mem_append.1 j with j|j
  ·exact o.st x j
  ·rw[List.mem_singleton] at j
   rw[j]
   exact z
theorem zix {N:Nat} {C:Cx} {y:Im} {q q':PS} (h:zW C y q= .ok q') (o:BS N q) (z:y.spec.size≤N∧y.first.size≤N∧y.loc.size≤N):BS N q':=by
 unfold zW at h
 split at h
 ·cases h
 ·cases h
  refine⟨o.rq,fun x j=>?_,o.ep,o.la,o.st,o.ex⟩
  rcases List.mem_append.1 j with j|j
  ·exact o.im x j
  ·rw[List.mem_singleton] at j
   rw[j]
   exact z
theorem ziy {α:Type} {P:α→Prop} {l:List α} {y:α} (h: ∀x∈l,P x) (o:P y): ∀x∈l++[y],P x:=fun x j=>by
 rcases List.mem_append.1 j with j|j
 ·exact h x j
 ·rw[List.mem_singleton] at j
  rw[j]
  exact o
theorem zfk {N:Nat} {C:Cx} {y:Ep} {q q':PS} (h:zm C y q= .ok q') (j:BS N q) (o:zdg N y):BS N q':=by
 unfold zm at h
 split at h
 ·cases h
 ·split at h
  ·cases h
   exact⟨j.rq,j.im,j.ep,ziy j.la o,j.st,j.ex⟩
  ·cases h
   exact⟨j.rq,j.im,ziy j.ep o,j.la,j.st,j.ex⟩
theorem zqy {α:Type} {f:α→PS→PR} (l:List α): ∀(x:PR) (q':PS),zK f l x= .ok q'→∃q,x= .ok q∧True:=by
 induction l with
 |nil=>intro x q' h;exact⟨q',h,trivial⟩
 |cons a l z=>
  intro x q' h
  obtain⟨b,j,_⟩:=z _ _ h
  obtain⟨c,o,_⟩:=ze j
  exact⟨c,o,trivial⟩
theorem ziz {α:Type} {N:Nat} {f:α→PS→PR} (l:List α) (D: ∀a∈l,∀q q',f a q= .ok q'→BS N q→BS N q'): ∀(q q':PS),zK f l (.ok q)= .ok q'→BS N q→BS N q':=by
 induction l with
 |nil=>intro q q' h z;cases h;exact z
 |cons a l H=>
  intro q q' h z
  have o:zK f l (f a q)= .ok q':=h
  cases j:f a q with
  |error e=>
   rw[j] at o
   obtain⟨c,E,_⟩:=zqy l _ _ o
   cases E
  |ok b=>
   rw[j] at o
   exact H (fun x I=>D x (List.mem_cons_of_mem _ I)) b q' o (D a (List.mem_cons_self ..) q b j z)
theorem zqz {N:Nat} {C:Cx} (D:BT N C.ts) {j:Bool} {a b:PS×ByteArray} (h:asP C j a= .ok b) (o:BS N a.1) (z:a.2.size≤N):BS N b.1∧b.2.size≤N:=by
 unfold asP at h
 split at h
 ·exact zd9 D h (zcJ o)
 ·split at h
  ·cases h
  ·cases h
   exact⟨o,z⟩
theorem zq0 {N:Nat} {C:Cx} (H:BT N C.ts) {o:Bool} (f:Nat): ∀(q:PS) (acc:List Ep) (a:PS×List Ep),zbK C o f q acc= .ok a→BS N q→(∀x∈acc,zdg N x)→BS N a.1∧∀x∈a.2,zdg N x:=by
 induction f with
 |zero=>intro q acc a h;cases h
 |succ f K=>
  intro q acc a h L j
  rw[zbK] at h
  obtain⟨b,J,Q⟩:=ze h
  obtain⟨c,M,z⟩:=ze Q
  obtain⟨U,E⟩:=zd9 H J L
  obtain⟨I,O⟩:=zqz H M U E
  have D: ∀x∈acc++[(⟨0,c.2,b.2,sNone⟩:Ep)],zdg N x:=ziy j ⟨O,E,Nat.zero_le _⟩
  split at z
  ·exact K _ _ _ z (zcJ I) D
  ·obtain⟨d,V,X⟩:=ze z
   cases X
   exact⟨zar V I,D⟩
theorem zkQ {N:Nat} {C:Cx} (D:BT N C.ts) {j:Bool} {q:PS} {a:PS×List Ep} (h:zbB C j q= .ok a) (z:BS N q):BS N a.1∧∀x∈a.2,zdg N x:=by
 obtain⟨b,o,E⟩:=ze h
 exact zq0 D _ _ _ _ E (zar o z) fun x H=>by cases H
theorem zfT {N:Nat} {C:Cx} (D:BT N C.ts) {x:PR} {b:PS×ByteArray} (h:zaD C (zav C x)= .ok b): ∃q,x= .ok q∧(BS N q→BS N b.1∧b.2.size≤N):=by
 obtain⟨a,j,H⟩:=ze h
 obtain⟨c,E,J⟩:=ze H
 obtain⟨d,K,M⟩:=ze j
 obtain⟨e,L,I⟩:=ze K
 cases J
 refine⟨e,L,fun z=>?_⟩
 obtain⟨o,O⟩:=zkP D M (zar I z)
 exact⟨zar E o,O⟩
theorem zq1 {N:Nat} {C:Cx} (E:BT N C.ts) (Z:8≤N) {q q':PS} (h:za3 C q= .ok q') (hq:BS N q):BS N q':=by
 obtain⟨q1,h1,z⟩:=ze h
 have O:=zar h1 hq
 split at z
 ·obtain⟨a,j,o⟩:=ze z
  obtain⟨b,K,J⟩:=ze o
  obtain⟨l1,Y⟩:=zkQ E j O
  obtain⟨d,Q,D⟩:=zfT E K
  cases Q
  obtain⟨L,M⟩:=D l1
  exact ziz _ (fun x X p p' hp hb=>zix hp hb ⟨M,(Y x X).2.1,(Y x X).1⟩) _ _ J L
 ·split at z
  ·obtain⟨a,j,o⟩:=ze z
   obtain⟨b,K,J⟩:=ze o
   obtain⟨c,h7,h8⟩:=ze j
   obtain⟨d,Q,D⟩:=ze h7
   obtain⟨U,V⟩:=zd9 E h8 (zar D (zar Q O))
   obtain⟨f,H,I⟩:=zfT E K
   cases H
   obtain⟨L,M⟩:=I U
   exact zix J L ⟨M,Nat.le_trans (show 1≤8 by omega) Z,V⟩
  ·split at z
   ·obtain⟨a,j,o⟩:=ze z
    obtain⟨b,K,J⟩:=ze o
    obtain⟨U,V⟩:=zd9 E j O
    obtain⟨f,H,I⟩:=zfT E K
    cases H
    obtain⟨L,M⟩:=I U
    exact zix J L ⟨M,Nat.le_trans (show 7≤8 by omega) Z,V⟩
   ·obtain⟨a,j,o⟩:=ze z
    exact zar o (zkP E j O).1
theorem zkR {N:Nat} {C:Cx} (H:BT N C.ts) (U:8≤N) {q:PS} {a:PS×ByteArray} (h:zbA C q= .ok a) (J:BS N q):BS N a.1∧a.2.size≤N:=by
 obtain⟨b,I,M⟩:=ze h
 obtain⟨z,D,o⟩:=ze M
 cases o
 obtain⟨c,L,Q⟩:=ze I
 obtain⟨d,V,Y⟩:=ze D
 obtain⟨f,Z,O⟩:=ze V
 obtain⟨g,X,j⟩:=ze Z
 obtain⟨K,E⟩:=zd9 H Q (zar L J)
 exact⟨zfj Y (zar O (zfi H U j (zar (show zd C 4 cEq b.1= .ok g from X) K))) E,E⟩
theorem zkS {N:Nat} {C:Cx} (U:BT N C.ts) (hN:8≤N) {q:PS} {a:PS×ByteArray} (h:fnP C q= .ok a) (hq:BS N q):BS N a.1∧a.2.size≤N:=by
 obtain⟨b,h1,h2⟩:=ze h
 obtain⟨z,I,D⟩:=ze h2
 cases D
 obtain⟨c,X,Z⟩:=ze h1
 obtain⟨d,h5,h6⟩:=ze I
 obtain⟨f,h7,Y⟩:=ze h5
 obtain⟨g,h9,E⟩:=ze h7
 obtain⟨i,M,O⟩:=ze h9
 obtain⟨j,K,L⟩:=ze M
 obtain⟨k,o,J⟩:=ze K
 obtain⟨l,Q,H⟩:=ze o
 obtain⟨n1,V⟩:=zd9 U Z (zar X hq)
 exact⟨zfj h6 (zar Y (zar E (zfi U hN O (zar L (zar J (zar H (zar (show zd C 4 cOpen b.1= .ok l from Q) n1))))))) V,V⟩
theorem zq2 {N:Nat} {C:Cx} (K:BT N C.ts) (L:8≤N) {q q':PS} (h:zV C q= .ok q') (hq:BS N q):BS N q':=by
 obtain⟨q1,h1,j⟩:=ze h
 have O:=zar h1 hq
 split at j
 ·obtain⟨a,E,z⟩:=ze j
  obtain⟨Y,U⟩:=zkQ K E O
  split at z
  ·obtain⟨b,I,H⟩:=ze z
   exact ziz (f:=fun e=>zm C (zD e)) _ (fun x M p p' V X=>zfk (y:=zD x) V X ⟨(U x M).1,(U x M).2.1,Nat.zero_le _⟩) _ _ H (zar I Y)
  ·obtain⟨b,I,H⟩:=ze z
   obtain⟨d,Q,o⟩:=zfT K I
   cases Q
   obtain⟨J,D⟩:=o Y
   exact ziz (f:=fun e=>zm C (zaj b.2 e)) _ (fun x M p p' V X=>zfk (y:=zaj b.2 x) V X ⟨(U x M).1,(U x M).2.1,D⟩) _ _ H J
 ·split at j
  ·obtain⟨b,I,H⟩:=ze j
   obtain⟨d,Q,o⟩:=zfT K I
   obtain⟨J,D⟩:=o (zar Q O)
   exact zfk H J ⟨Nat.zero_le _,Nat.zero_le _,D⟩
  ·split at j
   ·obtain⟨a,E,z⟩:=ze j
    obtain⟨b,I,H⟩:=ze E
    obtain⟨c,h7,Z⟩:=ze I
    obtain⟨d,Q,o⟩:=ze h7
    exact zfk z (zfj H (zar Z (zfi K L o (zar Q O))) L) ⟨Nat.le_trans (show 7≤8 by omega) L,L,Nat.zero_le _⟩
   ·split at j
    ·obtain⟨a,E,z⟩:=ze j
     obtain⟨J,D⟩:=zkR K L E O
     exact zfk z J ⟨D,D,Nat.zero_le _⟩
    ·split at j
     ·obtain⟨a,E,z⟩:=ze j
      obtain⟨J,D⟩:=zkS K L E O
      exact zfk z J ⟨D,D,Nat.zero_le _⟩
     ·cases j
theorem zkT {N:Nat} {C:Cx} (z:BT N C.ts) (I:8≤N) {s:ByteArray} {k:Int} {q q':PS} (h:bd (bd (bd (zd C 1 s q) (pE C .sum 0)) (zd C 4 cSemi)) (zE C k sNone)= .ok q') (o:BS N q):BS N q':=by
 obtain⟨a,j,E⟩:=ze h
 obtain⟨b,D,H⟩:=ze j
 obtain⟨c,J,K⟩:=ze D
 exact zfj E (zar H (zfi z I K (zar J o))) (Nat.zero_le _)
theorem zq3 {N:Nat} {C:Cx} (j:BT N C.ts) (z:8≤N) {q q':PS} (h:zo C q= .ok q') (o:BS N q):BS N q':=by
 unfold zo at h
 split at h
 ·exact zq1 j z h o
 ·split at h
  ·exact zq2 j z h o
  ·split at h
   ·obtain⟨a,D,E⟩:=ze h
    cases E
    exact (zkR j z D o).1
   ·split at h
    ·obtain⟨a,D,E⟩:=ze h
     cases E
     exact (zkS j z D o).1
    ·split at h
     ·obtain⟨a,D,E⟩:=ze h
      obtain⟨b,H,K⟩:=ze D
      obtain⟨c,L,M⟩:=ze H
      obtain⟨d,O,I⟩:=ze L
      obtain⟨e,U,J⟩:=ze O
      exact zfj E (zar K (zar M (zfi j z I (zar J (zar U o))))) (Nat.zero_le _)
     ·split at h
      ·exact zkT j z h o
      ·split at h
       ·exact zkT j z h o
       ·obtain⟨a,D,E⟩:=ze h
        obtain⟨b,H,K⟩:=ze E
        obtain⟨c,L,M⟩:=ze H
        obtain⟨d,O,I⟩:=ze L
        obtain⟨V,Q⟩:=zd9 j D o
        exact zfj K (zar M (zfi j z I (zar O V))) Q
theorem zq4 {N:Nat} {C:Cx} (D:BT N C.ts) (H:8≤N) (f:Nat): ∀(q q':PS),zbL C f q= .ok q'→BS N q→BS N q':=by
 induction f with
 |zero=>intro q q' h;cases h
 |succ f z=>
  intro q q' h j
  rw[zbL] at h
  split at h
  ·obtain⟨a,o,E⟩:=ze h
   exact z _ _ E (zq3 D H o j)
  ·cases h
   exact j
theorem zq5 {s:ByteArray} {scr:Bool} {q:PS} {N:Nat} (h:za8 s scr (.ok q)) (H:s.size≤N) (z:8≤N):BS N q:=by
 obtain⟨r,⟨a,_,E⟩,e⟩:=h
 cases r with
 |error p=>cases e
 |ok j=>
  refine zq4 (C:=⟨j,s.size,scr⟩) (fun t D=>?_) z _ _ _ e.symm ⟨?_,?_,?_,?_,?_,?_⟩
  ·have:=zkN E j rfl t D
   exact⟨Nat.le_trans this.1 H,this.2⟩
  all_goals (intro x o;cases o)
def bn {α:Type} (B:Nat) (x:Except Nat α):Prop:=∀p,x= .error p→p≤B
theorem zaR {α:Type} {B:Nat} (a:α):bn B (.ok a):=fun p h=>by cases h
theorem zcr {α:Type} {B p:Nat} (h:p≤B):bn B (.error p:Except Nat α):=fun q k=>by cases k;exact h
theorem zt {α β:Type} {B:Nat} {x:Except Nat α} {f:α→Except Nat β} (j:bn B x) (o: ∀a,bn B (f a)):bn B (bd x f):=by
 cases x with
 |ok a=>exact o a
 |error e=>intro p h;cases h;exact j e rfl
def InC (C:Cx):Prop:=∀t∈C.ts,t.pos≤C.fin
theorem zdh {C:Cx} (h:InC C) (i:Nat):zu C i≤C.fin:=by
 unfold zu zf
 simp only[List.getD]
 cases j:C.ts[i]? with
 |none=>exact Nat.le_refl _
 |some t=>exact h t (List.mem_of_getElem? j)
theorem zaq {C:Cx} (h:InC C) (k:Int) (x:ByteArray) (q:PS):bn C.fin (zd C k x q):=by
 unfold zd
 split
 ·exact zaR _
 ·exact zcr (zdh h _)
theorem zdA {C:Cx} (h:InC C) (o:Bool) (q:PS):bn C.fin (zk C o q):=by
 unfold zk
 split
 ·exact zaR _
 ·exact zcr (zdh h _)
theorem zkU {C:Cx} (h:InC C) (q:PS):bn C.fin (zy C q):=by
 unfold zy
 repeat' split
 all_goals first|exact zaR _|exact zcr (zdh h _)
theorem zi0 {C:Cx} (h:InC C) (x:Im) (q:PS):bn C.fin (zW C x q):=by
 unfold zW
 split
 ·exact zcr (zdh h _)
 ·exact zaR _
theorem zfl {C:Cx} (h:InC C) (x:Ep) (q:PS):bn C.fin (zm C x q):=by
 unfold zm
 repeat' split
 all_goals first|exact zaR _|exact zcr (zdh h _)
theorem ze2 {C:Cx} (h:InC C) (k:Int) (n:ByteArray) (q:PS):bn C.fin (zE C k n q):=by
 unfold zE
 split
 ·exact zcr (zdh h _)
 ·exact zaR _
theorem ze3 {C:Cx} (h:InC C) (x:Ex) (q:PS):bn C.fin (zJ C x q):=by
 unfold zJ
 split
 ·exact zcr (zdh h _)
 ·exact zaR _
theorem zkV {C:Cx} (h:InC C) (n:ByteArray) (q:PS):bn C.fin (zau C n q):=by
 unfold zau
 split
 ·exact zt (zt (zaq h _ _ _) fun _=>zaq h _ _ _) fun _=>ze3 h _ _
 ·exact ze3 h _ _
theorem zq6 {C:Cx} (h:InC C) (n f:ByteArray) (q:PS):bn C.fin (za5 C n f q):=by
 unfold za5
 split
 ·exact zt (zt (zaq h _ _ _) fun _=>zaq h _ _ _) fun _=>ze3 h _ _
 ·exact ze3 h _ _
theorem zq7 {C:Cx} (h:InC C) (f:Nat): ∀o d q,bn C.fin (ev C f o d q):=by
 induction f with
 |zero=>intro o d q;cases o using NT.elim<;>exact zcr (Nat.zero_le _)
 |succ f j=>
  intro o d q
  cases o using NT.elim with
  |sum=>rw[ev];exact zt (j _ _ _) fun _=>j _ _ _
  |prod=>rw[ev];exact zt (j _ _ _) fun _=>j _ _ _
  |sumT=>
   rw[ev]
   split
   ·exact zt (zt (j _ _ _) fun _=>ze3 h _ _) fun _=>j _ _ _
   ·exact zaR _
  |prodT=>
   rw[ev]
   split
   ·exact zt (zt (j _ _ _) fun _=>ze3 h _ _) fun _=>j _ _ _
   ·exact zaR _
  |part=>
   rw[ev]
   split
   ·exact ze3 h _ _
   ·split
    ·split
     ·exact zcr (zdh h _)
     ·exact zt (j _ _ _) fun _=>zaq h _ _ _
    ·split
     ·exact zkV h _ _
     ·refine zt (zdA h _ _) fun x=>?_
      split
      ·exact zt (zdA h _ _) fun _=>zq6 h _ _ _
      ·exact zkV h _ _
theorem ze4 {C:Cx} (h:InC C) (j:NT) (d:Nat) (q:PS):bn C.fin (pE C j d q):=zq7 h ..
theorem zq8 {C:Cx} (h:InC C) (j:Bool) (a:PS×ByteArray):bn C.fin (asP C j a):=by
 unfold asP
 split
 ·exact zdA h _ _
 ·split
  ·exact zcr (zdh h _)
  ·exact zaR _
theorem zq9 {C:Cx} (h:InC C) (j:Bool) (f:Nat): ∀q acc,bn C.fin (zbK C j f q acc):=by
 induction f with
 |zero=>intro q acc;exact zcr (Nat.zero_le _)
 |succ f o=>
  intro q acc
  rw[zbK]
  refine zt (zdA h _ _) fun a=>zt (zq8 h _ _) fun b=>?_
  split
  ·exact o _ _
  ·exact zt (zaq h _ _ _) fun _=>zaR _
theorem zkW {C:Cx} (h:InC C) (j:Bool) (q:PS):bn C.fin (zbB C j q):=zt (zaq h _ _ _) fun _=>zq9 h ..
theorem zfU {C:Cx} (h:InC C) {x:PR} (j:bn C.fin x):bn C.fin (zaD C (zav C x)):=zt (zt (zt j fun _=>zaq h _ _ _) fun _=>zkU h _) fun _=>zt (zaq h _ _ _) fun _=>zaR _
theorem zi1 {α:Type} {B:Nat} {f:α→PS→PR} (o: ∀a q,bn B (f a q)) (l:List α): ∀x,bn B x→bn B (zK f l x):=by
 induction l with
 |nil=>intro x j;exact j
 |cons a l z=>intro x j;exact z _ (zt j fun _=>o _ _)
theorem zqA {C:Cx} (h:InC C) (q:PS):bn C.fin (za3 C q):=by
 refine zt (zaq h _ _ _) fun j=>?_
 split
 ·exact zt (zkW h _ _) fun _=>zt (zfU h (zaR _)) fun _=>zi1 (fun _ _=>zi0 h _ _) _ _ (zaR _)
 ·split
  ·exact zt (zt (zt (zaq h _ _ _) fun _=>zaq h _ _ _) fun _=>zdA h _ _) fun _=>zt (zfU h (zaR _)) fun _=>zi0 h _ _
  ·split
   ·exact zt (zdA h _ _) fun _=>zt (zfU h (zaR _)) fun _=>zi0 h _ _
   ·exact zt (zkU h _) fun _=>zaq h _ _ _
theorem zkX {B:Nat} {y:PRN} {F:PR→ByteArray→PR} (o:bn B y) (j: ∀q n,bn B (F (.ok q) n)):bn B (withN y F):=zt o fun _=>zt (j _ _) fun _=>zaR _
theorem zkY {C:Cx} (h:InC C) (q:PS):bn C.fin (zbA C q):=zkX (zt (zaq h _ _ _) fun _=>zdA h _ _) fun _ _=>zt (zt (zt (zt (zaR _) fun _=>zaq h _ _ _) fun _=>ze4 h _ _ _) fun _=>zaq h _ _ _) fun _=>ze2 h _ _ _
theorem zkZ {C:Cx} (h:InC C) (q:PS):bn C.fin (fnP C q):=zkX (zt (zaq h _ _ _) fun _=>zdA h _ _) fun _ _=>zt (zt (zt (zt (zt (zt (zt (zt (zaR _) fun _=>zaq h _ _ _) fun _=>zaq h _ _ _) fun _=>zaq h _ _ _) fun _=>zaq h _ _ _) fun _=>ze4 h _ _ _) fun _=>zaq h _ _ _) fun _=>zaq h _ _ _) fun _=>ze2 h _ _ _
theorem zqB {C:Cx} (h:InC C) (q:PS):bn C.fin (zV C q):=by
 refine zt (zaq h _ _ _) fun j=>?_
 split
 ·refine zt (zkW h _ _) fun a=>?_
  split
  ·exact zt (zaq h _ _ _) fun _=>zi1 (fun _ _=>zfl h _ _) _ _ (zaR _)
  ·exact zt (zfU h (zaR _)) fun _=>zi1 (fun _ _=>zfl h _ _) _ _ (zaR _)
 ·split
  ·exact zt (zfU h (zaq h _ _ _)) fun _=>zfl h _ _
  ·split
   ·exact zt (zt (zt (zt (zaq h _ _ _) fun _=>ze4 h _ _ _) fun _=>zaq h _ _ _) fun _=>ze2 h _ _ _) fun _=>zfl h _ _
   ·split
    ·exact zt (zkY h _) fun _=>zfl h _ _
    ·split
     ·exact zt (zkZ h _) fun _=>zfl h _ _
     ·exact zcr (zdh h _)
theorem zqC {C:Cx} (h:InC C) (q:PS):bn C.fin (zo C q):=by
 unfold zo
 split
 ·exact zqA h q
 ·split
  ·exact zqB h q
  ·split
   ·exact zt (zkY h _) fun _=>zaR _
   ·split
    ·exact zt (zkZ h _) fun _=>zaR _
    ·split
     ·exact zt (zt (zt (zt (zt (zaq h _ _ _) fun _=>zaq h _ _ _) fun _=>ze4 h _ _ _) fun _=>zaq h _ _ _) fun _=>zaq h _ _ _) fun _=>ze2 h _ _ _
     ·split
      ·exact zt (zt (zt (zaq h _ _ _) fun _=>ze4 h _ _ _) fun _=>zaq h _ _ _) fun _=>ze2 h _ _ _
      ·split
       ·exact zt (zt (zt (zaq h _ _ _) fun _=>ze4 h _ _ _) fun _=>zaq h _ _ _) fun _=>ze2 h _ _ _
       ·exact zt (zdA h _ _) fun _=>zt (zt (zt (zaq h _ _ _) fun _=>ze4 h _ _ _) fun _=>zaq h _ _ _) fun _=>ze2 h _ _ _
theorem zqD {C:Cx} (h:InC C) (f:Nat): ∀q,bn C.fin (zbL C f q):=by
 induction f with
 |zero=>intro q;exact zcr (Nat.zero_le _)
 |succ f j=>
  intro q
  rw[zbL]
  split
  ·exact zt (zqC h _) fun _=>j _
  ·exact zaR _
theorem zqE {s:ByteArray} {scr:Bool} {a n:Nat} {r:Except Nat (List Tk)} (h:Lx s scr a n r):bn s.size r∧∀j,r= .ok j→∀t∈j,t.pos≤s.size:=by
 induction h using Lx.ind with
 |done=>exact⟨zaR _,fun j o t z=>by cases o;cases z⟩
 |bad h _=>exact⟨zcr (Nat.le_of_lt h),fun j o=>by cases o⟩
 | @tok a n e b t r h H z I o E=>
  cases r with
  |error p=>exact⟨fun q k=>by cases k;exact E.1 p rfl,fun j k=>by simp[Except.map] at k⟩
  |ok l=>
   refine⟨zaR _,fun j k=>?_⟩
   simp only[Except.map,Except.ok.injEq] at k
   subst k
   intro u D
   rcases List.mem_cons.1 D with rfl|D
   ·rw[(zdJ h z).2.2];exact Nat.le_of_lt h
   ·exact E.2 l rfl u D
theorem zqF {s:ByteArray} {scr:Bool} {p:Nat} (h:za8 s scr (.error p)):p≤s.size:=by
 obtain⟨r,⟨a,_,D⟩,e⟩:=h
 obtain⟨o,z⟩:=zqE D
 cases r with
 |error E=>cases e;exact o _ rfl
 |ok j=>exact zqD (C:=⟨j,s.size,scr⟩) (z j rfl) _ _ p e.symm
def zfV (scr:Bool) (l:List Tk) (T:ByteArray):Prop:=∃P,T.data.toList=zL P∧zg P=l.map zbE∧GoodP scr P∧zal false P
theorem zqG (scr:Bool):zfV scr [] sNone:=⟨[],rfl,rfl,zd8,rfl⟩
theorem zgZ {scr:Bool} {l:List Tk} {t:Tk} {T r x:ByteArray} (h:zfV scr l T) (J:GoodT scr (zbE t)) (z:r.data.toList=zaw (zbE t)) (H:zeY x.data.toList):zfV scr (l++[t]) (T++r++x):=by
 obtain⟨P,o,E,D,I⟩:=h
 refine⟨P++[.inl (zbE t),.inr x.data.toList],?_,?_,D.app (zcI J fun p j=>?_),zde ?_ _ I⟩
 ·rw[zfN,zfN,o,z,zbY]
  simp[zL]
 ·rw[zba,E]
  simp[zg]
 ·rw[List.mem_singleton] at j
  rw[j]
  exact H
 ·exact⟨(fun k=>by cases k),rfl⟩
theorem zqH {s T:ByteArray} {scr:Bool} {z:List Tk} {q:PS} (j:zY s scr (.ok z)) (J:zfV scr z T) (h:za8 s scr (.ok q)):za8 T scr (.ok q):=by
 obtain⟨P,D,o,H,I⟩:=J
 obtain⟨L,K,E⟩:=zki D H (zkJ _ I) (by rw[o,List.length_map];exact zg0 j)
 exact zp3 j K (E.trans o) h
theorem zqI {s:ByteArray} {scr:Bool} {j:List Tk} (h:zY s scr (.ok j)):(∀t∈j,GoodT scr (zbE t))∧BT s.size j:=by
 obtain⟨a,_,o⟩:=h
 exact⟨zkj o j rfl,zkN o j rfl⟩
theorem zqJ {s:ByteArray} {scr:Bool} {q:PS} (h:za8 s scr (.ok q)): ∃j,zY s scr (.ok j):=by
 obtain⟨r,o,e⟩:=h
 cases r with
 |error p=>cases e
 |ok j=>exact⟨j,o⟩
def zfW (l:List Ex) (o:Nat):Prop:=∀(i:Nat) (x:Ex),l[i]? =some x→zO x.kind=true→0≤x.l∧x.l<((o+i:Nat):Int)∧0≤x.r∧x.r<((o+i:Nat):Int)
theorem zi2 {a b:List Ex} {o:Nat} (z:zfW a o) (D:zfW b (o+a.length)):zfW (a++b) o:=by
 intro i x h k
 rcases Nat.lt_or_ge i a.length with j|j
 ·rw[List.getElem?_append_left j] at h
  exact z i x h k
 ·rw[List.getElem?_append_right j] at h
  have:=D (i-a.length) x h k
  omega
theorem zqK {scr:Bool} (t:Tr):TrOk scr t→∀o,zfW (t.flat o) o:=by
 induction t using Tr.ind with
 |leaf x=>
  intro h o i y j k
  match i,j with
  |0,j=>
   cases j
   rw[zia h] at k
   cases k
  |i+1,j=>cases j
 |two k l r D z=>
  rw[TrOk.two]
  rintro⟨_,H,E⟩ o
  rw[Tr.flat_two]
  refine zi2 (D H o) (zi2 ?_ ?_)
  ·rw[Tr.flat_len];exact z E _
  ·rw[Tr.flat_len,Tr.flat_len]
   intro i y j _
   have I:=l.pos
   have J:=r.pos
   match i,j with
   |0,j=>cases j;simp only;omega
   |i+1,j=>cases j
theorem zqL {scr:Bool} (l:List SI): ∀o,(∀s∈l,SOk scr s)→zfW (exS l o) o:=by
 induction l with
 |nil=>intro o _ i x h;cases h
 |cons s l z=>
  intro o h
  refine zi2 (zqK _ (h s (by simp)).tree.1 o) ?_
  rw[Tr.flat_len]
  exact z _ fun x j=>h x (by simp[j])
theorem zi3 (a b:List Ex) (k:Int):zZ (a++b) k=zZ a k+zZ b k:=by simp[zZ]
theorem zqM (s:Sm) (l:List Sm) (k:Int):za6 (s::l) k=(if s.expr==k then 1 else 0)+za6 l k:=by simp[za6]
def inR (a k b:Nat):Nat:=if a≤k∧k<b then 1 else 0
theorem zi4 {a:Int} {k:Nat}:(if a==(k:Int) then 1 else 0:Nat)=if a=(k:Int) then 1 else 0:=by
 by_cases h:a=(k:Int)
 ·rw[if_pos (by rw[beq_iff_eq];exact h),if_pos h]
 ·rw[if_neg (by rw[beq_iff_eq];exact h),if_neg h]
theorem zqN {scr:Bool} (t:Tr):TrOk scr t→∀o k,zZ (t.flat o) ((k:Nat):Int)=inR o k (o+t.size-1):=by
 induction t using Tr.ind with
 |leaf x=>
  intro h o k
  have:zZ [x] ((k:Nat):Int)=0:=by simp[zZ,zia h]
  rw[Tr.flat_leaf,this,show (Tr.leaf x).size=1 from rfl]
  unfold inR
  rw[if_neg (by omega)]
 |two m l r z j=>
  rw[TrOk.two]
  rintro⟨D,I,E⟩ o k
  have J:=l.pos
  have K:=r.pos
  have H:zO m=true:=by rcases D with rfl|rfl|rfl<;>rfl
  have e:zZ [⟨m,0,sNone,sNone,((o+l.size:Nat):Int)-1,((o+l.size+r.size:Nat):Int)-1⟩] ((k:Nat):Int)=(if (((o+l.size:Nat):Int)-1)=(k:Int) then 1 else 0)+(if (((o+l.size+r.size:Nat):Int)-1)=(k:Int) then 1 else 0):=by
   rw[←zi4,←zi4]
   simp[zZ,H]
  rw[Tr.flat_two,zi3,zi3,z I,j E,e,Tr.size_two]
  unfold inR
  split<;>split<;>split<;>split<;>split<;>omega
theorem zqO {scr:Bool} (l:List SI): ∀o k,(∀s∈l,SOk scr s)→zZ (exS l o) ((k:Nat):Int)+za6 (stS l o) ((k:Nat):Int)=inR o k (o+(exS l o).length):=by
 induction l with
 |nil=>
  intro o k _
  show 0+0=inR o k (o+0)
  unfold inR
  rw[if_neg (by omega)]
 |cons s l D=>
  intro o k h
  have p:=s.t.pos
  have z:=D (o+s.t.size) k fun x j=>h x (by simp[j])
  rw[exS,stS,zi3,zqM,zqN s.t (h s (by simp)).tree.1,zi4,List.length_append,Tr.flat_len]
  simp only
  have e:inR o k (o+s.t.size-1)+(if (((o+s.t.size:Nat):Int)-1)=(k:Int) then 1 else 0)+inR (o+s.t.size) k (o+s.t.size+(exS l (o+s.t.size)).length)=inR o k (o+(s.t.size+(exS l (o+s.t.size)).length)):=by
   unfold inR
   split<;>split<;>split<;>split<;>omega
  rw[←e,←z]
  omega
theorem zqP (l:List SI): ∀o s,s∈stS l o→0≤s.expr∧s.expr<((o+(exS l o).length:Nat):Int):=by
 induction l with
 |nil=>intro o s h;cases h
 |cons x l j=>
  intro o s h
  have p:=x.t.pos
  rw[exS,List.length_append,Tr.flat_len]
  rcases List.mem_cons.1 h with rfl|h
  ·simp only;omega
  ·have:=j _ s h
   omega
theorem zqQ {scr:Bool} {q:PS} {j:List SI} (h:PI scr q j):Tree (zaS q):=by
 refine⟨fun i x o k=>?_,fun s z=>?_,fun k D=>?_⟩
 ·have:=zqL j 0 h.ok i x (by rw[←h.ex];exact o) k
  rw[Nat.zero_add] at this
  exact this
 ·have:=zqP j 0 s (by rw[←h.st];exact z)
  rw[Nat.zero_add,←h.ex] at this
  exact this
 ·have:=zqO j 0 k h.ok
  rw[←h.ex,←h.st,Nat.zero_add] at this
  show zZ q.ex _+za6 q.st _=1
  rw[this]
  unfold inR
  rw[if_pos ⟨Nat.zero_le _,D⟩]
def zbb {α:Type} (c:α→Nat) (l:List α):Nat:=(l.map c).sum
def ze5 (x:ByteArray):Nat:=x.size
def zdB (x:Im):Nat:=x.spec.size+x.first.size+x.loc.size
def zdC (x:Ep):Nat:=x.name.size+x.loc.size+x.spec.size
def zfm (x:Sm):Nat:=x.name.size
def ze6 (x:Ex):Nat:=x.name.size+x.field.size
def zha (m:Md):Nat:=(m.rq.length+zbb ze5 m.rq)+(m.im.length+zbb zdB m.im)+(m.ep.length+zbb zdC m.ep)+(m.st.length+zbb zfm m.st)+(m.ex.length+zbb ze6 m.ex)
theorem zfX {α:Type} (f:α→ByteArray) (l:List α): ∀t:ByteArray,(acc f l t).size=t.size+(l.map fun x=>(f x).size).sum:=by
 induction l with
 |nil=>intro t;rfl
 |cons x l j=>
  intro t
  show (acc f l (t++f x)).size=_
  rw[j,ByteArray.size_append,List.map_cons,List.sum_cons,Nat.add_assoc]
theorem zhb {α:Type} {f c:α→Nat} (l:List α) (h: ∀x∈l,f x≤40+c x):(l.map f).sum≤40*l.length+zbb c l:=by
 induction l with
 |nil=>exact Nat.le_refl _
 |cons x l o=>
  have z:=h x (List.mem_cons_self ..)
  have D:=o fun y j=>h y (List.mem_cons_of_mem _ j)
  unfold zbb at*
  rw[List.map_cons,List.sum_cons,List.map_cons,List.sum_cons,List.length_cons]
  omega
theorem zla {α:Type} {f c g:α→Nat} (l:List α) (h: ∀x∈l,f x≤40+c x+g x):(l.map f).sum≤40*l.length+zbb c l+(l.map g).sum:=by
 induction l with
 |nil=>exact Nat.le_refl _
 |cons x l o=>
  have z:=h x (List.mem_cons_self ..)
  have D:=o fun y j=>h y (List.mem_cons_of_mem _ j)
  unfold zbb at*
  rw[List.map_cons,List.sum_cons,List.map_cons,List.sum_cons,List.map_cons,List.sum_cons,List.length_cons]
  omega
theorem zcK (a:Array UInt8):(⟨a⟩:ByteArray).size=a.size:=rfl
theorem zfn (s:ByteArray):(zaL s).size=s.size+2:=by
 rw[zaL,ByteArray.size_append,ByteArray.size_append,zcK]
 show 1+s.size+1=_
 omega
theorem zlb (a b:ByteArray):(asT a b).size≤a.size+b.size+4:=by
 unfold asT
 split
 ·omega
 ·have z:(({data:=#[32,97,115,32]}:ByteArray)).size=4:=rfl
  rw[ByteArray.size_append,ByteArray.size_append,z]
  omega
theorem zqR (s:ByteArray):(rqT s).size≤40+ze5 s:=by
 rw[rqT,ByteArray.size_append,ByteArray.size_append,zfn,zcK,zcK]
 show 7+(s.size+2)+2≤40+s.size
 omega
theorem zqS (x:Im):(zaO x).size≤40+zdB x:=by
 have j:=zlb x.first x.loc
 unfold zaO zdB
 split
 ·simp only[ByteArray.size_append,zfn,zcK]
  simp only[List.size_toArray,List.length_cons,List.length_nil]
  omega
 ·split
  ·simp only[ByteArray.size_append,zfn,zcK]
   simp only[List.size_toArray,List.length_cons,List.length_nil]
   omega
  ·simp only[ByteArray.size_append,zfn,zcK]
   simp only[List.size_toArray,List.length_cons,List.length_nil]
   omega
theorem zqT (x:Ep):(epF x).size≤40+zdC x:=by
 have j:=zlb x.loc x.name
 unfold epF
 split
 ·exact Nat.zero_le _
 ·unfold zc7 zdC
  split
  ·simp only[ByteArray.size_append,zfn,zcK]
   simp only[List.size_toArray,List.length_cons,List.length_nil]
   omega
  ·split
   ·simp only[ByteArray.size_append,zfn,zcK]
    simp only[List.size_toArray,List.length_cons,List.length_nil]
    omega
   ·simp only[ByteArray.size_append,zcK]
    simp only[List.size_toArray,List.length_cons,List.length_nil]
    omega
theorem zlc (k:Int) (n e:ByteArray):(zd4 k n e).size≤40+n.size+e.size:=by
 unfold zd4
 repeat' split
 all_goals
  simp only[ByteArray.size_append,zcK]
  simp only[List.size_toArray,List.length_cons,List.length_nil]
  omega
theorem zqU (k:Int) (n e:ByteArray):(zcZ k n e).size≤40+n.size+e.size:=by
 unfold zcZ
 split
 ·simp only[ByteArray.size_append,zcK]
  simp only[List.size_toArray,List.length_cons,List.length_nil]
  omega
 ·exact zlc k n e
theorem zqV (l:List Ex):(l.map zeg).sum≤40*l.length+zbb ze6 l:=zhb l fun x _=>by unfold zeg ze6;omega
theorem zqW (m:Md):(zda m).size≤40*m.rq.length+zbb ze5 m.rq+(40*m.im.length+zbb zdB m.im)+(40*m.ep.length+zbb zdC m.ep):=by
 have j:=zhb (c:=ze5) m.rq fun x _=>zqR x
 have z:=zhb (c:=zdB) m.im fun x _=>zqS x
 have o:=zhb (c:=zdC) m.ep fun x _=>zqT x
 rw[zda,zfX,zfX,zfX]
 have:sNone.size=0:=rfl
 omega
theorem zqX {m:Md} (t:Tree m) (j:zeL m.ex):(zcx m).size≤40*zha m∧(zbZ m).size≤40*zha m:=by
 have D:=zqW m
 have H:=znA t j
 have E:=zqV m.ex
 have I:=zla (c:=zfm) (g:=fun s=>wt m.ex s.expr.toNat) (f:=fun s=>(stF m.ex s).size) m.st fun s _=>zlc s.kind s.name _
 have o:=zla (c:=zfm) (g:=fun s=>wt m.ex s.expr.toNat) (f:=fun s=>(zc8 m.ex s).size) m.st fun s _=>zqU s.kind s.name _
 have z:zha m=(m.rq.length+zbb ze5 m.rq)+(m.im.length+zbb zdB m.im)+(m.ep.length+zbb zdC m.ep)+(m.st.length+zbb zfm m.st)+(m.ex.length+zbb ze6 m.ex):=rfl
 constructor
 ·rw[zcx,zfX]
  omega
 ·rw[zbZ,zfX]
  omega
end Go.Proofs.YthfeoomfiafldaaGreat
