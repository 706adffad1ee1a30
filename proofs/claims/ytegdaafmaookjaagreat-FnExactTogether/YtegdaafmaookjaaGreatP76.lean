/- Facts. -/
import Derived.Test.YtegdaafmaookjaaGreatP0
import Derived.Lib.Join
import Derived.Lib.IndexLaws
namespace Go.Proofs.YtegdaafmaookjaaGreat
open Go.RowKit Go.PlainAid
def zhY (s:BA0) (a e:Nat):Prop:=a<=e/\e<=s.size/\(∀j,a<=j->j<e->bt s j≠47)/\(e<s.size->bt s e=47)
variable (s:BA0) (g:Nat) {t:BA0} {b:Nat} {w:List BA0}
theorem zyj {e:Nat} (h:zad t b=(b,w)) (W:zhY t b e):zad t e=(b,w):=by
 obtain⟨K,J,H,_⟩:=W;have q: ∀d,b+d<=e->zad t (b+d)=(b,w):=by
  intro d
  induction d with
  |zero=>intro _;exact h
  |succ d A=>
   intro I;rw[show b+(d+1)=b+d+1 from by omega,zl3 (by omega) (H (b+d) (by omega) (by omega))];exact A (by omega)
 have:=q (e-b) (by omega);rwa[show b+(e-b)=e from by omega] at this
theorem zoc {e:Nat} (h:zad t b=(b,w)) (q:zhY t b e):zad t (e+1)=(e+1,upd (t.extract b e) w):=by
 have W:=zyj h q;rw[zl4 (fun k=>k.2 (q.2.2.2 k.1)),W]
theorem zyk (h:bt t 0=47):zad t 1=(1,[]):=by
 have w:zad t 0=(0,[]):=rfl;have:=zoc w (e:=0) ⟨Nat.le_refl _,Nat.zero_le _,fun j _ q=>absurd q (by omega),fun _=>h⟩
 rw[this,zhv (by
  have e:t.extract 0 0={data:=#[]}:=zgM (by rw[Lib.extract_data];simp)
  rw[e,Lib.toList_data];rfl)]
theorem zyl:s.data.toList[g]? =some 47↔g<s.size/\bt s g=47:=by
 by_cases w:g<s.size
 ·have q:g<s.data.toList.length:=by rw[Array.length_toList];exact w
  have A:bt s g=((s.data.toList[g]).toNat:Int):=by rw[zdQ];simp[List.getD,gE q]
  rw[gE q,A];refine⟨fun h=>⟨w,by simp only[sI0] at h;rw[h];rfl⟩,fun h=>?_⟩;have H:=h.2;have:(s.data.toList[g])=47:=by
   apply UInt8.toNat_inj.1;show (s.data.toList[g]).toNat=47;omega
  rw[this]
 ·have q:s.data.toList.length<=g:=by rw[Array.length_toList];exact Nat.le_of_not_lt w
  rw[List.getElem?_eq_none q];simp[w]
theorem zjQ (k:Nat):(s.extract g s.size).data.toList[k]? =some 47↔g+k<s.size/\bt s (g+k)=47:=by
 rw[Lib.extract_data,<-zyl];have h:(s.data.toList.drop g).length=s.size-g:=by rw[List.length_drop,Array.length_toList];rfl
 rw[List.take_of_length_le (by omega),List.getElem?_drop]
def zdb (s:BA0) (a:Nat):Nat:=if 0<=Lib.indexByte (s.extract a s.size).data.toList 47 then a+(Lib.indexByte (s.extract a s.size).data.toList 47).toNat else s.size
theorem zod (K:g<=s.size):zhY s g (zdb s g):=by
 have J:=Lib.indexByte_ge (s.extract g s.size).data.toList 47;unfold zdb
 split
 ·rename_i h
  obtain⟨o,I⟩: ∃o:Nat,Lib.indexByte (s.extract g s.size).data.toList 47=o:=⟨_,(Int.toNat_of_nonneg h).symm⟩;obtain⟨A,L⟩:=Lib.indexByte_some I;rw[I,Int.toNat_natCast];have M:=(zjQ s g o).1 A;refine⟨by omega,by omega,fun j w q H=>?_,fun _=>M.2⟩;have:=L (j-g) (by omega);apply this;rw[zjQ,show g+(j-g)=j from by omega];exact⟨by omega,H⟩
 ·rename_i h
  have A:Lib.indexByte (s.extract g s.size).data.toList 47= -1:=by omega
  refine⟨K,Nat.le_refl _,fun j w q H=>?_,fun h=>absurd h (Nat.lt_irrefl _)⟩;apply Lib.indexByte_none A (j-g);rw[zjQ,show g+(j-g)=j from by omega];exact⟨q,H⟩
theorem zym {o:Int} (q:0<=o) (h:Lib.indexByte (t.extract b t.size).data.toList 47=o):(b:Int)+o=(zdb t b:Int):=by
 rw[zdb,h,if_pos q,Int.natCast_add,Int.toNat_of_nonneg q]
theorem zyn (h: ¬0<=Lib.indexByte (t.extract b t.size).data.toList 47):zdb t b=t.size:=by
 rw[zdb,if_neg h]
theorem zyo (l:List BA0) (k:Nat) (A:k<=l.length):(zc5 l k).data.toList=Lib.joinTail [47] ((l.take k).map (·.data.toList)):=by
 induction k with
 |zero=>rfl
 |succ k q=>
  have h:k<l.length:=by omega
  have e:l.take (k+1)=l.take k++[l[k]]:=by rw[List.take_add_one,gE h];rfl
  have w:l.getD k {data:=#[]}=l[k]:=by simp[List.getD,gE h]
  rw[zc5,zgN,zgN,q (by omega),e,w,List.map_append,Lib.joinTail,Lib.joinTail,List.map_append,List.flatten_append,List.append_assoc];congr 1;simp
theorem zoe (q:zbe t=true):({data:=#[47]}:BA0)++⟨(Lib.join ((parts t).map (·.data.toList)) [47]).toArray⟩=zaR t:=by
 apply zgM;by_cases h:(parts t).length=0
 ·rw[ziV q h,List.length_eq_zero_iff.1 h,zgN];rfl
 ·rw[ziW q h,zyo _ _ (Nat.le_refl _),List.take_length,zgN];cases w:parts t with
  |nil=>rw[w] at h;exact absurd rfl h
  |cons x r=>
   show [47]++Lib.join ((x::r).map (·.data.toList)) [47]=_;rw[List.map_cons,Lib.join_cons];simp[Lib.joinTail]
theorem zof:(parts s).length<=s.size+1:=(ziQ s _).2
theorem zyp (h:zbe s=true):(Lib.join ((parts s).map (·.data.toList)) [47]).length<=2000:=by
 have A:s.size<=40:=(zet.1 h).2.1;have e:=congrArg ByteArray.size (zoe h);rw[sA] at e;have w:(⟨(Lib.join ((parts s).map (·.data.toList)) [47]).toArray⟩:BA0).size=(Lib.join ((parts s).map (·.data.toList)) [47]).length:=rfl;rw[w] at e;have J:(zaR s).size<=2000:=by
  by_cases q:(parts s).length=0
  ·rw[ziV h q];decide
  ·rw[ziW h q];have I:=zl7 s (parts s) (zl5 s _) (parts s).length;have H:(parts s).length*(s.size+1)<=41*41:=Nat.mul_le_mul (by have:=zof s;omega) (by omega);omega
 omega
