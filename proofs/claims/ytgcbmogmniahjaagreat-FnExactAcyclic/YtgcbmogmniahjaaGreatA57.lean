/- Facts and walks that the theorem stands on. -/
import Derived.Test.YtgcbmogmniahjaaGreatA16
import Derived.Lib.Join
import Derived.Lib.IndexLaws
namespace Go.Proofs.YtgcbmogmniahjaaGreat
open Go.RowKit Go.PlainAid
def zhm (s:BA) (a e:Nat):Prop:=a<=e/\e<=s.size/\(∀j,a<=j->j<e->bt s j≠47)/\(e<s.size->bt s e=47)
theorem zwn {s:BA} {a e:Nat} {xs:List BA} (h:zX s a=(a,xs)) (w:zhm s a e):zX s e=(a,xs):=by
 obtain⟨J,I,A,_⟩:=w;have q: ∀d,a+d<=e->zX s (a+d)=(a,xs):=by
  intro d
  induction d with
  |zero=>intro _;exact h
  |succ d z=>
   intro H;rw[show a+(d+1)=a+d+1 from by omega,zkr (by omega) (A (a+d) (by omega) (by omega))];exact z (by omega)
 have:=q (e-a) (by omega);rwa[show a+(e-a)=e from by omega] at this
theorem zmO {s:BA} {a e:Nat} {xs:List BA} (h:zX s a=(a,xs)) (q:zhm s a e):zX s (e+1)=(e+1,upd (s.extract a e) xs):=by
 have w:=zwn h q;rw[zks (fun k=>k.2 (q.2.2.2 k.1)),w]
theorem zwo {s:BA} (h:bt s 0=47):zX s 1=(1,[]):=by
 have w:zX s 0=(0,[]):=rfl;have:=zmO w (e:=0) ⟨Nat.le_refl _,Nat.zero_le _,fun j _ q=>absurd q (by omega),fun _=>h⟩
 rw[this,zg8 (by
  have e:s.extract 0 0={data:=#[]}:=zfY (by rw[Lib.extract_data];simp)
  rw[e,Lib.toList_data];rfl)]
theorem zwp (s:BA) (k:Nat):s.data.toList[k]? =some 47↔k<s.size/\bt s k=47:=by
 by_cases w:k<s.size
 ·have q:k<s.data.toList.length:=by rw[Array.length_toList];exact w
  have z:bt s k=((s.data.toList[k]).toNat:Int):=by rw[zd1];simp[List.getD,List.getElem?_eq_getElem q]
  rw[List.getElem?_eq_getElem q,z];refine⟨fun h=>⟨w,by simp only[Option.some.injEq] at h;rw[h];rfl⟩,fun h=>?_⟩;have A:=h.2;have:(s.data.toList[k])=47:=by
   apply UInt8.toNat_inj.1;show (s.data.toList[k]).toNat=47;omega
  rw[this]
 ·have q:s.data.toList.length<=k:=by rw[Array.length_toList];exact Nat.le_of_not_lt w
  rw[List.getElem?_eq_none q];simp[w]
theorem ziU (s:BA) (a k:Nat):(s.extract a s.size).data.toList[k]? =some 47↔a+k<s.size/\bt s (a+k)=47:=by
 rw[Lib.extract_data,<-zwp];have h:(s.data.toList.drop a).length=s.size-a:=by rw[List.length_drop,Array.length_toList];rfl
 rw[List.take_of_length_le (by omega),List.getElem?_drop]
def zcK (s:BA) (a:Nat):Nat:=if 0<=Lib.indexByte (s.extract a s.size).data.toList 47 then a+(Lib.indexByte (s.extract a s.size).data.toList 47).toNat else s.size
theorem zmP (s:BA) (a:Nat) (J:a<=s.size):zhm s a (zcK s a):=by
 have I:=Lib.indexByte_ge (s.extract a s.size).data.toList 47;unfold zcK
 split
 ·rename_i h
  obtain⟨o,H⟩: ∃o:Nat,Lib.indexByte (s.extract a s.size).data.toList 47=o:=⟨_,(Int.toNat_of_nonneg h).symm⟩;obtain⟨z,K⟩:=Lib.indexByte_some H;rw[H,Int.toNat_natCast];have L:=(ziU s a o).1 z;refine⟨by omega,by omega,fun j w q A=>?_,fun _=>L.2⟩;have:=K (j-a) (by omega);apply this;rw[ziU,show a+(j-a)=j from by omega];exact⟨by omega,A⟩
 ·rename_i h
  have z:Lib.indexByte (s.extract a s.size).data.toList 47= -1:=by omega
  refine⟨J,Nat.le_refl _,fun j w q A=>?_,fun h=>absurd h (Nat.lt_irrefl _)⟩;apply Lib.indexByte_none z (j-a);rw[ziU,show a+(j-a)=j from by omega];exact⟨q,A⟩
theorem zwq {s:BA} {a:Nat} {o:Int} (q:0<=o) (h:Lib.indexByte (s.extract a s.size).data.toList 47=o):(a:Int)+o=(zcK s a:Int):=by
 rw[zcK,h,if_pos q,Int.natCast_add,Int.toNat_of_nonneg q]
theorem zwr {s:BA} {a:Nat} (h: ¬0<=Lib.indexByte (s.extract a s.size).data.toList 47):zcK s a=s.size:=by
 rw[zcK,if_neg h]
theorem zws (l:List BA) (k:Nat) (z:k<=l.length):(zcs l k).data.toList=Lib.joinTail [47] ((l.take k).map (·.data.toList)):=by
 induction k with
 |zero=>rfl
 |succ k q=>
  have h:k<l.length:=by omega
  have e:l.take (k+1)=l.take k++[l[k]]:=by rw[List.take_add_one,List.getElem?_eq_getElem h];rfl
  have w:l.getD k {data:=#[]}=l[k]:=by simp[List.getD,List.getElem?_eq_getElem h]
  rw[zcs,zfZ,zfZ,q (by omega),e,w,List.map_append,Lib.joinTail,Lib.joinTail,List.map_append,List.flatten_append,List.append_assoc];congr 1;simp
theorem zmQ {s:BA} (q:zaU s=true):({data:=#[47]}:BA)++⟨(Lib.join ((parts s).map (·.data.toList)) [47]).toArray⟩=zaK s:=by
 apply zfY;by_cases h:(parts s).length=0
 ·rw[zhU q h,List.length_eq_zero_iff.1 h,zfZ];rfl
 ·rw[zhV q h,zws _ _ (Nat.le_refl _),List.take_length,zfZ];cases w:parts s with
  |nil=>rw[w] at h;exact absurd rfl h
  |cons x r=>
   show [47]++Lib.join ((x::r).map (·.data.toList)) [47]=_;rw[List.map_cons,Lib.join_cons];simp[Lib.joinTail]
theorem zmR (s:BA):(parts s).length<=s.size+1:=(zhP s _).2
theorem zwt (s:BA) (h:zaU s=true):(Lib.join ((parts s).map (·.data.toList)) [47]).length<=2000:=by
 have z:s.size<=40:=(zdO.1 h).2.1;have e:=congrArg ByteArray.size (zmQ h);rw[ByteArray.size_append] at e;have w:(⟨(Lib.join ((parts s).map (·.data.toList)) [47]).toArray⟩:BA).size=(Lib.join ((parts s).map (·.data.toList)) [47]).length:=rfl;rw[w] at e;have I:(zaK s).size<=2000:=by
  by_cases q:(parts s).length=0
  ·rw[zhU h q];decide
  ·rw[zhV h q];have H:=zkv s (parts s) (zkt s _) (parts s).length;have A:(parts s).length*(s.size+1)<=41*41:=Nat.mul_le_mul (by have:=zmR s;omega) (by omega);omega
 omega
end Go.Proofs.YtgcbmogmniahjaaGreat
