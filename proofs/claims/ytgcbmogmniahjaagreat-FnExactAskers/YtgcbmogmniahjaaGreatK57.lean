/- Facts and walks. -/
import Derived.Test.YtgcbmogmniahjaaGreatK16
import Derived.Lib.Join
import Derived.Lib.IndexLaws
namespace Go.Proofs.YtgcbmogmniahjaaGreat
open Go.RowKit Go.PlainAid
def zhv (s:BA) (a e:Nat):Prop:=a<=e/\e<=s.size/\(∀j,a<=j->j<e->bt s j≠47)/\(e<s.size->bt s e=47)
variable (s:BA) (g:Nat) {t:BA} {b:Nat} {w:List BA}
theorem zw9 {e:Nat} (h:zY t b=(b,w)) (W:zhv t b e):zY t e=(b,w):=by
 obtain⟨H,E,A,_⟩:=W;have q: ∀d,b+d<=e->zY t (b+d)=(b,w):=by
  intro d
  induction d with
  |zero=>intro _;exact h
  |succ d z=>
   intro D;rw[show b+(d+1)=b+d+1 from by omega,zk6 (by omega) (A (b+d) (by omega) (by omega))];exact z (by omega)
 have:=q (e-b) (by omega);rwa[show b+(e-b)=e from by omega] at this
theorem znc {e:Nat} (h:zY t b=(b,w)) (q:zhv t b e):zY t (e+1)=(e+1,upd (t.extract b e) w):=by
 have W:=zw9 h q;rw[zk7 (fun k=>k.2 (q.2.2.2 k.1)),W]
theorem zwA (h:bt t 0=47):zY t 1=(1,[]):=by
 have w:zY t 0=(0,[]):=rfl;have:=znc w (e:=0) ⟨Nat.le_refl _,Nat.zero_le _,fun j _ q=>absurd q (by omega),fun _=>h⟩
 rw[this,zgH (by
  have e:t.extract 0 0={data:=#[]}:=zgh (by rw[Lib.extract_data];simp)
  rw[e,Lib.toList_data];rfl)]
theorem zwB:s.data.toList[g]? =some 47↔g<s.size/\bt s g=47:=by
 by_cases w:g<s.size
 ·have q:g<s.data.toList.length:=by rw[Array.length_toList];exact w
  have z:bt s g=((s.data.toList[g]).toNat:Int):=by rw[zd8];simp[List.getD,List.getElem?_eq_getElem q]
  rw[List.getElem?_eq_getElem q,z];refine⟨fun h=>⟨w,by simp only[Option.some.injEq] at h;rw[h];rfl⟩,fun h=>?_⟩;have A:=h.2;have:(s.data.toList[g])=47:=by
   apply UInt8.toNat_inj.1;show (s.data.toList[g]).toNat=47;omega
  rw[this]
 ·have q:s.data.toList.length<=g:=by rw[Array.length_toList];exact Nat.le_of_not_lt w
  rw[List.getElem?_eq_none q];simp[w]
theorem zjd (k:Nat):(s.extract g s.size).data.toList[k]? =some 47↔g+k<s.size/\bt s (g+k)=47:=by
 rw[Lib.extract_data,<-zwB];have h:(s.data.toList.drop g).length=s.size-g:=by rw[List.length_drop,Array.length_toList];rfl
 rw[List.take_of_length_le (by omega),List.getElem?_drop]
def zcO (s:BA) (a:Nat):Nat:=if 0<=Lib.indexByte (s.extract a s.size).data.toList 47 then a+(Lib.indexByte (s.extract a s.size).data.toList 47).toNat else s.size
theorem znd (H:g<=s.size):zhv s g (zcO s g):=by
 have E:=Lib.indexByte_ge (s.extract g s.size).data.toList 47;unfold zcO
 split
 ·rename_i h
  obtain⟨o,D⟩: ∃o:Nat,Lib.indexByte (s.extract g s.size).data.toList 47=o:=⟨_,(Int.toNat_of_nonneg h).symm⟩;obtain⟨z,I⟩:=Lib.indexByte_some D;rw[D,Int.toNat_natCast];have J:=(zjd s g o).1 z;refine⟨by omega,by omega,fun j w q A=>?_,fun _=>J.2⟩;have:=I (j-g) (by omega);apply this;rw[zjd,show g+(j-g)=j from by omega];exact⟨by omega,A⟩
 ·rename_i h
  have z:Lib.indexByte (s.extract g s.size).data.toList 47= -1:=by omega
  refine⟨H,Nat.le_refl _,fun j w q A=>?_,fun h=>absurd h (Nat.lt_irrefl _)⟩;apply Lib.indexByte_none z (j-g);rw[zjd,show g+(j-g)=j from by omega];exact⟨q,A⟩
theorem zwC {o:Int} (q:0<=o) (h:Lib.indexByte (t.extract b t.size).data.toList 47=o):(b:Int)+o=(zcO t b:Int):=by
 rw[zcO,h,if_pos q,Int.natCast_add,Int.toNat_of_nonneg q]
theorem zwD (h: ¬0<=Lib.indexByte (t.extract b t.size).data.toList 47):zcO t b=t.size:=by
 rw[zcO,if_neg h]
theorem zwE (l:List BA) (k:Nat) (z:k<=l.length):(zcv l k).data.toList=Lib.joinTail [47] ((l.take k).map (·.data.toList)):=by
 induction k with
 |zero=>rfl
 |succ k q=>
  have h:k<l.length:=by omega
  have e:l.take (k+1)=l.take k++[l[k]]:=by rw[List.take_add_one,List.getElem?_eq_getElem h];rfl
  have w:l.getD k {data:=#[]}=l[k]:=by simp[List.getD,List.getElem?_eq_getElem h]
  rw[zcv,zgi,zgi,q (by omega),e,w,List.map_append,Lib.joinTail,Lib.joinTail,List.map_append,List.flatten_append,List.append_assoc];congr 1;simp
theorem zne (q:zaW t=true):({data:=#[47]}:BA)++⟨(Lib.join ((parts t).map (·.data.toList)) [47]).toArray⟩=zaL t:=by
 apply zgh;by_cases h:(parts t).length=0
 ·rw[zie q h,List.length_eq_zero_iff.1 h,zgi];rfl
 ·rw[zif q h,zwE _ _ (Nat.le_refl _),List.take_length,zgi];cases w:parts t with
  |nil=>rw[w] at h;exact absurd rfl h
  |cons x r=>
   show [47]++Lib.join ((x::r).map (·.data.toList)) [47]=_;rw[List.map_cons,Lib.join_cons];simp[Lib.joinTail]
theorem znf:(parts s).length<=s.size+1:=(zhZ s _).2
theorem zwF (h:zaW s=true):(Lib.join ((parts s).map (·.data.toList)) [47]).length<=2000:=by
 have z:s.size<=40:=(zdX.1 h).2.1;have e:=congrArg ByteArray.size (zne h);rw[ByteArray.size_append] at e;have w:(⟨(Lib.join ((parts s).map (·.data.toList)) [47]).toArray⟩:BA).size=(Lib.join ((parts s).map (·.data.toList)) [47]).length:=rfl;rw[w] at e;have E:(zaL s).size<=2000:=by
  by_cases q:(parts s).length=0
  ·rw[zie h q];decide
  ·rw[zif h q];have D:=zkA s (parts s) (zk8 s _) (parts s).length;have A:(parts s).length*(s.size+1)<=41*41:=Nat.mul_le_mul (by have:=znf s;omega) (by omega);omega
 omega
end Go.Proofs.YtgcbmogmniahjaaGreat
