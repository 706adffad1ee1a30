/-
  Rows of texts of the call's own,one beside another; whether a text is in a row. No program is spoken of.
  A text put into a row that rises,as a plain function. No program is spoken of.
  What is used,as plain functions. No program is spoken of.
  The order of texts. No program is spoken of.
-/
import Derived.Test.YtgcbmogmniahjaaGreatCAsModOkSpecToUpMath
namespace Go.Proofs.YtgcbmogmniahjaaGreat
open Go.RowKit Go.PlainAid
theorem zmW {w:World} {base g n z:Nat} {e:TypeId} {xs:List ByteArray} (h:zbo w base e g n z xs):base≤g∧g<w.heap.size:=by
 rcases h.1.2 with ⟨q,_⟩|⟨I,A,D,q,E,H,_⟩
 ·simp at q
 ·simp only[Value.slice.injEq,Option.some.injEq,Addr.mk.injEq,and_true,true_and] at q
  obtain⟨rfl,rfl⟩:=q
  exact⟨E,(Array.getElem?_eq_some_iff.1 H).1⟩
theorem zwd {w W:World} {base g n q:Nat} {e:TypeId} {xs:List ByteArray} (h:zbo w base e g n q xs) (H:W.heap[g]? =w.heap[g]?):zbo W base e g n q xs:=by
 refine⟨⟨h.1.1,?_⟩,h.2⟩
 rcases h.1.2 with ⟨z,_⟩|⟨K,E,A,z,D,J,I⟩
 ·simp at z
 ·simp only[Value.slice.injEq,Option.some.injEq,Addr.mk.injEq,and_true,true_and] at z
  obtain⟨rfl,rfl⟩:=z
  exact .inr ⟨g,q,A,rfl,D,H.trans J,I⟩
def inT (l:List ByteArray) (s:ByteArray):Bool:=l.any fun y=>y.toList==s.toList
def zhq (s x:ByteArray):Bool:=Op.bytesLess s.toList x.toList
def ziW (s:ByteArray):List ByteArray→List ByteArray
 |[]=>[s]
 |x::l=>if zhq s x then s::x::l else x::ziW s l
def zwe (l:List ByteArray) (s:ByteArray):List ByteArray:=if inT l s then l else ziW s l
def zxY (s:ByteArray) (b:Bool) (l:List ByteArray):List ByteArray:=if b then ziW s l else l
def zxZ (s:ByteArray) (b:Bool) (l:List ByteArray):Prop:=if b then ∃x∈l,zhq s x=true else ∀x∈l,zhq s x=false
def zwf (k:Int):Bool:=k==2||k==3||k==4||k==5
def zfr {α:Type} (p:α→Bool) (f:α→ByteArray) (l:List α) (acc:List ByteArray):List ByteArray:=l.foldl (fun acc x=>if p x=true then zwe acc (f x) else acc) acc
def zwg (m:Md):List ByteArray:=zfr (fun x=>zwf x.kind) (fun x=>x.name) m.ex []
def zwh (m:Md):List ByteArray:=zfr (fun x=>x.kind==3) (fun x=>x.name) m.st (zwg m)
def zwi (m:Md):List ByteArray:=zfr (fun x=>x.kind==1) (fun x=>x.loc) m.ep (zwh m)
def zwj (m:Md):List ByteArray:=zfr (fun x=> !inT (zwi m) x.loc) (fun x=>x.loc) m.im []
def zya (m:Md):Md:={m with im:=m.im.filter fun x=> !inT (zwj m) x.loc}
def zwk (m:Md):List ByteArray:=zfr (fun x=>(x.kind==2||x.kind==3)&& !inT (zbP m) x.name) (fun x=>x.name) m.ex []
def zyb (m:Md):List ByteArray:=zfr (fun x=>x.kind==3&& !inT (zbP m) x.name) (fun x=>x.name) m.st (zwk m)
theorem zwl {α:Type} {l:List α} {j:Nat} {x:α} (h:l[j]? =some x):l.take (j+1)=l.take j++[x]:=by
 obtain⟨q,rfl⟩:=List.getElem?_eq_some_iff.1 h
 exact List.take_succ_eq_append_getElem q
theorem ziJ (l:List Sm):(stN l).length≤l.length:=by rw[stN,List.length_map];exact List.length_filter_le _ _
end Go.Proofs.YtgcbmogmniahjaaGreat
