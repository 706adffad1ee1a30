/-
  Rows of texts of the call's own,one beside another; whether a text is in a row. No program is spoken of.
  A text put into a row that rises,as a plain function. No program is spoken of.
  What is used,as plain functions. No program is spoken of.
  The order of texts. No program is spoken of.
-/
import Derived.Test.YtgcbmogmniahjaaGreatCAcModOkSpecToUpMath
namespace Go.Proofs.YtgcbmogmniahjaaGreat
open Go.RowKit Go.PlainAid
theorem zmH {w:World} {base g n z:Nat} {e:TypeId} {xs:List ByteArray} (h:zbl w base e g n z xs):base≤g∧g<w.heap.size:=by
 rcases h.1.2 with ⟨q,_⟩|⟨K,A,H,q,I,J,_⟩
 ·simp at q
 ·simp only[Value.slice.injEq,Option.some.injEq,Addr.mk.injEq,and_true,true_and] at q
  obtain⟨rfl,rfl⟩:=q
  exact⟨I,(Array.getElem?_eq_some_iff.1 J).1⟩
theorem zvH {w W:World} {base g n q:Nat} {e:TypeId} {xs:List ByteArray} (h:zbl w base e g n q xs) (J:W.heap[g]? =w.heap[g]?):zbl W base e g n q xs:=by
 refine⟨⟨h.1.1,?_⟩,h.2⟩
 rcases h.1.2 with ⟨z,_⟩|⟨M,I,A,z,H,L,K⟩
 ·simp at z
 ·simp only[Value.slice.injEq,Option.some.injEq,Addr.mk.injEq,and_true,true_and] at z
  obtain⟨rfl,rfl⟩:=z
  exact .inr ⟨g,q,A,rfl,H,J.trans L,K⟩
def inT (l:List ByteArray) (s:ByteArray):Bool:=l.any fun y=>y.toList==s.toList
def zhg (s x:ByteArray):Bool:=Op.bytesLess s.toList x.toList
def ziN (s:ByteArray):List ByteArray→List ByteArray
 |[]=>[s]
 |x::l=>if zhg s x then s::x::l else x::ziN s l
def zvI (l:List ByteArray) (s:ByteArray):List ByteArray:=if inT l s then l else ziN s l
def zxi (s:ByteArray) (b:Bool) (l:List ByteArray):List ByteArray:=if b then ziN s l else l
def zxj (s:ByteArray) (b:Bool) (l:List ByteArray):Prop:=if b then ∃x∈l,zhg s x=true else ∀x∈l,zhg s x=false
def zvJ (k:Int):Bool:=k==2||k==3||k==4||k==5
def zfh {α:Type} (p:α→Bool) (f:α→ByteArray) (l:List α) (acc:List ByteArray):List ByteArray:=l.foldl (fun acc x=>if p x=true then zvI acc (f x) else acc) acc
def zvK (m:Md):List ByteArray:=zfh (fun x=>zvJ x.kind) (fun x=>x.name) m.ex []
def zvL (m:Md):List ByteArray:=zfh (fun x=>x.kind==3) (fun x=>x.name) m.st (zvK m)
def zvM (m:Md):List ByteArray:=zfh (fun x=>x.kind==1) (fun x=>x.loc) m.ep (zvL m)
def zvN (m:Md):List ByteArray:=zfh (fun x=> !inT (zvM m) x.loc) (fun x=>x.loc) m.im []
def zxk (m:Md):Md:={m with im:=m.im.filter fun x=> !inT (zvN m) x.loc}
def zvO (m:Md):List ByteArray:=zfh (fun x=>(x.kind==2||x.kind==3)&& !inT (zbL m) x.name) (fun x=>x.name) m.ex []
def zxl (m:Md):List ByteArray:=zfh (fun x=>x.kind==3&& !inT (zbL m) x.name) (fun x=>x.name) m.st (zvO m)
theorem zvP {α:Type} {l:List α} {j:Nat} {x:α} (h:l[j]? =some x):l.take (j+1)=l.take j++[x]:=by
 obtain⟨q,rfl⟩:=List.getElem?_eq_some_iff.1 h
 exact List.take_succ_eq_append_getElem q
theorem ziA (l:List Sm):(stN l).length≤l.length:=by rw[stN,List.length_map];exact List.length_filter_le _ _
end Go.Proofs.YtgcbmogmniahjaaGreat
