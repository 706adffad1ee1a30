/-
 What spec.Lex answers: the walk.
-/
import Derived.Test.YticdggnnpjachaaGreatCbSpecLex
import Derived.Test.YticdggnnpjachaaGreatCbDrawProgCToTokMem
namespace Go.Proofs.YticdggnnpjachaaGreat
set_option maxRecDepth 100000
set_option maxHeartbeats 3200000
open Go.RowKit Go.PlainAid
theorem Tryz.infoTok:(Tryz.prog.info? 111).map (fun i=>(i.zero,i.size,i.bytes))=some (some (.agg #[.int .i64 0,.string {data:=#[]},.int .i64 0,.int .i64 0]),4,40):=by kernel_rfl
def zlA (s:ByteArray) (scr:Bool) (w:World) (e:Ending) (w':World):Prop:=
 ∃r,zae s scr r∧match r with
  | .ok ts=>∃g n cap,e= .returned (.tuple #[.slice (some ⟨g,0,none⟩) n cap,.int .i64 (-1)])∧OwnT w' w.heap.size 111 g n cap ts
  | .error p=>∃g cap,e= .returned (.tuple #[.slice (some ⟨g,0,none⟩) 0 cap,.int .i64 p])∧OwnT w' w.heap.size 111 g 0 cap []
theorem zeD {s:ByteArray} {j:Bool} {k n:Nat} {o:List Tk} (h: ∀r,Lx s j k n r→zae s j (r.map (o++ ·))) (z:k<s.size) (q:4000≤n∨∀t e,¬Tok s j k t e):zae s j (.error k):=h _ (.bad z q)
theorem zhV {s:ByteArray} {j:Bool} {k n:Nat} {o:List Tk} (h: ∀r,Lx s j k n r→zae s j (r.map (o++ ·))) (q:k=s.size):zae s j (.ok o):=by
 subst q
 have:=h _ .done
 simpa [Except.map] using this
theorem zhW {s:ByteArray} {j:Bool} {k n e b:Nat} {t:Tk} {o:List Tk} (h: ∀r,Lx s j k n r→zae s j (r.map (o++ ·))) (E:k<s.size) (D:n<4000) (z:Tok s j k t e) (A:Skip s e b):
  ∀r,Lx s j b (n+1) r→zae s j (r.map ((o++[t])++ ·)):=by
 intro r q
 have:=h _ (.tok E D z A q)
 cases r<;>simpa [Except.map] using this
theorem zhX {w:World} {o:Obj} {e:TypeId} {j:Nat} (n:j≤w.heap.size):OwnT ((w.alloc o).alloc (.cells #[] e)) j e (w.heap.size+1) 0 0 []:=by
 have:=zgr (w.alloc o) e j (by rw[zk];omega)
 rw[zk] at this
 exact this
theorem zlB (s:ByteArray) (j:Bool) (w:World) (hs:s.size≤4294967296):
  Calls Tryz.prog 20 #[.string s,.bool j] w fun e w'=>zlA s j w e w'∧Below w.heap.size w w':=by
 obtain⟨i0,hi,aj,ak,ag⟩:=info_parts Tryz.infoTok
 go_enter Tryz.func20,Tryz.ntmps20
 go_wp2_with fail
 refine (zhS _ 0 _ (Nat.zero_le _) hs).mono ?_
 rintro e w' ⟨k0,rfl,A,rfl⟩
 have ai:Hid (Skip s 0 k0):=A
 have ac:=(zgg A).2
 clear A
 go_wp2
 go_loopw [6,7,8,9] (fun o i _ _ wr=>∃(k n g D:Nat) (J:List Tk),k≤s.size∧n≤4000∧i= .int .i64 k∧o= .slice (some ⟨g,0,none⟩) n D∧OwnT wr w.heap.size 111 g n D J∧(∀r,Lx s j k n r→zae s j (r.map (J++ ·)))∧Below w.heap.size w wr) (fun _ i _ _ _=>(s.size-intOf i).toNat)
 case atStart=>exact⟨k0,0,w.heap.size,0,[],ac,by omega,rfl,rfl,zgr w _ _ (Nat.le_refl _),fun r hr=>⟨k0,ai.out,by cases r<;>simpa [Except.map] using hr⟩,(Below.refl _ _).alloc (Nat.le_refl _) _⟩
 case round=>
  obtain⟨k,n,g,D,J,hk,hn,rfl,rfl,H,Y,hb⟩:=hrel
  have I:Hid (∀r,Lx s j k n r→zae s j (r.map (J++ ·))):=Y
  have aq:=zan H
  clear Y
  by_cases E:k<s.size
  ·go_wp2_with fail
   refine (zl9 _ _ _ _ E hs).mono ?_
   rintro e w1 ⟨v,z,rfl,X,ab⟩
   have q:=hb.trans (ab.mono hb.size)
   have L:=zbV H ab
   rcases X with ⟨⟨O,tx,nm,N⟩,m,rfl,rfl,ht⟩|⟨rfl,⟨c1,c2,c3,c4,rfl⟩,ae⟩
   ·have HT:Hid (Tok s j k ⟨O,tx,nm,N⟩ m):=ht
    have ao:=(zdQ E ht).1
    have ah:=(zdQ E ht).2.1
    clear ht
    by_cases am:n<4000
    ·have q4:decide ((4000:Int)≤(n:Int))=false:=decide_eq_false (by omega)
     obtain⟨W,Q⟩: ∃W,W=w1.alloc (.cells #[.int .i64 O,.string tx,.int .i64 nm,.int .i64 N] 111):=⟨_,rfl⟩
     have HW:Hid (W=w1.alloc (.cells #[.int .i64 O,.string tx,.int .i64 nm,.int .i64 N] 111)):=Q
     have aa:Below w.heap.size w W:=by rw[Q];exact q.alloc q.size _
     have K:OwnT W w.heap.size 111 g n D J:=by rw[Q];exact zbV L ((Below.refl _ _).alloc (Nat.le_refl _) _)
     have V:=aa.size
     have al:Hid (w1.heap.size+1=W.heap.size):=by show _=_;rw[Q,zk]
     clear Q
     simp only[tkV]
     go_wp2_with (first|(at_builtin;rw[←HW.out];refine zlr W rfl _ _ 49 rfl w.heap.size 111 i0 _ Tryz.underlying49 hi aj ak ag rfl g n D J (by rfl) K ⟨O,tx,nm,N⟩ (w1.heap.size+1) al.out (by rfl) (by omega) V ?_))
     intro g2 U w2 M ad
     have af:=aa.trans ad
     go_wp2_with fail
     refine (zhS _ m _ ah hs).mono ?_
     rintro e w3 ⟨b,rfl,A,rfl⟩
     have HX:Hid (∀r,Lx s j b (n+1) r→zae s j (r.map ((J++[⟨O,tx,nm,N⟩])++ ·))):=zhW I.out E am HT.out A
     have ap:=(zgg A).1
     have an:=(zgg A).2
     clear A
     go_wp2
     go_roundw
     case rel=>exact⟨b,n+1,g2,U,J++[⟨O,tx,nm,N⟩],an,by omega,rfl,rfl,M,HX.out,af⟩
     case measure=>simp[intOf];omega
    ·have q4:decide ((4000:Int)≤(n:Int))=true:=decide_eq_true (by omega)
     have Z:Hid (zae s j (.error k)):=zeD I.out E (.inl (by omega))
     simp only[tkV]
     go_wp2
     go_ret2
     exact⟨⟨_,Z.out,_,_,rfl,zhX q.size⟩,(q.alloc q.size _).alloc (by rw[zk];have:=q.size;omega) _⟩
   ·have Z:Hid (zae s j (.error k)):=zeD I.out E (.inr ae)
    go_wp2
    go_ret2
    exact⟨⟨_,Z.out,_,_,rfl,zhX q.size⟩,(q.alloc q.size _).alloc (by rw[zk];have:=q.size;omega) _⟩
  ·have Z:Hid (zae s j (.ok J)):=zhV I.out (by omega)
   go_wp2
   go_ret2
   exact⟨⟨_,Z.out,g,n,D,rfl,H⟩,hb⟩
end Go.Proofs.YticdggnnpjachaaGreat