/-
 What spec.Lex answers: the walk.
-/
import Derived.Test.YticdggnnpjachaaGreatCbSpecLex
namespace Go.Proofs.YticdggnnpjachaaGreat
set_option maxRecDepth 100000
set_option maxHeartbeats 3200000
open Go.RowKit Go.PlainAid
theorem Tryz.infoTok:(Tryz.prog.info? 111).map (fun i=>(i.zero,i.size,i.bytes))=some (some (.agg #[.int .i64 0,.string {data:=#[]},.int .i64 0,.int .i64 0]),4,40):=by kernel_rfl
def zlx (s:ByteArray) (scr:Bool) (w:World) (e:Ending) (w':World):Prop:=
 ∃r,zae s scr r∧match r with
  | .ok ts=>∃g n cap,e= .returned (.tuple #[.slice (some ⟨g,0,none⟩) n cap,.int .i64 (-1)])∧OwnT w' w.heap.size 111 g n cap ts
  | .error p=>∃g cap,e= .returned (.tuple #[.slice (some ⟨g,0,none⟩) 0 cap,.int .i64 p])∧OwnT w' w.heap.size 111 g 0 cap []
theorem zeB {s:ByteArray} {j:Bool} {k n:Nat} {z:List Tk} (h: ∀r,Lx s j k n r→zae s j (r.map (z++ ·))) (o:k<s.size) (q:4000≤n∨∀t e,¬Tok s j k t e):zae s j (.error k):=h _ (.bad o q)
theorem zhV {s:ByteArray} {j:Bool} {k n:Nat} {o:List Tk} (h: ∀r,Lx s j k n r→zae s j (r.map (o++ ·))) (q:k=s.size):zae s j (.ok o):=by
 subst q
 have:=h _ .done
 simpa [Except.map] using this
theorem zhW {s:ByteArray} {j:Bool} {k n e b:Nat} {t:Tk} {o:List Tk} (h: ∀r,Lx s j k n r→zae s j (r.map (o++ ·))) (D:k<s.size) (A:n<4000) (E:Tok s j k t e) (z:Skip s e b):
  ∀r,Lx s j b (n+1) r→zae s j (r.map ((o++[t])++ ·)):=by
 intro r q
 have:=h _ (.tok D A E z q)
 cases r<;>simpa [Except.map] using this
theorem zk (w:World) (o:Obj):(w.alloc o).heap.size=w.heap.size+1:=by show (w.heap.push _).size=_;simp
theorem zhX {w:World} {o:Obj} {e:TypeId} {j:Nat} (n:j≤w.heap.size):OwnT ((w.alloc o).alloc (.cells #[] e)) j e (w.heap.size+1) 0 0 []:=by
 have:=zgp (w.alloc o) e j (by rw[zk];omega)
 rw[zk] at this
 exact this
theorem zly (s:ByteArray) (j:Bool) (w:World) (hs:s.size≤4294967296):
  Calls Tryz.prog 20 #[.string s,.bool j] w fun e w'=>zlx s j w e w'∧Below w.heap.size w w':=by
 obtain⟨i0,hi,ac,ai,al⟩:=info_parts Tryz.infoTok
 go_enter Tryz.func20,Tryz.ntmps20
 go_wp2_with fail
 refine (zhS _ 0 _ (Nat.zero_le _) hs).mono ?_
 rintro e w' ⟨k0,rfl,A,rfl⟩
 have ad:Hid (Skip s 0 k0):=A
 have aj:=(zgg A).2
 clear A
 go_wp2
 go_loopw [6,7,8,9] (fun o i _ _ wr=>∃(k n g D:Nat) (J:List Tk),k≤s.size∧n≤4000∧i= .int .i64 k∧o= .slice (some ⟨g,0,none⟩) n D∧OwnT wr w.heap.size 111 g n D J∧(∀r,Lx s j k n r→zae s j (r.map (J++ ·)))∧Below w.heap.size w wr) (fun _ i _ _ _=>(s.size-intOf i).toNat)
 case atStart=>exact⟨k0,0,w.heap.size,0,[],aj,by omega,rfl,rfl,zgp w _ _ (Nat.le_refl _),fun r hr=>⟨k0,ad.out,by cases r<;>simpa [Except.map] using hr⟩,(Below.refl _ _).alloc (Nat.le_refl _) _⟩
 case round=>
  obtain⟨k,n,g,D,J,hk,hn,rfl,rfl,H,Y,hb⟩:=hrel
  have I:Hid (∀r,Lx s j k n r→zae s j (r.map (J++ ·))):=Y
  have ao:=zan H
  clear Y
  by_cases E:k<s.size
  ·go_wp2_with fail
   refine (zlw _ _ _ _ E hs).mono ?_
   rintro e w1 ⟨v,z,rfl,Z,ab⟩
   have q:=hb.trans (ab.mono hb.size)
   have K:=zbV H ab
   rcases Z with ⟨⟨N,tx,nm,O⟩,m,rfl,rfl,ht⟩|⟨rfl,⟨c1,c2,c3,c4,rfl⟩,an⟩
   ·have HT:Hid (Tok s j k ⟨N,tx,nm,O⟩ m):=ht
    have ap:=(zdQ E ht).1
    have ak:=(zdQ E ht).2.1
    clear ht
    by_cases af:n<4000
    ·have q4:decide ((4000:Int)≤(n:Int))=false:=decide_eq_false (by omega)
     obtain⟨W,U⟩: ∃W,W=w1.alloc (.cells #[.int .i64 N,.string tx,.int .i64 nm,.int .i64 O] 111):=⟨_,rfl⟩
     have HW:Hid (W=w1.alloc (.cells #[.int .i64 N,.string tx,.int .i64 nm,.int .i64 O] 111)):=U
     have V:Below w.heap.size w W:=by rw[U];exact q.alloc q.size _
     have M:OwnT W w.heap.size 111 g n D J:=by rw[U];exact zbV K ((Below.refl _ _).alloc (Nat.le_refl _) _)
     have aa:=V.size
     have ae:Hid (w1.heap.size+1=W.heap.size):=by show _=_;rw[U,zk]
     clear U
     simp only[tkV]
     go_wp2_with (first|(at_builtin;rw[←HW.out];refine zle W rfl _ _ 49 rfl w.heap.size 111 i0 _ Tryz.underlying49 hi ac ai al rfl g n D J (by rfl) M ⟨N,tx,nm,O⟩ (w1.heap.size+1) ae.out (by rfl) (by omega) aa ?_))
     intro g2 Q w2 L ag
     have ah:=V.trans ag
     go_wp2_with fail
     refine (zhS _ m _ ak hs).mono ?_
     rintro e w3 ⟨b,rfl,A,rfl⟩
     have HX:Hid (∀r,Lx s j b (n+1) r→zae s j (r.map ((J++[⟨N,tx,nm,O⟩])++ ·))):=zhW I.out E af HT.out A
     have aq:=(zgg A).1
     have am:=(zgg A).2
     clear A
     go_wp2
     go_roundw
     case rel=>exact⟨b,n+1,g2,Q,J++[⟨N,tx,nm,O⟩],am,by omega,rfl,rfl,L,HX.out,ah⟩
     case measure=>simp[intOf];omega
    ·have q4:decide ((4000:Int)≤(n:Int))=true:=decide_eq_true (by omega)
     have X:Hid (zae s j (.error k)):=zeB I.out E (.inl (by omega))
     simp only[tkV]
     go_wp2
     go_ret2
     exact⟨⟨_,X.out,_,_,rfl,zhX q.size⟩,(q.alloc q.size _).alloc (by rw[zk];have:=q.size;omega) _⟩
   ·have X:Hid (zae s j (.error k)):=zeB I.out E (.inr an)
    go_wp2
    go_ret2
    exact⟨⟨_,X.out,_,_,rfl,zhX q.size⟩,(q.alloc q.size _).alloc (by rw[zk];have:=q.size;omega) _⟩
  ·have X:Hid (zae s j (.ok J)):=zhV I.out (by omega)
   go_wp2
   go_ret2
   exact⟨⟨_,X.out,g,n,D,rfl,H⟩,hb⟩
end Go.Proofs.YticdggnnpjachaaGreat