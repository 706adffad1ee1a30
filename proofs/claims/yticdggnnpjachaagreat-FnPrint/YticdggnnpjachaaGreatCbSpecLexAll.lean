/-
 What spec.Lex answers: the walk.
-/
import Derived.Test.YticdggnnpjachaaGreatCbSpecLex
import Derived.Test.YticdggnnpjachaaGreatCbDrawProgCToTokMem
namespace Go.Proofs.YticdggnnpjachaaGreat
set_option maxRecDepth 100000
set_option maxHeartbeats 3200000
open Go.RowKit Go.PlainAid
theorem Tryz.infoTok:(Tryz.prog.info? 111).map (fun i=>(i.zero,i.size,i.bytes))=some (some (.agg #[.int .i64 0,.string {data:=#[]},.int .i64 0,.int .i64 0]),4,40):=by kernel_rfl
def zlA (s:ByteArray) (scr:Bool) (w:World) (e:Ending) (w':World):Prop:=
 ∃r,zae s scr r∧match r with
  | .ok ts=>∃g n cap,e= .returned (.tuple #[.slice (some ⟨g,0,none⟩) n cap,.int .i64 (-1)])∧OwnT w' w.heap.size 111 g n cap ts
  | .error p=>∃g cap,e= .returned (.tuple #[.slice (some ⟨g,0,none⟩) 0 cap,.int .i64 p])∧OwnT w' w.heap.size 111 g 0 cap []
theorem zeD {s:ByteArray} {j:Bool} {k n:Nat} {q:List Tk} (h: ∀r,Lx s j k n r→zae s j (r.map (q++ ·))) (o:k<s.size) (z:4000≤n∨∀t e,¬Tok s j k t e):zae s j (.error k):=h _ (.bad o z)
theorem zhV {s:ByteArray} {j:Bool} {k n:Nat} {o:List Tk} (h: ∀r,Lx s j k n r→zae s j (r.map (o++ ·))) (q:k=s.size):zae s j (.ok o):=by
 subst q
 have:=h _ .done
 simpa [Except.map] using this
theorem zhW {s:ByteArray} {j:Bool} {k n e b:Nat} {t:Tk} {o:List Tk} (h: ∀r,Lx s j k n r→zae s j (r.map (o++ ·))) (A:k<s.size) (z:n<4000) (D:Tok s j k t e) (q:Skip s e b):
  ∀r,Lx s j b (n+1) r→zae s j (r.map ((o++[t])++ ·)):=by
 intro r E
 have:=h _ (.tok A z D q E)
 cases r<;>simpa [Except.map] using this
theorem zhX {w:World} {o:Obj} {e:TypeId} {j:Nat} (n:j≤w.heap.size):OwnT ((w.alloc o).alloc (.cells #[] e)) j e (w.heap.size+1) 0 0 []:=by
 have:=zgr (w.alloc o) e j (by rw[zk];omega)
 rw[zk] at this
 exact this
theorem zlB (s:ByteArray) (j:Bool) (w:World) (hs:s.size≤4294967296):
  Calls Tryz.prog 20 #[.string s,.bool j] w fun e w'=>zlA s j w e w'∧Below w.heap.size w w':=by
 obtain⟨i0,hi,aj,ac,al⟩:=info_parts Tryz.infoTok
 go_enter Tryz.func20,Tryz.ntmps20
 go_wp2_with fail
 refine (zhS _ 0 _ (Nat.zero_le _) hs).mono ?_
 rintro e w' ⟨k0,rfl,A,rfl⟩
 have ae:Hid (Skip s 0 k0):=A
 have ai:=(zgg A).2
 clear A
 go_wp2
 go_loopw [6,7,8,9] (fun o i _ _ wr=>∃(k n g D:Nat) (I:List Tk),k≤s.size∧n≤4000∧i= .int .i64 k∧o= .slice (some ⟨g,0,none⟩) n D∧OwnT wr w.heap.size 111 g n D I∧(∀r,Lx s j k n r→zae s j (r.map (I++ ·)))∧Below w.heap.size w wr) (fun _ i _ _ _=>(s.size-intOf i).toNat)
 case atStart=>exact⟨k0,0,w.heap.size,0,[],ai,by omega,rfl,rfl,zgr w _ _ (Nat.le_refl _),fun r hr=>⟨k0,ae.out,by cases r<;>simpa [Except.map] using hr⟩,(Below.refl _ _).alloc (Nat.le_refl _) _⟩
 case round=>
  obtain⟨k,n,g,D,I,hk,hn,rfl,rfl,H,Z,hb⟩:=hrel
  have J:Hid (∀r,Lx s j k n r→zae s j (r.map (I++ ·))):=Z
  have ap:=zan H
  clear Z
  by_cases E:k<s.size
  ·go_wp2_with fail
   refine (zl9 _ _ _ _ E hs).mono ?_
   rintro e w1 ⟨v,z,rfl,V,aa⟩
   have q:=hb.trans (aa.mono hb.size)
   have L:=zbV H aa
   rcases V with ⟨⟨N,tx,nm,O⟩,m,rfl,rfl,ht⟩|⟨rfl,⟨c1,c2,c3,c4,rfl⟩,ag⟩
   ·have HT:Hid (Tok s j k ⟨N,tx,nm,O⟩ m):=ht
    have ao:=(zdQ E ht).1
    have ah:=(zdQ E ht).2.1
    clear ht
    by_cases am:n<4000
    ·have q4:decide ((4000:Int)≤(n:Int))=false:=decide_eq_false (by omega)
     obtain⟨W,Y⟩: ∃W,W=w1.alloc (.cells #[.int .i64 N,.string tx,.int .i64 nm,.int .i64 O] 111):=⟨_,rfl⟩
     have HW:Hid (W=w1.alloc (.cells #[.int .i64 N,.string tx,.int .i64 nm,.int .i64 O] 111)):=Y
     have U:Below w.heap.size w W:=by rw[Y];exact q.alloc q.size _
     have K:OwnT W w.heap.size 111 g n D I:=by rw[Y];exact zbV L ((Below.refl _ _).alloc (Nat.le_refl _) _)
     have Q:=U.size
     have af:Hid (w1.heap.size+1=W.heap.size):=by show _=_;rw[Y,zk]
     clear Y
     simp only[tkV]
     go_wp2_with (first|(at_builtin;rw[←HW.out];refine zlr W rfl _ _ 49 rfl w.heap.size 111 i0 _ Tryz.underlying49 hi aj ac al rfl g n D I (by rfl) K ⟨N,tx,nm,O⟩ (w1.heap.size+1) af.out (by rfl) (by omega) Q ?_))
     intro g2 X w2 M ak
     have ad:=U.trans ak
     go_wp2_with fail
     refine (zhS _ m _ ah hs).mono ?_
     rintro e w3 ⟨b,rfl,A,rfl⟩
     have HX:Hid (∀r,Lx s j b (n+1) r→zae s j (r.map ((I++[⟨N,tx,nm,O⟩])++ ·))):=zhW J.out E am HT.out A
     have an:=(zgg A).1
     have ab:=(zgg A).2
     clear A
     go_wp2
     go_roundw
     case rel=>exact⟨b,n+1,g2,X,I++[⟨N,tx,nm,O⟩],ab,by omega,rfl,rfl,M,HX.out,ad⟩
     case measure=>simp[intOf];omega
    ·have q4:decide ((4000:Int)≤(n:Int))=true:=decide_eq_true (by omega)
     have HE:Hid (zae s j (.error k)):=zeD J.out E (.inl (by omega))
     simp only[tkV]
     go_wp2
     go_ret2
     exact⟨⟨_,HE.out,_,_,rfl,zhX q.size⟩,(q.alloc q.size _).alloc (by rw[zk];have:=q.size;omega) _⟩
   ·have HE:Hid (zae s j (.error k)):=zeD J.out E (.inr ag)
    go_wp2
    go_ret2
    exact⟨⟨_,HE.out,_,_,rfl,zhX q.size⟩,(q.alloc q.size _).alloc (by rw[zk];have:=q.size;omega) _⟩
  ·have HE:Hid (zae s j (.ok I)):=zhV J.out (by omega)
   go_wp2
   go_ret2
   exact⟨⟨_,HE.out,g,n,D,rfl,H⟩,hb⟩
end Go.Proofs.YticdggnnpjachaaGreat