/-
 What spec.Lex answers: the walk.
-/
import Derived.Test.YticdggnnpjachaaGreatCcImplParseMemToBase0
import Derived.Test.YticdggnnpjachaaGreatCcSpecLex
namespace Go.Proofs.YticdggnnpjachaaGreat
set_option maxRecDepth 100000
set_option maxHeartbeats 3200000
open Go.RowKit Go.PlainAid
theorem Tryz.infoTok:(Tryz.prog.info? 111).map (fun i=>(i.zero,i.size,i.bytes))=some (some (.agg #[.int .i64 0,.string {data:=#[]},.int .i64 0,.int .i64 0]),4,40):=by kernel_rfl
def zkn (s:ByteArray) (scr:Bool) (w:World) (e:Ending) (w':World):Prop:=
 ∃r,zac s scr r∧match r with
  | .ok ts=>∃g n cap,e= .returned (.tuple #[.slice (some ⟨g,0,none⟩) n cap,.int .i64 (-1)])∧OwnT w' w.heap.size 111 g n cap ts
  | .error p=>∃g cap,e= .returned (.tuple #[.slice (some ⟨g,0,none⟩) 0 cap,.int .i64 p])∧OwnT w' w.heap.size 111 g 0 cap []
theorem zen {s:ByteArray} {j:Bool} {k n:Nat} {w:List Tk} (h: ∀r,Lx s j k n r→zac s j (r.map (w++ ·))) (o:k<s.size) (q:4000≤n∨∀t e,¬Tok s j k t e):zac s j (.error k):=h _ (.bad o q)
theorem zhf {s:ByteArray} {j:Bool} {k n:Nat} {o:List Tk} (h: ∀r,Lx s j k n r→zac s j (r.map (o++ ·))) (q:k=s.size):zac s j (.ok o):=by
 subst q
 have:=h _ .done
 simpa [Except.map] using this
theorem zhg {s:ByteArray} {j:Bool} {k n e b:Nat} {t:Tk} {o:List Tk} (h: ∀r,Lx s j k n r→zac s j (r.map (o++ ·))) (A:k<s.size) (q:n<4000) (z:Tok s j k t e) (w:Skip s e b):
  ∀r,Lx s j b (n+1) r→zac s j (r.map ((o++[t])++ ·)):=by
 intro r D
 have:=h _ (.tok A q z w D)
 cases r<;>simpa [Except.map] using this
theorem zhh {w:World} {o:Obj} {e:TypeId} {h:Nat} (j:h≤w.heap.size):OwnT ((w.alloc o).alloc (.cells #[] e)) h e (w.heap.size+1) 0 0 []:=by
 have:=zfG (w.alloc o) e h (by rw[zj];omega)
 rw[zj] at this
 exact this
theorem zko (s:ByteArray) (h:Bool) (w:World) (hs:s.size≤4294967296):
  Calls Tryz.prog 20 #[.string s,.bool h] w fun e w'=>zkn s h w e w'∧Below w.heap.size w w':=by
 obtain⟨i0,hi,am,an,ag⟩:=info_parts Tryz.infoTok
 go_enter Tryz.func20,Tryz.ntmps20
 go_wp2_with fail
 refine (zhc _ 0 _ (Nat.zero_le _) hs).mono ?_
 rintro e w' ⟨k0,rfl,q,rfl⟩
 have ae:Hid (Skip s 0 k0):=q
 have ai:=(zf9 q).2
 clear q
 go_wp2
 go_loopw [6,7,8,9] (fun o i _ _ wr=>∃(k n g D:Nat) (H:List Tk),k≤s.size∧n≤4000∧i= .int .i64 k∧o= .slice (some ⟨g,0,none⟩) n D∧OwnT wr w.heap.size 111 g n D H∧(∀r,Lx s h k n r→zac s h (r.map (H++ ·)))∧Below w.heap.size w wr) (fun _ i _ _ _=>(s.size-intOf i).toNat)
 case atStart=>exact⟨k0,0,w.heap.size,0,[],ai,by omega,rfl,rfl,zfG w _ _ (Nat.le_refl _),fun r hr=>⟨k0,ae.out,by cases r<;>simpa [Except.map] using hr⟩,(Below.refl _ _).alloc (Nat.le_refl _) _⟩
 case round=>
  obtain⟨k,n,g,D,H,hk,hn,rfl,rfl,E,X,hb⟩:=hrel
  have I:Hid (∀r,Lx s h k n r→zac s h (r.map (H++ ·))):=X
  have ap:=zak E
  clear X
  by_cases A:k<s.size
  ·go_wp2_with fail
   refine (zkm _ _ _ _ A hs).mono ?_
   rintro e w1 ⟨v,z,rfl,aa,ab⟩
   have j:=hb.trans (ab.mono hb.size)
   have K:=zbO E ab
   rcases aa with ⟨⟨N,O,M,U⟩,m,rfl,rfl,ht⟩|⟨rfl,⟨c1,c2,c3,c4,rfl⟩,aj⟩
   ·have HT:Hid (Tok s h k ⟨N,O,M,U⟩ m):=ht
    have aq:=(zd5 A ht).1
    have ak:=(zd5 A ht).2.1
    clear ht
    by_cases al:n<4000
    ·have q4:decide ((4000:Int)≤(n:Int))=false:=decide_eq_false (by omega)
     obtain⟨W,Z⟩: ∃W,W=w1.alloc (.cells #[.int .i64 N,.string O,.int .i64 M,.int .i64 U] 111):=⟨_,rfl⟩
     have HW:Hid (W=w1.alloc (.cells #[.int .i64 N,.string O,.int .i64 M,.int .i64 U] 111)):=Z
     have ac:Below w.heap.size w W:=by rw[Z];exact j.alloc j.size _
     have L:OwnT W w.heap.size 111 g n D H:=by rw[Z];exact zbO K ((Below.refl _ _).alloc (Nat.le_refl _) _)
     have Y:=ac.size
     have ao:Hid (w1.heap.size+1=W.heap.size):=by show _=_;rw[Z,zj]
     clear Z
     simp only[tkV]
     go_wp2_with (first|(at_builtin;rw[←HW.out];refine zjS W rfl _ _ 49 rfl w.heap.size 111 i0 _ Tryz.underlying49 hi am an ag rfl g n D H (by rfl) L ⟨N,O,M,U⟩ (w1.heap.size+1) ao.out (by rfl) (by omega) Y ?_))
     intro g2 V w2 J af
     have ah:=ac.trans af
     go_wp2_with fail
     refine (zhc _ m _ ak hs).mono ?_
     rintro e w3 ⟨b,rfl,q,rfl⟩
     have HX:Hid (∀r,Lx s h b (n+1) r→zac s h (r.map ((H++[⟨N,O,M,U⟩])++ ·))):=zhg I.out A al HT.out q
     have ar:=(zf9 q).1
     have ad:=(zf9 q).2
     clear q
     go_wp2
     go_roundw
     case rel=>exact⟨b,n+1,g2,V,H++[⟨N,O,M,U⟩],ad,by omega,rfl,rfl,J,HX.out,ah⟩
     case measure=>simp[intOf];omega
    ·have q4:decide ((4000:Int)≤(n:Int))=true:=decide_eq_true (by omega)
     have HE:Hid (zac s h (.error k)):=zen I.out A (.inl (by omega))
     simp only[tkV]
     go_wp2
     go_ret2
     exact⟨⟨_,HE.out,_,_,rfl,zhh j.size⟩,(j.alloc j.size _).alloc (by rw[zj];have:=j.size;omega) _⟩
   ·have HE:Hid (zac s h (.error k)):=zen I.out A (.inr aj)
    go_wp2
    go_ret2
    exact⟨⟨_,HE.out,_,_,rfl,zhh j.size⟩,(j.alloc j.size _).alloc (by rw[zj];have:=j.size;omega) _⟩
  ·have HE:Hid (zac s h (.ok H)):=zhf I.out (by omega)
   go_wp2
   go_ret2
   exact⟨⟨_,HE.out,g,n,D,rfl,E⟩,hb⟩
end Go.Proofs.YticdggnnpjachaaGreat