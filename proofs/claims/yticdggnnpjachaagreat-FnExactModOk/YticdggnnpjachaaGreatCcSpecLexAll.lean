/-
 What spec.Lex answers: the walk.
-/
import Derived.Test.YticdggnnpjachaaGreatCcSpecLex
import Derived.Test.YticdggnnpjachaaGreatCcTokMem
namespace Go.Proofs.YticdggnnpjachaaGreat
set_option maxRecDepth 100000
set_option maxHeartbeats 3200000
open Go.RowKit Go.PlainAid
theorem Tryz.infoTok:(Tryz.prog.info? 111).map (fun i=>(i.zero,i.size,i.bytes))=some (some (.agg #[.int .i64 0,.string {data:=#[]},.int .i64 0,.int .i64 0]),4,40):=by kernel_rfl
def zkn (s:ByteArray) (scr:Bool) (w:World) (e:Ending) (w':World):Prop:=
 ∃r,zac s scr r∧match r with
  | .ok ts=>∃g n cap,e= .returned (.tuple #[.slice (some ⟨g,0,none⟩) n cap,.int .i64 (-1)])∧OwnT w' w.heap.size 111 g n cap ts
  | .error p=>∃g cap,e= .returned (.tuple #[.slice (some ⟨g,0,none⟩) 0 cap,.int .i64 p])∧OwnT w' w.heap.size 111 g 0 cap []
theorem zen {s:ByteArray} {j:Bool} {k n:Nat} {q:List Tk} (h: ∀r,Lx s j k n r→zac s j (r.map (q++ ·))) (w:k<s.size) (o:4000≤n∨∀t e,¬Tok s j k t e):zac s j (.error k):=h _ (.bad w o)
theorem zhf {s:ByteArray} {j:Bool} {k n:Nat} {o:List Tk} (h: ∀r,Lx s j k n r→zac s j (r.map (o++ ·))) (q:k=s.size):zac s j (.ok o):=by
 subst q
 have:=h _ .done
 simpa [Except.map] using this
theorem zhg {s:ByteArray} {j:Bool} {k n e b:Nat} {t:Tk} {o:List Tk} (h: ∀r,Lx s j k n r→zac s j (r.map (o++ ·))) (D:k<s.size) (A:n<4000) (z:Tok s j k t e) (q:Skip s e b):
  ∀r,Lx s j b (n+1) r→zac s j (r.map ((o++[t])++ ·)):=by
 intro r w
 have:=h _ (.tok D A z q w)
 cases r<;>simpa [Except.map] using this
theorem zj (w:World) (o:Obj):(w.alloc o).heap.size=w.heap.size+1:=by show (w.heap.push _).size=_;simp
theorem zhh {w:World} {o:Obj} {e:TypeId} {h:Nat} (j:h≤w.heap.size):OwnT ((w.alloc o).alloc (.cells #[] e)) h e (w.heap.size+1) 0 0 []:=by
 have:=zfG (w.alloc o) e h (by rw[zj];omega)
 rw[zj] at this
 exact this
theorem zko (s:ByteArray) (h:Bool) (w:World) (hs:s.size≤4294967296):
  Calls Tryz.prog 20 #[.string s,.bool h] w fun e w'=>zkn s h w e w'∧Below w.heap.size w w':=by
 obtain⟨i0,hi,am,ao,ah⟩:=info_parts Tryz.infoTok
 go_enter Tryz.func20,Tryz.ntmps20
 go_wp2_with fail
 refine (zhc _ 0 _ (Nat.zero_le _) hs).mono ?_
 rintro e w' ⟨k0,rfl,q,rfl⟩
 have ae:Hid (Skip s 0 k0):=q
 have ag:=(zf9 q).2
 clear q
 go_wp2
 go_loopw [6,7,8,9] (fun o i _ _ wr=>∃(k n g D:Nat) (H:List Tk),k≤s.size∧n≤4000∧i= .int .i64 k∧o= .slice (some ⟨g,0,none⟩) n D∧OwnT wr w.heap.size 111 g n D H∧(∀r,Lx s h k n r→zac s h (r.map (H++ ·)))∧Below w.heap.size w wr) (fun _ i _ _ _=>(s.size-intOf i).toNat)
 case atStart=>exact⟨k0,0,w.heap.size,0,[],ag,by omega,rfl,rfl,zfG w _ _ (Nat.le_refl _),fun r hr=>⟨k0,ae.out,by cases r<;>simpa [Except.map] using hr⟩,(Below.refl _ _).alloc (Nat.le_refl _) _⟩
 case round=>
  obtain⟨k,n,g,D,H,hk,hn,rfl,rfl,E,Y,hb⟩:=hrel
  have I:Hid (∀r,Lx s h k n r→zac s h (r.map (H++ ·))):=Y
  have ap:=zak E
  clear Y
  by_cases A:k<s.size
  ·go_wp2_with fail
   refine (zkm _ _ _ _ A hs).mono ?_
   rintro e w1 ⟨v,z,rfl,ab,aa⟩
   have j:=hb.trans (aa.mono hb.size)
   have K:=zbO E aa
   rcases ab with ⟨⟨M,O,N,U⟩,m,rfl,rfl,ht⟩|⟨rfl,⟨c1,c2,c3,c4,rfl⟩,ad⟩
   ·have HT:Hid (Tok s h k ⟨M,O,N,U⟩ m):=ht
    have ar:=(zd5 A ht).1
    have aj:=(zd5 A ht).2.1
    clear ht
    by_cases ak:n<4000
    ·have q4:decide ((4000:Int)≤(n:Int))=false:=decide_eq_false (by omega)
     obtain⟨W,X⟩: ∃W,W=w1.alloc (.cells #[.int .i64 M,.string O,.int .i64 N,.int .i64 U] 111):=⟨_,rfl⟩
     have HW:Hid (W=w1.alloc (.cells #[.int .i64 M,.string O,.int .i64 N,.int .i64 U] 111)):=X
     have V:Below w.heap.size w W:=by rw[X];exact j.alloc j.size _
     have J:OwnT W w.heap.size 111 g n D H:=by rw[X];exact zbO K ((Below.refl _ _).alloc (Nat.le_refl _) _)
     have Z:=V.size
     have al:Hid (w1.heap.size+1=W.heap.size):=by show _=_;rw[X,zj]
     clear X
     simp only[tkV]
     go_wp2_with (first|(at_builtin;rw[←HW.out];refine zjS W rfl _ _ 49 rfl w.heap.size 111 i0 _ Tryz.underlying49 hi am ao ah rfl g n D H (by rfl) J ⟨M,O,N,U⟩ (w1.heap.size+1) al.out (by rfl) (by omega) Z ?_))
     intro g2 ac w2 L af
     have an:=V.trans af
     go_wp2_with fail
     refine (zhc _ m _ aj hs).mono ?_
     rintro e w3 ⟨b,rfl,q,rfl⟩
     have HX:Hid (∀r,Lx s h b (n+1) r→zac s h (r.map ((H++[⟨M,O,N,U⟩])++ ·))):=zhg I.out A ak HT.out q
     have aq:=(zf9 q).1
     have ai:=(zf9 q).2
     clear q
     go_wp2
     go_roundw
     case rel=>exact⟨b,n+1,g2,ac,H++[⟨M,O,N,U⟩],ai,by omega,rfl,rfl,L,HX.out,an⟩
     case measure=>simp[intOf];omega
    ·have q4:decide ((4000:Int)≤(n:Int))=true:=decide_eq_true (by omega)
     have HE:Hid (zac s h (.error k)):=zen I.out A (.inl (by omega))
     simp only[tkV]
     go_wp2
     go_ret2
     exact⟨⟨_,HE.out,_,_,rfl,zhh j.size⟩,(j.alloc j.size _).alloc (by rw[zj];have:=j.size;omega) _⟩
   ·have HE:Hid (zac s h (.error k)):=zen I.out A (.inr ad)
    go_wp2
    go_ret2
    exact⟨⟨_,HE.out,_,_,rfl,zhh j.size⟩,(j.alloc j.size _).alloc (by rw[zj];have:=j.size;omega) _⟩
  ·have HE:Hid (zac s h (.ok H)):=zhf I.out (by omega)
   go_wp2
   go_ret2
   exact⟨⟨_,HE.out,g,n,D,rfl,E⟩,hb⟩
end Go.Proofs.YticdggnnpjachaaGreat