/-
 What spec.Lex answers: the walk.
-/
import Derived.Test.YthfeoomfiafldaaGreatCdSpecLex
import Derived.Test.YthfeoomfiafldaaGreatCdSpoilBaseToTokMem
namespace Go.Proofs.YthfeoomfiafldaaGreat
set_option maxRecDepth 100000
set_option maxHeartbeats 3200000
open Go.RowKit Go.PlainAid
theorem Tryz.infoTok:(Tryz.prog.info? 40).map (fun i=>(i.zero,i.size,i.bytes))=some (some (.agg #[.int .i64 0,.string {data:=#[]},.int .i64 0,.int .i64 0]),4,40):=by kernel_rfl
def zoj (s:ByteArray) (scr:Bool) (w:World) (e:Ending) (w':World):Prop:=
 ∃r,zY s scr r∧match r with
  | .ok ts=>∃g n cap,e= .returned (.tuple #[.slice (some ⟨g,0,none⟩) n cap,.int .i64 (-1)])∧OwnT w' w.heap.size 40 g n cap ts
  | .error p=>∃g cap,e= .returned (.tuple #[.slice (some ⟨g,0,none⟩) 0 cap,.int .i64 p])∧OwnT w' w.heap.size 40 g 0 cap []
theorem zf9 {s:ByteArray} {scr:Bool} {k n:Nat} {j:List Tk} (h: ∀r,Lx s scr k n r→zY s scr (r.map (j++ ·))) (z:k<s.size) (o:4000≤n∨∀t e,¬Tok s scr k t e):zY s scr (.error k):=h _ (.bad z o)
theorem zjK {s:ByteArray} {scr:Bool} {k n:Nat} {j:List Tk} (h: ∀r,Lx s scr k n r→zY s scr (r.map (j++ ·))) (o:k=s.size):zY s scr (.ok j):=by
 subst o
 have:=h _ .done
 simpa [Except.map] using this
theorem zjL {s:ByteArray} {scr:Bool} {k n e b:Nat} {t:Tk} {j:List Tk} (h: ∀r,Lx s scr k n r→zY s scr (r.map (j++ ·))) (z:k<s.size) (o:n<4000) (D:Tok s scr k t e) (H:Skip s e b):
  ∀r,Lx s scr b (n+1) r→zY s scr (r.map ((j++[t])++ ·)):=by
 intro r E
 have:=h _ (.tok z o D H E)
 cases r<;>simpa [Except.map] using this
theorem zjM {w:World} {o:Obj} {e:TypeId} {j:Nat} (z:j≤w.heap.size):OwnT ((w.alloc o).alloc (.cells #[] e)) j e (w.heap.size+1) 0 0 []:=by
 have:=zhG (w.alloc o) e j (by rw[zW];omega)
 rw[zW] at this
 exact this
theorem zjN (s:ByteArray) (scr:Bool) (w:World) (hs:s.size≤4294967296):
  Calls Tryz.prog 9 #[.string s,.bool scr] w fun e w'=>zoj s scr w e w'∧Below w.heap.size w w':=by
 obtain⟨i0,hi,am,aj,ah⟩:=info_parts Tryz.infoTok
 go_enter Tryz.func9,Tryz.ntmps9
 go_wp2_with fail
 refine (zjH _ 0 _ (Nat.zero_le _) hs).mono ?_
 rintro e w' ⟨k0,rfl,D,rfl⟩
 have ac:Hid (Skip s 0 k0):=D
 have ad:=(zh4 D).2
 clear D
 go_wp2
 go_loopw [6,7,8,9] (fun o i _ _ wr=>∃(k n g E:Nat) (J:List Tk),k≤s.size∧n≤4000∧i= .int .i64 k∧o= .slice (some ⟨g,0,none⟩) n E∧OwnT wr w.heap.size 40 g n E J∧(∀r,Lx s scr k n r→zY s scr (r.map (J++ ·)))∧Below w.heap.size w wr) (fun _ i _ _ _=>(s.size-intOf i).toNat)
 case atStart=>exact⟨k0,0,w.heap.size,0,[],ad,by omega,rfl,rfl,zhG w _ _ (Nat.le_refl _),fun r hr=>⟨k0,ac.out,by cases r<;>simpa [Except.map] using hr⟩,(Below.refl _ _).alloc (Nat.le_refl _) _⟩
 case round=>
  obtain⟨k,n,g,E,J,hk,hn,rfl,rfl,I,U,hb⟩:=hrel
  have K:Hid (∀r,Lx s scr k n r→zY s scr (r.map (J++ ·))):=U
  have ap:=zan I
  clear U
  by_cases H:k<s.size
  ·go_wp2_with fail
   refine (zoi _ _ _ _ H hs).mono ?_
   rintro e w1 ⟨v,z,rfl,Z,Y⟩
   have j:=hb.trans (Y.mono hb.size)
   have N:=zcn I Y
   rcases Z with ⟨⟨O,tx,nm,Q⟩,m,rfl,rfl,ht⟩|⟨rfl,⟨c1,c2,c3,c4,rfl⟩,al⟩
   ·have HT:Hid (Tok s scr k ⟨O,tx,nm,Q⟩ m):=ht
    have ao:=(zdJ H ht).1
    have ak:=(zdJ H ht).2.1
    clear ht
    by_cases ab:n<4000
    ·have q4:decide ((4000:Int)≤(n:Int))=false:=decide_eq_false (by omega)
     obtain⟨W,hW⟩: ∃W,W=w1.alloc (.cells #[.int .i64 O,.string tx,.int .i64 nm,.int .i64 Q] 40):=⟨_,rfl⟩
     have HW:Hid (W=w1.alloc (.cells #[.int .i64 O,.string tx,.int .i64 nm,.int .i64 Q] 40)):=hW
     have V:Below w.heap.size w W:=by rw[hW];exact j.alloc j.size _
     have L:OwnT W w.heap.size 40 g n E J:=by rw[hW];exact zcn N ((Below.refl _ _).alloc (Nat.le_refl _) _)
     have aa:=V.size
     have af:Hid (w1.heap.size+1=W.heap.size):=by show _=_;rw[hW,zW]
     clear hW
     simp only[tkV]
     go_wp2_with (first|(at_builtin;rw[←HW.out];refine znQ W rfl _ _ 36 rfl w.heap.size 40 i0 _ Tryz.underlying36 hi am aj ah rfl g n E J (by rfl) L ⟨O,tx,nm,Q⟩ (w1.heap.size+1) af.out (by rfl) (by omega) aa ?_))
     intro g2 X w2 M ag
     have ae:=V.trans ag
     go_wp2_with fail
     refine (zjH _ m _ ak hs).mono ?_
     rintro e w3 ⟨b,rfl,D,rfl⟩
     have HX:Hid (∀r,Lx s scr b (n+1) r→zY s scr (r.map ((J++[⟨O,tx,nm,Q⟩])++ ·))):=zjL K.out H ab HT.out D
     have an:=(zh4 D).1
     have ai:=(zh4 D).2
     clear D
     go_wp2
     go_roundw
     case rel=>exact⟨b,n+1,g2,X,J++[⟨O,tx,nm,Q⟩],ai,by omega,rfl,rfl,M,HX.out,ae⟩
     case measure=>simp[intOf];omega
    ·have q4:decide ((4000:Int)≤(n:Int))=true:=decide_eq_true (by omega)
     have HE:Hid (zY s scr (.error k)):=zf9 K.out H (.inl (by omega))
     simp only[tkV]
     go_wp2
     go_ret2
     exact⟨⟨_,HE.out,_,_,rfl,zjM j.size⟩,(j.alloc j.size _).alloc (by rw[zW];have:=j.size;omega) _⟩
   ·have HE:Hid (zY s scr (.error k)):=zf9 K.out H (.inr al)
    go_wp2
    go_ret2
    exact⟨⟨_,HE.out,_,_,rfl,zjM j.size⟩,(j.alloc j.size _).alloc (by rw[zW];have:=j.size;omega) _⟩
  ·have HE:Hid (zY s scr (.ok J)):=zjK K.out (by omega)
   go_wp2
   go_ret2
   exact⟨⟨_,HE.out,g,n,E,rfl,I⟩,hb⟩
end Go.Proofs.YthfeoomfiafldaaGreat