/-
 What spec.Lex answers: the walk.
-/
import Derived.Test.YthfeoomfiafldaaGreatCdSpecLex
import Derived.Test.YthfeoomfiafldaaGreatCdDrawProgCToTokMem
namespace Go.Proofs.YthfeoomfiafldaaGreat
set_option maxRecDepth 100000
set_option maxHeartbeats 3200000
open Go.RowKit Go.PlainAid
theorem Tryz.infoTok:(Tryz.prog.info? 40).map (fun i=>(i.zero,i.size,i.bytes))=some (some (.agg #[.int .i64 0,.string {data:=#[]},.int .i64 0,.int .i64 0]),4,40):=by kernel_rfl
def zoj (s:ByteArray) (scr:Bool) (w:World) (e:Ending) (w':World):Prop:=
 ∃r,zY s scr r∧match r with
  | .ok ts=>∃g n cap,e= .returned (.tuple #[.slice (some ⟨g,0,none⟩) n cap,.int .i64 (-1)])∧OwnT w' w.heap.size 40 g n cap ts
  | .error p=>∃g cap,e= .returned (.tuple #[.slice (some ⟨g,0,none⟩) 0 cap,.int .i64 p])∧OwnT w' w.heap.size 40 g 0 cap []
theorem zf9 {s:ByteArray} {scr:Bool} {k n:Nat} {o:List Tk} (h: ∀r,Lx s scr k n r→zY s scr (r.map (o++ ·))) (j:k<s.size) (z:4000≤n∨∀t e,¬Tok s scr k t e):zY s scr (.error k):=h _ (.bad j z)
theorem zjK {s:ByteArray} {scr:Bool} {k n:Nat} {j:List Tk} (h: ∀r,Lx s scr k n r→zY s scr (r.map (j++ ·))) (o:k=s.size):zY s scr (.ok j):=by
 subst o
 have:=h _ .done
 simpa [Except.map] using this
theorem zjL {s:ByteArray} {scr:Bool} {k n e b:Nat} {t:Tk} {j:List Tk} (h: ∀r,Lx s scr k n r→zY s scr (r.map (j++ ·))) (E:k<s.size) (o:n<4000) (z:Tok s scr k t e) (H:Skip s e b):
  ∀r,Lx s scr b (n+1) r→zY s scr (r.map ((j++[t])++ ·)):=by
 intro r D
 have:=h _ (.tok E o z H D)
 cases r<;>simpa [Except.map] using this
theorem zjM {w:World} {o:Obj} {e:TypeId} {j:Nat} (z:j≤w.heap.size):OwnT ((w.alloc o).alloc (.cells #[] e)) j e (w.heap.size+1) 0 0 []:=by
 have:=zhG (w.alloc o) e j (by rw[zW];omega)
 rw[zW] at this
 exact this
theorem zjN (s:ByteArray) (scr:Bool) (w:World) (hs:s.size≤4294967296):
  Calls Tryz.prog 9 #[.string s,.bool scr] w fun e w'=>zoj s scr w e w'∧Below w.heap.size w w':=by
 obtain⟨i0,hi,am,ad,ah⟩:=info_parts Tryz.infoTok
 go_enter Tryz.func9,Tryz.ntmps9
 go_wp2_with fail
 refine (zjH _ 0 _ (Nat.zero_le _) hs).mono ?_
 rintro e w' ⟨k0,rfl,D,rfl⟩
 have al:Hid (Skip s 0 k0):=D
 have aj:=(zh4 D).2
 clear D
 go_wp2
 go_loopw [6,7,8,9] (fun o i _ _ wr=>∃(k n g H:Nat) (K:List Tk),k≤s.size∧n≤4000∧i= .int .i64 k∧o= .slice (some ⟨g,0,none⟩) n H∧OwnT wr w.heap.size 40 g n H K∧(∀r,Lx s scr k n r→zY s scr (r.map (K++ ·)))∧Below w.heap.size w wr) (fun _ i _ _ _=>(s.size-intOf i).toNat)
 case atStart=>exact⟨k0,0,w.heap.size,0,[],aj,by omega,rfl,rfl,zhG w _ _ (Nat.le_refl _),fun r hr=>⟨k0,al.out,by cases r<;>simpa [Except.map] using hr⟩,(Below.refl _ _).alloc (Nat.le_refl _) _⟩
 case round=>
  obtain⟨k,n,g,H,K,hk,hn,rfl,rfl,I,V,hb⟩:=hrel
  have J:Hid (∀r,Lx s scr k n r→zY s scr (r.map (K++ ·))):=V
  have ap:=zan I
  clear V
  by_cases E:k<s.size
  ·go_wp2_with fail
   refine (zoi _ _ _ _ E hs).mono ?_
   rintro e w1 ⟨v,z,rfl,U,ab⟩
   have j:=hb.trans (ab.mono hb.size)
   have L:=zcn I ab
   rcases U with ⟨⟨Q,tx,nm,O⟩,m,rfl,rfl,ht⟩|⟨rfl,⟨c1,c2,c3,c4,rfl⟩,ai⟩
   ·have HT:Hid (Tok s scr k ⟨Q,tx,nm,O⟩ m):=ht
    have ao:=(zdJ E ht).1
    have af:=(zdJ E ht).2.1
    clear ht
    by_cases ag:n<4000
    ·have q4:decide ((4000:Int)≤(n:Int))=false:=decide_eq_false (by omega)
     obtain⟨W,Y⟩: ∃W,W=w1.alloc (.cells #[.int .i64 Q,.string tx,.int .i64 nm,.int .i64 O] 40):=⟨_,rfl⟩
     have HW:Hid (W=w1.alloc (.cells #[.int .i64 Q,.string tx,.int .i64 nm,.int .i64 O] 40)):=Y
     have X:Below w.heap.size w W:=by rw[Y];exact j.alloc j.size _
     have N:OwnT W w.heap.size 40 g n H K:=by rw[Y];exact zcn L ((Below.refl _ _).alloc (Nat.le_refl _) _)
     have aa:=X.size
     have ac:Hid (w1.heap.size+1=W.heap.size):=by show _=_;rw[Y,zW]
     clear Y
     simp only[tkV]
     go_wp2_with (first|(at_builtin;rw[←HW.out];refine znQ W rfl _ _ 36 rfl w.heap.size 40 i0 _ Tryz.underlying36 hi am ad ah rfl g n H K (by rfl) N ⟨Q,tx,nm,O⟩ (w1.heap.size+1) ac.out (by rfl) (by omega) aa ?_))
     intro g2 Z w2 M an
     have ak:=X.trans an
     go_wp2_with fail
     refine (zjH _ m _ af hs).mono ?_
     rintro e w3 ⟨b,rfl,D,rfl⟩
     have HX:Hid (∀r,Lx s scr b (n+1) r→zY s scr (r.map ((K++[⟨Q,tx,nm,O⟩])++ ·))):=zjL J.out E ag HT.out D
     have aq:=(zh4 D).1
     have ae:=(zh4 D).2
     clear D
     go_wp2
     go_roundw
     case rel=>exact⟨b,n+1,g2,Z,K++[⟨Q,tx,nm,O⟩],ae,by omega,rfl,rfl,M,HX.out,ak⟩
     case measure=>simp[intOf];omega
    ·have q4:decide ((4000:Int)≤(n:Int))=true:=decide_eq_true (by omega)
     have HE:Hid (zY s scr (.error k)):=zf9 J.out E (.inl (by omega))
     simp only[tkV]
     go_wp2
     go_ret2
     exact⟨⟨_,HE.out,_,_,rfl,zjM j.size⟩,(j.alloc j.size _).alloc (by rw[zW];have:=j.size;omega) _⟩
   ·have HE:Hid (zY s scr (.error k)):=zf9 J.out E (.inr ai)
    go_wp2
    go_ret2
    exact⟨⟨_,HE.out,_,_,rfl,zjM j.size⟩,(j.alloc j.size _).alloc (by rw[zW];have:=j.size;omega) _⟩
  ·have HE:Hid (zY s scr (.ok K)):=zjK J.out (by omega)
   go_wp2
   go_ret2
   exact⟨⟨_,HE.out,g,n,H,rfl,I⟩,hb⟩
end Go.Proofs.YthfeoomfiafldaaGreat