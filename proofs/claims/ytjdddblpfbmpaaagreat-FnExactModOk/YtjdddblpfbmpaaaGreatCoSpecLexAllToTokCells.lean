/-
  What spec.Lex answers: the walk.
  The cells of a token that lies in a row. No program is spoken of.
-/
import Derived.Test.YtjdddblpfbmpaaaGreatCoSpecLex
import Derived.Test.YtjdddblpfbmpaaaGreatCoTokMem
namespace Go.Proofs.YtjdddblpfbmpaaaGreat
set_option maxRecDepth 100000
set_option maxHeartbeats 3200000
open Go.RowKit Go.PlainAid
theorem Tryz.infoTok:(Tryz.prog.info? 143).map (fun i=>(i.zero,i.size,i.bytes))=some (some (.agg #[.int .i64 0,.string {data:=#[]},.int .i64 0,.int .i64 0]),4,40):=by kernel_rfl
def zks (s:ByteArray) (scr:Bool) (w:World) (e:Ending) (w':World):Prop:=
 ∃r,zaa s scr r∧match r with
  | .ok ts=>∃g n cap,e= .returned (.tuple #[.slice (some ⟨g,0,none⟩) n cap,.int .i64 (-1)])∧OwnT w' w.heap.size 143 g n cap ts
  | .error p=>∃g cap,e= .returned (.tuple #[.slice (some ⟨g,0,none⟩) 0 cap,.int .i64 p])∧OwnT w' w.heap.size 143 g 0 cap []
theorem zek {s:ByteArray} {j:Bool} {k n:Nat} {q:List Tk} (h: ∀r,Lx s j k n r→zaa s j (r.map (q++ ·))) (w:k<s.size) (z:4000≤n∨∀t e,¬Tok s j k t e):zaa s j (.error k):=h _ (.bad w z)
theorem zhc {s:ByteArray} {j:Bool} {k n:Nat} {q:List Tk} (h: ∀r,Lx s j k n r→zaa s j (r.map (q++ ·))) (w:k=s.size):zaa s j (.ok q):=by
 subst w
 have:=h _ .done
 simpa [Except.map] using this
theorem zhd {s:ByteArray} {j:Bool} {k n e b:Nat} {t:Tk} {q:List Tk} (h: ∀r,Lx s j k n r→zaa s j (r.map (q++ ·))) (w:k<s.size) (E:n<4000) (A:Tok s j k t e) (D:Skip s e b):
  ∀r,Lx s j b (n+1) r→zaa s j (r.map ((q++[t])++ ·)):=by
 intro r z
 have:=h _ (.tok w E A D z)
 cases r<;>simpa [Except.map] using this
theorem zhe {w:World} {o:Obj} {e:TypeId} {h:Nat} (j:h≤w.heap.size):OwnT ((w.alloc o).alloc (.cells #[] e)) h e (w.heap.size+1) 0 0 []:=by
 have:=zfD (w.alloc o) e h (by rw[zk];omega)
 rw[zk] at this
 exact this
theorem zkt (s:ByteArray) (h:Bool) (w:World) (hs:s.size≤4294967296):
  Calls Tryz.prog 78 #[.string s,.bool h] w fun e w'=>zks s h w e w'∧Below w.heap.size w w':=by
 obtain⟨i0,hi,af,ah,aj⟩:=info_parts Tryz.infoTok
 go_enter Tryz.func78,Tryz.ntmps78
 go_wp2_with fail
 refine (zgZ _ 0 _ (Nat.zero_le _) hs).mono ?_
 rintro e w' ⟨k0,rfl,q,rfl⟩
 have am:Hid (Skip s 0 k0):=q
 have ag:=(zf6 q).2
 clear q
 go_wp2
 go_loopw [6,7,8,9] (fun o i _ _ wr=>∃(k n g D:Nat) (I:List Tk),k≤s.size∧n≤4000∧i= .int .i64 k∧o= .slice (some ⟨g,0,none⟩) n D∧OwnT wr w.heap.size 143 g n D I∧(∀r,Lx s h k n r→zaa s h (r.map (I++ ·)))∧Below w.heap.size w wr) (fun _ i _ _ _=>(s.size-intOf i).toNat)
 case atStart=>exact⟨k0,0,w.heap.size,0,[],ag,by omega,rfl,rfl,zfD w _ _ (Nat.le_refl _),fun r hr=>⟨k0,am.out,by cases r<;>simpa [Except.map] using hr⟩,(Below.refl _ _).alloc (Nat.le_refl _) _⟩
 case round=>
  obtain⟨k,n,g,D,I,hk,hn,rfl,rfl,E,V,hb⟩:=hrel
  have H:Hid (∀r,Lx s h k n r→zaa s h (r.map (I++ ·))):=V
  have ap:=zaj E
  clear V
  by_cases A:k<s.size
  ·go_wp2_with fail
   refine (zkr _ _ _ _ A hs).mono ?_
   rintro e w1 ⟨v,z,rfl,ab,ac⟩
   have j:=hb.trans (ac.mono hb.size)
   have L:=zbK E ac
   rcases ab with ⟨⟨N,U,M,O⟩,m,rfl,rfl,ht⟩|⟨rfl,⟨c1,c2,c3,c4,rfl⟩,ae⟩
   ·have HT:Hid (Tok s h k ⟨N,U,M,O⟩ m):=ht
    have aq:=(zd3 A ht).1
    have ai:=(zd3 A ht).2.1
    clear ht
    by_cases ad:n<4000
    ·have q4:decide ((4000:Int)≤(n:Int))=false:=decide_eq_false (by omega)
     obtain⟨W,X⟩: ∃W,W=w1.alloc (.cells #[.int .i64 N,.string U,.int .i64 M,.int .i64 O] 143):=⟨_,rfl⟩
     have HW:Hid (W=w1.alloc (.cells #[.int .i64 N,.string U,.int .i64 M,.int .i64 O] 143)):=X
     have Y:Below w.heap.size w W:=by rw[X];exact j.alloc j.size _
     have J:OwnT W w.heap.size 143 g n D I:=by rw[X];exact zbK L ((Below.refl _ _).alloc (Nat.le_refl _) _)
     have aa:=Y.size
     have ak:Hid (w1.heap.size+1=W.heap.size):=by show _=_;rw[X,zk]
     clear X
     simp only[tkV]
     go_wp2_with (first|(at_builtin;rw[←HW.out];refine zjX W rfl _ _ 118 rfl w.heap.size 143 i0 _ Tryz.underlying118 hi af ah aj rfl g n D I (by rfl) J ⟨N,U,M,O⟩ (w1.heap.size+1) ak.out (by rfl) (by omega) aa ?_))
     intro g2 Z w2 K ao
     have an:=Y.trans ao
     go_wp2_with fail
     refine (zgZ _ m _ ai hs).mono ?_
     rintro e w3 ⟨b,rfl,q,rfl⟩
     have HX:Hid (∀r,Lx s h b (n+1) r→zaa s h (r.map ((I++[⟨N,U,M,O⟩])++ ·))):=zhd H.out A ad HT.out q
     have ar:=(zf6 q).1
     have al:=(zf6 q).2
     clear q
     go_wp2
     go_roundw
     case rel=>exact⟨b,n+1,g2,Z,I++[⟨N,U,M,O⟩],al,by omega,rfl,rfl,K,HX.out,an⟩
     case measure=>simp[intOf];omega
    ·have q4:decide ((4000:Int)≤(n:Int))=true:=decide_eq_true (by omega)
     have HE:Hid (zaa s h (.error k)):=zek H.out A (.inl (by omega))
     simp only[tkV]
     go_wp2
     go_ret2
     exact⟨⟨_,HE.out,_,_,rfl,zhe j.size⟩,(j.alloc j.size _).alloc (by rw[zk];have:=j.size;omega) _⟩
   ·have HE:Hid (zaa s h (.error k)):=zek H.out A (.inr ae)
    go_wp2
    go_ret2
    exact⟨⟨_,HE.out,_,_,rfl,zhe j.size⟩,(j.alloc j.size _).alloc (by rw[zk];have:=j.size;omega) _⟩
  ·have HE:Hid (zaa s h (.ok I)):=zhc H.out (by omega)
   go_wp2
   go_ret2
   exact⟨⟨_,HE.out,g,n,D,rfl,E⟩,hb⟩
theorem OwnT.cells {w:World} {A g n D:Nat} {e:TypeId} {z:List Tk} (h:OwnT w A e g n D z) {j:Nat} (O:j<n) {d:Tk}:
  w.cell? ⟨g,j*4,none⟩=some (.int .i64 (z.getD j d).kind)∧w.cell? ⟨g,j*4+1,none⟩=some (.string (z.getD j d).text)∧w.cell? ⟨g,j*4+2,none⟩=some (.int .i64 (z.getD j d).num)∧w.cell? ⟨g,j*4+3,none⟩=some (.int .i64 (z.getD j d).pos):=by
 have N:=h.2
 have q: ∀(l:List Tk) (i c:Nat),c<4→i<l.length→(l.flatMap tkL)[i*4+c]? =(tkL (l.getD i d))[c]?:=by
  intro l
  induction l with
  |nil=>intro i c _ E;simp at E
  |cons x l I=>
   intro i c L E
   match i with
   |0=>
    simp only[List.flatMap_cons,Nat.zero_mul,Nat.zero_add,List.getD_cons_zero]
    rw[List.getElem?_append_left (by simp[tkL];omega)]
   |i+1=>
    simp only[List.flatMap_cons,List.getD_cons_succ]
    rw[List.getElem?_append_right (by simp[tkL];omega)]
    have:(i+1)*4+c-(tkL x).length=i*4+c:=by simp[tkL];omega
    rw[this]
    exact I i c L (by simpa using E)
 have K:=q z j 0 (by omega) (by omega)
 have M:=q z j 1 (by omega) (by omega)
 have H:=q z j 2 (by omega) (by omega)
 have J:=q z j 3 (by omega) (by omega)
 rw[h.1.cellAt _ (by omega),h.1.cellAt _ (by omega),h.1.cellAt _ (by omega),h.1.cellAt _ (by omega)]
 exact⟨K,M,H,J⟩
end Go.Proofs.YtjdddblpfbmpaaaGreat
