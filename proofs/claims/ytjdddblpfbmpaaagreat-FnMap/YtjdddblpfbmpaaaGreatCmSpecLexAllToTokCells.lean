/-
  What spec.Lex answers: the walk.
  The cells of a token that lies in a row. No program is spoken of.
-/
import Derived.Test.YtjdddblpfbmpaaaGreatCmSpecLex
import Derived.Test.YtjdddblpfbmpaaaGreatCmTokMem
namespace Go.Proofs.YtjdddblpfbmpaaaGreat
set_option maxRecDepth 100000
set_option maxHeartbeats 3200000
open Go.RowKit Go.PlainAid
theorem Tryz.infoTok:(Tryz.prog.info? 143).map (fun i=>(i.zero,i.size,i.bytes))=some (some (.agg #[.int .i64 0,.string {data:=#[]},.int .i64 0,.int .i64 0]),4,40):=by kernel_rfl
def znc (s:ByteArray) (scr:Bool) (w:World) (e:Ending) (w':World):Prop:=
 ∃r,zai s scr r∧match r with
  | .ok ts=>∃g n cap,e= .returned (.tuple #[.slice (some ⟨g,0,none⟩) n cap,.int .i64 (-1)])∧OwnT w' w.heap.size 143 g n cap ts
  | .error p=>∃g cap,e= .returned (.tuple #[.slice (some ⟨g,0,none⟩) 0 cap,.int .i64 p])∧OwnT w' w.heap.size 143 g 0 cap []
theorem zfk {s:ByteArray} {j:Bool} {k n:Nat} {q:List Tk} (h: ∀r,Lx s j k n r→zai s j (r.map (q++ ·))) (z:k<s.size) (A:4000≤n∨∀t e,¬Tok s j k t e):zai s j (.error k):=h _ (.bad z A)
theorem zji {s:ByteArray} {j:Bool} {k n:Nat} {q:List Tk} (h: ∀r,Lx s j k n r→zai s j (r.map (q++ ·))) (z:k=s.size):zai s j (.ok q):=by
 subst z
 have:=h _ .done
 simpa [Except.map] using this
theorem zjj {s:ByteArray} {j:Bool} {k n e b:Nat} {t:Tk} {q:List Tk} (h: ∀r,Lx s j k n r→zai s j (r.map (q++ ·))) (z:k<s.size) (J:n<4000) (H:Tok s j k t e) (I:Skip s e b):
  ∀r,Lx s j b (n+1) r→zai s j (r.map ((q++[t])++ ·)):=by
 intro r A
 have:=h _ (.tok z J H I A)
 cases r<;>simpa [Except.map] using this
theorem zjk {w:World} {o:Obj} {e:TypeId} {j:Nat} (q:j≤w.heap.size):OwnT ((w.alloc o).alloc (.cells #[] e)) j e (w.heap.size+1) 0 0 []:=by
 have:=zhs (w.alloc o) e j (by rw[zl];omega)
 rw[zl] at this
 exact this
theorem znd (s:ByteArray) (j:Bool) (w:World) (hs:s.size≤4294967296):
  Calls Tryz.prog 78 #[.string s,.bool j] w fun e w'=>znc s j w e w'∧Below w.heap.size w w':=by
 obtain⟨i0,hi,ah,aj,al⟩:=info_parts Tryz.infoTok
 go_enter Tryz.func78,Tryz.ntmps78
 go_wp2_with fail
 refine (zjf _ 0 _ (Nat.zero_le _) hs).mono ?_
 rintro e w' ⟨k0,rfl,A,rfl⟩
 have ao:Hid (Skip s 0 k0):=A
 have ai:=(zhj A).2
 clear A
 go_wp2
 go_loopw [6,7,8,9] (fun o i _ _ wr=>∃(k n g I:Nat) (M:List Tk),k≤s.size∧n≤4000∧i= .int .i64 k∧o= .slice (some ⟨g,0,none⟩) n I∧OwnT wr w.heap.size 143 g n I M∧(∀r,Lx s j k n r→zai s j (r.map (M++ ·)))∧Below w.heap.size w wr) (fun _ i _ _ _=>(s.size-intOf i).toNat)
 case atStart=>exact⟨k0,0,w.heap.size,0,[],ai,by omega,rfl,rfl,zhs w _ _ (Nat.le_refl _),fun r hr=>⟨k0,ao.out,by cases r<;>simpa [Except.map] using hr⟩,(Below.refl _ _).alloc (Nat.le_refl _) _⟩
 case round=>
  obtain⟨k,n,g,I,M,hk,hn,rfl,rfl,J,Y,hb⟩:=hrel
  have L:Hid (∀r,Lx s j k n r→zai s j (r.map (M++ ·))):=Y
  have ar:=zav J
  clear Y
  by_cases H:k<s.size
  ·go_wp2_with fail
   refine (znb _ _ _ _ H hs).mono ?_
   rintro e w1 ⟨v,z,rfl,ad,ae⟩
   have q:=hb.trans (ae.mono hb.size)
   have U:=zcv J ae
   rcases ad with ⟨⟨V,tx,nm,X⟩,m,rfl,rfl,ht⟩|⟨rfl,⟨c1,c2,c3,c4,rfl⟩,ag⟩
   ·have HT:Hid (Tok s j k ⟨V,tx,nm,X⟩ m):=ht
    have au:=(zex H ht).1
    have ak:=(zex H ht).2.1
    clear ht
    by_cases af:n<4000
    ·have q4:decide ((4000:Int)≤(n:Int))=false:=decide_eq_false (by omega)
     obtain⟨W,Z⟩: ∃W,W=w1.alloc (.cells #[.int .i64 V,.string tx,.int .i64 nm,.int .i64 X] 143):=⟨_,rfl⟩
     have HW:Hid (W=w1.alloc (.cells #[.int .i64 V,.string tx,.int .i64 nm,.int .i64 X] 143)):=Z
     have aa:Below w.heap.size w W:=by rw[Z];exact q.alloc q.size _
     have N:OwnT W w.heap.size 143 g n I M:=by rw[Z];exact zcv U ((Below.refl _ _).alloc (Nat.le_refl _) _)
     have ac:=aa.size
     have am:Hid (w1.heap.size+1=W.heap.size):=by show _=_;rw[Z,zl]
     clear Z
     simp only[tkV]
     go_wp2_with (first|(at_builtin;rw[←HW.out];refine zmH W rfl _ _ 118 rfl w.heap.size 143 i0 _ Tryz.underlying118 hi ah aj al rfl g n I M (by rfl) N ⟨V,tx,nm,X⟩ (w1.heap.size+1) am.out (by rfl) (by omega) ac ?_))
     intro g2 ab w2 O aq
     have ap:=aa.trans aq
     go_wp2_with fail
     refine (zjf _ m _ ak hs).mono ?_
     rintro e w3 ⟨b,rfl,A,rfl⟩
     have HX:Hid (∀r,Lx s j b (n+1) r→zai s j (r.map ((M++[⟨V,tx,nm,X⟩])++ ·))):=zjj L.out H af HT.out A
     have av:=(zhj A).1
     have an:=(zhj A).2
     clear A
     go_wp2
     go_roundw
     case rel=>exact⟨b,n+1,g2,ab,M++[⟨V,tx,nm,X⟩],an,by omega,rfl,rfl,O,HX.out,ap⟩
     case measure=>simp[intOf];omega
    ·have q4:decide ((4000:Int)≤(n:Int))=true:=decide_eq_true (by omega)
     have HE:Hid (zai s j (.error k)):=zfk L.out H (.inl (by omega))
     simp only[tkV]
     go_wp2
     go_ret2
     exact⟨⟨_,HE.out,_,_,rfl,zjk q.size⟩,(q.alloc q.size _).alloc (by rw[zl];have:=q.size;omega) _⟩
   ·have HE:Hid (zai s j (.error k)):=zfk L.out H (.inr ag)
    go_wp2
    go_ret2
    exact⟨⟨_,HE.out,_,_,rfl,zjk q.size⟩,(q.alloc q.size _).alloc (by rw[zl];have:=q.size;omega) _⟩
  ·have HE:Hid (zai s j (.ok M)):=zji L.out (by omega)
   go_wp2
   go_ret2
   exact⟨⟨_,HE.out,g,n,I,rfl,J⟩,hb⟩
theorem OwnT.cells {w:World} {A g n H:Nat} {e:TypeId} {z:List Tk} (h:OwnT w A e g n H z) {j:Nat} (X:j<n) {d:Tk}:
  w.cell? ⟨g,j*4,none⟩=some (.int .i64 (z.getD j d).kind)∧w.cell? ⟨g,j*4+1,none⟩=some (.string (z.getD j d).text)∧w.cell? ⟨g,j*4+2,none⟩=some (.int .i64 (z.getD j d).num)∧w.cell? ⟨g,j*4+3,none⟩=some (.int .i64 (z.getD j d).pos):=by
 have V:=h.2
 have q: ∀(l:List Tk) (i c:Nat),c<4→i<l.length→(l.flatMap tkL)[i*4+c]? =(tkL (l.getD i d))[c]?:=by
  intro l
  induction l with
  |nil=>intro i c _ I;simp at I
  |cons x l L=>
   intro i c O I
   match i with
   |0=>
    simp only[List.flatMap_cons,Nat.zero_mul,Nat.zero_add,List.getD_cons_zero]
    rw[List.getElem?_append_left (by simp[tkL];omega)]
   |i+1=>
    simp only[List.flatMap_cons,List.getD_cons_succ]
    rw[List.getElem?_append_right (by simp[tkL];omega)]
    have:(i+1)*4+c-(tkL x).length=i*4+c:=by simp[tkL];omega
    rw[this]
    exact L i c O (by simpa using I)
 have N:=q z j 0 (by omega) (by omega)
 have U:=q z j 1 (by omega) (by omega)
 have J:=q z j 2 (by omega) (by omega)
 have M:=q z j 3 (by omega) (by omega)
 rw[h.1.cellAt _ (by omega),h.1.cellAt _ (by omega),h.1.cellAt _ (by omega),h.1.cellAt _ (by omega)]
 exact⟨N,U,J,M⟩
end Go.Proofs.YtjdddblpfbmpaaaGreat
