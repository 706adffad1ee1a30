/-
  What spec.Lex answers: the walk.
  The cells of a token that lies in a row. No program is spoken of.
-/
import Derived.Test.YtgcbmogmniahjaaGreatCAcSpecLex
import Derived.Test.YtgcbmogmniahjaaGreatCAcTokMem
namespace Go.Proofs.YtgcbmogmniahjaaGreat
set_option maxRecDepth 100000
set_option maxHeartbeats 3200000
open Go.RowKit Go.PlainAid
theorem Tryz.infoTok:(Tryz.prog.info? 158).map (fun i=>(i.zero,i.size,i.bytes))=some (some (.agg #[.int .i64 0,.string {data:=#[]},.int .i64 0,.int .i64 0]),4,40):=by kernel_rfl
def znX (s:ByteArray) (scr:Bool) (w:World) (e:Ending) (w':World):Prop:=
 ∃r,zak s scr r∧match r with
  | .ok ts=>∃g n cap,e= .returned (.tuple #[.slice (some ⟨g,0,none⟩) n cap,.int .i64 (-1)])∧OwnT w' w.heap.size 158 g n cap ts
  | .error p=>∃g cap,e= .returned (.tuple #[.slice (some ⟨g,0,none⟩) 0 cap,.int .i64 p])∧OwnT w' w.heap.size 158 g 0 cap []
theorem zfx {s:ByteArray} {q:Bool} {k n:Nat} {w:List Tk} (h: ∀r,Lx s q k n r→zak s q (r.map (w++ ·))) (z:k<s.size) (A:4000≤n∨∀t e,¬Tok s q k t e):zak s q (.error k):=h _ (.bad z A)
theorem zj8 {s:ByteArray} {q:Bool} {k n:Nat} {w:List Tk} (h: ∀r,Lx s q k n r→zak s q (r.map (w++ ·))) (z:k=s.size):zak s q (.ok w):=by
 subst z
 have:=h _ .done
 simpa [Except.map] using this
theorem zj9 {s:ByteArray} {q:Bool} {k n e b:Nat} {t:Tk} {w:List Tk} (h: ∀r,Lx s q k n r→zak s q (r.map (w++ ·))) (z:k<s.size) (J:n<4000) (H:Tok s q k t e) (I:Skip s e b):
  ∀r,Lx s q b (n+1) r→zak s q (r.map ((w++[t])++ ·)):=by
 intro r A
 have:=h _ (.tok z J H I A)
 cases r<;>simpa [Except.map] using this
theorem zjA {w:World} {o:Obj} {e:TypeId} {base:Nat} (h:base≤w.heap.size):OwnT ((w.alloc o).alloc (.cells #[] e)) base e (w.heap.size+1) 0 0 []:=by
 have:=zhz (w.alloc o) e base (by rw[zg];omega)
 rw[zg] at this
 exact this
theorem znY (s:ByteArray) (h:Bool) (w:World) (hs:s.size≤4294967296):
  Calls Tryz.prog 81 #[.string s,.bool h] w fun e w'=>znX s h w e w'∧Below w.heap.size w w':=by
 obtain⟨i0,hi,ah,aj,al⟩:=info_parts Tryz.infoTok
 go_enter Tryz.func81,Tryz.ntmps81
 go_wp2_with fail
 refine (zj5 _ 0 _ (Nat.zero_le _) hs).mono ?_
 rintro e w' ⟨k0,rfl,A,rfl⟩
 have ao:Hid (Skip s 0 k0):=A
 have ai:=(zhr A).2
 clear A
 go_wp2
 go_loopw [6,7,8,9] (fun o i _ _ wr=>∃(k n g I:Nat) (L:List Tk),k≤s.size∧n≤4000∧i= .int .i64 k∧o= .slice (some ⟨g,0,none⟩) n I∧OwnT wr w.heap.size 158 g n I L∧(∀r,Lx s h k n r→zak s h (r.map (L++ ·)))∧Below w.heap.size w wr) (fun _ i _ _ _=>(s.size-intOf i).toNat)
 case atStart=>exact⟨k0,0,w.heap.size,0,[],ai,by omega,rfl,rfl,zhz w _ _ (Nat.le_refl _),fun r hr=>⟨k0,ao.out,by cases r<;>simpa [Except.map] using hr⟩,(Below.refl _ _).alloc (Nat.le_refl _) _⟩
 case round=>
  obtain⟨k,n,g,I,L,hk,hn,rfl,rfl,J,Z,hb⟩:=hrel
  have K:Hid (∀r,Lx s h k n r→zak s h (r.map (L++ ·))):=Z
  have ar:=zau J
  clear Z
  by_cases H:k<s.size
  ·go_wp2_with fail
   refine (znW _ _ _ _ H hs).mono ?_
   rintro e w1 ⟨v,z,rfl,ad,ae⟩
   have q:=hb.trans (ae.mono hb.size)
   have O:=zc1 J ae
   rcases ad with ⟨⟨V,Y,U,X⟩,m,rfl,rfl,ht⟩|⟨rfl,⟨c1,c2,c3,c4,rfl⟩,ag⟩
   ·have HT:Hid (Tok s h k ⟨V,Y,U,X⟩ m):=ht
    have au:=(ze8 H ht).1
    have ak:=(ze8 H ht).2.1
    clear ht
    by_cases af:n<4000
    ·have q4:decide ((4000:Int)≤(n:Int))=false:=decide_eq_false (by omega)
     obtain⟨W,hW⟩: ∃W,W=w1.alloc (.cells #[.int .i64 V,.string Y,.int .i64 U,.int .i64 X] 158):=⟨_,rfl⟩
     have HW:Hid (W=w1.alloc (.cells #[.int .i64 V,.string Y,.int .i64 U,.int .i64 X] 158)):=hW
     have aa:Below w.heap.size w W:=by rw[hW];exact q.alloc q.size _
     have M:OwnT W w.heap.size 158 g n I L:=by rw[hW];exact zc1 O ((Below.refl _ _).alloc (Nat.le_refl _) _)
     have ac:=aa.size
     have am:Hid (w1.heap.size+1=W.heap.size):=by show _=_;rw[hW,zg]
     clear hW
     simp only[tkV]
     go_wp2_with (first|(at_builtin;rw[←HW.out];refine znC W rfl _ _ 117 rfl w.heap.size 158 i0 _ Tryz.underlying117 hi ah aj al rfl g n I L (by rfl) M ⟨V,Y,U,X⟩ (w1.heap.size+1) am.out (by rfl) (by omega) ac ?_))
     intro g2 ab w2 N aq
     have ap:=aa.trans aq
     go_wp2_with fail
     refine (zj5 _ m _ ak hs).mono ?_
     rintro e w3 ⟨b,rfl,A,rfl⟩
     have HX:Hid (∀r,Lx s h b (n+1) r→zak s h (r.map ((L++[⟨V,Y,U,X⟩])++ ·))):=zj9 K.out H af HT.out A
     have av:=(zhr A).1
     have an:=(zhr A).2
     clear A
     go_wp2
     go_roundw
     case rel=>exact⟨b,n+1,g2,ab,L++[⟨V,Y,U,X⟩],an,by omega,rfl,rfl,N,HX.out,ap⟩
     case measure=>simp[intOf];omega
    ·have q4:decide ((4000:Int)≤(n:Int))=true:=decide_eq_true (by omega)
     have HE:Hid (zak s h (.error k)):=zfx K.out H (.inl (by omega))
     simp only[tkV]
     go_wp2
     go_ret2
     exact⟨⟨_,HE.out,_,_,rfl,zjA q.size⟩,(q.alloc q.size _).alloc (by rw[zg];have:=q.size;omega) _⟩
   ·have HE:Hid (zak s h (.error k)):=zfx K.out H (.inr ag)
    go_wp2
    go_ret2
    exact⟨⟨_,HE.out,_,_,rfl,zjA q.size⟩,(q.alloc q.size _).alloc (by rw[zg];have:=q.size;omega) _⟩
  ·have HE:Hid (zak s h (.ok L)):=zj8 K.out (by omega)
   go_wp2
   go_ret2
   exact⟨⟨_,HE.out,g,n,I,rfl,J⟩,hb⟩
theorem OwnT.cells {w:World} {base g n A:Nat} {e:TypeId} {z:List Tk} (h:OwnT w base e g n A z) {j:Nat} (U:j<n) {d:Tk}:
  w.cell? ⟨g,j*4,none⟩=some (.int .i64 (z.getD j d).kind)∧w.cell? ⟨g,j*4+1,none⟩=some (.string (z.getD j d).text)∧w.cell? ⟨g,j*4+2,none⟩=some (.int .i64 (z.getD j d).num)∧w.cell? ⟨g,j*4+3,none⟩=some (.int .i64 (z.getD j d).pos):=by
 have O:=h.2
 have q: ∀(l:List Tk) (i c:Nat),c<4→i<l.length→(l.flatMap tkL)[i*4+c]? =(tkL (l.getD i d))[c]?:=by
  intro l
  induction l with
  |nil=>intro i c _ H;simp at H
  |cons x l J=>
   intro i c M H
   match i with
   |0=>
    simp only[List.flatMap_cons,Nat.zero_mul,Nat.zero_add,List.getD_cons_zero]
    rw[List.getElem?_append_left (by simp[tkL];omega)]
   |i+1=>
    simp only[List.flatMap_cons,List.getD_cons_succ]
    rw[List.getElem?_append_right (by simp[tkL];omega)]
    have:(i+1)*4+c-(tkL x).length=i*4+c:=by simp[tkL];omega
    rw[this]
    exact J i c M (by simpa using H)
 have L:=q z j 0 (by omega) (by omega)
 have N:=q z j 1 (by omega) (by omega)
 have I:=q z j 2 (by omega) (by omega)
 have K:=q z j 3 (by omega) (by omega)
 rw[h.1.cellAt _ (by omega),h.1.cellAt _ (by omega),h.1.cellAt _ (by omega),h.1.cellAt _ (by omega)]
 exact⟨L,N,I,K⟩
end Go.Proofs.YtgcbmogmniahjaaGreat
