/-
  What spec.Lex answers: the walk.
  The cells of a token that lies in a row. No program is spoken of.
-/
import Derived.Test.YtjdddblpfbmpaaaGreatClSpecLex
import Derived.Test.YtjdddblpfbmpaaaGreatClTokMem
namespace Go.Proofs.YtjdddblpfbmpaaaGreat
set_option maxRecDepth 100000
set_option maxHeartbeats 3200000
open Go.RowKit Go.PlainAid
theorem Tryz.infoTok:(Tryz.prog.info? 143).map (fun i=>(i.zero,i.size,i.bytes))=some (some (.agg #[.int .i64 0,.string {data:=#[]},.int .i64 0,.int .i64 0]),4,40):=by kernel_rfl
def zm5 (s:ByteArray) (scr:Bool) (w:World) (e:Ending) (w':World):Prop:=
 ∃r,zak s scr r∧match r with
  | .ok ts=>∃g n cap,e= .returned (.tuple #[.slice (some ⟨g,0,none⟩) n cap,.int .i64 (-1)])∧OwnT w' w.heap.size 143 g n cap ts
  | .error p=>∃g cap,e= .returned (.tuple #[.slice (some ⟨g,0,none⟩) 0 cap,.int .i64 p])∧OwnT w' w.heap.size 143 g 0 cap []
theorem zfa {s:ByteArray} {j:Bool} {k n:Nat} {w:List Tk} (h: ∀r,Lx s j k n r→zak s j (r.map (w++ ·))) (z:k<s.size) (A:4000≤n∨∀t e,¬Tok s j k t e):zak s j (.error k):=h _ (.bad z A)
theorem ziG {s:ByteArray} {j:Bool} {k n:Nat} {w:List Tk} (h: ∀r,Lx s j k n r→zak s j (r.map (w++ ·))) (z:k=s.size):zak s j (.ok w):=by
 subst z
 have:=h _ .done
 simpa [Except.map] using this
theorem ziH {s:ByteArray} {j:Bool} {k n e b:Nat} {t:Tk} {w:List Tk} (h: ∀r,Lx s j k n r→zak s j (r.map (w++ ·))) (z:k<s.size) (J:n<4000) (H:Tok s j k t e) (I:Skip s e b):
  ∀r,Lx s j b (n+1) r→zak s j (r.map ((w++[t])++ ·)):=by
 intro r A
 have:=h _ (.tok z J H I A)
 cases r<;>simpa [Except.map] using this
theorem ziI {w:World} {o:Obj} {e:TypeId} {h:Nat} (j:h≤w.heap.size):OwnT ((w.alloc o).alloc (.cells #[] e)) h e (w.heap.size+1) 0 0 []:=by
 have:=zgX (w.alloc o) e h (by rw[zn];omega)
 rw[zn] at this
 exact this
theorem zm6 (s:ByteArray) (h:Bool) (w:World) (hs:s.size≤4294967296):
  Calls Tryz.prog 78 #[.string s,.bool h] w fun e w'=>zm5 s h w e w'∧Below w.heap.size w w':=by
 obtain⟨i0,hi,ai,ak,am⟩:=info_parts Tryz.infoTok
 go_enter Tryz.func78,Tryz.ntmps78
 go_wp2_with fail
 refine (ziD _ 0 _ (Nat.zero_le _) hs).mono ?_
 rintro e w' ⟨k0,rfl,A,rfl⟩
 have ap:Hid (Skip s 0 k0):=A
 have aj:=(zgQ A).2
 clear A
 go_wp2
 go_loopw [6,7,8,9] (fun o i _ _ wr=>∃(k n g I:Nat) (M:List Tk),k≤s.size∧n≤4000∧i= .int .i64 k∧o= .slice (some ⟨g,0,none⟩) n I∧OwnT wr w.heap.size 143 g n I M∧(∀r,Lx s h k n r→zak s h (r.map (M++ ·)))∧Below w.heap.size w wr) (fun _ i _ _ _=>(s.size-intOf i).toNat)
 case atStart=>exact⟨k0,0,w.heap.size,0,[],aj,by omega,rfl,rfl,zgX w _ _ (Nat.le_refl _),fun r hr=>⟨k0,ap.out,by cases r<;>simpa [Except.map] using hr⟩,(Below.refl _ _).alloc (Nat.le_refl _) _⟩
 case round=>
  obtain⟨k,n,g,I,M,hk,hn,rfl,rfl,J,aa,hb⟩:=hrel
  have L:Hid (∀r,Lx s h k n r→zak s h (r.map (M++ ·))):=aa
  have au:=zau J
  clear aa
  by_cases H:k<s.size
  ·go_wp2_with fail
   refine (zm4 _ _ _ _ H hs).mono ?_
   rintro e w1 ⟨v,z,rfl,ae,af⟩
   have j:=hb.trans (af.mono hb.size)
   have U:=zcu J af
   rcases ae with ⟨⟨X,Z,V,Y⟩,m,rfl,rfl,ht⟩|⟨rfl,⟨c1,c2,c3,c4,rfl⟩,ah⟩
   ·have HT:Hid (Tok s h k ⟨X,Z,V,Y⟩ m):=ht
    have av:=(zep H ht).1
    have al:=(zep H ht).2.1
    clear ht
    by_cases ag:n<4000
    ·have q4:decide ((4000:Int)≤(n:Int))=false:=decide_eq_false (by omega)
     obtain⟨W,hW⟩: ∃W,W=w1.alloc (.cells #[.int .i64 X,.string Z,.int .i64 V,.int .i64 Y] 143):=⟨_,rfl⟩
     have HW:Hid (W=w1.alloc (.cells #[.int .i64 X,.string Z,.int .i64 V,.int .i64 Y] 143)):=hW
     have ab:Below w.heap.size w W:=by rw[hW];exact j.alloc j.size _
     have N:OwnT W w.heap.size 143 g n I M:=by rw[hW];exact zcu U ((Below.refl _ _).alloc (Nat.le_refl _) _)
     have ad:=ab.size
     have an:Hid (w1.heap.size+1=W.heap.size):=by show _=_;rw[hW,zn]
     clear hW
     simp only[tkV]
     go_wp2_with (first|(at_builtin;rw[←HW.out];refine zmk W rfl _ _ 118 rfl w.heap.size 143 i0 _ Tryz.underlying118 hi ai ak am rfl g n I M (by rfl) N ⟨X,Z,V,Y⟩ (w1.heap.size+1) an.out (by rfl) (by omega) ad ?_))
     intro g2 ac w2 O ar
     have aq:=ab.trans ar
     go_wp2_with fail
     refine (ziD _ m _ al hs).mono ?_
     rintro e w3 ⟨b,rfl,A,rfl⟩
     have HX:Hid (∀r,Lx s h b (n+1) r→zak s h (r.map ((M++[⟨X,Z,V,Y⟩])++ ·))):=ziH L.out H ag HT.out A
     have aw:=(zgQ A).1
     have ao:=(zgQ A).2
     clear A
     go_wp2
     go_roundw
     case rel=>exact⟨b,n+1,g2,ac,M++[⟨X,Z,V,Y⟩],ao,by omega,rfl,rfl,O,HX.out,aq⟩
     case measure=>simp[intOf];omega
    ·have q4:decide ((4000:Int)≤(n:Int))=true:=decide_eq_true (by omega)
     have HE:Hid (zak s h (.error k)):=zfa L.out H (.inl (by omega))
     simp only[tkV]
     go_wp2
     go_ret2
     exact⟨⟨_,HE.out,_,_,rfl,ziI j.size⟩,(j.alloc j.size _).alloc (by rw[zn];have:=j.size;omega) _⟩
   ·have HE:Hid (zak s h (.error k)):=zfa L.out H (.inr ah)
    go_wp2
    go_ret2
    exact⟨⟨_,HE.out,_,_,rfl,ziI j.size⟩,(j.alloc j.size _).alloc (by rw[zn];have:=j.size;omega) _⟩
  ·have HE:Hid (zak s h (.ok M)):=ziG L.out (by omega)
   go_wp2
   go_ret2
   exact⟨⟨_,HE.out,g,n,I,rfl,J⟩,hb⟩
theorem OwnT.cells {w:World} {H g n I:Nat} {e:TypeId} {A:List Tk} (h:OwnT w H e g n I A) {j:Nat} (Y:j<n) {d:Tk}:
  w.cell? ⟨g,j*4,none⟩=some (.int .i64 (A.getD j d).kind)∧w.cell? ⟨g,j*4+1,none⟩=some (.string (A.getD j d).text)∧w.cell? ⟨g,j*4+2,none⟩=some (.int .i64 (A.getD j d).num)∧w.cell? ⟨g,j*4+3,none⟩=some (.int .i64 (A.getD j d).pos):=by
 have X:=h.2
 have z: ∀(l:List Tk) (i c:Nat),c<4→i<l.length→(l.flatMap tkL)[i*4+c]? =(tkL (l.getD i d))[c]?:=by
  intro l
  induction l with
  |nil=>intro i c _ J;simp at J
  |cons x l M=>
   intro i c U J
   match i with
   |0=>
    simp only[List.flatMap_cons,Nat.zero_mul,Nat.zero_add,List.getD_cons_zero]
    rw[List.getElem?_append_left (by simp[tkL];omega)]
   |i+1=>
    simp only[List.flatMap_cons,List.getD_cons_succ]
    rw[List.getElem?_append_right (by simp[tkL];omega)]
    have:(i+1)*4+c-(tkL x).length=i*4+c:=by simp[tkL];omega
    rw[this]
    exact M i c U (by simpa using J)
 have O:=z A j 0 (by omega) (by omega)
 have V:=z A j 1 (by omega) (by omega)
 have L:=z A j 2 (by omega) (by omega)
 have N:=z A j 3 (by omega) (by omega)
 rw[h.1.cellAt _ (by omega),h.1.cellAt _ (by omega),h.1.cellAt _ (by omega),h.1.cellAt _ (by omega)]
 exact⟨O,V,L,N⟩
end Go.Proofs.YtjdddblpfbmpaaaGreat
